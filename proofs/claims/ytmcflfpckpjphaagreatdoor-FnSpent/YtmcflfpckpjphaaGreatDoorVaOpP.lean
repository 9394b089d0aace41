/-
  What an epoch seals another one with its key opens, once; what is opened is taken; how far it is sealed: as plain functions.
-/
import Derived.Test.YtmcflfpckpjphaaGreatDoorVaBas6
import Derived.Test.YtmcflfpckpjphaaGreatDoorVaWnBp
set_option maxRecDepth 100000
namespace Go.Proofs.YtmcflfpckpjphaaGreatDoor.OpP
open Go.RowKit Mem Words Zone ZoneI WnZ WinP WnK WnG FrZ FrP FrG EpZ EpL EpP SlP SlQ EpQ

theorem noform {E : EpD} {role : Int} {sn : List Int} {kind : Int} {pl : List Int} (h : epOk E = false) : esCode E role sn kind pl = 1 := by
 apply es_1; unfold esForm; rw [h]; rfl
theorem spent_data {E : EpD} {role : Int} {sn pl : List Int} {q : Int} (h : epOk E = true) (hr : 0 ≤ role ∧ role ≤ 1) (hs : sn.length = 12) (hq : 281474976710654 ≤ q ∧ q ≤ 281474976710656) :
  esCode { E with seq := q } role sn 4 pl = if pl.length ≤ 40 then 4 else 1 := by
 obtain ⟨e1, e2, e3, e4⟩ := epOk_parts h
 have hE : epOk { E with seq := q } = true := epOk_of e1 e2 ⟨by show 0 ≤ q; omega, by show q ≤ _; omega⟩ e4
 have hh : headOk role sn.length E.n 0 = true := (headOk_iff _ _ _ _).2 ⟨hr, by omega, e1, by omega⟩
 by_cases c : pl.length ≤ 40
 ·
  rw [if_pos c]
  refine es_4 ?_ ?_
  ·
   unfold esForm
   rw [hE]
   show (true && (headOk role sn.length E.n 0 && (isIn 4 4 8 && bodyOk 4 pl.length))) = true
   rw [hh]
   have : bodyOk 4 (pl.length : Int) = true := by unfold bodyOk; simp; omega
   rw [this]; rfl
  ·
   show ((4 : Int) == 4 && decide (q ≥ 281474976709656)) = true
   rw [decide_eq_true (by omega)]; rfl
 ·
  rw [if_neg c]
  refine es_1 ?_
  unfold esForm
  have : bodyOk 4 (pl.length : Int) = false := by
   by_cases k : bodyOk 4 (pl.length : Int) = true
   ·
    have := bodyOk_le k; omega
   ·
    simpa using k
  rw [this]; simp
theorem spent_rekey {E : EpD} {role : Int} {sn pl : List Int} (h : epOk E = true) (hr : 0 ≤ role ∧ role ≤ 1) (hs : sn.length = 12) (hp : pl.length = 4) :
  esCode E role sn 7 pl = if E.seq < 281474976710656 then 0 else 5 := by
 obtain ⟨e1, e2, e3, e4⟩ := epOk_parts h
 have hh : headOk role sn.length E.n 0 = true := (headOk_iff _ _ _ _).2 ⟨hr, by omega, e1, by omega⟩
 have hf : esForm E role sn 7 pl = true := by
  unfold esForm
  rw [h, hh, hp]; rfl
 have h4 : (((7 : Int) == 4) && decide (E.seq ≥ 281474976709656)) = false := rfl
 by_cases c : E.seq < 281474976710656
 ·
  rw [if_pos c]
  exact es_0 hf h4 (by simp; omega)
 ·
  rw [if_neg c]
  exact es_5 hf h4 (by simp; omega)
end Go.Proofs.YtmcflfpckpjphaaGreatDoor.OpP
