/-
  What an epoch seals another one with its key opens, once; what is opened is taken; how far it is sealed: as plain functions.
-/
import Derived.Test.YtmcflfpckpjphaaGreatDoorVbBas6
import Derived.Test.YtmcflfpckpjphaaGreatDoorVbWnBp
set_option maxRecDepth 100000
namespace Go.Proofs.YtmcflfpckpjphaaGreatDoor.OpP
open Go.RowKit Mem Words Zone ZoneI WnZ WinP WnK WnG WnBp FrZ FrP FrG EpZ EpL EpP SlP SlQ EpQ

theorem sealed {E : EpD} {role : Int} {sn : List Int} {kind : Int} {pl : List Int} (h : esCode E role sn kind pl = 0) :
  epOk E = true ∧ sealB E.key role sn E.n E.seq kind pl = true ∧ esF E role sn kind pl = sealD E.key role sn E.n E.seq kind pl ∧ 0 ≤ E.seq ∧ E.seq ≤ 281474976710655 := by
 have hf : esForm E role sn kind pl = true := by
  by_cases c : esForm E role sn kind pl = true
  ·
   exact c
  ·
   rw [es_1 (by simpa using c)] at h; cases h
 have h4 : ((kind == 4) && decide (E.seq ≥ 281474976709656)) = false := by
  by_cases c : ((kind == 4) && decide (E.seq ≥ 281474976709656)) = true
  ·
   rw [es_4 hf c] at h; cases h
  ·
   simpa using c
 have h5 : (E.seq == 281474976710656) = false := by
  by_cases c : (E.seq == 281474976710656) = true
  ·
   rw [es_5 hf h4 c] at h; cases h
  ·
   simpa using c
 have hb := seq_wrap hf
 have h6 : E.seq ≠ 281474976710656 := by simpa using h5
 exact ⟨(form_parts hf).1, form_seal hf h5, esF_yes h, hb.1, by omega⟩
theorem next_ok {E : EpD} {role : Int} {sn : List Int} {kind : Int} {pl : List Int} (h : esCode E role sn kind pl = 0) : epOk { E with seq := E.seq + 1 } = true := by
 obtain ⟨h1, _, _, h4, h5⟩ := sealed h
 obtain ⟨e1, e2, e3, e4⟩ := epOk_parts h1
 exact epOk_of e1 e2 ⟨by show 0 ≤ E.seq + 1; omega, by show E.seq + 1 ≤ _; omega⟩ e4
theorem other_new {E : EpD} (h : epOk E = true) : newE E.n E.key = ⟨E.n, E.key, 0, ⟨-1, zeros⟩⟩ := by
 obtain ⟨e1, e2, _⟩ := epOk_parts h
 exact newE_yes (by unfold newB isIn; simp [e1, e2])
theorem new_epOk {E : EpD} (h : epOk E = true) : epOk ⟨E.n, E.key, 0, ⟨-1, zeros⟩⟩ = true := by
 obtain ⟨e1, e2, _⟩ := epOk_parts h
 exact epOk_of e1 e2 ⟨Int.le_refl 0, (by decide : (0 : Int) ≤ 281474976710656)⟩ (winOk_true new_ok)
theorem new_may {n : Int} (h0 : 0 ≤ n) (h1 : n ≤ 281474976710655) : winMay (-1) zeros n = true := by
 unfold winMay WinP.may
 rw [winOk_true new_ok, decide_eq_true (by omega), decide_eq_true (by omega)]; rfl
theorem opens {E : EpD} {role : Int} {sn : List Int} {kind : Int} {pl : List Int} (h : esCode E role sn kind pl = 0) :
  eoCode ⟨E.n, E.key, 0, ⟨-1, zeros⟩⟩ role (esF E role sn kind pl) = 0 := by
 obtain ⟨h1, h2, h3, h4, h5⟩ := sealed h
 rw [h3]
 refine eo_0 ?_ (new_may h4 h5) (seal_unseal h2)
 unfold eoForm
 rw [new_epOk h1, seal_canD h2]
 show (true && (true && (E.n == E.n))) = true
 simp
theorem opens_back {E : EpD} {role : Int} {sn : List Int} {kind : Int} {pl : List Int} (hb : Bytes pl) (h : esCode E role sn kind pl = 0) :
  eoL ⟨E.n, E.key, 0, ⟨-1, zeros⟩⟩ role (esF E role sn kind pl) = pl := by
 rw [eoL_yes (opens h)]
 obtain ⟨h1, h2, h3, h4, h5⟩ := sealed h
 rw [h3]
 exact seal_back hb h2
theorem opened {E : EpD} {role : Int} {D : FrD} (h : eoCode E role D = 0) : epOk E = true ∧ eoForm E role D = true ∧ winMay E.win.top E.win.bits D.seq = true ∧ unsealB E.key role D = true := by
 have hf : eoForm E role D = true := by
  by_cases c : eoForm E role D = true
  ·
   exact c
  ·
   rw [eo_1 (by simpa using c)] at h; cases h
 have h3 : winMay E.win.top E.win.bits D.seq = true := by
  by_cases c : winMay E.win.top E.win.bits D.seq = true
  ·
   exact c
  ·
   rw [eo_3 hf (by simpa using c)] at h; cases h
 have h2 : unsealB E.key role D = true := by
  by_cases c : unsealB E.key role D = true
  ·
   exact c
  ·
   rw [eo_2 hf h3 (by simpa using c)] at h; cases h
 have h1 : epOk E = true := by unfold eoForm at hf; rw [Bool.and_eq_true] at hf; exact hf.1
 exact ⟨h1, hf, h3, h2⟩
theorem took_epOk {E : EpD} {role : Int} {D : FrD} (h : eoCode E role D = 0) : epOk { E with win := addD E.win D.seq } = true := by
 obtain ⟨h1, h2, h3, h4⟩ := opened h
 obtain ⟨e1, e2, e3, e4⟩ := epOk_parts h1
 exact epOk_of e1 e2 e3 (took_ok h3)
theorem again {E : EpD} {role : Int} {D : FrD} (h : eoCode E role D = 0) : eoCode { E with win := addD E.win D.seq } role D = 3 := by
 obtain ⟨h1, h2, h3, h4⟩ := opened h
 refine eo_3 ?_ (took_not h3)
 unfold eoForm at h2 ⊢
 rw [Bool.and_eq_true] at h2
 rw [took_epOk h]
 show (true && (canTag role D && (D.epoch == E.n))) = true
 rw [h2.2]; rfl
end Go.Proofs.YtmcflfpckpjphaaGreatDoor.OpP
