/-
  Frames as plain data: which are right, their bytes, and back.
  A frame's bytes as plain data.
  Numbers and their bytes as plain facts.
  Right frames with the same bytes are the same; what it is to be read out of bytes.
  Finishes as plain functions: whether a proof is right, and what finishes a cookie.
  Slices of ints as values whose memory lies in a zone, and what the laws' helpers over them answer.
  Slices that came in, as slices that read; answers in new memory, as slices that own theirs.
  impl's laidTogether: what lists come to that are laid one behind the other in new memory.
-/
import Derived.Test.YtpenhliaelhnoaaGreatDoorVaFrZ
import Derived.Test.YtpenhliaelhnoaaGreatDoorVaGz3
import Derived.Test.YtpenhliaelhnoaaGreatDoorVaGz1
import Derived.Test.YtpenhliaelhnoaaGreatDoorVaGz5
import Derived.Test.YtpenhliaelhnoaaGreatDoorVaGz2
import Derived.Test.YtpenhliaelhnoaaGreatDoorVaGz6
import Derived.Laws.CopyOwn
set_option linter.unusedVariables false
set_option maxRecDepth 100000
namespace Go.Proofs.YtpenhliaelhnoaaGreatDoor.FrP
open Go.RowKit Mem App Words FrZ

def bodyOk (k : Int) (n : Int) : Bool := if k == 4 then decide (n ≤ 40) else if k == 5 || k == 6 then n == 12 else n == 4
def okS (kind id : Int) (cn sn : Nat) (tick : Int) (cookie proof : Nat) (epoch seq : Int) (body tag : Nat) : Bool :=
 if isIn kind 4 8 = true then (id == 0) && (((cn : Int) == 0) && (((sn : Int) == 12) && ((tick == 0) && (((cookie : Int) == 0) && (((proof : Int) == 0) && (isIn epoch 0 4294967295 && (isIn seq 0 281474976710655 && (bodyOk kind body && ((tag : Int) == 16)))))))))
 else if ((epoch == 0) && ((seq == 0) && (((body : Int) == 0) && (((tag : Int) == 0) && ((cn : Int) == 12))))) = false then false
 else if (kind == 1) = true then isIn id 1 9 && (((sn : Int) == 0) && ((tick == 0) && (((cookie : Int) == 0) && ((proof : Int) == 0))))
 else if (kind == 2) = true then (id == 0) && (((sn : Int) == 12) && (isIn tick 0 1000000 && (((cookie : Int) == 16) && ((proof : Int) == 0))))
 else if (kind == 3) = true then isIn id 1 9 && (((sn : Int) == 12) && (isIn tick 0 1000000 && (((cookie : Int) == 16) && ((proof : Int) == 16))))
 else false
def frameOk (D : FrD) : Bool := okS D.kind D.id D.cn.length D.sn.length D.tick D.cookie.length D.proof.length D.epoch D.seq D.body.length D.tag.length
end Go.Proofs.YtpenhliaelhnoaaGreatDoor.FrP

namespace Go.Proofs.YtpenhliaelhnoaaGreatDoor.FrB
open Go.RowKit Mem App Words FrZ FrP

theorem ok_iff (D : FrD) : frameOk D = true ↔
  (4 ≤ D.kind ∧ D.kind ≤ 8 ∧ D.id = 0 ∧ D.cn.length = 0 ∧ D.sn.length = 12 ∧ D.tick = 0 ∧ D.cookie.length = 0 ∧ D.proof.length = 0 ∧ 0 ≤ D.epoch ∧ D.epoch ≤ 4294967295 ∧ 0 ≤ D.seq ∧ D.seq ≤ 281474976710655 ∧ bodyOk D.kind D.body.length = true ∧ D.tag.length = 16) ∨
  (D.epoch = 0 ∧ D.seq = 0 ∧ D.body.length = 0 ∧ D.tag.length = 0 ∧ D.cn.length = 12 ∧
   ((D.kind = 1 ∧ 1 ≤ D.id ∧ D.id ≤ 9 ∧ D.sn.length = 0 ∧ D.tick = 0 ∧ D.cookie.length = 0 ∧ D.proof.length = 0) ∨
    (D.kind = 2 ∧ D.id = 0 ∧ D.sn.length = 12 ∧ 0 ≤ D.tick ∧ D.tick ≤ 1000000 ∧ D.cookie.length = 16 ∧ D.proof.length = 0) ∨
    (D.kind = 3 ∧ 1 ≤ D.id ∧ D.id ≤ 9 ∧ D.sn.length = 12 ∧ 0 ≤ D.tick ∧ D.tick ≤ 1000000 ∧ D.cookie.length = 16 ∧ D.proof.length = 16))) := by
 unfold frameOk okS isIn
 by_cases hs : 4 ≤ D.kind ∧ D.kind ≤ 8
 ·
  rw [if_pos (by simpa using hs)]
  simp only [Bool.and_eq_true, beq_iff_eq, decide_eq_true_eq]
  constructor
  ·
   rintro ⟨h1, h2, h3, h4, h5, h6, h7, h8, h9, h10⟩
   exact .inl ⟨hs.1, hs.2, h1, by omega, by omega, h4, by omega, by omega, h7.1, h7.2, h8.1, h8.2, h9, by omega⟩
  ·
   rintro (⟨_, _, h1, h2, h3, h4, h5, h6, h7, h7', h8, h8', h9, h10⟩ | ⟨_, _, _, _, _, ⟨h, _⟩ | ⟨h, _⟩ | ⟨h, _⟩⟩)
   ·
    exact ⟨h1, by omega, by omega, h4, by omega, by omega, ⟨h7, h7'⟩, ⟨h8, h8'⟩, h9, by omega⟩
   ·
    omega
   ·
    omega
   ·
    omega
 ·
  rw [if_neg (by simpa using hs)]
  by_cases he : D.epoch = 0 ∧ D.seq = 0 ∧ D.body.length = 0 ∧ D.tag.length = 0 ∧ D.cn.length = 12
  ·
   obtain ⟨e1, e2, e3, e4, e5⟩ := he
   rw [if_neg (by rw [e1, e2, e3, e4, e5]; simp)]
   by_cases k1 : D.kind = 1
   ·
    rw [k1]; simp only [beq_self_eq_true, if_true, Bool.and_eq_true, beq_iff_eq, decide_eq_true_eq]; constructor
    ·
     rintro ⟨⟨a, a'⟩, b, c, d, e⟩; exact .inr ⟨e1, e2, e3, e4, e5, .inl ⟨trivial, a, a', by omega, c, by omega, by omega⟩⟩
    ·
     rintro (h | ⟨_, _, _, _, _, ⟨_, a, a', b, c, d, e⟩ | ⟨h, _⟩ | ⟨h, _⟩⟩)
     ·
      omega
     ·
      exact ⟨⟨a, a'⟩, by omega, c, by omega, by omega⟩
     ·
      omega
     ·
      omega
   ·
    rw [if_neg (by simpa using k1)]
    by_cases k2 : D.kind = 2
    ·
     rw [k2]; simp only [beq_self_eq_true, if_true, Bool.and_eq_true, beq_iff_eq, decide_eq_true_eq]; constructor
     ·
      rintro ⟨a, b, ⟨c, c'⟩, d, e⟩; exact .inr ⟨e1, e2, e3, e4, e5, .inr (.inl ⟨trivial, a, by omega, c, c', by omega, by omega⟩)⟩
     ·
      rintro (h | ⟨_, _, _, _, _, ⟨h, _⟩ | ⟨_, a, b, c, c', d, e⟩ | ⟨h, _⟩⟩)
      ·
       omega
      ·
       omega
      ·
       exact ⟨a, by omega, ⟨c, c'⟩, by omega, by omega⟩
      ·
       omega
    ·
     rw [if_neg (by simpa using k2)]
     by_cases k3 : D.kind = 3
     ·
      rw [k3]; simp only [beq_self_eq_true, if_true, Bool.and_eq_true, beq_iff_eq, decide_eq_true_eq]; constructor
      ·
       rintro ⟨⟨a, a'⟩, b, ⟨c, c'⟩, d, e⟩; exact .inr ⟨e1, e2, e3, e4, e5, .inr (.inr ⟨trivial, a, a', by omega, c, c', by omega, by omega⟩)⟩
      ·
       rintro (h | ⟨_, _, _, _, _, ⟨h, _⟩ | ⟨h, _⟩ | ⟨_, a, a', b, c, c', d, e⟩⟩)
       ·
        omega
       ·
        omega
       ·
        omega
       ·
        exact ⟨⟨a, a'⟩, by omega, ⟨c, c'⟩, by omega, by omega⟩
     ·
      rw [if_neg (by simpa using k3)]
      constructor
      ·
       intro h; cases h
      ·
       rintro (h | ⟨_, _, _, _, _, ⟨h, _⟩ | ⟨h, _⟩ | ⟨h, _⟩⟩)
       ·
        omega
       ·
        omega
       ·
        omega
       ·
        omega
  ·
   rw [if_pos (by
    cases hc : ((D.epoch == 0) && ((D.seq == 0) && (((D.body.length : Int) == 0) && (((D.tag.length : Int) == 0) && ((D.cn.length : Int) == 12))))) with
    | false => rfl
    | true =>
     simp only [Bool.and_eq_true, beq_iff_eq] at hc
     exact absurd ⟨hc.1, hc.2.1, by omega, by omega, by omega⟩ he)]
   constructor
   ·
    intro h; cases h
   ·
    rintro (h | ⟨a, b, c, d, e, _⟩)
    ·
     omega
    ·
     exact absurd ⟨a, b, c, d, e⟩ he
theorem ok_kind (D : FrD) (h : frameOk D = true) : 1 ≤ D.kind ∧ D.kind ≤ 8 := by
 rcases (ok_iff D).1 h with h | ⟨_, _, _, _, _, h | h | h⟩ <;> omega
theorem ok_lens (D : FrD) (h : frameOk D = true) : D.cn.length ≤ 12 ∧ D.sn.length ≤ 12 ∧ D.cookie.length ≤ 16 ∧ D.proof.length ≤ 16 ∧ D.body.length ≤ 40 ∧ D.tag.length ≤ 16 := by
 rcases (ok_iff D).1 h with ⟨_, _, _, _, _, _, _, _, _, _, _, _, hb, _⟩ | ⟨_, _, _, _, _, h | h | h⟩
 ·
  have : D.body.length ≤ 40 := by
   unfold bodyOk at hb
   split at hb
   ·
    simp at hb; omega
   ·
    split at hb <;> (simp at hb; omega)
  omega
 ·
  omega
 ·
  omega
 ·
  omega
end Go.Proofs.YtpenhliaelhnoaaGreatDoor.FrB

namespace Go.Proofs.YtpenhliaelhnoaaGreatDoor.FrG
open Go.RowKit Mem App Get FrZ FrP FrB

def zeroF : FrD := ⟨0, 0, [], [], 0, [], [], 0, 0, [], []⟩
end Go.Proofs.YtpenhliaelhnoaaGreatDoor.FrG

namespace Go.Proofs.YtpenhliaelhnoaaGreatDoor.KeW
open Go.RowKit Mem DiffP FrZ FrP FrG KeQ
def ofF (psk : List Int) (F : FrD) : List Int := proofK psk F.id F.cn F.sn F.tick F.cookie
def pOk (psk : List Int) (F : FrD) : Bool := frameOk F && (F.kind == 3) && sameI F.proof (ofF psk F)
theorem pOk_1 {psk : List Int} {F : FrD} (h : frameOk F = false) : pOk psk F = false := by unfold pOk; rw [h]; rfl
theorem pOk_2 {psk : List Int} {F : FrD} (h : (F.kind == 3) = false) : pOk psk F = false := by unfold pOk; rw [h]; simp
theorem pOk_3 {psk : List Int} {F : FrD} (h : frameOk F = true) (h2 : (F.kind == 3) = true) : pOk psk F = sameI F.proof (ofF psk F) := by unfold pOk; rw [h, h2]; rfl
def finF (psk : List Int) (id : Int) (F : FrD) : Bool := frameOk F && (F.kind == 2) && !((proofK psk id F.cn F.sn F.tick F.cookie).length == 0)
def finD (psk : List Int) (id : Int) (F : FrD) : FrD := if finF psk id F = true then { F with kind := 3, id := id, proof := proofK psk id F.cn F.sn F.tick F.cookie } else zeroF
theorem finD_yes {psk : List Int} {id : Int} {F : FrD} (h : finF psk id F = true) : finD psk id F = { F with kind := 3, id := id, proof := proofK psk id F.cn F.sn F.tick F.cookie } := if_pos h
theorem finD_no {psk : List Int} {id : Int} {F : FrD} (h : finF psk id F = false) : finD psk id F = zeroF := if_neg (by rw [h]; decide)
end Go.Proofs.YtpenhliaelhnoaaGreatDoor.KeW

namespace Go.Proofs.YtpenhliaelhnoaaGreatDoor.Zone
open Go.RowKit Mem
theorem SOwn.later {w w' : World} {lo hi : Nat} {s : Sl} {l : List Int} (h : SOwn w lo hi s l) (k : Below w.heap.size w w') : SOwn w' lo hi s l := h.carry (Kept.of_below k hi) (.inl (Nat.le_refl _))
end Go.Proofs.YtpenhliaelhnoaaGreatDoor.Zone
namespace Go.Proofs.YtpenhliaelhnoaaGreatDoor.Shp
open Go.RowKit Mem MemI Zone
def AnsB (l : List Int) (w : World) : Ending → World → Prop := fun e w' => ∃ S0 : Sl, e = .returned (.slice S0.a S0.n S0.c) ∧ SOwn w' w.heap.size w'.heap.size S0 l ∧ Below w.heap.size w w'
theorem AnsB.of {l : List Int} {w : World} {e : Ending} {w' : World} (hb : Bytes l) (h : ∃ g m cap, e = .returned (.slice (some ⟨g, 0, none⟩) m cap) ∧ m = l.length ∧ w.heap.size ≤ g ∧ Row w' g cap l ∧ Below w.heap.size w w') : AnsB l w e w' := by
 obtain ⟨g, m, c, h1, h2, h3, h4, h5⟩ := h
 exact ⟨⟨some ⟨g, 0, none⟩, m, c⟩, h1, SOwn.row h4 h2 hb h3 h4.lt, h5⟩
end Go.Proofs.YtpenhliaelhnoaaGreatDoor.Shp

namespace Go.Proofs.YtpenhliaelhnoaaGreatDoor.KeL
open Go.RowKit Mem App Blk Words Zone Res KeP Shp

def sz (ls : List (List Int)) (k : Nat) : Nat := (ls.take k).flatten.length
theorem sz_succ {ls : List (List Int)} {k : Nat} {l : List Int} (h : ls[k]? = some l) : sz ls (k + 1) = sz ls k + l.length := by
 unfold sz; rw [List.take_add_one, h]; simp
theorem sz_zero (ls : List (List Int)) : sz ls 0 = 0 := by unfold sz; simp
theorem sz_all (ls : List (List Int)) : sz ls ls.length = ls.flatten.length := by unfold sz; rw [List.take_length]
theorem sz_le (ls : List (List Int)) (k : Nat) : sz ls k ≤ ls.flatten.length := by
 unfold sz
 conv => rhs; rw [← List.take_append_drop k ls, List.flatten_append, List.length_append]
 omega
def laidL (ls : List (List Int)) (k : Nat) : List Int := (ls.take k).flatten ++ List.replicate (ls.flatten.length - sz ls k) 0
theorem laidL_len (ls : List (List Int)) (k : Nat) : (laidL ls k).length = ls.flatten.length := by
 have := sz_le ls k
 unfold laidL; rw [List.length_append, List.length_replicate]; unfold sz at *; omega
theorem laidL_zero (ls : List (List Int)) : laidL ls 0 = List.replicate ls.flatten.length 0 := by unfold laidL; rw [sz_zero]; simp
theorem laidL_all (ls : List (List Int)) : laidL ls ls.length = ls.flatten := by unfold laidL; rw [sz_all, List.take_length]; simp
theorem laidL_splice {ls : List (List Int)} {k : Nat} {l : List Int} (h : ls[k]? = some l) : splice ((laidL ls k).map (Value.int .u8)) (sz ls k) (l.map (Value.int .u8)) = (laidL ls (k + 1)).map (Value.int .u8) := by
 have h1 := sz_succ h
 have h2 := sz_le ls (k + 1)
 have hl : ((ls.take k).flatten.map (Value.int .u8)).length = sz ls k := by rw [List.length_map]; rfl
 unfold splice
 have e1 : ((laidL ls k).map (Value.int .u8)).take (sz ls k) = (ls.take k).flatten.map (Value.int .u8) := by
  unfold laidL; rw [List.map_append, ← hl, List.take_left]
 have e2 : ((laidL ls k).map (Value.int .u8)).drop (sz ls k + (l.map (Value.int .u8)).length) = (List.replicate (ls.flatten.length - sz ls (k + 1)) (0 : Int)).map (Value.int .u8) := by
  unfold laidL; rw [List.map_append, ← hl, List.drop_append, hl, List.drop_eq_nil_of_le (by rw [hl, List.length_map]; omega), List.nil_append, ← List.map_drop, List.drop_replicate, List.length_map]
  congr 2; omega
 rw [e1, e2]
 unfold laidL
 rw [List.take_add_one, h]
 simp [List.flatten_append]
structure Parts (w : World) (g : Nat) (ps : List Sl) (ls : List (List Int)) : Prop where
 blk : Blk w g 22 (ps.map Sl.v)
 len : ps.length = ls.length
 rd : ∀ (k : Nat) (p : Sl) (l : List Int), ps[k]? = some p → ls[k]? = some l → SRd w p l
theorem Parts.later {w w' : World} {g : Nat} {ps : List Sl} {ls : List (List Int)} (h : Parts w g ps ls) (b : Below w.heap.size w w') : Parts w' g ps ls :=
 ⟨h.blk.later b, h.len, fun k p l h1 h2 => (h.rd k p l h1 h2).later b⟩
theorem Parts.at {w : World} {g : Nat} {ps : List Sl} {ls : List (List Int)} (h : Parts w g ps ls) {k : Nat} (hk : k < ls.length) :
  ∃ p l, ls[k]? = some l ∧ SRd w p l ∧ w.cell? ⟨g, k, none⟩ = some (.slice p.a p.n p.c) := by
 have hp : k < ps.length := by rw [h.len]; exact hk
 refine ⟨ps[k], ls[k], List.getElem?_eq_getElem hk, h.rd k _ _ (List.getElem?_eq_getElem hp) (List.getElem?_eq_getElem hk), h.blk.cell k ?_⟩
 rw [List.getElem?_map, List.getElem?_eq_getElem hp]; rfl
def Rds (w : World) : List Sl → List (List Int) → Prop
 | [], [] => True
 | p :: ps, l :: ls => SRd w p l ∧ Rds w ps ls
 | _, _ => False
theorem Rds.len {w : World} : ∀ {ps : List Sl} {ls : List (List Int)}, Rds w ps ls → ps.length = ls.length
 | [], [], _ => rfl
 | _ :: _, _ :: _, h => congrArg (· + 1) (Rds.len h.2)
theorem Rds.rd {w : World} : ∀ {ps : List Sl} {ls : List (List Int)}, Rds w ps ls → ∀ (k : Nat) (p : Sl) (l : List Int), ps[k]? = some p → ls[k]? = some l → SRd w p l
 | [], [], _, _, _, _, h, _ => by simp at h
 | _ :: _, _ :: _, h, 0, _, _, h1, h2 => by simp at h1 h2; rw [← h1, ← h2]; exact h.1
 | _ :: _, _ :: _, h, k + 1, _, _, h1, h2 => Rds.rd h.2 k _ _ (by simpa using h1) (by simpa using h2)
theorem Parts.of {w : World} {g : Nat} {ps : List Sl} {ls : List (List Int)} (h : Blk w g 22 (ps.map Sl.v)) (f : Rds w ps ls) : Parts w g ps ls := ⟨h, f.len, f.rd⟩

set_option maxHeartbeats 1600000 in
theorem laid (g c : Nat) (ps : List Sl) (ls : List (List Int)) (n : Nat) (w : World) (hn : n = ls.length) (h : Parts w g ps ls) (hs : ls.flatten.length ≤ 100000) (hn2 : n ≤ 100000) :
  Calls Tryz.prog 70 #[.slice (some ⟨g, 0, none⟩) n c] w fun e w' => ∃ g1 m1 c1, e = .returned (.slice (some ⟨g1, 0, none⟩) m1 c1) ∧ m1 = ls.flatten.length ∧ w.heap.size ≤ g1 ∧ Row w' g1 c1 ls.flatten ∧ Below w.heap.size w w' := by
 obtain ⟨i0, hi, hz0, hz1, hz2⟩ := info_parts info8
 have hsz : (Tryz.prog.info? 5).map (·.size) = some 1 := by rw [hi]; simp [hz1]
 have HP : Hid (Parts w g ps ls) := h
 have HN : Hid (n = ls.length) := hn
 obtain ⟨T, hT⟩ : ∃ T, ls.flatten.length = T := ⟨_, rfl⟩
 have HT : Hid (ls.flatten.length = T) := hT
 rw [hT] at hs
 clear h hn hT
 go_enter Tryz.func70, Tryz.ntmps70
 go_wp2
 go_loop [3, 12] (fun v i => ∃ k s : Nat, k ≤ n ∧ i = .int .i64 k ∧ v = .int .i64 s ∧ Hid (s = sz ls k)) (fun _ i => n - (intOf i).toNat)
 case atStart => exact ⟨0, 0, Nat.zero_le _, rfl, rfl, (sz_zero ls).symm⟩
 case round =>
  obtain ⟨k, s, hk, rfl, rfl, HS⟩ := hrel
  have HSL : Hid (s ≤ T) := by rw [HS.out, ← HT.out]; exact sz_le ls k
  by_cases hlt : k < n
  ·
   obtain ⟨⟨pa, pn, pc⟩, l, hl, hrd, hcell⟩ := HP.out.at (k := k) (by rw [← HN.out]; exact hlt)
   have HS1 : Hid (s + pn = sz ls (k + 1)) := by have e := hrd.len; show _ = _; rw [sz_succ hl, HS.out, ← e]
   have hle : s + pn ≤ 100000 := by have := sz_le ls (k + 1); rw [← HS1.out, HT.out] at this; omega
   clear hl hrd
   go_wp2
   go_round
   case rel => exact ⟨k + 1, s + pn, by omega, by go_num, by go_num, HS1.out⟩
   case measure => simp [intOf]; omega
  ·
   obtain rfl : k = n := by omega
   have HST : Hid (s = T) := by show _ = _; rw [HS.out, HN.out, sz_all, HT.out]
   obtain rfl : s = T := HST.out
   clear HST HSL
   go_wp2_with (at_make; refine wpList_make_full _ rfl _ _ 22 rfl w.heap.size 5 i0 (.int .u8 0) 1 Tryz.underlying22 hi hz0 hz1 _ _ _ _ s rfl rfl rfl rfl (by rw [hz2]; omega) (by unfold maxLen; omega) (Nat.le_refl _) ?_; intro w1 hown hgr; have B1 : Hid (Below w.heap.size w w1) := (Below.refl _ _).grown hgr (Nat.le_refl _) (fun k h => by cases h); have R1 : Hid (Row w1 w.heap.size s (laidL ls 0)) := (by rw [laidL_zero, HT.out]; exact (Row.of (l := List.replicate s (0 : Int)) (base := w.heap.size) (by simpa [Value.cells, toList_madeCells_one] using hown)).1); clear hown hgr)
   go_loopw [7, 25] (fun v i wr => ∃ j q : Nat, j ≤ k ∧ i = .int .i64 j ∧ v = .int .i64 q ∧ Hid (q = sz ls j) ∧ Row wr w.heap.size s (laidL ls j) ∧ Below w.heap.size w wr) (fun _ i _ => k - (intOf i).toNat)
   case atStart => exact ⟨0, 0, Nat.zero_le _, rfl, rfl, (sz_zero ls).symm, R1.out, B1.out⟩
   case round =>
    obtain ⟨j, q, hj, rfl, rfl, HQ, hRow, hbe⟩ := hrel
    have HRow := hid (hRow)
    have HBe := hid (hbe)
    have hqs : q ≤ s := by rw [HQ.out, ← HT.out]; exact sz_le ls j
    clear R1 B1 hRow hbe
    by_cases hlt : j < k
    ·
     obtain ⟨⟨pa, pn, pc⟩, l, hl, hrd, hcell⟩ := (HP.out.later HBe.out).at (k := j) (by rw [← HN.out]; exact hlt)
     have HQ1 : Hid (q + pn = sz ls (j + 1)) := by have e := hrd.len; show _ = _; rw [sz_succ hl, HQ.out, ← e]
     have hle : q + pn ≤ s := by have := sz_le ls (j + 1); rw [← HQ1.out, HT.out] at this; omega
     obtain ⟨X, hX⟩ : ∃ X, l.map (Value.int .u8) = X := ⟨_, rfl⟩
     obtain ⟨C, hC⟩ : ∃ C, (laidL ls j).map (Value.int .u8) = C := ⟨_, rfl⟩
     have HXL : Hid (X.length = pn) := by rw [← hX]; show _ = _; rw [List.length_map]; exact hrd.len.symm
     have HXO : Hid (∀ v ∈ X, v.oneCell' = true) := by rw [← hX]; exact ints_oneCell _ _
     have HCL : Hid (C.length = s) := by rw [← hC]; show _ = _; rw [List.length_map, laidL_len, HT.out]
     have HSP : Hid (splice C q X = (laidL ls (j + 1)).map (Value.int .u8)) := by rw [← hC, ← hX, HQ.out]; exact laidL_splice hl
     have HSRC : Hid (0 < X.length → ∃ ad, pa = some ad ∧ ∀ j v, X[j]? = some v → wr.cell? (ad.add j) = some v) := by
      rw [← hX]
      intro h0
      cases pa with
      | none => obtain ⟨_, _, e, _⟩ := hrd.rd 0 (by simpa using h0); cases e
      | some ad => exact ⟨ad, rfl, Rd.cells hrd.rd⟩
     have HG : Hid (wr.heap[w.heap.size]? = some (.cells C.toArray 5 (0, 0))) := by
      obtain ⟨_, _, cur, h3, h4, h5⟩ := HRow.out
      have e : cur = C.toArray := by
       apply Array.toList_inj.1
       rw [List.take_of_length_le (by rw [Array.length_toList, laidL_len, HT.out]; omega), hC] at h5
       simpa using h5
      show _ = _
      rw [h3, e]
     have HCJ : Hid ((laidL ls j).map (Value.int .u8) = C) := hC
     clear hl hrd hX hC
     have HB1 : Hid (X.length = 0 → laidL ls (j + 1) = laidL ls j) := by
      intro h2
      have h1 := HSP.out
      have h3 : X = [] := List.eq_nil_of_length_eq_zero h2
      rw [h3, ← HCJ.out] at h1
      have h4 : (laidL ls j).map (Value.int .u8) = (laidL ls (j + 1)).map (Value.int .u8) := by rw [← h1]; simp [splice]
      exact (List.map_inj_right (by intro x y h; cases h; rfl)).1 h4.symm
     by_cases hsq : s = q
     ·
      obtain rfl : pn = 0 := by omega
      subst hsq
      have R2 : Hid (Row wr w.heap.size s (laidL ls (j + 1))) := by rw [HB1.out HXL.out]; exact HRow.out
      have B2 := hid (HBe.out)
      have HQ2 : Hid (s = sz ls (j + 1)) := HQ1.out
      clear HQ1
      have kc := run_copy_none (P := Tryz.prog) wr 22 22 3 5 (some ⟨w.heap.size, 0, none⟩) pa 0 0 0 pc Tryz.underlying22 hsz rfl
      go_wp2
      go_roundw
      case rel => exact ⟨j + 1, s, by omega, by go_num, by go_num, HQ2.out, R2.out, B2.out⟩
      case measure => simp [intOf]; omega
     ·
      have hi0 : (0 : Int) ≤ q := by omega
      have hi1 : (q : Int) ≤ s := by omega
      by_cases hp0 : pn = 0
      ·
       obtain rfl : pn = 0 := hp0
       have R2 : Hid (Row wr w.heap.size s (laidL ls (j + 1))) := by rw [HB1.out HXL.out]; exact HRow.out
       have B2 := hid (HBe.out)
       have HQ2 : Hid (q = sz ls (j + 1)) := HQ1.out
       clear HQ1
       have kc := run_copy_none (P := Tryz.prog) wr 22 22 3 5 (some ⟨w.heap.size, q, none⟩) pa (s - q) (s - q) 0 pc Tryz.underlying22 hsz (by show min _ _ = 0; omega)
       go_wp2
       go_roundw
       case rel => exact ⟨j + 1, q, by omega, by go_num, by go_num, HQ2.out, R2.out, B2.out⟩
       case measure => simp [intOf]; omega
      ·
       obtain ⟨ad, rfl, hsrc⟩ := HSRC.out (by rw [HXL.out]; omega)
       have kc := run_copy_row (P := Tryz.prog) wr 22 22 3 5 w.heap.size q (s - q) (s - q) ad pn pc C.toArray 5 X Tryz.underlying22 hsz HG.out (by rw [HXL.out]; show pn = min _ _; omega) hsrc (by rw [HXL.out]; have := HCL.out; simp; omega) HXO.out
       clear hsrc HSRC
       obtain ⟨N, hN⟩ : ∃ N, (List.take q C.toArray.toList ++ X ++ List.drop (q + X.length) C.toArray.toList).toArray = N := ⟨_, rfl⟩
       have HNL : N.toList = splice C q X := by rw [← hN]; simp [splice]
       obtain ⟨w2, hw2⟩ : ∃ w2, wr.setRow w.heap.size N = w2 := ⟨_, rfl⟩
       have HG2 := setRow_heap wr w.heap.size C.toArray N 5 _ HG.out
       rw [hw2] at HG2
       have HG3 : Hid (w2.heap[w.heap.size]? = some (.cells N 5 (0, 0))) := HG2
       have B2 : Hid (Below w.heap.size w w2) := by rw [← hw2]; exact below_setRow HBe.out (Nat.le_refl _) _
       have R2 : Hid (Row w2 w.heap.size s (laidL ls (j + 1))) := ⟨by rw [laidL_len, HT.out]; exact Nat.le_refl _, by unfold maxLen; omega, N, HG3.out, by rw [← Array.length_toList, HNL, HSP.out]; simp [laidL_len, HT.out], by rw [HNL, HSP.out]; simp [List.take_of_length_le]⟩
       have hN' := hN
       rw [HXL.out] at kc hN'
       rw [hN', hw2] at kc
       clear HG2 hw2 hN hN' HNL
       go_wp2
       go_roundw
       case rel => exact ⟨j + 1, q + pn, by omega, by go_num, by go_num, HQ1.out, R2.out, B2.out⟩
       case measure => simp [intOf]; omega
    ·
     obtain rfl : j = k := by omega
     have HE : Hid (laidL ls j = ls.flatten) := by rw [HN.out]; exact laidL_all ls
     have R3 : Hid (Row wr w.heap.size s ls.flatten) := by rw [← HE.out]; exact HRow.out
     have E3 : Hid (s = ls.flatten.length) := HT.out.symm
     go_wp2
     go_ret
     exact ⟨w.heap.size, s, s, rfl, E3.out, Nat.le_refl _, R3.out, HBe.out⟩
end Go.Proofs.YtpenhliaelhnoaaGreatDoor.KeL
