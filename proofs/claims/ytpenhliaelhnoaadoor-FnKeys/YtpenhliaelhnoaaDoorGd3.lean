/-
  What spec.l12Psk and spec.DrawEpochKey give.
  What impl's and spec's GetN answer at every slice of at most 4,194,304 bytes, every place and every number of bytes: the same three results.
  The sum of 256 bits as plain functions of lists of numbers, and plain facts on them: every word stays a word, what is added in parts is what is added as a whole. No condition beyond those that each lemma names.
  What impl's and spec's Pad answer at every int: the same bytes, in new memory.
  What impl's and spec's Rot and Add32 answer at every two ints: the same number; nothing in memory turns.
-/
import Derived.Test.YtpenhliaelhnoaaDoorGd2
import Derived.Test.YtpenhliaelhnoaaDoorGd1
import Derived.Laws.BitsAllLaws
import Derived.Test.YtpenhliaelhnoaaDoorProg
import Derived.WalkLawsBesides
import Derived.Deep.QuietTactic
import Derived.BigQuiet
set_option linter.unusedVariables false
namespace Go.Proofs.YtpenhliaelhnoaaDoor.DrKe
open Go.RowKit Go.Proofs.YtpenhliaelhnoaaDoor.Mem Go.Proofs.YtpenhliaelhnoaaDoor.App Go.Proofs.YtpenhliaelhnoaaDoor.Blk Go.Proofs.YtpenhliaelhnoaaDoor.Zone Go.Proofs.YtpenhliaelhnoaaDoor.Draw Go.Proofs.YtpenhliaelhnoaaDoor.Res Go.Proofs.YtpenhliaelhnoaaDoor.DrN
/-- A word that is shared was drawn. -/
def DrewP (W0 : World) (a : Option Addr) (len cap : Nat) (l : List Int) (p : Nat) (w : World) : Ending → World → Prop := fun e w' => ∃ (S : Sl) (x : List Int), e = .returned (.slice S.a S.n S.c) ∧ x.length ≤ 33 ∧ SOwn w' w.heap.size w'.heap.size S x ∧ Ready W0 a len cap l p w' ∧ But p w w'
set_option maxRecDepth 100000 in
set_option maxHeartbeats 4000000 in
theorem l12Psk {W0 : World} {a : Option Addr} {len cap : Nat} {l : List Int} {p : Nat} {w : World} (h : Ready W0 a len cap l p w) :
    Calls Tryd.prog 29 #[.pointer (some ⟨p, 0, none⟩)] w (DrewP W0 a len cap l p w) := by
  have HP : Hid (p < w.heap.size ∧ W0.heap.size ≤ p) := ⟨h.hc.lt, h.hp⟩
  have R0 : Hid (Ready W0 a len cap l p w) := h
  have B0 : Hid (But p w w) := But.refl p w
  clear h
  go_enter Tryd.func29, Tryd.ntmps29
  go_wp2_with fail
  refine (intOfList (R0.out.alloc _) w.heap.size 8 [1, 5, 16, 32, 32, 0, 33, 16] rfl (ints_new w _) (by have := R0.out.hc.lt; omega) (by omega) (by omega)).mono ?_
  rintro e x1 ⟨z, rfl, vm, r, b0⟩
  have VMz : Hid (z ∈ ([1, 5, 16, 32, 32, 0, 33, 16] : List Int)) := vm
  have b : But p w x1 := ((But.refl p w).alloc _).trans b0
  clear vm b0
  have L1 : Hid (w.heap.size ≤ x1.heap.size) := b.size
  have KQ : Kept p (p + 1) w x1 := Kept.of_grown b
  have R1 : Hid (Ready W0 a len cap l p x1) := r
  have B1 : Hid (But p w x1) := B0.out.trans b
  clear R0 B0 b
  clear KQ r
  have hv : 0 ≤ z ∧ z ≤ 33 := by have q := VMz.out; simp only [List.mem_cons, List.mem_nil_iff, or_false] at q; omega
  obtain ⟨Z, rfl⟩ := Int.eq_ofNat_of_zero_le hv.1
  have HNZ : Hid (Z ≤ 33) := by have := hv.2; show _ ≤ _; omega
  clear hv
  go_wp2_with fail
  refine (bytesOf R1.out Z (by have := HNZ.out; omega)).mono ?_
  rintro e x2 ⟨gs, cs, ls, rfl, el, hb, kg, row, r, b⟩
  have oN : SOwn x2 x1.heap.size x2.heap.size ⟨some ⟨gs, 0, none⟩, Z, cs⟩ ls := SOwn.row row el hb kg row.lt
  have ELs : Hid (Z = ls.length) := el
  clear el hb kg row
  have L2 : Hid (x1.heap.size ≤ x2.heap.size) := b.size
  have KQ : Kept p (p + 1) x1 x2 := Kept.of_grown b
  have R2 : Hid (Ready W0 a len cap l p x2) := r
  have B2 : Hid (But p w x2) := B1.out.trans b
  clear R1 B1 b
  clear KQ r
  have Os_2 : Hid (SOwn x2 x1.heap.size x2.heap.size ⟨some ⟨gs, 0, none⟩, Z, cs⟩ ls) := oN
  clear oN
  go_wp2
  exact bodyPost_ret (v := .slice (some ⟨gs, 0, none⟩) Z cs) (res1 rfl (is_tmp rfl)) rfl ⟨⟨some ⟨gs, 0, none⟩, Z, cs⟩, ls, rfl, by rw [← ELs.out]; exact HNZ.out, Os_2.out.mono (by have := HP.out; have := L1.out; have := L2.out; omega) (Nat.le_refl _), R2.out, B2.out⟩

set_option maxRecDepth 100000 in
set_option maxHeartbeats 8000000 in
theorem drawEpochKey (a : Option Addr) (len cap : Nat) (l : List Int) (w : World) (hl : len = l.length) (hr : Rd w a l) (hb : Bytes l) (hlen : len ≤ 1048576) :
    Calls Tryd.prog 10 #[.slice a len cap] w fun e w' => ∃ (P : Sl) (x : List Int) (C : Sl) (cn : List Int) (N : Sl) (sn : List Int) (n : Int), e = .returned (.tuple #[.slice P.a P.n P.c, .slice C.a C.n C.c, .slice N.a N.n N.c, .int .i64 n]) ∧ (-1 ≤ n ∧ n ≤ 65) ∧ SRd w' P x ∧ SRd w' C cn ∧ SRd w' N sn ∧ Below w.heap.size w w' := by
  have HR : Hid (Rd w a l) := hr
  have HL : Hid (len = l.length) := hl
  have HB : Hid (Bytes l) := hb
  clear hr hl hb
  have B0 : Hid (Below w.heap.size w w) := Below.refl _ _
  go_enter Tryd.func10, Tryd.ntmps10
  go_wp2_with fail
  refine (newCur a len cap l w HL.out (HR.out.later B0.out (Nat.le_refl _)) HB.out hlen).mono ?_
  rintro e x1 ⟨p, rfl, r⟩
  have b := r.hB
  have HP : Hid (w.heap.size ≤ p ∧ p < x1.heap.size) := ⟨r.hp, r.hc.lt⟩
  have L1 : Hid (w.heap.size ≤ x1.heap.size) := b.size
  have B1 : Hid (Below w.heap.size w x1) := B0.out.trans (b.mono B0.out.size)
  clear B0 b
  have R1 : Hid (Ready w a len cap l p x1) := r
  clear r
  go_wp2_with fail
  refine (l12Psk R1.out).mono ?_
  rintro e x2 ⟨P, lp, rfl, pl, o, r, b⟩
  have HPL : Hid (lp.length ≤ 33) := pl
  clear pl
  have L2 : Hid (x1.heap.size ≤ x2.heap.size) := b.size
  have KQ : Kept p (p + 1) x1 x2 := Kept.of_grown b
  have B2 : Hid (Below w.heap.size w x2) := But.below b B1.out (by have := L1.out; have := HP.out; have := L2.out; omega)
  have R2 : Hid (Ready w a len cap l p x2) := r
  clear B1 R1 b
  clear KQ r
  have OP2 : Hid (SOwn x2 x1.heap.size x2.heap.size P lp) := o
  clear o
  go_wp2_with fail
  refine (intOfList (R2.out.alloc _) x2.heap.size 5 [12, 12, 12, 12, 11] rfl (ints_new x2 _) (by have := R2.out.hc.lt; omega) (by omega) (by omega)).mono ?_
  rintro e x3 ⟨z, rfl, vm, r, b0⟩
  have VMz : Hid (z ∈ ([12, 12, 12, 12, 11] : List Int)) := vm
  have b : But p x2 x3 := ((But.refl p x2).alloc _).trans b0
  clear vm b0
  have L3 : Hid (x2.heap.size ≤ x3.heap.size) := b.size
  have KQ : Kept p (p + 1) x2 x3 := Kept.of_grown b
  have B3 : Hid (Below w.heap.size w x3) := But.below b B2.out (by have := L1.out; have := HP.out; have := L2.out; have := L3.out; omega)
  have R3 : Hid (Ready w a len cap l p x3) := r
  have OP3 : Hid (SOwn x3 x1.heap.size x2.heap.size P lp) := OP2.out.carry KQ (by have := L1.out; have := HP.out; have := L2.out; have := L3.out; omega)
  clear B2 R2 OP2 b
  clear KQ r
  have hv : 0 ≤ z ∧ z ≤ 12 := by have q := VMz.out; simp only [List.mem_cons, List.mem_nil_iff, or_false] at q; omega
  obtain ⟨Z, rfl⟩ := Int.eq_ofNat_of_zero_le hv.1
  have HNZ : Hid (Z ≤ 12) := by have := hv.2; show _ ≤ _; omega
  clear hv
  go_wp2_with fail
  refine (bytesOf R3.out Z (by have := HNZ.out; omega)).mono ?_
  rintro e x4 ⟨gc, cc, lc, rfl, el, hb, kg, row, r, b⟩
  have oN : SOwn x4 x3.heap.size x4.heap.size ⟨some ⟨gc, 0, none⟩, Z, cc⟩ lc := SOwn.row row el hb kg row.lt
  have ELc : Hid (Z = lc.length) := el
  clear el hb kg row
  have L4 : Hid (x3.heap.size ≤ x4.heap.size) := b.size
  have KQ : Kept p (p + 1) x3 x4 := Kept.of_grown b
  have B4 : Hid (Below w.heap.size w x4) := But.below b B3.out (by have := L1.out; have := HP.out; have := L2.out; have := L3.out; have := L4.out; omega)
  have R4 : Hid (Ready w a len cap l p x4) := r
  have OP4 : Hid (SOwn x4 x1.heap.size x2.heap.size P lp) := OP3.out.carry KQ (by have := L1.out; have := HP.out; have := L2.out; have := L3.out; have := L4.out; omega)
  clear B3 R3 OP3 b
  clear KQ r
  have Oc_4 : Hid (SOwn x4 x3.heap.size x4.heap.size ⟨some ⟨gc, 0, none⟩, Z, cc⟩ lc) := oN
  clear oN
  go_wp2_with fail
  refine (bytesOf R4.out 12 (by omega)).mono ?_
  rintro e x5 ⟨gs, cs, ls, rfl, el, hb, kg, row, r, b⟩
  have oN : SOwn x5 x4.heap.size x5.heap.size ⟨some ⟨gs, 0, none⟩, 12, cs⟩ ls := SOwn.row row el hb kg row.lt
  have ELs : Hid (12 = ls.length) := el
  clear el hb kg row
  have L5 : Hid (x4.heap.size ≤ x5.heap.size) := b.size
  have KQ : Kept p (p + 1) x4 x5 := Kept.of_grown b
  have B5 : Hid (Below w.heap.size w x5) := But.below b B4.out (by have := L1.out; have := HP.out; have := L2.out; have := L3.out; have := L4.out; have := L5.out; omega)
  have R5 : Hid (Ready w a len cap l p x5) := r
  have OP5 : Hid (SOwn x5 x1.heap.size x2.heap.size P lp) := OP4.out.carry KQ (by have := L1.out; have := HP.out; have := L2.out; have := L3.out; have := L4.out; have := L5.out; omega)
  have Oc_5 : Hid (SOwn x5 x3.heap.size x4.heap.size ⟨some ⟨gc, 0, none⟩, Z, cc⟩ lc) := Oc_4.out.carry KQ (by have := L1.out; have := HP.out; have := L2.out; have := L3.out; have := L4.out; have := L5.out; omega)
  clear B4 R4 OP4 Oc_4 b
  clear KQ r
  have Os_5 : Hid (SOwn x5 x4.heap.size x5.heap.size ⟨some ⟨gs, 0, none⟩, 12, cs⟩ ls) := oN
  clear oN
  go_wp2_with fail
  refine (intOfList (R5.out.alloc _) x5.heap.size 6 [0, 1, 2, 3, -1, 65] rfl (ints_new x5 _) (by have := R5.out.hc.lt; omega) (by omega) (by omega)).mono ?_
  rintro e x6 ⟨n, rfl, vm, r, b0⟩
  have VMn : Hid (n ∈ ([0, 1, 2, 3, -1, 65] : List Int)) := vm
  have b : But p x5 x6 := ((But.refl p x5).alloc _).trans b0
  clear vm b0
  have L6 : Hid (x5.heap.size ≤ x6.heap.size) := b.size
  have KQ : Kept p (p + 1) x5 x6 := Kept.of_grown b
  have B6 : Hid (Below w.heap.size w x6) := But.below b B5.out (by have := L1.out; have := HP.out; have := L2.out; have := L3.out; have := L4.out; have := L5.out; have := L6.out; omega)
  have R6 : Hid (Ready w a len cap l p x6) := r
  have OP6 : Hid (SOwn x6 x1.heap.size x2.heap.size P lp) := OP5.out.carry KQ (by have := L1.out; have := HP.out; have := L2.out; have := L3.out; have := L4.out; have := L5.out; have := L6.out; omega)
  have Oc_6 : Hid (SOwn x6 x3.heap.size x4.heap.size ⟨some ⟨gc, 0, none⟩, Z, cc⟩ lc) := Oc_5.out.carry KQ (by have := L1.out; have := HP.out; have := L2.out; have := L3.out; have := L4.out; have := L5.out; have := L6.out; omega)
  have Os_6 : Hid (SOwn x6 x4.heap.size x5.heap.size ⟨some ⟨gs, 0, none⟩, 12, cs⟩ ls) := Os_5.out.carry KQ (by have := L1.out; have := HP.out; have := L2.out; have := L3.out; have := L4.out; have := L5.out; have := L6.out; omega)
  clear B5 R5 OP5 Oc_5 Os_5 b
  clear KQ r
  go_wp2
  exact bodyPost_ret (v := .tuple #[.slice P.a P.n P.c, .slice (some ⟨gc, 0, none⟩) Z cc, .slice (some ⟨gs, 0, none⟩) 12 cs, .int .i64 n]) (res4 rfl (is_tmp rfl) (is_tmp rfl) (is_tmp rfl) (is_tmp rfl)) rfl ⟨P, lp, ⟨some ⟨gc, 0, none⟩, Z, cc⟩, lc, ⟨some ⟨gs, 0, none⟩, 12, cs⟩, ls, n, rfl, (by have q := VMn.out; simp only [List.mem_cons, List.mem_nil_iff, or_false] at q; omega), OP6.out.rd, Oc_6.out.rd, Os_6.out.rd, B6.out⟩

end Go.Proofs.YtpenhliaelhnoaaDoor.DrKe

namespace Go.Proofs.YtpenhliaelhnoaaDoor.Get
open Go.RowKit Go.Proofs.YtpenhliaelhnoaaDoor.Mem Go.Proofs.YtpenhliaelhnoaaDoor.App

/-- The number that bytes are, the highest first. -/
def val (l : List Int) : Int := l.foldl (fun n z => n * 256 + z) 0
set_option maxRecDepth 100000 in
theorem val_snoc (l : List Int) (z : Int) : val (l ++ [z]) = val l * 256 + z := by simp [val]
set_option maxRecDepth 100000 in
theorem fold_bd (l : List Int) (h : Bytes l) : ∀ acc : Int, 0 ≤ acc → 0 ≤ l.foldl (fun n z => n * 256 + z) acc ∧ l.foldl (fun n z => n * 256 + z) acc < (acc + 1) * 256 ^ l.length := by
  induction l with
  | nil => intro acc h0; simp; omega
  | cons z r ih =>
    intro acc h0
    have hz := h z (by simp)
    have hr := ih (fun x hx => h x (by simp [hx])) (acc * 256 + z) (by omega)
    refine ⟨hr.1, Int.lt_of_lt_of_le hr.2 ?_⟩
    rw [List.length_cons, Int.pow_succ, Int.mul_comm (256 ^ r.length) 256, ← Int.mul_assoc]
    exact Int.mul_le_mul_of_nonneg_right (by omega) (Int.le_of_lt (Int.pow_pos (by decide)))
set_option maxRecDepth 100000 in
theorem val_bd (l : List Int) (h : Bytes l) : 0 ≤ val l ∧ val l < 256 ^ l.length := by
  have := fold_bd l h 0 (by omega)
  unfold val
  simpa using this

/-- The n bytes from a place on. -/
def piece (l : List Int) (i k : Nat) : List Int := (l.drop i).take k
set_option maxRecDepth 100000 in
theorem piece_succ (l : List Int) (i k : Nat) (h : i + k < l.length) : piece l i (k + 1) = piece l i k ++ [l.getD (i + k) 0] := by
  unfold piece
  rw [List.take_succ_eq_append_getElem (by rw [List.length_drop]; omega)]
  simp [List.getD, h]
set_option maxRecDepth 100000 in
theorem piece_bytes {l : List Int} (h : Bytes l) (i k : Nat) : Bytes (piece l i k) := fun z hz => h z (List.mem_of_mem_drop (List.mem_of_mem_take hz))
set_option maxRecDepth 100000 in
theorem piece_length (l : List Int) (i k : Nat) (h : i + k ≤ l.length) : (piece l i k).length = k := by
  unfold piece; rw [List.length_take, List.length_drop]; omega
set_option maxRecDepth 100000 in
theorem val_piece (l : List Int) (i k : Nat) (hb : Bytes l) (h : i + k ≤ l.length) (hk : k ≤ 6) : 0 ≤ val (piece l i k) ∧ val (piece l i k) < 281474976710656 := by
  have := val_bd _ (piece_bytes hb i k)
  rw [piece_length l i k h] at this
  refine ⟨this.1, Int.lt_of_lt_of_le this.2 ?_⟩
  have h2 : (256 : Int) ^ k ≤ 256 ^ 6 := by
    rcases (show k = 0 ∨ k = 1 ∨ k = 2 ∨ k = 3 ∨ k = 4 ∨ k = 5 ∨ k = 6 by omega) with rfl | rfl | rfl | rfl | rfl | rfl | rfl <;> decide
  have e : (256 : Int) ^ 6 = 281474976710656 := by decide
  omega
set_option maxRecDepth 100000 in
theorem val_piece5 (l : List Int) (i k : Nat) (hb : Bytes l) (h : i + k ≤ l.length) (hk : k ≤ 5) : 0 ≤ val (piece l i k) ∧ val (piece l i k) < 1099511627776 := by
  have := val_bd _ (piece_bytes hb i k)
  rw [piece_length l i k h] at this
  refine ⟨this.1, Int.lt_of_lt_of_le this.2 ?_⟩
  have h2 : (256 : Int) ^ k ≤ 256 ^ 5 := by
    rcases (show k = 0 ∨ k = 1 ∨ k = 2 ∨ k = 3 ∨ k = 4 ∨ k = 5 by omega) with rfl | rfl | rfl | rfl | rfl | rfl <;> decide
  have e : (256 : Int) ^ 5 = 1099511627776 := by decide
  omega
set_option maxRecDepth 100000 in
theorem or_step (n z : Int) (h0 : 0 ≤ n) (h1 : n < 1099511627776) (h2 : 0 ≤ z) (h3 : z ≤ 255) : bits .or .i64 (n * 256) z = n * 256 + z := by
  obtain ⟨N, rfl⟩ := Int.eq_ofNat_of_zero_le h0
  obtain ⟨Z, rfl⟩ := Int.eq_ofNat_of_zero_le h2
  have := Bits.or_i64 (N * 256) Z (by omega) (by omega)
  rw [nat_join 8 (N * 256) Z (by omega) (by omega)] at this
  rw [show (N : Int) * 256 = ((N * 256 : Nat) : Int) by omega, this]
  omega

/-- Whether k bytes are there from i on. -/
def there (len : Nat) (i k : Int) : Bool := decide (0 ≤ i ∧ 0 ≤ k ∧ k ≤ (len : Int) - i)
set_option maxRecDepth 100000 in
theorem there_yes {len : Nat} {i k : Int} (h : 0 ≤ i ∧ 0 ≤ k ∧ k ≤ (len : Int) - i) : there len i k = true := by simpa [there] using h
set_option maxRecDepth 100000 in
theorem there_no {len : Nat} {i k : Int} (h : ¬ (0 ≤ i ∧ 0 ≤ k ∧ k ≤ (len : Int) - i)) : there len i k = false := by
  unfold there; exact decide_eq_false h

set_option maxRecDepth 100000 in
theorem allThere (a : Option Addr) (len cap : Nat) (i k : Int) (w : World) (hl : len ≤ 4194304) (hi : i ≤ 9223372036854775807) :
    Calls Tryd.prog 72 #[.slice a len cap, .int .i64 i, .int .i64 k] w fun e w' => e = .returned (.bool (there len i k)) ∧ w = w' := by
  by_cases h1 : 0 ≤ i
  · by_cases h2 : 0 ≤ k
    · by_cases h3 : k ≤ (len : Int) - i
      · have H : Hid (there len i k = true) := there_yes ⟨h1, h2, h3⟩
        go_enter Tryd.func72, Tryd.ntmps72
        go_wp2
        go_ret
        exact ⟨by rw [H.out]; simp, rfl⟩
      · have H : Hid (there len i k = false) := there_no (by omega)
        go_enter Tryd.func72, Tryd.ntmps72
        go_wp2
        go_ret
        exact ⟨by rw [H.out]; simp, rfl⟩
    · have H : Hid (there len i k = false) := there_no (by omega)
      go_enter Tryd.func72, Tryd.ntmps72
      go_wp2
      go_ret
      exact ⟨by rw [H.out]; simp, rfl⟩
  · have H : Hid (there len i k = false) := there_no (by omega)
    go_enter Tryd.func72, Tryd.ntmps72
    go_wp2
    go_ret
    exact ⟨by rw [H.out]; simp, rfl⟩

def gotN (l : List Int) (i k : Int) : Value :=
  if isSize k = true ∧ there l.length i k = true then .tuple #[.int .i64 (val (piece l i.toNat k.toNat)), .int .i64 (i + k), .bool true] else .tuple #[.int .i64 0, .int .i64 0, .bool false]

set_option maxRecDepth 100000 in
set_option maxHeartbeats 800000 in
theorem implGetN (a : Option Addr) (len cap : Nat) (l : List Int) (i k : Int) (w : World) (hl : len = l.length) (hr : Rd w a l) (hb : Bytes l) (hlc : len ≤ cap) (hlen : len ≤ 4194304) (hi : i ≤ 9223372036854775807) :
    Calls Tryd.prog 91 #[.slice a len cap, .int .i64 i, .int .i64 k] w fun e w' => e = .returned (gotN l i k) ∧ w = w' := by
  have HR : Hid (Rd w a l) := hr
  have HB : Hid (Bytes l) := hb
  have HL : Hid (len = l.length) := hl
  clear hr hb hl
  by_cases hs : isSize k = true
  · by_cases ht : there len i k = true
    · have HG : Hid (gotN l i k = .tuple #[.int .i64 (val (piece l i.toNat k.toNat)), .int .i64 (i + k), .bool true]) := by
        show gotN l i k = _
        unfold gotN; rw [if_pos ⟨hs, by rw [← HL.out]; exact ht⟩]
      have hk := (isSize_iff k).1 hs
      have ht' : 0 ≤ i ∧ 0 ≤ k ∧ k ≤ (len : Int) - i := by simpa [there] using ht
      obtain ⟨I, rfl⟩ := Int.eq_ofNat_of_zero_le ht'.1
      obtain ⟨K, rfl⟩ := Int.eq_ofNat_of_zero_le ht'.2.1
      rw [Int.toNat_natCast, Int.toNat_natCast] at HG
      have k1 : 1 ≤ K := by omega
      have k2 : K ≤ 6 := by omega
      have k3 : I + K ≤ len := by omega
      obtain ⟨b, off, rfl, _, _⟩ := HR.out I (by have := HL.out; omega)
      clear hk ht'
      go_enter Tryd.func91, Tryd.ntmps91
      go_wp2_with fail
      refine (isNumberSize _ _).mono ?_
      rintro e w1 ⟨rfl, rfl⟩
      go_wp2_with fail
      refine (allThere _ len cap _ _ _ hlen hi).mono ?_
      rintro e w1 ⟨rfl, rfl⟩
      go_wp2_with fail
      go_loop [9, 29] (fun n j => ∃ q : Nat, q ≤ K ∧ j = .int .i64 q ∧ n = .int .i64 (val (piece l I q))) (fun _ j => K - (intOf j).toNat)
      case atStart => exact ⟨0, Nat.zero_le _, rfl, rfl⟩
      case round =>
        obtain ⟨q, hq, rfl, rfl⟩ := hrel
        by_cases hlt : q < K
        · obtain ⟨b', off', e, _, hc⟩ := HR.out (I + q) (by have := HL.out; omega)
          simp only [Option.some.injEq, Addr.mk.injEq, and_true] at e
          obtain ⟨rfl, rfl⟩ := e
          have hv := val_piece5 l I q HB.out (by have := HL.out; omega) (by omega)
          have hz := HB.out.at (I + q)
          have ho := or_step (val (piece l I q)) (l.getD (I + q) 0) hv.1 hv.2 hz.1 hz.2
          have HS : Hid (val (piece l I (q + 1)) = val (piece l I q) * 256 + l.getD (I + q) 0) := by
            show _ = _
            rw [piece_succ l I q (by have := HL.out; omega), val_snoc]
          generalize l.getD (I + q) 0 = z at *
          generalize val (piece l I q) = n at *
          obtain ⟨hv1, hv2⟩ := hv
          obtain ⟨hz1, hz2⟩ := hz
          rw [← Nat.add_assoc] at hc
          go_wp2
          go_round
          case rel => exact ⟨q + 1, by omega, by go_num, by rw [HS.out]⟩
          case measure => simp [intOf]; omega
        · obtain rfl : q = K := by omega
          go_wp2
          go_ret3
          exact ⟨by rw [HG.out]; rfl, rfl⟩
    · have ht' : there len i k = false := by simpa using ht
      have HG : Hid (gotN l i k = .tuple #[.int .i64 0, .int .i64 0, .bool false]) := by
        show gotN l i k = _
        unfold gotN; rw [if_neg (by rw [← HL.out, ht']; simp)]
      clear ht
      go_enter Tryd.func91, Tryd.ntmps91
      go_wp2_with fail
      refine (isNumberSize _ _).mono ?_
      rintro e w1 ⟨rfl, rfl⟩
      go_wp2_with fail
      refine (allThere _ len cap _ _ _ hlen hi).mono ?_
      rintro e w1 ⟨rfl, rfl⟩
      go_wp2
      go_ret3
      exact ⟨by rw [HG.out]; rfl, rfl⟩
  · have hs' : isSize k = false := by simpa using hs
    have HG : Hid (gotN l i k = .tuple #[.int .i64 0, .int .i64 0, .bool false]) := by
      show gotN l i k = _
      unfold gotN; rw [if_neg (by rw [hs']; simp)]
    clear hs
    go_enter Tryd.func91, Tryd.ntmps91
    go_wp2_with fail
    refine (isNumberSize _ _).mono ?_
    rintro e w1 ⟨rfl, rfl⟩
    go_wp2
    go_ret3
    exact ⟨by rw [HG.out]; rfl, rfl⟩

set_option maxRecDepth 100000 in
set_option maxHeartbeats 800000 in
theorem specGetN (a : Option Addr) (len cap : Nat) (l : List Int) (i k : Int) (w : World) (hl : len = l.length) (hr : Rd w a l) (hb : Bytes l) (hlen : len ≤ 4194304) :
    Calls Tryd.prog 90 #[.slice a len cap, .int .i64 i, .int .i64 k] w fun e w' => e = .returned (gotN l i k) ∧ w = w' := by
  have HR : Hid (Rd w a l) := hr
  have HB : Hid (Bytes l) := hb
  have HL : Hid (len = l.length) := hl
  clear hr hb hl
  by_cases hk : 1 ≤ k ∧ k ≤ 6
  · obtain ⟨k1, k2⟩ := hk
    by_cases hi : 0 ≤ i
    · by_cases ht : i ≤ (len : Int) - k
      · have HG : Hid (gotN l i k = .tuple #[.int .i64 (val (piece l i.toNat k.toNat)), .int .i64 (i + k), .bool true]) := by
          show gotN l i k = _
          unfold gotN; rw [if_pos ⟨(isSize_iff k).2 ⟨k1, k2⟩, there_yes (by rw [← HL.out]; omega)⟩]
        obtain ⟨I, rfl⟩ := Int.eq_ofNat_of_zero_le hi
        obtain ⟨K, rfl⟩ := Int.eq_ofNat_of_zero_le (show 0 ≤ k by omega)
        rw [Int.toNat_natCast, Int.toNat_natCast] at HG
        obtain ⟨b, off, rfl, _, _⟩ := HR.out I (by have := HL.out; omega)
        go_enter Tryd.func90, Tryd.ntmps90
        go_wp2_with fail
        go_loop [9, 10] (fun n j => ∃ q : Nat, q ≤ K ∧ j = .int .i64 q ∧ n = .int .i64 (val (piece l I q))) (fun _ j => K - (intOf j).toNat)
        case atStart => exact ⟨0, Nat.zero_le _, rfl, rfl⟩
        case round =>
          obtain ⟨q, hq, rfl, rfl⟩ := hrel
          by_cases hlt : q < K
          · obtain ⟨b', off', e, _, hc⟩ := HR.out (I + q) (by have := HL.out; omega)
            simp only [Option.some.injEq, Addr.mk.injEq, and_true] at e
            obtain ⟨rfl, rfl⟩ := e
            have hv := val_piece5 l I q HB.out (by have := HL.out; omega) (by omega)
            have hz := HB.out.at (I + q)
            have HS : Hid (val (piece l I (q + 1)) = val (piece l I q) * 256 + l.getD (I + q) 0) := by
              show _ = _
              rw [piece_succ l I q (by have := HL.out; omega), val_snoc]
            generalize l.getD (I + q) 0 = z at *
            generalize val (piece l I q) = n at *
            obtain ⟨hv1, hv2⟩ := hv
            obtain ⟨hz1, hz2⟩ := hz
            have hil : ((I + q : Nat) : Int) < (len : Int) := by omega
            go_wp2
            go_round
            case rel => exact ⟨q + 1, by omega, by go_num, by rw [HS.out]⟩
            case measure => simp [intOf]; omega
          · obtain rfl : q = K := by omega
            go_wp2
            go_ret3
            exact ⟨by rw [HG.out]; rfl, rfl⟩
      · have HG : Hid (gotN l i k = .tuple #[.int .i64 0, .int .i64 0, .bool false]) := by
          show gotN l i k = _
          unfold gotN; rw [if_neg (by rw [there_no (by rw [← HL.out]; omega)]; simp)]
        go_enter Tryd.func90, Tryd.ntmps90
        go_wp2
        go_ret3
        exact ⟨by rw [HG.out]; rfl, rfl⟩
    · have HG : Hid (gotN l i k = .tuple #[.int .i64 0, .int .i64 0, .bool false]) := by
        show gotN l i k = _
        unfold gotN; rw [if_neg (by rw [there_no (by omega)]; simp)]
      go_enter Tryd.func90, Tryd.ntmps90
      go_wp2
      go_ret3
      exact ⟨by rw [HG.out]; rfl, rfl⟩
  · have HG : Hid (gotN l i k = .tuple #[.int .i64 0, .int .i64 0, .bool false]) := by
      show gotN l i k = _
      unfold gotN; rw [if_neg (by rw [isSize_not k hk]; simp)]
    rcases (show k < 1 ∨ 6 < k by omega) with hk' | hk'
    all_goals
      go_enter Tryd.func90, Tryd.ntmps90
      go_wp2
      go_ret3
      exact ⟨by rw [HG.out]; rfl, rfl⟩
end Go.Proofs.YtpenhliaelhnoaaDoor.Get

namespace Go.Proofs.YtpenhliaelhnoaaDoor.ShaP
open Go.RowKit Go.Proofs.YtpenhliaelhnoaaDoor.Mem Go.Proofs.YtpenhliaelhnoaaDoor.App Go.Proofs.YtpenhliaelhnoaaDoor.Get Go.Proofs.YtpenhliaelhnoaaDoor.Bits

def Wd (x : Int) : Prop := 0 ≤ x ∧ x ≤ 4294967295
set_option maxRecDepth 100000 in
theorem wd_mod (x : Int) : Wd (x % 4294967296) := by unfold Wd; omega
set_option maxRecDepth 100000 in
theorem wd_rot (x n : Int) : Wd (rot x n) := rot_bd x n

set_option maxRecDepth 100000 in
theorem wd_xor {a b : Int} (ha : Wd a) (hb : Wd b) : Wd (bits .xor .i64 a b) := by
  obtain ⟨A, rfl⟩ := Int.eq_ofNat_of_zero_le ha.1
  obtain ⟨B, rfl⟩ := Int.eq_ofNat_of_zero_le hb.1
  have h1 := ha.2
  have h2 := hb.2
  rw [xor_i64 A B (by omega) (by omega)]
  have := Nat.xor_lt_two_pow (x := A) (y := B) (n := 32) (by omega) (by omega)
  unfold Wd; omega
set_option maxRecDepth 100000 in
theorem wd_and {a b : Int} (ha : Wd a) (hb : Wd b) : Wd (bits .and .i64 a b) := by
  obtain ⟨A, rfl⟩ := Int.eq_ofNat_of_zero_le ha.1
  obtain ⟨B, rfl⟩ := Int.eq_ofNat_of_zero_le hb.1
  have h1 := ha.2
  have h2 := hb.2
  rw [and_i64 A B (by omega) (by omega)]
  have : A &&& B ≤ A := Nat.and_le_left
  unfold Wd; omega

def xor3 (a b c : Int) : Int := bits .xor .i64 (bits .xor .i64 a b) c
set_option maxRecDepth 100000 in
theorem wd_xor3 {a b c : Int} (ha : Wd a) (hb : Wd b) (hc : Wd c) : Wd (xor3 a b c) := wd_xor (wd_xor ha hb) hc

def s0 (x : Int) : Int := xor3 (rot x 7) (rot x 18) (x / 8)
def s1 (x : Int) : Int := xor3 (rot x 17) (rot x 19) (x / 1024)
set_option maxRecDepth 100000 in
theorem wd_s0 {x : Int} (h : Wd x) : Wd (s0 x) := wd_xor3 (wd_rot _ _) (wd_rot _ _) (by unfold Wd at *; omega)
set_option maxRecDepth 100000 in
theorem wd_s1 {x : Int} (h : Wd x) : Wd (s1 x) := wd_xor3 (wd_rot _ _) (wd_rot _ _) (by unfold Wd at *; omega)

def Wds (l : List Int) : Prop := ∀ z ∈ l, Wd z
set_option maxRecDepth 100000 in
theorem Wds.at {l : List Int} (h : Wds l) (i : Nat) : Wd (l.getD i 0) := by
  by_cases hi : i < l.length
  · simpa [List.getD, hi] using h _ (List.getElem_mem hi)
  · simp [List.getD, List.getElem?_eq_none (Nat.le_of_not_lt hi), Wd]
set_option maxRecDepth 100000 in
theorem Wds.snoc {l : List Int} {z : Int} (h : Wds l) (hz : Wd z) : Wds (l ++ [z]) := by
  intro y hy
  rcases List.mem_append.1 hy with hy | hy
  · exact h y hy
  · simp at hy; subst hy; exact hz

/-- The first j words of a block: its bytes, four by four. -/
def first (b : List Int) (j : Nat) : List Int := (List.range j).map fun i => val (piece b (4 * i) 4)
set_option maxRecDepth 100000 in
theorem first_length (b : List Int) (j : Nat) : (first b j).length = j := by simp [first]
set_option maxRecDepth 100000 in
theorem first_succ (b : List Int) (j : Nat) : first b (j + 1) = first b j ++ [val (piece b (4 * j) 4)] := by simp [first, List.range_succ]
set_option maxRecDepth 100000 in
theorem val4 (b : List Int) (j : Nat) (hb : Bytes b) : Wd (val (piece b j 4)) := by
  have := val_bd _ (piece_bytes hb j 4)
  have h2 : (piece b j 4).length ≤ 4 := by unfold piece; rw [List.length_take]; omega
  have h3 : (256 : Int) ^ (piece b j 4).length ≤ 256 ^ 4 := by
    rcases (show (piece b j 4).length = 0 ∨ (piece b j 4).length = 1 ∨ (piece b j 4).length = 2 ∨ (piece b j 4).length = 3 ∨ (piece b j 4).length = 4 by omega) with h | h | h | h | h <;> rw [h] <;> decide
  have e : (256 : Int) ^ 4 = 4294967296 := by decide
  unfold Wd; omega
set_option maxRecDepth 100000 in
theorem first_wds (b : List Int) (j : Nat) (hb : Bytes b) : Wds (first b j) := by
  intro z hz
  simp only [first, List.mem_map] at hz
  obtain ⟨i, _, rfl⟩ := hz
  exact val4 b _ hb

/-- The word that comes behind the words W. -/
def nextW (W : List Int) (n : Nat) : Int := (W.getD (n - 7) 0 + W.getD (n - 16) 0 + s0 (W.getD (n - 15) 0) + s1 (W.getD (n - 2) 0)) % 4294967296
def more (W : List Int) : Nat → List Int
  | 0 => W
  | n + 1 => more W n ++ [nextW (more W n) (16 + n)]
set_option maxRecDepth 100000 in
theorem more_length (W : List Int) (n : Nat) : (more W n).length = W.length + n := by
  induction n with
  | zero => rfl
  | succ n ih => simp [more, ih]; omega
set_option maxRecDepth 100000 in
theorem more_wds (W : List Int) (n : Nat) (h : Wds W) : Wds (more W n) := by
  induction n with
  | zero => exact h
  | succ n ih => exact ih.snoc (wd_mod _)
def sched (b : List Int) : List Int := more (first b 16) 48
set_option maxRecDepth 100000 in
theorem sched_length (b : List Int) : (sched b).length = 64 := by simp [sched, more_length, first_length]
set_option maxRecDepth 100000 in
theorem sched_wds (b : List Int) (hb : Bytes b) : Wds (sched b) := more_wds _ _ (first_wds b 16 hb)
set_option maxRecDepth 100000 in
theorem more_getD (W : List Int) (n m i : Nat) (h : n ≤ m) (hi : i < W.length + n) : (more W m).getD i 0 = (more W n).getD i 0 := by
  induction m with
  | zero => obtain rfl : n = 0 := by omega
            rfl
  | succ m ih =>
    by_cases e : n = m + 1
    · rw [e]
    · have h2 := ih (by omega)
      rw [← h2]
      have : i < (more W m).length := by rw [more_length]; omega
      simp [more, List.getD, List.getElem?_append, this]
set_option maxRecDepth 100000 in
theorem sched_first (b : List Int) (i : Nat) (h : i < 16) : (sched b).getD i 0 = val (piece b (4 * i) 4) := by
  unfold sched
  rw [more_getD _ 0 48 i (by omega) (by rw [first_length]; omega)]
  simp [more, first, List.getD, h]

/-- The 64 round words. -/
def kk : List Int := [1116352408, 1899447441, 3049323471, 3921009573, 961987163, 1508970993, 2453635748, 2870763221, 3624381080, 310598401, 607225278, 1426881987, 1925078388, 2162078206, 2614888103, 3248222580, 3835390401, 4022224774, 264347078, 604807628, 770255983, 1249150122, 1555081692, 1996064986, 2554220882, 2821834349, 2952996808, 3210313671, 3336571891, 3584528711, 113926993, 338241895, 666307205, 773529912, 1294757372, 1396182291, 1695183700, 1986661051, 2177026350, 2456956037, 2730485921, 2820302411, 3259730800, 3345764771, 3516065817, 3600352804, 4094571909, 275423344, 430227734, 506948616, 659060556, 883997877, 958139571, 1322822218, 1537002063, 1747873779, 1955562222, 2024104815, 2227730452, 2361852424, 2428436474, 2756734187, 3204031479, 3329325298]
set_option maxRecDepth 100000 in
theorem kk_length : kk.length = 64 := rfl
set_option maxRecDepth 100000 in
theorem kk_wds : Wds kk := by intro z hz; simp only [kk, List.mem_cons, List.not_mem_nil, or_false] at hz; unfold Wd; omega
/-- The eight words that a sum begins with. -/
def start8 : List Int := [1779033703, 3144134277, 1013904242, 2773480762, 1359893119, 2600822924, 528734635, 1541459225]
set_option maxRecDepth 100000 in
theorem start8_wds : Wds start8 := by intro z hz; simp only [start8, List.mem_cons, List.not_mem_nil, or_false] at hz; unfold Wd; omega

structure St where
  a : Int
  b : Int
  c : Int
  d : Int
  e : Int
  f : Int
  g : Int
  h : Int
def St.ok (s : St) : Prop := Wd s.a ∧ Wd s.b ∧ Wd s.c ∧ Wd s.d ∧ Wd s.e ∧ Wd s.f ∧ Wd s.g ∧ Wd s.h
def big1 (e : Int) : Int := xor3 (rot e 6) (rot e 11) (rot e 25)
def big0 (a : Int) : Int := xor3 (rot a 2) (rot a 13) (rot a 22)
def cho (e f g : Int) : Int := bits .xor .i64 (bits .and .i64 e f) (bits .and .i64 (bits .xor .i64 e 4294967295) g)
def maj (a b c : Int) : Int := xor3 (bits .and .i64 a b) (bits .and .i64 a c) (bits .and .i64 b c)
def tOf (k w : Int) (s : St) : Int := s.h + big1 s.e + cho s.e s.f s.g + k + w
def uOf (s : St) : Int := big0 s.a + maj s.a s.b s.c
def rnd (k w : Int) (s : St) : St := ⟨(tOf k w s + uOf s) % 4294967296, s.a, s.b, s.c, (s.d + tOf k w s) % 4294967296, s.e, s.f, s.g⟩
set_option maxRecDepth 100000 in
theorem rnd_ok (k w : Int) (s : St) (h : s.ok) : (rnd k w s).ok := by
  obtain ⟨a, b, c, d, e, f, g, _⟩ := h
  exact ⟨wd_mod _, a, b, c, wd_mod _, e, f, g⟩
set_option maxRecDepth 100000 in
theorem wd_big1 (e : Int) : Wd (big1 e) := wd_xor3 (wd_rot _ _) (wd_rot _ _) (wd_rot _ _)
set_option maxRecDepth 100000 in
theorem wd_big0 (e : Int) : Wd (big0 e) := wd_xor3 (wd_rot _ _) (wd_rot _ _) (wd_rot _ _)
set_option maxRecDepth 100000 in
theorem wd_cho {e f g : Int} (he : Wd e) (hf : Wd f) (hg : Wd g) : Wd (cho e f g) := wd_xor (wd_and he hf) (wd_and (wd_xor he (by unfold Wd; omega)) hg)
set_option maxRecDepth 100000 in
theorem wd_maj {e f g : Int} (he : Wd e) (hf : Wd f) (hg : Wd g) : Wd (maj e f g) := wd_xor3 (wd_and he hf) (wd_and he hg) (wd_and hf hg)

set_option maxRecDepth 100000 in
theorem andNot_word (g e : Int) (hg : Wd g) (he : Wd e) : bits .andNot .i64 g e = bits .and .i64 (bits .xor .i64 e 4294967295) g := by
  obtain ⟨G, rfl⟩ := Int.eq_ofNat_of_zero_le hg.1
  obtain ⟨E, rfl⟩ := Int.eq_ofNat_of_zero_le he.1
  have h1 := hg.2
  have h2 := he.2
  have hx : bits .xor .i64 (E : Int) 4294967295 = ((E ^^^ 4294967295 : Nat) : Int) := xor_i64 E 4294967295 (by omega) (by omega)
  have hxl := Nat.xor_lt_two_pow (x := E) (y := 4294967295) (n := 32) (by omega) (by omega)
  rw [hx, and_i64 _ _ (by omega) (by omega)]
  show IntKind.i64.wrap ((BitVec.ofInt 64 (G : Int) &&& ~~~ BitVec.ofInt 64 (E : Int)).toNat : Int) = _
  have key : (BitVec.ofInt 64 (G : Int) &&& ~~~ BitVec.ofInt 64 (E : Int)).toNat = (E ^^^ 4294967295) &&& G := by
    apply Nat.eq_of_testBit_eq
    intro i
    rw [BitVec.testBit_toNat, BitVec.getLsbD_and, BitVec.getLsbD_not, Nat.testBit_and, Nat.testBit_xor]
    have t1 : (BitVec.ofInt 64 (G : Int)).getLsbD i = G.testBit i := by rw [← BitVec.testBit_toNat, ofInt64_nat G (by omega)]
    have t2 : (BitVec.ofInt 64 (E : Int)).getLsbD i = E.testBit i := by rw [← BitVec.testBit_toNat, ofInt64_nat E (by omega)]
    rw [t1, t2]
    by_cases hi : i < 32
    · have t3 : Nat.testBit 4294967295 i = true := by
        rw [show 4294967295 = 2 ^ 32 - 1 by decide, Nat.testBit_two_pow_sub_one]; simpa using hi
      have hi2 : i < 64 := by omega
      rw [t3]
      cases G.testBit i <;> cases E.testBit i <;> simp [hi2]
    · have t4 : G.testBit i = false := Nat.testBit_lt_two_pow (Nat.lt_of_lt_of_le (show G < 2 ^ 32 by omega) (Nat.pow_le_pow_right (by omega) (by omega)))
      rw [t4]; simp
  rw [key]
  exact wrap_i64_nat _ (Nat.lt_of_le_of_lt Nat.and_le_right (by omega))

/-- n rounds from a state on. -/
def rounds (W : List Int) (s : St) : Nat → St
  | 0 => s
  | n + 1 => rnd (kk.getD n 0) (W.getD n 0) (rounds W s n)
set_option maxRecDepth 100000 in
theorem rounds_ok (W : List Int) (s : St) (n : Nat) (h : s.ok) : (rounds W s n).ok := by
  induction n with
  | zero => exact h
  | succ n ih => exact rnd_ok _ _ _ ih
def stOf (h : List Int) : St := ⟨h.getD 0 0, h.getD 1 0, h.getD 2 0, h.getD 3 0, h.getD 4 0, h.getD 5 0, h.getD 6 0, h.getD 7 0⟩
set_option maxRecDepth 100000 in
theorem stOf_ok {h : List Int} (hw : Wds h) : (stOf h).ok := ⟨hw.at 0, hw.at 1, hw.at 2, hw.at 3, hw.at 4, hw.at 5, hw.at 6, hw.at 7⟩
def St.list (s : St) : List Int := [s.a, s.b, s.c, s.d, s.e, s.f, s.g, s.h]
def plus (h l : List Int) (i : Nat) : Int := (h.getD i 0 + l.getD i 0) % 4294967296
/-- The eight words behind a block. -/
def comp (h b : List Int) : List Int := (List.range 8).map (plus h (rounds (sched b) (stOf h) 64).list)
set_option maxRecDepth 100000 in
theorem comp_length (h b : List Int) : (comp h b).length = 8 := by simp [comp]
set_option maxRecDepth 100000 in
theorem comp_wds (h b : List Int) : Wds (comp h b) := by
  intro z hz
  simp only [comp, List.mem_map] at hz
  obtain ⟨i, _, rfl⟩ := hz
  exact wd_mod _
set_option maxRecDepth 100000 in
theorem comp_getD (h b : List Int) (i : Nat) (hi : i < 8) : (comp h b).getD i 0 = plus h (rounds (sched b) (stOf h) 64).list i := by
  simp [comp, List.getD, hi]

/-- The eight words behind the first n blocks of x. -/
def run (h x : List Int) : Nat → List Int
  | 0 => h
  | n + 1 => comp (run h x n) (piece x (64 * n) 64)
set_option maxRecDepth 100000 in
theorem run_length (h x : List Int) (n : Nat) (hh : h.length = 8) : (run h x n).length = 8 := by
  cases n with
  | zero => exact hh
  | succ n => exact comp_length _ _
set_option maxRecDepth 100000 in
theorem run_wds (h x : List Int) (n : Nat) (hh : Wds h) : Wds (run h x n) := by
  cases n with
  | zero => exact hh
  | succ n => exact comp_wds _ _
set_option maxRecDepth 100000 in
theorem piece_left (x y : List Int) (i k : Nat) (h : i + k ≤ x.length) : piece (x ++ y) i k = piece x i k := by
  unfold piece
  rw [List.drop_append_of_le_length (by omega), List.take_append_of_le_length (by rw [List.length_drop]; omega)]
set_option maxRecDepth 100000 in
theorem run_left (h x y : List Int) (n : Nat) (hn : 64 * n ≤ x.length) : run h (x ++ y) n = run h x n := by
  induction n with
  | zero => rfl
  | succ n ih => rw [run, run, ih (by omega), piece_left x y _ _ (by omega)]
set_option maxRecDepth 100000 in
theorem run_more (h x : List Int) (q m : Nat) : run h x (q + m) = run (run h x q) (x.drop (64 * q)) m := by
  induction m with
  | zero => rfl
  | succ m ih =>
    rw [← Nat.add_assoc, run, run, ih]
    congr 1
    unfold piece
    rw [List.drop_drop]
    congr 2
    omega
set_option maxRecDepth 100000 in
/-- What is added to a rest goes on where the blocks before have ended. -/
theorem run_parts (h x y : List Int) (q m : Nat) (hq : 64 * q ≤ x.length) : run (run h x q) (x.drop (64 * q) ++ y) m = run h (x ++ y) (q + m) := by
  rw [run_more, run_left h x y q hq, List.drop_append_of_le_length hq]

/-- The pad of a text of n bytes. -/
def padOf (n : Nat) : List Int := 128 :: (List.replicate ((64 - (n + 9) % 64) % 64) 0 ++ num (8 * (n : Int)) 8)
set_option maxRecDepth 100000 in
theorem padOf_length (n : Nat) : (padOf n).length = 9 + (64 - (n + 9) % 64) % 64 := by simp [padOf, num_length]; omega
set_option maxRecDepth 100000 in
theorem pad_nums (n : Nat) (h : n ≤ 1048576) : num (8 * (n : Int)) 8 = num 0 4 ++ num (8 * (n : Int)) 4 := by
  have e1 : (8 * (n : Int)) / 2 ^ 56 = 0 := by omega
  have e2 : (8 * (n : Int)) / 2 ^ 48 = 0 := by omega
  have e3 : (8 * (n : Int)) / 2 ^ 40 = 0 := by omega
  have e4 : (8 * (n : Int)) / 2 ^ 32 = 0 := by omega
  simp only [num, Nat.reduceMul, List.cons_append, List.nil_append, e1, e2, e3, e4]
  simp
/-- The bytes of words: four a word. -/
def outB : List Int → List Int
  | [] => []
  | x :: r => num x 4 ++ outB r
set_option maxRecDepth 100000 in
theorem outB_length (l : List Int) : (outB l).length = 4 * l.length := by
  induction l with
  | nil => rfl
  | cons x r ih => simp [outB, num_length, ih]; omega
set_option maxRecDepth 100000 in
theorem outB_snoc (l : List Int) (z : Int) : outB (l ++ [z]) = outB l ++ num z 4 := by
  induction l with
  | nil => simp [outB]
  | cons x r ih => simp [outB, ih]
/-- The sum of the bytes x behind the words h, of n bytes in all. -/
def endOf (h held : List Int) (n : Nat) : List Int := outB (run h (held ++ padOf n) ((held ++ padOf n).length / 64))
def shaOf (x : List Int) : List Int := endOf start8 x x.length
end Go.Proofs.YtpenhliaelhnoaaDoor.ShaP

namespace Go.Proofs.YtpenhliaelhnoaaDoor.Pads
open Go.RowKit Go.Proofs.YtpenhliaelhnoaaDoor.Mem Go.Proofs.YtpenhliaelhnoaaDoor.App Go.Proofs.YtpenhliaelhnoaaDoor.Get Go.Proofs.YtpenhliaelhnoaaDoor.ShaP

/-- Whether n may be a text's length. -/
def isLen (n : Int) : Bool := decide (0 ≤ n ∧ n ≤ 1048576)
set_option maxRecDepth 100000 in
theorem isLen_yes {n : Int} (h : 0 ≤ n ∧ n ≤ 1048576) : isLen n = true := by simpa [isLen] using h
set_option maxRecDepth 100000 in
theorem isLen_no {n : Int} (h : ¬ (0 ≤ n ∧ n ≤ 1048576)) : isLen n = false := by unfold isLen; exact decide_eq_false h

set_option maxRecDepth 100000 in
theorem isShaLength (n : Int) (w : World) :
    Calls Tryd.prog 64 #[.int .i64 n] w fun e w' => e = .returned (.bool (isLen n)) ∧ w = w' := by
  by_cases h1 : 0 ≤ n
  · by_cases h2 : n ≤ 1048576
    · have H : Hid (isLen n = true) := isLen_yes ⟨h1, h2⟩
      go_enter Tryd.func64, Tryd.ntmps64
      go_wp2
      go_ret
      exact ⟨by rw [H.out]; simp, rfl⟩
    · have H : Hid (isLen n = false) := isLen_no (by omega)
      go_enter Tryd.func64, Tryd.ntmps64
      go_wp2
      go_ret
      exact ⟨by rw [H.out]; simp, rfl⟩
  · have H : Hid (isLen n = false) := isLen_no (by omega)
    go_enter Tryd.func64, Tryd.ntmps64
    go_wp2
    go_ret
    exact ⟨by rw [H.out]; simp, rfl⟩

def padI (n : Int) : List Int := if 0 ≤ n ∧ n ≤ 1048576 then padOf n.toNat else []
set_option maxRecDepth 100000 in
theorem padI_length (n : Int) : (padI n).length ≤ 72 := by
  unfold padI; split
  · rw [padOf_length]; omega
  · simp

set_option maxRecDepth 100000 in
set_option maxHeartbeats 800000 in
theorem implPad (n : Int) (w : World) :
    Calls Tryd.prog 82 #[.int .i64 n] w fun e w' =>
      ∃ g m cap, e = .returned (.slice (some ⟨g, 0, none⟩) m cap) ∧ m = (padI n).length ∧ w.heap.size ≤ g ∧ Row w' g cap (padI n) ∧ Below w.heap.size w w' := by
  by_cases hn : 0 ≤ n ∧ n ≤ 1048576
  · have hl := isLen_yes hn
    obtain ⟨h0, h1⟩ := hn
    obtain ⟨N, rfl⟩ := Int.eq_ofNat_of_zero_le h0
    have HP : Hid (padI (N : Int) = padOf N) := by show padI _ = _; unfold padI; rw [if_pos ⟨h0, h1⟩, Int.toNat_natCast]
    obtain ⟨z, hz⟩ : ∃ z : Nat, (64 - (N + 9) % 64) % 64 = z := ⟨_, rfl⟩
    have HZ : Hid ((64 - (N + 9) % 64) % 64 = z) := hz
    have E1 : Hid (((64 : Int) - ((N : Int) + 1 + 8) % 64) % 64 = (z : Int)) := by show _ = _; omega
    have hz64 : z < 64 := by omega
    obtain ⟨i0, hi, hz0, hz1, hz2⟩ := info_parts info8
    clear hz
    have H1 : Hid (Below w.heap.size w (w.alloc (.cells #[.int .u8 128] 5))) := (Below.refl _ _).alloc (Nat.le_refl _) _
    go_enter Tryd.func82, Tryd.ntmps82
    go_wp2_with fail
    refine (isShaLength _ _).mono ?_
    rintro e w1 ⟨rfl, rfl⟩
    go_wp2_with (at_make; refine wpList_make_full _ rfl _ _ 22 rfl w.heap.size 5 i0 (.int .u8 0) 1 Tryd.underlying22 hi hz0 hz1 _ _ _ _ z rfl rfl (by first | rfl | exact E1.out) (by first | rfl | exact E1.out) (by rw [hz2]; omega) (by unfold maxLen; omega) (by simp) ?_; intro w1 hown hgr; have HB : Hid (Below w.heap.size w w1) := H1.out.grown hgr (by simp) (fun k h => by cases h); have HR : Hid (Row w1 w.heap.size 1 [128]) := (row_new w [128] (by simp [maxLen])).keep (hgr.block _ (by simp) (by simp)); have HO : Hid (Row w1 (w.heap.size + 1) z (List.replicate z 0)) := (Row.of (l := List.replicate z 0) (base := w.heap.size) (by simpa [Value.cells, toList_madeCells_one] using hown)).1; clear hown hgr)
    have HL : Hid ((List.replicate z (0 : Int)).length = z) := List.length_replicate
    refine (putBytes _ _ 1 1 z z [128] (List.replicate z 0) w1 rfl HL.out.symm HR.out.rd HO.out.rd (by intro h; cases h) (by intro h; cases h) (by simp) (by rw [HL.out]; omega)).mono ?_
    rintro e w2 ⟨rfl, r2, b2⟩
    have HB2 : Hid (Below w.heap.size w w2) := HB.out.trans (b2.mono HB.out.size)
    have HR2 : Hid (Row w2 w1.heap.size (1 + z) ([128] ++ List.replicate z 0)) := r2
    have HS : Hid (w.heap.size ≤ w1.heap.size) := HB.out.size
    clear r2 b2
    go_wp2_with fail
    refine (highestFirst _ 8 w2 (by omega) (by omega)).mono ?_
    rintro e w3 ⟨rfl, r3, b3⟩
    have HR3 : Hid (Row w3 w2.heap.size 8 (num ((N : Int) * 8) 8)) := r3
    have HB3 : Hid (Below w2.heap.size w2 w3) := b3
    clear r3 b3
    have HN : Hid ((num ((N : Int) * 8) 8).length = 8) := num_length _ 8
    have HM : Hid (([128] ++ List.replicate z (0 : Int)).length = 1 + z) := by show _ = _; simp; omega
    go_wp2_with fail
    refine (putBytes _ _ (1 + z) (1 + z) 8 8 ([128] ++ List.replicate z 0) (num ((N : Int) * 8) 8) w3 HM.out.symm HN.out.symm (HR2.out.later HB3.out).rd HR3.out.rd (by intro h; cases h) (by intro h; cases h) (by rw [HM.out]; omega) (by rw [HN.out]; omega)).mono ?_
    rintro e w4 ⟨rfl, r4, b4⟩
    have HB4 : Hid (Below w.heap.size w w4) := HB2.out.trans ((HB3.out.mono HB2.out.size).trans (b4.mono (Nat.le_trans HB2.out.size HB3.out.size)))
    have HF : Hid (padI (N : Int) = [128] ++ List.replicate z 0 ++ num ((N : Int) * 8) 8) := by
      show _ = _
      rw [HP.out]; unfold padOf; rw [HZ.out, Int.mul_comm]; simp
    have HS3 : Hid (w.heap.size ≤ w3.heap.size) := Nat.le_trans HB2.out.size HB3.out.size
    have HR4 : Hid (Row w4 w3.heap.size (1 + z + 8) ([128] ++ List.replicate z 0 ++ num ((N : Int) * 8) 8)) := r4
    clear r4 b4
    go_wp2
    go_ret
    exact ⟨w3.heap.size, _, _, rfl, by rw [HF.out, List.length_append, HM.out, HN.out], HS3.out, by rw [HF.out]; exact HR4.out, HB4.out⟩
  · have hl := isLen_no hn
    have HP : Hid (padI n = []) := by show padI _ = _; unfold padI; rw [if_neg hn]
    clear hn
    go_enter Tryd.func82, Tryd.ntmps82
    go_wp2_with fail
    refine (isShaLength _ _).mono ?_
    rintro e w1 ⟨rfl, rfl⟩
    go_wp2
    go_ret
    exact ⟨w.heap.size, 0, 0, by simp, by rw [HP.out]; rfl, Nat.le_refl _, by rw [HP.out]; exact row_new w [] (by simp), (Below.refl _ _).alloc (Nat.le_refl _) _⟩

def lenOf : Value → Nat
  | .slice _ n _ => n
  | _ => 0

set_option maxRecDepth 100000 in
set_option maxHeartbeats 800000 in
theorem specPad (n : Int) (w : World) :
    Calls Tryd.prog 77 #[.int .i64 n] w fun e w' =>
      ∃ g m cap, e = .returned (.slice (some ⟨g, 0, none⟩) m cap) ∧ m = (padI n).length ∧ w.heap.size ≤ g ∧ Row w' g cap (padI n) ∧ Below w.heap.size w w' := by
  by_cases hn : 0 ≤ n ∧ n ≤ 1048576
  · obtain ⟨h0, h1⟩ := hn
    obtain ⟨N, rfl⟩ := Int.eq_ofNat_of_zero_le h0
    have HP : Hid (padI (N : Int) = padOf N) := by show padI _ = _; unfold padI; rw [if_pos ⟨h0, h1⟩, Int.toNat_natCast]
    obtain ⟨z, hz⟩ : ∃ z : Nat, (64 - (N + 9) % 64) % 64 = z := ⟨_, rfl⟩
    have HZ : Hid ((64 - (N + 9) % 64) % 64 = z) := hz
    have hz64 : z < 64 := by omega
    clear hz
    have H1 : Hid (Below w.heap.size w (w.alloc (.cells #[.int .u8 128] 5))) := (Below.refl _ _).alloc (Nat.le_refl _) _
    have HR1 : Hid (Row (w.alloc (.cells #[.int .u8 128] 5)) w.heap.size 1 [128]) := row_new w [128] (by simp [maxLen])
    go_enter Tryd.func77, Tryd.ntmps77
    go_wp2
    go_loopw [3] (fun v wr => ∃ (j g c : Nat), j ≤ z ∧ v = .slice (some ⟨g, 0, none⟩) (1 + j) c ∧ w.heap.size ≤ g ∧ Row wr g c ([128] ++ List.replicate j 0) ∧ Below w.heap.size w wr)
      (fun v _ => z + 1 - lenOf v)
    case atStart => exact ⟨0, w.heap.size, 1, Nat.zero_le _, rfl, Nat.le_refl _, HR1.out, H1.out⟩
    case round =>
      obtain ⟨j, g, c, hj, rfl, hg, hrow, hb⟩ := hrel
      clear H1 HR1
      have HRow : Hid (Row wr g c ([128] ++ List.replicate j 0)) := hrow
      have HB : Hid (Below w.heap.size w wr) := hb
      have HL : Hid (([128] ++ List.replicate j (0 : Int)).length = 1 + j) := by show _ = _; simp; omega
      clear hrow hb
      by_cases hlt : j < z
      · have ht : 1 ≤ ((N : Int) + ((1 + j : Nat) : Int) + 8) % 64 := by have := HZ.out; omega
        go_wp2_with (at_builtin; refine wpList_app _ rfl (.tmp 19) (.tmp 20) rfl w.heap.size g (1 + j) c ([128] ++ List.replicate j 0) [0] rfl HL.out.symm (row_alloc HRow.out _) hg (some ⟨wr.heap.size, 0, none⟩) 1 1 rfl rfl (rd_one _ _) (by intro h; cases h) (by rw [HL.out]; simp; omega) ?_; intro g2 c2 w2 r2 b2 l2 gr2; have R2 : Hid (Row w2 g2 c2 ([128] ++ List.replicate j 0 ++ [0])) := r2; have B2 : Hid (Below w.heap.size w w2) := (HB.out.alloc HB.out.size _).grown gr2 (Nat.le_trans HB.out.size (by simp)) (fun k h => by cases h; exact hg); clear r2 gr2 l2)
        go_roundw
        case rel => exact ⟨j + 1, g2, c2, by omega, by simp [Nat.add_assoc], b2, by rw [List.replicate_succ', ← List.append_assoc]; exact R2.out, B2.out⟩
        case measure => simp [lenOf]; omega
      · obtain rfl : j = z := by omega
        have ht : ((N : Int) + ((1 + j : Nat) : Int) + 8) % 64 = 0 := by have := HZ.out; omega
        go_wp2_with fail
        refine (specPutN _ (1 + j) c _ 0 4 wr HL.out.symm HRow.out.rd (by intro h; cases h) (by rw [HL.out]; omega)).mono ?_
        rintro e w2 ⟨g2, m2, c2, rfl, e2, k2, r2, b2⟩
        have HR2 : Hid (Row w2 g2 c2 ([128] ++ List.replicate j 0 ++ putN 0 4)) := r2
        have HB2 : Hid (Below w.heap.size w w2) := HB.out.trans (b2.mono HB.out.size)
        have HE2 : Hid (m2 = ([128] ++ List.replicate j 0 ++ putN 0 4).length) := e2
        have HL2 : Hid (([128] ++ List.replicate j 0 ++ putN 0 4).length = 5 + j) := by show _ = _; rw [List.length_append, HL.out]; simp [putN, num_length]; omega
        clear r2 b2 e2 k2
        go_wp2_with fail
        refine (specPutN _ m2 c2 _ _ 4 w2 HE2.out HR2.out.rd (by intro h; cases h) (by rw [HL2.out]; omega)).mono ?_
        rintro e w3 ⟨g3, m3, c3, rfl, e3, k3, r3, b3⟩
        have HF : Hid (padI (N : Int) = [128] ++ List.replicate j 0 ++ putN 0 4 ++ putN (8 * (N : Int)) 4) := by
          show _ = _
          rw [HP.out]; unfold padOf; rw [HZ.out, pad_nums N (by omega)]; simp [putN]
        have HR3 : Hid (Row w3 g3 c3 ([128] ++ List.replicate j 0 ++ putN 0 4 ++ putN (8 * (N : Int)) 4)) := r3
        have HE3 : Hid (m3 = ([128] ++ List.replicate j 0 ++ putN 0 4 ++ putN (8 * (N : Int)) 4).length) := e3
        have HK3 : Hid (w.heap.size ≤ g3) := Nat.le_trans HB2.out.size k3
        have HB3 : Hid (Below w.heap.size w w3) := HB2.out.trans (b3.mono HB2.out.size)
        clear r3 b3 e3 k3
        go_wp2
        go_ret
        exact ⟨g3, m3, c3, rfl, by rw [HF.out]; exact HE3.out, HK3.out, by rw [HF.out]; exact HR3.out, HB3.out⟩
  · have HP : Hid (padI n = []) := by show padI _ = _; unfold padI; rw [if_neg hn]
    rcases (show n < 0 ∨ (0 ≤ n ∧ 1048576 < n) by omega) with hk | ⟨hk0, hk⟩
    all_goals
      go_enter Tryd.func77, Tryd.ntmps77
      go_wp2
      go_ret
      exact ⟨w.heap.size, 0, 0, by simp, by rw [HP.out]; rfl, Nat.le_refl _, by rw [HP.out]; exact row_new w [] (by simp), (Below.refl _ _).alloc (Nat.le_refl _) _⟩
end Go.Proofs.YtpenhliaelhnoaaDoor.Pads

namespace Go.Proofs.YtpenhliaelhnoaaDoor.Word
open Go.RowKit Go.Proofs.YtpenhliaelhnoaaDoor.Bits

set_option maxRecDepth 100000 in
theorem rot_none (x : Int) : wrap64 (bits BinOp.or IntKind.u32 (x % 4294967296) 0) = rot x 0 := by
  obtain ⟨X, hX⟩ := Int.eq_ofNat_of_zero_le (show 0 ≤ x % 4294967296 by omega)
  have h : bits BinOp.or IntKind.u32 (X : Int) ((0 : Nat) : Int) = ((X ||| 0 : Nat) : Int) := or_u32 X 0 (by omega) (by omega)
  unfold rot
  rw [if_neg (by omega), hX, show (0 : Int) = ((0 : Nat) : Int) from rfl, h, Nat.or_zero, IntWalk.wrap64_in _ (by omega)]

set_option maxRecDepth 100000 in
theorem implRot (x n : Int) (w : World) :
    Calls Tryd.prog 88 #[.int .i64 x, .int .i64 n] w fun e w' => e = .returned (.int .i64 (rot x n)) ∧ ∃ m, w' = w.drewN m := by
  by_cases h1 : n < 0
  · have hr : rot x n = x % 4294967296 := by unfold rot; rw [if_neg (by omega)]
    have H : Hid (rot x n = x % 4294967296) := hr
    clear hr
    go_enter Tryd.func88, Tryd.ntmps88
    go_wp2
    go_ret
    exact ⟨by rw [H.out]; rfl, 0, rfl⟩
  · by_cases h2 : 32 ≤ n
    · have hr : rot x n = x % 4294967296 := by unfold rot; rw [if_neg (by omega)]
      have H : Hid (rot x n = x % 4294967296) := hr
      clear hr
      go_enter Tryd.func88, Tryd.ntmps88
      go_wp2
      go_ret
      exact ⟨by rw [H.out]; rfl, 0, rfl⟩
    · by_cases h3 : n = 0
      · subst h3
        go_enter Tryd.func88, Tryd.ntmps88
        go_wp2
        go_quiet (fail)
        go_wp2
        go_ret
        exact ⟨congrArg (fun z => Ending.returned (.int .i64 z)) (rot_none x), _, rfl⟩
      · have a1 : 1 ≤ n := by omega
        have a2 : n ≤ 31 := by omega
        clear h1 h2 h3
        go_enter Tryd.func88, Tryd.ntmps88
        go_wp2
        go_quiet (fail)
        go_wp2
        go_ret
        exact ⟨congrArg (fun z => Ending.returned (.int .i64 z)) (rot_word x n a1 a2), _, rfl⟩

set_option maxRecDepth 100000 in
theorem specRot (x n : Int) (w : World) :
    Calls Tryd.prog 86 #[.int .i64 x, .int .i64 n] w fun e w' => e = .returned (.int .i64 (rot x n)) ∧ ∃ m, w' = w.drewN m := by
  have hm := mask32 x
  by_cases h : 1 ≤ n ∧ n ≤ 31
  · obtain ⟨a1, a2⟩ := h
    go_enter Tryd.func86, Tryd.ntmps86
    go_wp2
    go_quiet (fail)
    go_wp2
    go_ret
    exact ⟨congrArg (fun z => Ending.returned (.int .i64 z)) (rot_wide x n a1 a2), _, rfl⟩
  · have hr : rot x n = x % 4294967296 := by unfold rot; rw [if_neg h]
    have H : Hid (rot x n = x % 4294967296) := hr
    clear hr
    rcases (show n < 1 ∨ 31 < n by omega) with h' | h'
    all_goals
      go_enter Tryd.func86, Tryd.ntmps86
      go_wp2
      go_ret
      exact ⟨by rw [H.out]; rfl, 0, rfl⟩

set_option maxRecDepth 100000 in
theorem implAdd (a b : Int) (w : World) :
    Calls Tryd.prog 89 #[.int .i64 a, .int .i64 b] w fun e w' => e = .returned (.int .i64 ((a + b) % 4294967296)) ∧ w' = w := by
  go_enter Tryd.func89, Tryd.ntmps89
  go_wp2
  go_ret
  exact ⟨rfl, rfl⟩

set_option maxRecDepth 100000 in
theorem add_wide (a b : Int) : bits BinOp.and IntKind.i64 (a % 4294967296 + b % 4294967296) 4294967295 = (a + b) % 4294967296 := by
  rw [mask32]; omega

end Go.Proofs.YtpenhliaelhnoaaDoor.Word
