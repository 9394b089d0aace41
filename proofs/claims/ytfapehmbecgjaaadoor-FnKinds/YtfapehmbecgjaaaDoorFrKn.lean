/-
  The names of kinds; what spec's KindName and KindOf answer.
-/
import Derived.Test.YtfapehmbecgjaaaDoorWords
import Derived.Test.YtfapehmbecgjaaaDoorBlk
import Derived.Test.YtfapehmbecgjaaaDoorStrs
import Derived.Deep.CutBlock
namespace Go.Proofs.YtfapehmbecgjaaaDoor.FrKn
open Go.RowKit Go.Proofs.YtfapehmbecgjaaaDoor.Mem Go.Proofs.YtfapehmbecgjaaaDoor.App Go.Proofs.YtfapehmbecgjaaaDoor.Blk Go.Proofs.YtfapehmbecgjaaaDoor.Words Go.Proofs.YtfapehmbecgjaaaDoor.Strs

def names : List ByteArray := [⟨#[105, 110, 105, 116]⟩, ⟨#[99, 111, 111, 107, 105, 101]⟩, ⟨#[102, 105, 110, 105, 115, 104]⟩, ⟨#[100, 97, 116, 97]⟩, ⟨#[99, 104, 97, 108, 108, 101, 110, 103, 101]⟩, ⟨#[114, 101, 115, 112, 111, 110, 115, 101]⟩, ⟨#[114, 101, 107, 101, 121]⟩, ⟨#[114, 101, 107, 101, 121, 97, 99, 107]⟩]
def nameOf (k : Int) : ByteArray := if isIn k 1 8 = true then names.getD (k - 1).toNat ⟨#[]⟩ else ⟨#[]⟩
/-- The kind of a name. -/
def IsKind (s : ByteArray) (k : Int) : Prop := (1 ≤ k ∧ k ≤ 8 ∧ nameOf k = s) ∨ (k = 0 ∧ ∀ j : Int, 1 ≤ j → j ≤ 8 → nameOf j ≠ s)
theorem nameOf_inj (j k : Int) (h1 : 1 ≤ j) (h2 : j ≤ 8) (h3 : 1 ≤ k) (h4 : k ≤ 8) (h : nameOf j = nameOf k) : j = k := by
  have hj : j = 1 ∨ j = 2 ∨ j = 3 ∨ j = 4 ∨ j = 5 ∨ j = 6 ∨ j = 7 ∨ j = 8 := by omega
  have hk : k = 1 ∨ k = 2 ∨ k = 3 ∨ k = 4 ∨ k = 5 ∨ k = 6 ∨ k = 7 ∨ k = 8 := by omega
  rcases hj with rfl | rfl | rfl | rfl | rfl | rfl | rfl | rfl <;> rcases hk with rfl | rfl | rfl | rfl | rfl | rfl | rfl | rfl <;> first | rfl | exact absurd h (by decide)
theorem IsKind.unique {s : ByteArray} {j k : Int} (a : IsKind s j) (b : IsKind s k) : j = k := by
  rcases a with ⟨a1, a2, a3⟩ | ⟨rfl, a2⟩
  · rcases b with ⟨b1, b2, b3⟩ | ⟨rfl, b2⟩
    · exact nameOf_inj j k a1 a2 b1 b2 (a3.trans b3.symm)
    · exact absurd a3 (b2 j a1 a2)
  · rcases b with ⟨b1, b2, b3⟩ | ⟨rfl, _⟩
    · exact absurd b3 (a2 k b1 b2)
    · rfl
theorem eq_of_data {a b : ByteArray} (h : (a.toList == b.toList) = true) : a = b := by
  have h := eq_of_beq h
  obtain ⟨⟨x⟩⟩ := a
  obtain ⟨⟨y⟩⟩ := b
  simpa using h

set_option maxRecDepth 100000 in
set_option maxHeartbeats 1600000 in
theorem specKindName (k : Int) (w : World) :
    Calls Tryd.prog 13 #[.int .i64 k] w fun e w' => e = .returned (.string (nameOf k)) ∧ Below w.heap.size w w' := by
  obtain ⟨x0, hx0⟩ : ∃ x0, w.alloc (.cells (names.map Value.string).toArray 9) = x0 := ⟨_, rfl⟩
  have HW0 : Hid (w.alloc (.cells (names.map Value.string).toArray 9) = x0) := hx0
  have B0 : Hid (Below w.heap.size w x0) := by rw [← hx0]; exact (Below.refl _ _).alloc (Nat.le_refl _) _
  have N0 : Hid (StrsAt x0 w.heap.size names) := by rw [← hx0]; exact strs_new w names
  clear hx0
  go_enter Tryd.func13, Tryd.ntmps13
  go_upto_region 2 with fail
  have HW1 : Hid (w.alloc (.cells #[.string ⟨#[105, 110, 105, 116]⟩, .string ⟨#[99, 111, 111, 107, 105, 101]⟩, .string ⟨#[102, 105, 110, 105, 115, 104]⟩, .string ⟨#[100, 97, 116, 97]⟩, .string ⟨#[99, 104, 97, 108, 108, 101, 110, 103, 101]⟩, .string ⟨#[114, 101, 115, 112, 111, 110, 115, 101]⟩, .string ⟨#[114, 101, 107, 101, 121]⟩, .string ⟨#[114, 101, 107, 101, 121, 97, 99, 107]⟩] 9) = x0) := HW0.out
  rw [HW1.out]
  clear HW0 HW1
  go_wp2_with fail
  refine (l1In k 1 8 x0).mono ?_
  rintro e x1 ⟨rfl, rfl⟩
  cases hk : isIn k 1 8 with
  | false =>
    have HN : Hid (nameOf k = ⟨#[]⟩) := by show _ = _; unfold nameOf; rw [if_neg (by rw [hk]; simp)]
    clear hk
    go_wp2
    go_ret
    exact ⟨by simp [HN.out], B0.out⟩
  | true =>
    have h1 : 1 ≤ k ∧ k ≤ 8 := by unfold isIn at hk; exact of_decide_eq_true hk
    obtain ⟨q, hq⟩ : ∃ q : Nat, k - 1 = (q : Int) := ⟨(k - 1).toNat, by omega⟩
    have hwr : IntKind.i64.wrap (k - 1) = (q : Int) := by rw [IntKind.wrap_i64]; omega
    have hq8 : (q : Int) < 8 := by omega
    have hq0 : (0 : Int) ≤ (q : Int) := by omega
    have HN : Hid (nameOf k = names.getD q ⟨#[]⟩) := by show _ = _; unfold nameOf; rw [if_pos hk, hq, Int.toNat_natCast]
    have hc := N0.out q (by show q < 8; omega)
    clear hk hq h1
    generalize names.getD q ⟨#[]⟩ = z at *
    go_wp2
    go_ret
    exact ⟨by simp [HN.out], B0.out⟩

set_option maxRecDepth 100000 in
set_option maxHeartbeats 1600000 in
theorem specKindOf (s : ByteArray) (w : World) :
    Calls Tryd.prog 12 #[.string s] w fun e w' => ∃ k, e = .returned (.int .i64 k) ∧ IsKind s k ∧ Below w.heap.size w w' := by
  go_enter Tryd.func12, Tryd.ntmps12
  go_wp2
  go_loopw [3] (fun i wr => ∃ q : Int, 1 ≤ q ∧ q ≤ 9 ∧ i = .int .i64 q ∧ (∀ j : Int, 1 ≤ j → j < q → nameOf j ≠ s) ∧ Below w.heap.size w wr)
    (fun i _ => 9 - (intOf i).toNat)
  case atStart => exact ⟨1, by omega, by omega, rfl, fun j h1 h2 => by omega, Below.refl _ _⟩
  case round =>
    obtain ⟨q, h1, h2, rfl, hn, hb⟩ := hrel
    have HN : Hid (∀ j : Int, 1 ≤ j → j < q → nameOf j ≠ s) := hn
    have HB : Hid (Below w.heap.size w wr) := hb
    clear hn hb
    by_cases h3 : q ≤ 8
    · go_wp2_with fail
      refine (specKindName q wr).mono ?_
      obtain ⟨z, hz⟩ : ∃ z, nameOf q = z := ⟨_, rfl⟩
      have HZ : Hid (nameOf q = z) := hz
      rw [hz]
      rintro e w1 ⟨rfl, b1⟩
      have B1 : Hid (Below w.heap.size w w1) := HB.out.trans (b1.mono HB.out.size)
      clear b1 hz
      cases he : (z.toList == s.toList) with
      | true =>
        have HE : Hid (z = s) := eq_of_data he
        go_wp2
        go_ret
        exact ⟨q, rfl, .inl ⟨h1, h3, HZ.out.trans HE.out⟩, B1.out⟩
      | false =>
        have HE : Hid (z ≠ s) := by intro e; rw [e] at he; simp at he
        have hw : IntKind.i64.wrap (q + 1) = q + 1 := by rw [IntKind.wrap_i64]; omega
        go_wp2
        go_roundw
        case rel => exact ⟨q + 1, by omega, by omega, rfl, fun j j1 j2 => by
          by_cases e : j = q
          · rw [e, HZ.out]; exact HE.out
          · exact HN.out j j1 (by omega), B1.out⟩
        case measure => simp [intOf]; omega
    · go_wp2
      go_ret
      exact ⟨0, rfl, .inr ⟨rfl, fun j j1 j2 => HN.out j j1 (by omega)⟩, HB.out⟩
end Go.Proofs.YtfapehmbecgjaaaDoor.FrKn
