/-
  What impl's KindName and KindOf answer, where the names lie in their table.
-/
import Derived.Test.YtfapehmbecgjaaaDoorFrKn
namespace Go.Proofs.YtfapehmbecgjaaaDoor.FrJ
open Go.RowKit Go.Proofs.YtfapehmbecgjaaaDoor.Mem Go.Proofs.YtfapehmbecgjaaaDoor.Words Go.Proofs.YtfapehmbecgjaaaDoor.FrKn

/-- The table of names. -/
def NamesAt (w : World) : Prop := 0 < w.heap.size ∧ ∀ i, i < 8 → w.cell? ⟨0, i, none⟩ = some (.string (names.getD i ⟨#[]⟩))
theorem NamesAt.later {w w' : World} (h : NamesAt w) (b : Below w.heap.size w w') : NamesAt w' :=
  ⟨Nat.lt_of_lt_of_le h.1 b.size, fun i hi => by rw [b.cell h.1]; exact h.2 i hi⟩
set_option maxRecDepth 100000 in
set_option maxHeartbeats 1600000 in
theorem implKindName (k : Int) (w : World) (hN : NamesAt w) :
    Calls Tryd.prog 8 #[.int .i64 k] w fun e w' => e = .returned (.string (nameOf k)) ∧ w = w' := by
  have HN : Hid (NamesAt w) := hN
  clear hN
  by_cases h1 : k < 1
  · have H : Hid (nameOf k = ⟨#[]⟩) := by show _ = _; unfold nameOf; rw [if_neg (by rw [isIn_no (by omega)]; simp)]
    go_enter Tryd.func8, Tryd.ntmps8
    go_wp2
    go_ret
    exact ⟨by rw [H.out]; rfl, rfl⟩
  · by_cases h2 : k > 8
    · have H : Hid (nameOf k = ⟨#[]⟩) := by show _ = _; unfold nameOf; rw [if_neg (by rw [isIn_no (by omega)]; simp)]
      go_enter Tryd.func8, Tryd.ntmps8
      go_wp2
      go_ret
      exact ⟨by rw [H.out]; rfl, rfl⟩
    · obtain ⟨q, hq⟩ : ∃ q : Nat, k - 1 = (q : Int) := ⟨(k - 1).toNat, by omega⟩
      have hwr : IntKind.i64.wrap (k - 1) = (q : Int) := by rw [IntKind.wrap_i64]; omega
      have hq8 : (q : Int) < 8 := by omega
      have hq0 : (0 : Int) ≤ (q : Int) := by omega
      have HQ : Hid (nameOf k = names.getD q ⟨#[]⟩) := by show _ = _; unfold nameOf; rw [if_pos (isIn_yes (by omega)), hq, Int.toNat_natCast]
      have hc := HN.out.2 q (by omega)
      clear hq
      generalize names.getD q ⟨#[]⟩ = z at *
      go_enter Tryd.func8, Tryd.ntmps8
      go_wp2
      go_ret
      exact ⟨by rw [HQ.out]; rfl, rfl⟩
theorem isKind_yes (s : ByteArray) (q : Nat) (hq : q < 8) (h : names.getD q ⟨#[]⟩ = s) : IsKind s (1 + (q : Int)) := by
  refine .inl ⟨by omega, by omega, ?_⟩
  unfold nameOf
  rw [if_pos (isIn_yes (by omega)), show ((1 + (q : Int)) - 1).toNat = q by omega]
  exact h
theorem isKind_no (s : ByteArray) (h : ∀ q, q < 8 → names.getD q ⟨#[]⟩ ≠ s) : IsKind s 0 := by
  refine .inr ⟨rfl, fun j h1 h2 => ?_⟩
  unfold nameOf
  rw [if_pos (isIn_yes (by omega))]
  exact h _ (by omega)
theorem ix0 (z0 z1 z2 z3 z4 z5 z6 z7 : ByteArray) (w : World) : (Instr.index 33 (.agg #[.string z0, .string z1, .string z2, .string z3, .string z4, .string z5, .string z6, .string z7]) (.int .i64 0)).run Tryd.prog w = .ok (.string z0) w := by kernel_rfl
theorem ix1 (z0 z1 z2 z3 z4 z5 z6 z7 : ByteArray) (w : World) : (Instr.index 33 (.agg #[.string z0, .string z1, .string z2, .string z3, .string z4, .string z5, .string z6, .string z7]) (.int .i64 1)).run Tryd.prog w = .ok (.string z1) w := by kernel_rfl
theorem ix2 (z0 z1 z2 z3 z4 z5 z6 z7 : ByteArray) (w : World) : (Instr.index 33 (.agg #[.string z0, .string z1, .string z2, .string z3, .string z4, .string z5, .string z6, .string z7]) (.int .i64 2)).run Tryd.prog w = .ok (.string z2) w := by kernel_rfl
theorem ix3 (z0 z1 z2 z3 z4 z5 z6 z7 : ByteArray) (w : World) : (Instr.index 33 (.agg #[.string z0, .string z1, .string z2, .string z3, .string z4, .string z5, .string z6, .string z7]) (.int .i64 3)).run Tryd.prog w = .ok (.string z3) w := by kernel_rfl
theorem ix4 (z0 z1 z2 z3 z4 z5 z6 z7 : ByteArray) (w : World) : (Instr.index 33 (.agg #[.string z0, .string z1, .string z2, .string z3, .string z4, .string z5, .string z6, .string z7]) (.int .i64 4)).run Tryd.prog w = .ok (.string z4) w := by kernel_rfl
theorem ix5 (z0 z1 z2 z3 z4 z5 z6 z7 : ByteArray) (w : World) : (Instr.index 33 (.agg #[.string z0, .string z1, .string z2, .string z3, .string z4, .string z5, .string z6, .string z7]) (.int .i64 5)).run Tryd.prog w = .ok (.string z5) w := by kernel_rfl
theorem ix6 (z0 z1 z2 z3 z4 z5 z6 z7 : ByteArray) (w : World) : (Instr.index 33 (.agg #[.string z0, .string z1, .string z2, .string z3, .string z4, .string z5, .string z6, .string z7]) (.int .i64 6)).run Tryd.prog w = .ok (.string z6) w := by kernel_rfl
theorem ix7 (z0 z1 z2 z3 z4 z5 z6 z7 : ByteArray) (w : World) : (Instr.index 33 (.agg #[.string z0, .string z1, .string z2, .string z3, .string z4, .string z5, .string z6, .string z7]) (.int .i64 7)).run Tryd.prog w = .ok (.string z7) w := by kernel_rfl
set_option maxRecDepth 100000 in
set_option maxHeartbeats 4000000 in
theorem implKindOf (s : ByteArray) (w : World) (hN : NamesAt w) :
    Calls Tryd.prog 10 #[.string s] w fun e w' => ∃ k, e = .returned (.int .i64 k) ∧ IsKind s k ∧ w = w' := by
  have HN : Hid (NamesAt w) := hN
  have c0 := hN.2 0 (by omega)
  have c1 := hN.2 1 (by omega)
  have c2 := hN.2 2 (by omega)
  have c3 := hN.2 3 (by omega)
  have c4 := hN.2 4 (by omega)
  have c5 := hN.2 5 (by omega)
  have c6 := hN.2 6 (by omega)
  have c7 := hN.2 7 (by omega)
  simp only [names, List.getD_cons_zero, List.getD_cons_succ] at c0 c1 c2 c3 c4 c5 c6 c7
  generalize hz0 : (⟨#[105, 110, 105, 116]⟩ : ByteArray) = z0 at c0
  generalize hz1 : (⟨#[99, 111, 111, 107, 105, 101]⟩ : ByteArray) = z1 at c1
  generalize hz2 : (⟨#[102, 105, 110, 105, 115, 104]⟩ : ByteArray) = z2 at c2
  generalize hz3 : (⟨#[100, 97, 116, 97]⟩ : ByteArray) = z3 at c3
  generalize hz4 : (⟨#[99, 104, 97, 108, 108, 101, 110, 103, 101]⟩ : ByteArray) = z4 at c4
  generalize hz5 : (⟨#[114, 101, 115, 112, 111, 110, 115, 101]⟩ : ByteArray) = z5 at c5
  generalize hz6 : (⟨#[114, 101, 107, 101, 121]⟩ : ByteArray) = z6 at c6
  generalize hz7 : (⟨#[114, 101, 107, 101, 121, 97, 99, 107]⟩ : ByteArray) = z7 at c7
  have HZ : Hid (names = [z0, z1, z2, z3, z4, z5, z6, z7]) := by show _ = _; unfold names; rw [hz0, hz1, hz2, hz3, hz4, hz5, hz6, hz7]
  clear hN HN hz0 hz1 hz2 hz3 hz4 hz5 hz6 hz7
  have ix0 := ix0 z0 z1 z2 z3 z4 z5 z6 z7
  have ix1 := ix1 z0 z1 z2 z3 z4 z5 z6 z7
  have ix2 := ix2 z0 z1 z2 z3 z4 z5 z6 z7
  have ix3 := ix3 z0 z1 z2 z3 z4 z5 z6 z7
  have ix4 := ix4 z0 z1 z2 z3 z4 z5 z6 z7
  have ix5 := ix5 z0 z1 z2 z3 z4 z5 z6 z7
  have ix6 := ix6 z0 z1 z2 z3 z4 z5 z6 z7
  have ix7 := ix7 z0 z1 z2 z3 z4 z5 z6 z7
  go_enter Tryd.func10, Tryd.ntmps10
  go_wp2
  go_loop [6] (fun i => ∃ k : Nat, k ≤ 8 ∧ i = .int .i64 k ∧ ∀ q, q < k → names.getD q ⟨#[]⟩ ≠ s) (fun i => 8 - (intOf i).toNat)
  case atStart => exact ⟨0, by omega, rfl, fun q hq => by omega⟩
  case round =>
    obtain ⟨k, hk, rfl, hno⟩ := hrel
    have HNO : Hid (∀ q, q < k → names.getD q ⟨#[]⟩ ≠ s) := hno
    clear hno
    by_cases h8 : k = 8
    · subst h8
      go_wp2
      go_ret
      exact ⟨0, rfl, isKind_no s HNO.out, rfl⟩
    have hc : k = 0 ∨ k = 1 ∨ k = 2 ∨ k = 3 ∨ k = 4 ∨ k = 5 ∨ k = 6 ∨ k = 7 := by omega
    clear h8 hk
    rcases hc with rfl | rfl | rfl | rfl | rfl | rfl | rfl | rfl
    · have HJ : Hid (names.getD 0 ⟨#[]⟩ = z0) := by show _ = _; rw [HZ.out]; rfl
      cases hs : (z0.toList == s.toList) with
      | true =>
        have HE : Hid (z0 = s) := eq_of_data hs
        go_wp2
        go_ret
        exact ⟨1, rfl, isKind_yes s 0 (by omega) (HJ.out.trans HE.out), rfl⟩
      | false =>
        have HE : Hid (z0 ≠ s) := fun e => by rw [e] at hs; simp at hs
        go_wp2
        go_round
        case rel =>
          refine ⟨1, by omega, rfl, fun q hq => ?_⟩
          by_cases e : q = 0
          · rw [e, HJ.out]; exact HE.out
          · exact HNO.out q (by omega)
        case measure => simp [intOf]
    · have HJ : Hid (names.getD 1 ⟨#[]⟩ = z1) := by show _ = _; rw [HZ.out]; rfl
      cases hs : (z1.toList == s.toList) with
      | true =>
        have HE : Hid (z1 = s) := eq_of_data hs
        go_wp2
        go_ret
        exact ⟨2, rfl, isKind_yes s 1 (by omega) (HJ.out.trans HE.out), rfl⟩
      | false =>
        have HE : Hid (z1 ≠ s) := fun e => by rw [e] at hs; simp at hs
        go_wp2
        go_round
        case rel =>
          refine ⟨2, by omega, rfl, fun q hq => ?_⟩
          by_cases e : q = 1
          · rw [e, HJ.out]; exact HE.out
          · exact HNO.out q (by omega)
        case measure => simp [intOf]
    · have HJ : Hid (names.getD 2 ⟨#[]⟩ = z2) := by show _ = _; rw [HZ.out]; rfl
      cases hs : (z2.toList == s.toList) with
      | true =>
        have HE : Hid (z2 = s) := eq_of_data hs
        go_wp2
        go_ret
        exact ⟨3, rfl, isKind_yes s 2 (by omega) (HJ.out.trans HE.out), rfl⟩
      | false =>
        have HE : Hid (z2 ≠ s) := fun e => by rw [e] at hs; simp at hs
        go_wp2
        go_round
        case rel =>
          refine ⟨3, by omega, rfl, fun q hq => ?_⟩
          by_cases e : q = 2
          · rw [e, HJ.out]; exact HE.out
          · exact HNO.out q (by omega)
        case measure => simp [intOf]
    · have HJ : Hid (names.getD 3 ⟨#[]⟩ = z3) := by show _ = _; rw [HZ.out]; rfl
      cases hs : (z3.toList == s.toList) with
      | true =>
        have HE : Hid (z3 = s) := eq_of_data hs
        go_wp2
        go_ret
        exact ⟨4, rfl, isKind_yes s 3 (by omega) (HJ.out.trans HE.out), rfl⟩
      | false =>
        have HE : Hid (z3 ≠ s) := fun e => by rw [e] at hs; simp at hs
        go_wp2
        go_round
        case rel =>
          refine ⟨4, by omega, rfl, fun q hq => ?_⟩
          by_cases e : q = 3
          · rw [e, HJ.out]; exact HE.out
          · exact HNO.out q (by omega)
        case measure => simp [intOf]
    · have HJ : Hid (names.getD 4 ⟨#[]⟩ = z4) := by show _ = _; rw [HZ.out]; rfl
      cases hs : (z4.toList == s.toList) with
      | true =>
        have HE : Hid (z4 = s) := eq_of_data hs
        go_wp2
        go_ret
        exact ⟨5, rfl, isKind_yes s 4 (by omega) (HJ.out.trans HE.out), rfl⟩
      | false =>
        have HE : Hid (z4 ≠ s) := fun e => by rw [e] at hs; simp at hs
        go_wp2
        go_round
        case rel =>
          refine ⟨5, by omega, rfl, fun q hq => ?_⟩
          by_cases e : q = 4
          · rw [e, HJ.out]; exact HE.out
          · exact HNO.out q (by omega)
        case measure => simp [intOf]
    · have HJ : Hid (names.getD 5 ⟨#[]⟩ = z5) := by show _ = _; rw [HZ.out]; rfl
      cases hs : (z5.toList == s.toList) with
      | true =>
        have HE : Hid (z5 = s) := eq_of_data hs
        go_wp2
        go_ret
        exact ⟨6, rfl, isKind_yes s 5 (by omega) (HJ.out.trans HE.out), rfl⟩
      | false =>
        have HE : Hid (z5 ≠ s) := fun e => by rw [e] at hs; simp at hs
        go_wp2
        go_round
        case rel =>
          refine ⟨6, by omega, rfl, fun q hq => ?_⟩
          by_cases e : q = 5
          · rw [e, HJ.out]; exact HE.out
          · exact HNO.out q (by omega)
        case measure => simp [intOf]
    · have HJ : Hid (names.getD 6 ⟨#[]⟩ = z6) := by show _ = _; rw [HZ.out]; rfl
      cases hs : (z6.toList == s.toList) with
      | true =>
        have HE : Hid (z6 = s) := eq_of_data hs
        go_wp2
        go_ret
        exact ⟨7, rfl, isKind_yes s 6 (by omega) (HJ.out.trans HE.out), rfl⟩
      | false =>
        have HE : Hid (z6 ≠ s) := fun e => by rw [e] at hs; simp at hs
        go_wp2
        go_round
        case rel =>
          refine ⟨7, by omega, rfl, fun q hq => ?_⟩
          by_cases e : q = 6
          · rw [e, HJ.out]; exact HE.out
          · exact HNO.out q (by omega)
        case measure => simp [intOf]
    · have HJ : Hid (names.getD 7 ⟨#[]⟩ = z7) := by show _ = _; rw [HZ.out]; rfl
      cases hs : (z7.toList == s.toList) with
      | true =>
        have HE : Hid (z7 = s) := eq_of_data hs
        go_wp2
        go_ret
        exact ⟨8, rfl, isKind_yes s 7 (by omega) (HJ.out.trans HE.out), rfl⟩
      | false =>
        have HE : Hid (z7 ≠ s) := fun e => by rw [e] at hs; simp at hs
        go_wp2
        go_round
        case rel =>
          refine ⟨8, by omega, rfl, fun q hq => ?_⟩
          by_cases e : q = 7
          · rw [e, HJ.out]; exact HE.out
          · exact HNO.out q (by omega)
        case measure => simp [intOf]
end Go.Proofs.YtfapehmbecgjaaaDoor.FrJ
