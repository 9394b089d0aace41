/-
  The walk of the law FnKinds: at every code kinds come back of their names, and those behind the handshake are sealed.
-/
import Derived.Test.YtfapehmbecgjaaaDoorFrJ
import Derived.Test.YtfapehmbecgjaaaDoorFrSd
import Derived.Test.YtfapehmbecgjaaaDoorStrs
namespace Go.Proofs.YtfapehmbecgjaaaDoor.LawKinds
open Go.RowKit Go.Proofs.YtfapehmbecgjaaaDoor.Mem Go.Proofs.YtfapehmbecgjaaaDoor.App Go.Proofs.YtfapehmbecgjaaaDoor.Words Go.Proofs.YtfapehmbecgjaaaDoor.Draw Go.Proofs.YtfapehmbecgjaaaDoor.Strs Go.Proofs.YtfapehmbecgjaaaDoor.FrKn Go.Proofs.YtfapehmbecgjaaaDoor.FrJ Go.Proofs.YtfapehmbecgjaaaDoor.FrSd

theorem bigNo (a : Option Addr) (len cap : Nat) (w : World) (h : len ≤ 1048576) :
    Calls Tryd.prog 6 #[.slice a len cap] w fun e w' => e = .returned (.bool false) ∧ w = w' := by
  have h' : ¬ ((1048576 : Int) < (len : Int)) := by omega
  go_enter Tryd.func6, Tryd.ntmps6
  go_wp2
  go_ret
  exact ⟨rfl, rfl⟩
theorem bigYes (a : Option Addr) (len cap : Nat) (w : World) (h : 1048576 < len) :
    Calls Tryd.prog 6 #[.slice a len cap] w fun e w' => e = .returned (.bool true) ∧ w = w' := by
  have h' : (1048576 : Int) < (len : Int) := by omega
  go_enter Tryd.func6, Tryd.ntmps6
  go_wp2
  go_ret
  exact ⟨rfl, rfl⟩
set_option maxRecDepth 100000 in
set_option maxHeartbeats 800000 in
theorem drawKindName (a : Option Addr) (len cap : Nat) (l : List Int) (w : World) (hl : len = l.length) (hr : Rd w a l) (hb : Bytes l) (hlen : len ≤ 1048576) :
    Calls Tryd.prog 7 #[.slice a len cap] w fun e w' => ∃ k : Int, e = .returned (.int .i64 k) ∧ -1 ≤ k ∧ k ≤ 10 ∧ Below w.heap.size w w' := by
  have HR : Hid (Rd w a l) := hr
  have HL : Hid (len = l.length) := hl
  have HB : Hid (Bytes l) := hb
  clear hr hl hb
  go_enter Tryd.func7, Tryd.ntmps7
  go_wp2_with fail
  refine (newCur a len cap l w HL.out HR.out HB.out hlen).mono ?_
  rintro e w1 ⟨p, rfl, r1⟩
  have R1 : Hid (Ready w a len cap l p w1) := r1
  clear r1
  go_wp2_with fail
  refine (below R1.out 12 (by omega) (by omega)).mono ?_
  rintro e w2 ⟨x, rfl, x0, x1, r2, b2⟩
  have R2 : Hid (Ready w a len cap l p w2) := r2
  have hw : IntKind.i64.wrap (x - 1) = x - 1 := by rw [IntKind.wrap_i64]; omega
  clear r2 b2
  go_wp2
  go_ret
  exact ⟨x - 1, rfl, by omega, by omega, R2.out.hB⟩
set_option maxRecDepth 100000 in
set_option maxHeartbeats 1600000 in
theorem drawKindOf (a : Option Addr) (len cap : Nat) (l : List Int) (w : World) (hl : len = l.length) (hr : Rd w a l) (hb : Bytes l) (hlen : len ≤ 1048576) :
    Calls Tryd.prog 9 #[.slice a len cap] w fun e w' => ∃ s : ByteArray, e = .returned (.string s) ∧ Below w.heap.size w w' := by
  have HR : Hid (Rd w a l) := hr
  have HL : Hid (len = l.length) := hl
  have HB : Hid (Bytes l) := hb
  clear hr hl hb
  go_enter Tryd.func9, Tryd.ntmps9
  go_wp2_with fail
  refine (newCur a len cap l w HL.out HR.out HB.out hlen).mono ?_
  rintro e w1 ⟨p, rfl, r1⟩
  have R1 : Hid (Ready w a len cap l p w1) := r1
  clear r1
  go_wp2_with fail
  refine (once R1.out 3 (by omega) (by omega)).mono ?_
  rintro e w2 ⟨x, rfl, r2, b2⟩
  have R2 : Hid (Ready w a len cap l p w2) := r2
  clear r2 b2 R1
  cases x with
  | true =>
    obtain ⟨x3, hx3⟩ : ∃ x3, w2.alloc (.cells (([⟨#[]⟩, ⟨#[73, 110, 105, 116]⟩, ⟨#[114, 101, 107, 101, 121, 97]⟩, ⟨#[100, 97, 116, 97, 115]⟩] : List ByteArray).map Value.string).toArray 9) = x3 := ⟨_, rfl⟩
    have HW3 : Hid (w2.alloc (.cells #[.string ⟨#[]⟩, .string ⟨#[73, 110, 105, 116]⟩, .string ⟨#[114, 101, 107, 101, 121, 97]⟩, .string ⟨#[100, 97, 116, 97, 115]⟩] 9) = x3) := hx3
    have R3 : Hid (Ready w a len cap l p x3) := by rw [← hx3]; exact R2.out.alloc _
    have S3 : Hid (StrsAt x3 w2.heap.size [⟨#[]⟩, ⟨#[73, 110, 105, 116]⟩, ⟨#[114, 101, 107, 101, 121, 97]⟩, ⟨#[100, 97, 116, 97, 115]⟩]) := by rw [← hx3]; exact strs_new w2 _
    have hlt : p < w2.heap.size := R2.out.hc.lt
    clear hx3
    go_wp2_with fail
    rw [HW3.out]
    clear HW3
    have hne : w2.heap.size ≠ p := by omega
    clear hlt
    generalize w2.heap.size = gq at *
    refine (strOfList R3.out gq 4 [⟨#[]⟩, ⟨#[73, 110, 105, 116]⟩, ⟨#[114, 101, 107, 101, 121, 97]⟩, ⟨#[100, 97, 116, 97, 115]⟩] rfl S3.out hne (by omega) (by omega)).mono ?_
    rintro e x4 ⟨s, rfl, _, r4, b4⟩
    have R4 : Hid (Ready w a len cap l p x4) := r4
    clear r4 b4
    go_wp2
    go_ret
    exact ⟨s, rfl, R4.out.hB⟩
  | false =>
    go_wp2_with fail
    refine (below R2.out 8 (by omega) (by omega)).mono ?_
    rintro e w3 ⟨x, rfl, x0, x1, r3, b3⟩
    have R3 : Hid (Ready w a len cap l p w3) := r3
    have hw : IntKind.i64.wrap (1 + x) = 1 + x := by rw [IntKind.wrap_i64]; omega
    clear r3 b3
    go_wp2_with fail
    refine (specKindName (1 + x) w3).mono ?_
    rintro e w4 ⟨rfl, b4⟩
    have B4 : Hid (Below w.heap.size w w4) := R3.out.hB.trans (b4.mono R3.out.hB.size)
    clear b4
    go_wp2
    go_ret
    exact ⟨_, rfl, B4.out⟩
theorem name_some (k : Int) (h1 : 1 ≤ k) (h2 : k ≤ 8) : ((nameOf k).toList == ([] : List UInt8)) = false := by
  have hk : k = 1 ∨ k = 2 ∨ k = 3 ∨ k = 4 ∨ k = 5 ∨ k = 6 ∨ k = 7 ∨ k = 8 := by omega
  cases h : ((nameOf k).toList == ([] : List UInt8)) with
  | false => rfl
  | true =>
    have e : nameOf k = ⟨#[]⟩ := eq_of_data (by rw [show (⟨#[]⟩ : ByteArray).toList = [] by simp]; exact h)
    rcases hk with rfl | rfl | rfl | rfl | rfl | rfl | rfl | rfl <;> exact absurd e (by decide)
theorem name_none (k : Int) (h : k < 1 ∨ 8 < k) : nameOf k = ⟨#[]⟩ := by unfold nameOf; rw [if_neg (by rw [isIn_no (by omega)]; simp)]
set_option maxRecDepth 100000 in
set_option maxHeartbeats 4000000 in
theorem small (a : Option Addr) (len cap : Nat) (l : List Int) (w : World) (hN : NamesAt w) (hl : len = l.length) (hr : Rd w a l) (hb : Bytes l) (hlen : len ≤ 1048576) :
    Calls Tryd.prog 3 #[.slice a len cap] w fun e w' => e = .returned (.bool true) ∧ Below w.heap.size w w' := by
  have HN : Hid (NamesAt w) := hN
  have HR : Hid (Rd w a l) := hr
  have HL : Hid (len = l.length) := hl
  have HB : Hid (Bytes l) := hb
  clear hr hl hb hN
  go_enter Tryd.func3, Tryd.ntmps3
  go_wp2_with fail
  refine (bigNo a len cap w hlen).mono ?_
  rintro e w0 ⟨rfl, rfl⟩
  go_wp2_with fail
  refine (drawKindName a len cap l w HL.out HR.out HB.out hlen).mono ?_
  rintro e x1 ⟨k, rfl, k0, k1, b1⟩
  have B1 : Hid (Below w.heap.size w x1) := b1
  clear b1
  obtain ⟨z, hz⟩ : ∃ z, nameOf k = z := ⟨_, rfl⟩
  have HZ : Hid (nameOf k = z) := hz
  clear hz
  go_wp2_with fail
  refine (implKindName k x1 (HN.out.later B1.out)).mono ?_
  rw [HZ.out]
  rintro e y ⟨rfl, rfl⟩
  go_wp2_with fail
  refine (drawKindOf a len cap l x1 HL.out (HR.out.later B1.out (Nat.le_refl _)) HB.out hlen).mono ?_
  rintro e x2 ⟨t, rfl, b2⟩
  have B2 : Hid (Below w.heap.size w x2) := B1.out.trans (b2.mono B1.out.size)
  clear b2
  go_wp2_with fail
  refine (implKindOf t x2 (HN.out.later B2.out)).mono ?_
  rintro e y ⟨n, rfl, hn, rfl⟩
  have HK : Hid (IsKind t n) := hn
  clear hn
  go_wp2_with fail
  refine (implSealed k x2).mono ?_
  obtain ⟨sb, hsb⟩ : ∃ sb, isIn k 4 8 = sb := ⟨_, rfl⟩
  have HSB : Hid (isIn k 4 8 = sb) := hsb
  rw [hsb]
  clear hsb
  rintro e x3 ⟨rfl, b3⟩
  have B3 : Hid (Below w.heap.size w x3) := B2.out.trans (b3.mono B2.out.size)
  clear b3
  have N3 : Hid (NamesAt x3) := HN.out.later B3.out
  have tailCase : k < 1 ∨ (1 ≤ k ∧ k < 4) ∨ (4 ≤ k ∧ k ≤ 8) ∨ 8 < k := by omega
  rcases tailCase with hk | ⟨hk1, hk2⟩ | ⟨hk1, hk2⟩ | hk
  · obtain rfl : sb = false := by rw [← HSB.out]; exact isIn_no (by omega)
    obtain rfl : z = ⟨#[]⟩ := by rw [← HZ.out]; exact name_none k (by omega)
    have a1 : ¬ (k ≥ 4) := by omega
    go_wp2_with fail
    refine (specKindOf t x3).mono ?_
    rintro e x5 ⟨n2, rfl, hn2, b5⟩
    obtain rfl : n = n2 := IsKind.unique HK.out hn2
    have B5 : Hid (Below w.heap.size w x5) := B3.out.trans (b5.mono B3.out.size)
    clear hn2 b5
    cases hn0 : (n == 0) with
    | true =>
      go_wp2
      go_ret
      exact ⟨rfl, B5.out⟩
    | false =>
      have HT : Hid (nameOf n = t) := by
        rcases HK.out with ⟨_, _, h⟩ | ⟨h, _⟩
        · exact h
        · rw [h] at hn0; cases hn0
      have ett : (t.toList == t.toList) = true := by simp
      go_wp2_with fail
      refine (implKindName n x5 (HN.out.later B5.out)).mono ?_
      rw [HT.out]
      rintro e y ⟨rfl, rfl⟩
      go_wp2
      go_ret
      exact ⟨rfl, B5.out⟩
  · obtain rfl : sb = false := by rw [← HSB.out]; exact isIn_no (by omega)
    have e1 : (z.toList == []) = false := by rw [← HZ.out]; exact name_some k (by omega) (by omega)
    have HI : Hid (IsKind z k) := .inl ⟨by omega, by omega, HZ.out⟩
    have a1 : ¬ (k ≥ 4) := by omega
    have a2 : ¬ (k < 1) := by omega
    have a3 : ¬ (k > 8) := by omega
    go_wp2_with fail
    refine (implKindOf z x3 N3.out).mono ?_
    rintro e y ⟨k2, rfl, hk3, rfl⟩
    obtain rfl : k = k2 := IsKind.unique HI.out hk3
    clear hk3
    go_wp2_with fail
    refine (specKindOf t x3).mono ?_
    rintro e x5 ⟨n2, rfl, hn2, b5⟩
    obtain rfl : n = n2 := IsKind.unique HK.out hn2
    have B5 : Hid (Below w.heap.size w x5) := B3.out.trans (b5.mono B3.out.size)
    clear hn2 b5
    cases hn0 : (n == 0) with
    | true =>
      go_wp2
      go_ret
      exact ⟨by have q1 : decide (k < 1) = false := decide_eq_false (by omega); have q2 : decide (8 < k) = false := decide_eq_false (by omega); simp [q1, q2], B5.out⟩
    | false =>
      have HT : Hid (nameOf n = t) := by
        rcases HK.out with ⟨_, _, h⟩ | ⟨h, _⟩
        · exact h
        · rw [h] at hn0; cases hn0
      have ett : (t.toList == t.toList) = true := by simp
      go_wp2_with fail
      refine (implKindName n x5 (HN.out.later B5.out)).mono ?_
      rw [HT.out]
      rintro e y ⟨rfl, rfl⟩
      go_wp2
      go_ret
      exact ⟨by have q1 : decide (k < 1) = false := decide_eq_false (by omega); have q2 : decide (8 < k) = false := decide_eq_false (by omega); simp [q1, q2], B5.out⟩
  · obtain rfl : sb = true := by rw [← HSB.out]; exact isIn_yes (by omega)
    have e1 : (z.toList == []) = false := by rw [← HZ.out]; exact name_some k (by omega) (by omega)
    have HI : Hid (IsKind z k) := .inl ⟨by omega, by omega, HZ.out⟩
    have a1 : k ≥ 4 := by omega
    have a2 : ¬ (k < 1) := by omega
    have a3 : ¬ (k > 8) := by omega
    go_wp2_with fail
    refine (implKindOf z x3 N3.out).mono ?_
    rintro e y ⟨k2, rfl, hk3, rfl⟩
    obtain rfl : k = k2 := IsKind.unique HI.out hk3
    clear hk3
    go_wp2_with fail
    refine (specKindOf t x3).mono ?_
    rintro e x5 ⟨n2, rfl, hn2, b5⟩
    obtain rfl : n = n2 := IsKind.unique HK.out hn2
    have B5 : Hid (Below w.heap.size w x5) := B3.out.trans (b5.mono B3.out.size)
    clear hn2 b5
    cases hn0 : (n == 0) with
    | true =>
      go_wp2
      go_ret
      exact ⟨by have q1 : decide (k < 1) = false := decide_eq_false (by omega); have q2 : decide (8 < k) = false := decide_eq_false (by omega); simp [q1, q2], B5.out⟩
    | false =>
      have HT : Hid (nameOf n = t) := by
        rcases HK.out with ⟨_, _, h⟩ | ⟨h, _⟩
        · exact h
        · rw [h] at hn0; cases hn0
      have ett : (t.toList == t.toList) = true := by simp
      go_wp2_with fail
      refine (implKindName n x5 (HN.out.later B5.out)).mono ?_
      rw [HT.out]
      rintro e y ⟨rfl, rfl⟩
      go_wp2
      go_ret
      exact ⟨by have q1 : decide (k < 1) = false := decide_eq_false (by omega); have q2 : decide (8 < k) = false := decide_eq_false (by omega); simp [q1, q2], B5.out⟩
  · obtain rfl : sb = false := by rw [← HSB.out]; exact isIn_no (by omega)
    obtain rfl : z = ⟨#[]⟩ := by rw [← HZ.out]; exact name_none k (by omega)
    have a1 : k ≥ 4 := by omega
    have a2 : ¬ (k ≤ 8) := by omega
    have a3 : ¬ (k < 1) := by omega
    have a4 : k > 8 := by omega
    go_wp2_with fail
    refine (specKindOf t x3).mono ?_
    rintro e x5 ⟨n2, rfl, hn2, b5⟩
    obtain rfl : n = n2 := IsKind.unique HK.out hn2
    have B5 : Hid (Below w.heap.size w x5) := B3.out.trans (b5.mono B3.out.size)
    clear hn2 b5
    cases hn0 : (n == 0) with
    | true =>
      go_wp2
      go_ret
      exact ⟨by have q1 : decide (k ≤ 8) = false := decide_eq_false (by omega); simp [q1], B5.out⟩
    | false =>
      have HT : Hid (nameOf n = t) := by
        rcases HK.out with ⟨_, _, h⟩ | ⟨h, _⟩
        · exact h
        · rw [h] at hn0; cases hn0
      have ett : (t.toList == t.toList) = true := by simp
      go_wp2_with fail
      refine (implKindName n x5 (HN.out.later B5.out)).mono ?_
      rw [HT.out]
      rintro e y ⟨rfl, rfl⟩
      go_wp2
      go_ret
      exact ⟨by have q1 : decide (k ≤ 8) = false := decide_eq_false (by omega); simp [q1], B5.out⟩
theorem walk (a : Option Addr) (len cap : Nat) (zs : List Int) (w : World) (hN : NamesAt w) (h : IsRow .u8 w a len cap zs) :
    Calls Tryd.prog 3 #[.slice a len cap] w fun e w' => e = .returned (.bool true) ∧ Below w.heap.size w w' := by
  obtain ⟨l, h1, h2, _, h4⟩ := h.read
  by_cases hl : len ≤ 1048576
  · exact small a len cap l w hN h1 h2 h4 hl
  · clear h h1 h2 h4
    go_enter Tryd.func3, Tryd.ntmps3
    go_wp2_with fail
    refine (bigYes a len cap w (by omega)).mono ?_
    rintro e w0 ⟨rfl, rfl⟩
    go_wp2
    go_ret
    exact ⟨rfl, Below.refl _ _⟩
end Go.Proofs.YtfapehmbecgjaaaDoor.LawKinds
