/-
  What impl answers of timers.
-/
import Derived.Test.YtadlckgaeljdkaaTmE
import Derived.Test.YtadlckgaeljdkaaWords
namespace Go.Proofs.Ytadlckgaeljdkaa.TmI
open Go.RowKit Go.Proofs.Ytadlckgaeljdkaa.Mem Go.Proofs.Ytadlckgaeljdkaa.Blk Go.Proofs.Ytadlckgaeljdkaa.Words Go.Proofs.Ytadlckgaeljdkaa.Res Go.Proofs.Ytadlckgaeljdkaa.TmP Go.Proofs.Ytadlckgaeljdkaa.TmE

set_option maxRecDepth 100000 in
theorem isTime (x : Int) (w : World) :
    Calls Try.prog 27 #[.int .i64 x] w fun e w' => e = .returned (.bool (isIn x 0 1000000)) ∧ w = w' := by
  by_cases h1 : x ≥ 0
  · by_cases h2 : x ≤ 1000000
    · have H : Hid (isIn x 0 1000000 = true) := isIn_yes ⟨h1, h2⟩
      go_enter Try.func27, Try.ntmps27
      go_wp2
      go_ret
      exact ⟨by rw [H.out]; rfl, rfl⟩
    · have H : Hid (isIn x 0 1000000 = false) := isIn_no (fun h => h2 h.2)
      go_enter Try.func27, Try.ntmps27
      go_wp2
      go_ret
      exact ⟨by rw [H.out]; rfl, rfl⟩
  · have H : Hid (isIn x 0 1000000 = false) := isIn_no (fun h => h1 h.1)
    go_enter Try.func27, Try.ntmps27
    go_wp2
    go_ret
    exact ⟨by rw [H.out]; rfl, rfl⟩
set_option maxRecDepth 100000 in
theorem isDue (x : Int) (w : World) :
    Calls Try.prog 28 #[.int .i64 x] w fun e w' => e = .returned (.bool (isIn x 0 1000008)) ∧ w = w' := by
  by_cases h1 : x ≥ 0
  · by_cases h2 : x ≤ 1000008
    · have H : Hid (isIn x 0 1000008 = true) := isIn_yes ⟨h1, h2⟩
      go_enter Try.func28, Try.ntmps28
      go_wp2
      go_ret
      exact ⟨by rw [H.out]; rfl, rfl⟩
    · have H : Hid (isIn x 0 1000008 = false) := isIn_no (fun h => h2 h.2)
      go_enter Try.func28, Try.ntmps28
      go_wp2
      go_ret
      exact ⟨by rw [H.out]; rfl, rfl⟩
  · have H : Hid (isIn x 0 1000008 = false) := isIn_no (fun h => h1 h.1)
    go_enter Try.func28, Try.ntmps28
    go_wp2
    go_ret
    exact ⟨by rw [H.out]; rfl, rfl⟩
set_option maxRecDepth 100000 in
theorem isTry (x : Int) (w : World) :
    Calls Try.prog 30 #[.int .i64 x] w fun e w' => e = .returned (.bool (isIn x 1 5)) ∧ w = w' := by
  by_cases h1 : x ≥ 1
  · by_cases h2 : x ≤ 5
    · have H : Hid (isIn x 1 5 = true) := isIn_yes ⟨h1, h2⟩
      go_enter Try.func30, Try.ntmps30
      go_wp2
      go_ret
      exact ⟨by rw [H.out]; rfl, rfl⟩
    · have H : Hid (isIn x 1 5 = false) := isIn_no (fun h => h2 h.2)
      go_enter Try.func30, Try.ntmps30
      go_wp2
      go_ret
      exact ⟨by rw [H.out]; rfl, rfl⟩
  · have H : Hid (isIn x 1 5 = false) := isIn_no (fun h => h1 h.1)
    go_enter Try.func30, Try.ntmps30
    go_wp2
    go_ret
    exact ⟨by rw [H.out]; rfl, rfl⟩
set_option maxRecDepth 100000 in
theorem isWait (x : Int) (w : World) :
    Calls Try.prog 29 #[.int .i64 x] w fun e w' => e = .returned (.bool (waitB x)) ∧ w = w' := by
  cases k0 : (x == 1) with
  | true =>
    have hw : Hid (waitB x = true) := by show _ = _; unfold waitB; simp [k0]
    go_enter Try.func29, Try.ntmps29
    go_wp2
    go_ret
    exact ⟨by rw [hw.out]; rfl, rfl⟩
  | false =>
    cases k1 : (x == 2) with
    | true =>
      have hw : Hid (waitB x = true) := by show _ = _; unfold waitB; simp [k0, k1]
      go_enter Try.func29, Try.ntmps29
      go_wp2
      go_ret
      exact ⟨by rw [hw.out]; rfl, rfl⟩
    | false =>
      cases k2 : (x == 4) with
      | true =>
        have hw : Hid (waitB x = true) := by show _ = _; unfold waitB; simp [k0, k1, k2]
        go_enter Try.func29, Try.ntmps29
        go_wp2
        go_ret
        exact ⟨by rw [hw.out]; rfl, rfl⟩
      | false =>
        cases k3 : (x == 8) with
        | true =>
          have hw : Hid (waitB x = true) := by show _ = _; unfold waitB; simp [k0, k1, k2, k3]
          go_enter Try.func29, Try.ntmps29
          go_wp2
          go_ret
          exact ⟨by rw [hw.out]; rfl, rfl⟩
        | false =>
          have hw : Hid (waitB x = false) := by show _ = _; unfold waitB; simp [k0, k1, k2, k3]
          go_enter Try.func29, Try.ntmps29
          go_wp2
          go_ret
          exact ⟨by rw [hw.out]; rfl, rfl⟩
set_option maxRecDepth 100000 in
set_option maxHeartbeats 4000000 in
theorem implTimerSet (now : Int) (w : World) :
    Calls Try.prog 12 #[.int .i64 now] w fun e w' => e = .returned (tmV (setT now)) ∧ Below w.heap.size w w' := by
  go_enter Try.func12, Try.ntmps12
  obtain ⟨x1, hx1⟩ : ∃ x1, w.alloc (.cells #[.bool false, .int .i64 0, .int .i64 0, .int .i64 0] 26) = x1 := ⟨_, rfl⟩
  have HW1 : Hid (w.alloc (.cells #[.bool false, .int .i64 0, .int .i64 0, .int .i64 0] 26) = x1) := hx1
  have b1 : Below w.heap.size w x1 := by rw [← hx1]; exact (Below.refl _ _).alloc (Nat.le_refl _) _
  have KN : Blk x1 w.heap.size 26 [.bool false, .int .i64 0, .int .i64 0, .int .i64 0] := by rw [← hx1]; exact Blk.new w _ _
  have HSZ1 : Hid (x1.heap.size = w.heap.size + 1) := by rw [← hx1]; show _ = _; simp
  clear hx1
  have L1 : Hid (w.heap.size ≤ x1.heap.size) := b1.size
  have B1 : Hid (Below w.heap.size w x1) := b1
  clear b1
  go_upto_region 1 with fail
  rw [HW1.out]
  obtain ⟨go, hgo⟩ : ∃ g, w.heap.size = g := ⟨_, rfl⟩
  have Ggo : Hid (w.heap.size = go ∧ x1.heap.size = go + 1) := ⟨hgo, by rw [← hgo]; exact HSZ1.out⟩
  rw [hgo] at KN ⊢
  clear HW1 HSZ1 hgo
  have KO1 : Hid (Blk x1 go 26 [.bool false, .int .i64 0, .int .i64 0, .int .i64 0]) := KN
  clear KN
  go_wp2_with fail
  refine (isTime now x1).mono ?_
  rintro e y ⟨rfl, rfl⟩
  cases h1 : isIn now 0 1000000 with
  | false =>
    have c0 := KO1.out.cell 0 rfl
    have f0 := KO1.out.frozen 0
    have c1 := KO1.out.cell 1 rfl
    have f1 := KO1.out.frozen 1
    have c2 := KO1.out.cell 2 rfl
    have f2 := KO1.out.frozen 2
    have c3 := KO1.out.cell 3 rfl
    have f3 := KO1.out.frozen 3
    go_wp2
    obtain ⟨k1, k2⟩ := tm_stored zeroT KO1.out
    exact bodyPost_ret (v := tmV zeroT) (res1 rfl (is_cell rfl k1 aggTm)) rfl ⟨by rw [set_no h1], k2 _ _ (by have := L1.out; have := Ggo.out; omega) B1.out⟩
  | true =>
    have h1' := of_decide_eq_true h1
    have hw : IntKind.i64.wrap (now + 1) = now + 1 := by rw [IntKind.wrap_i64]; omega
    clear h1'
    have c0 := KO1.out.cell 0 rfl
    have f0 := KO1.out.frozen 0
    have c1 := KO1.out.cell 1 rfl
    have f1 := KO1.out.frozen 1
    have c2 := KO1.out.cell 2 rfl
    have f2 := KO1.out.frozen 2
    have c3 := KO1.out.cell 3 rfl
    have f3 := KO1.out.frozen 3
    go_wp2
    obtain ⟨k1, k2⟩ := tm_stored ⟨true, now + 1, 1, 1⟩ KO1.out
    exact bodyPost_ret (v := tmV ⟨true, now + 1, 1, 1⟩) (res1 rfl (is_cell rfl k1 aggTm)) rfl ⟨by rw [set_yes h1], k2 _ _ (by have := L1.out; have := Ggo.out; omega) B1.out⟩
set_option maxRecDepth 100000 in
set_option maxHeartbeats 4000000 in
theorem implTimerOk (D : TmD) (w : World) :
    Calls Try.prog 13 #[tmV D] w fun e w' => e = .returned (.bool (timerOk D)) ∧ Below w.heap.size w w' := by
  obtain ⟨on, due, wait, tries⟩ := D
  obtain ⟨R, hR⟩ : ∃ R, timerOk ⟨on, due, wait, tries⟩ = R := ⟨_, rfl⟩
  have HR : Hid (timerOk ⟨on, due, wait, tries⟩ = R) := hR
  rw [hR]
  clear hR
  go_enter Try.func13, Try.ntmps13
  obtain ⟨x1, hx1⟩ : ∃ x1, w.alloc (.cells #[.bool on, .int .i64 due, .int .i64 wait, .int .i64 tries] 26) = x1 := ⟨_, rfl⟩
  have HW1 : Hid (w.alloc (.cells #[.bool on, .int .i64 due, .int .i64 wait, .int .i64 tries] 26) = x1) := hx1
  have b1 : Below w.heap.size w x1 := by rw [← hx1]; exact (Below.refl _ _).alloc (Nat.le_refl _) _
  have KN : Blk x1 w.heap.size 26 [.bool on, .int .i64 due, .int .i64 wait, .int .i64 tries] := by rw [← hx1]; exact Blk.new w _ _
  have HSZ1 : Hid (x1.heap.size = w.heap.size + 1) := by rw [← hx1]; show _ = _; simp
  clear hx1
  have L1 : Hid (w.heap.size ≤ x1.heap.size) := b1.size
  have B1 : Hid (Below w.heap.size w x1) := b1
  clear b1
  unfold tmV
  go_upto_region 1 with fail
  rw [HW1.out]
  obtain ⟨gt, hgt⟩ : ∃ g, w.heap.size = g := ⟨_, rfl⟩
  have Ggt : Hid (w.heap.size = gt ∧ x1.heap.size = gt + 1) := ⟨hgt, by rw [← hgt]; exact HSZ1.out⟩
  rw [hgt] at KN ⊢
  clear HW1 HSZ1 hgt
  have KT1 : Hid (Blk x1 gt 26 [.bool on, .int .i64 due, .int .i64 wait, .int .i64 tries]) := KN
  clear KN
  cases on with
  | false =>
    have d0 := KT1.out.cell 0 rfl
    have d1 := KT1.out.cell 1 rfl
    have d2 := KT1.out.cell 2 rfl
    have d3 := KT1.out.cell 3 rfl
    have eqp := eqTm false due wait tries false 0 0 0
    go_wp2
    go_ret
    exact ⟨by rw [← HR.out, ok_off rfl]; rfl, B1.out⟩
  | true =>
    have HQ : Hid (R = (isIn due 0 1000008 && waitB wait && isIn tries 1 5)) := by show _ = _; rw [← HR.out, ok_on rfl]
    have d0 := KT1.out.cell 0 rfl
    have d1 := KT1.out.cell 1 rfl
    have d2 := KT1.out.cell 2 rfl
    have d3 := KT1.out.cell 3 rfl
    go_wp2_with fail
    refine (isDue due x1).mono ?_
    rintro e y ⟨rfl, rfl⟩
    cases h1 : isIn due 0 1000008 with
    | false =>
      obtain rfl : R = false := by rw [HQ.out, h1]; rfl
      go_wp2
      go_ret
      exact ⟨rfl, B1.out⟩
    | true =>
      go_wp2_with fail
      refine (isWait wait x1).mono ?_
      rintro e y ⟨rfl, rfl⟩
      cases h2 : waitB wait with
      | false =>
        obtain rfl : R = false := by rw [HQ.out, h1, h2]; rfl
        go_wp2
        go_ret
        exact ⟨rfl, B1.out⟩
      | true =>
        go_wp2_with fail
        refine (isTry tries x1).mono ?_
        rintro e y ⟨rfl, rfl⟩
        obtain rfl : R = isIn tries 1 5 := by rw [HQ.out, h1, h2]; rfl
        go_wp2
        go_ret
        exact ⟨rfl, B1.out⟩
set_option maxRecDepth 100000 in
set_option maxHeartbeats 4000000 in
theorem implTimerFires (D : TmD) (now : Int) (w : World) :
    Calls Try.prog 18 #[tmV D, .int .i64 now] w fun e w' => e = .returned (.bool (fires D now)) ∧ Below w.heap.size w w' := by
  obtain ⟨R, hR⟩ : ∃ R, fires D now = R := ⟨_, rfl⟩
  have HR : Hid (fires D now = R) := hR
  rw [hR]
  clear hR
  go_enter Try.func18, Try.ntmps18
  obtain ⟨x1, hx1⟩ : ∃ x1, w.alloc (.cells #[.bool D.on, .int .i64 D.due, .int .i64 D.wait, .int .i64 D.tries] 26) = x1 := ⟨_, rfl⟩
  have HW1 : Hid (w.alloc (.cells #[.bool D.on, .int .i64 D.due, .int .i64 D.wait, .int .i64 D.tries] 26) = x1) := hx1
  have b1 : Below w.heap.size w x1 := by rw [← hx1]; exact (Below.refl _ _).alloc (Nat.le_refl _) _
  have KN : Blk x1 w.heap.size 26 [.bool D.on, .int .i64 D.due, .int .i64 D.wait, .int .i64 D.tries] := by rw [← hx1]; exact Blk.new w _ _
  have HSZ1 : Hid (x1.heap.size = w.heap.size + 1) := by rw [← hx1]; show _ = _; simp
  clear hx1
  have L1 : Hid (w.heap.size ≤ x1.heap.size) := b1.size
  have B1 : Hid (Below w.heap.size w x1) := b1
  clear b1
  unfold tmV
  go_upto_region 1 with fail
  rw [HW1.out]
  obtain ⟨gt, hgt⟩ : ∃ g, w.heap.size = g := ⟨_, rfl⟩
  have Ggt : Hid (w.heap.size = gt ∧ x1.heap.size = gt + 1) := ⟨hgt, by rw [← hgt]; exact HSZ1.out⟩
  rw [hgt] at KN ⊢
  clear HW1 HSZ1 hgt
  have KT1 : Hid (Blk x1 gt 26 [.bool D.on, .int .i64 D.due, .int .i64 D.wait, .int .i64 D.tries]) := KN
  clear KN
  have d0 := KT1.out.cell 0 rfl
  have d1 := KT1.out.cell 1 rfl
  have d2 := KT1.out.cell 2 rfl
  have d3 := KT1.out.cell 3 rfl
  go_wp2_with fail
  refine (implTimerOk D x1).mono ?_
  rintro e x2 ⟨rfl, b⟩
  have L2 : Hid (x1.heap.size ≤ x2.heap.size) := b.size
  have B2 : Hid (Below w.heap.size w x2) := B1.out.trans (b.mono B1.out.size)
  have KT2 : Hid (Blk x2 gt 26 [.bool D.on, .int .i64 D.due, .int .i64 D.wait, .int .i64 D.tries]) := KT1.out.later b
  clear b B1 KT1
  clear d0 d1 d2 d3
  cases h1 : timerOk D with
  | false =>
    obtain rfl : R = false := by rw [← HR.out]; unfold fires; rw [h1]; rfl
    go_wp2
    go_ret
    exact ⟨rfl, B2.out⟩
  | true =>
    have d0 := KT2.out.cell 0 rfl
    have d1 := KT2.out.cell 1 rfl
    have d2 := KT2.out.cell 2 rfl
    have d3 := KT2.out.cell 3 rfl
    cases h2 : D.on with
    | false =>
      rw [h2] at d0
      obtain rfl : R = false := by rw [← HR.out]; unfold fires; rw [h1, h2]; rfl
      go_wp2
      go_ret
      exact ⟨rfl, B2.out⟩
    | true =>
      rw [h2] at d0
      go_wp2_with fail
      refine (isTime now x2).mono ?_
      rintro e y ⟨rfl, rfl⟩
      cases h3 : isIn now 0 1000000 with
      | false =>
        obtain rfl : R = false := by rw [← HR.out]; unfold fires; rw [h1, h2, h3]; rfl
        go_wp2
        go_ret
        exact ⟨rfl, B2.out⟩
      | true =>
        obtain rfl : R = decide (D.due ≤ now) := by rw [← HR.out]; unfold fires; rw [h1, h2, h3]; rfl
        go_wp2
        go_ret
        exact ⟨rfl, B2.out⟩
set_option maxRecDepth 100000 in
set_option maxHeartbeats 4000000 in
theorem implTimerNext (D : TmD) (now : Int) (w : World) :
    Calls Try.prog 14 #[tmV D, .int .i64 now] w fun e w' => e = .returned (.tuple #[tmV (nextT D now), .int .i64 (nextC D now)]) ∧ Below w.heap.size w w' := by
  obtain ⟨V, hV⟩ : ∃ V, tmV (nextT D now) = V := ⟨_, rfl⟩
  have HV : Hid (tmV (nextT D now) = V) := hV
  obtain ⟨N, hN⟩ : ∃ N, nextC D now = N := ⟨_, rfl⟩
  have HN : Hid (nextC D now = N) := hN
  rw [hV, hN]
  clear hV hN
  obtain ⟨x1, hx1⟩ : ∃ zz, (w.alloc (.cells #[.bool D.on, .int .i64 D.due, .int .i64 D.wait, .int .i64 D.tries] 26)).alloc (.cells #[.bool false, .int .i64 0, .int .i64 0, .int .i64 0] 26) = zz := ⟨_, rfl⟩
  have HWA : Hid ((w.alloc (.cells #[.bool D.on, .int .i64 D.due, .int .i64 D.wait, .int .i64 D.tries] 26)).alloc (.cells #[.bool false, .int .i64 0, .int .i64 0, .int .i64 0] 26) = x1) := hx1
  have b1 : Below w.heap.size w x1 := by rw [← hx1]; exact (((Below.refl _ _).alloc (Nat.le_refl _) _).alloc (by simp) _)
  have KTN : Blk x1 (w.heap.size) 26 [.bool D.on, .int .i64 D.due, .int .i64 D.wait, .int .i64 D.tries] := by
    have q := (Blk.new (w) 26 [.bool D.on, .int .i64 D.due, .int .i64 D.wait, .int .i64 D.tries])
    skip
    rw [← hx1]; exact q.alloc _
  have KON : Blk x1 (w.heap.size + 1) 26 [.bool false, .int .i64 0, .int .i64 0, .int .i64 0] := by
    have q := (Blk.new ((w.alloc (.cells #[.bool D.on, .int .i64 D.due, .int .i64 D.wait, .int .i64 D.tries] 26))) 26 [.bool false, .int .i64 0, .int .i64 0, .int .i64 0])
    rw [World.size_alloc] at q
    rw [← hx1]; exact q
  have SZA : x1.heap.size = w.heap.size + 2 := by rw [← hx1]; simp
  clear hx1
  have L1 : Hid (w.heap.size ≤ x1.heap.size) := b1.size
  have B1 : Hid (Below w.heap.size w x1) := b1
  clear b1
  unfold tmV
  go_enter Try.func14, Try.ntmps14
  go_upto_region 1 with fail
  rw [HWA.out]
  obtain ⟨gt, hgt⟩ : ∃ g, w.heap.size = g := ⟨_, rfl⟩
  obtain ⟨go, hgo⟩ : ∃ g, w.heap.size + 1 = g := ⟨_, rfl⟩
  have GA : Hid (w.heap.size = gt ∧ gt + 1 = go ∧ x1.heap.size = gt + 2) := ⟨hgt, by omega, by omega⟩
  rw [hgt] at KTN
  rw [hgo] at KON
  rw [hgo, hgt]
  clear HWA SZA hgt hgo
  have KT1 : Hid (Blk x1 gt 26 [.bool D.on, .int .i64 D.due, .int .i64 D.wait, .int .i64 D.tries]) := KTN
  have KO1 : Hid (Blk x1 go 26 [.bool false, .int .i64 0, .int .i64 0, .int .i64 0]) := KON
  clear KTN KON
  have d0 := KT1.out.cell 0 rfl
  have d1 := KT1.out.cell 1 rfl
  have d2 := KT1.out.cell 2 rfl
  have d3 := KT1.out.cell 3 rfl
  go_wp2_with fail
  refine (implTimerFires D now x1).mono ?_
  rintro e x2 ⟨rfl, b⟩
  have L2 : Hid (x1.heap.size ≤ x2.heap.size) := b.size
  have B2 : Hid (Below w.heap.size w x2) := B1.out.trans (b.mono B1.out.size)
  have KT2 : Hid (Blk x2 gt 26 [.bool D.on, .int .i64 D.due, .int .i64 D.wait, .int .i64 D.tries]) := KT1.out.later b
  have KO2 : Hid (Blk x2 go 26 [.bool false, .int .i64 0, .int .i64 0, .int .i64 0]) := KO1.out.later b
  clear b B1 KT1 KO1
  clear d0 d1 d2 d3
  cases h1 : fires D now with
  | false =>
    have d0 := KT2.out.cell 0 rfl
    have d1 := KT2.out.cell 1 rfl
    have d2 := KT2.out.cell 2 rfl
    have d3 := KT2.out.cell 3 rfl
    have c0 := KO2.out.cell 0 rfl
    have f0 := KO2.out.frozen 0
    have c1 := KO2.out.cell 1 rfl
    have f1 := KO2.out.frozen 1
    have c2 := KO2.out.cell 2 rfl
    have f2 := KO2.out.frozen 2
    have c3 := KO2.out.cell 3 rfl
    have f3 := KO2.out.frozen 3
    go_wp2
    obtain ⟨k1, k2⟩ := tm_stored D KO2.out
    exact bodyPost_ret (v := .tuple #[tmV D, .int .i64 0]) (res2 rfl (is_cell rfl k1 aggTm) (is_tmp rfl)) rfl ⟨by rw [← HV.out, ← HN.out, (next_no h1).1, (next_no h1).2], k2 _ _ (by have := L1.out; have := GA.out; have := L2.out; omega) B2.out⟩
  | true =>
    have HP : Hid (D.on = true ∧ (0 ≤ D.due ∧ D.due ≤ 1000008) ∧ (D.wait = 1 ∨ D.wait = 2 ∨ D.wait = 4 ∨ D.wait = 8) ∧ (1 ≤ D.tries ∧ D.tries ≤ 5) ∧ (0 ≤ now ∧ now ≤ 1000000) ∧ D.due ≤ now) := fires_parts h1
    by_cases h5 : D.tries = 5
    · have d0 := KT2.out.cell 0 rfl
      have d1 := KT2.out.cell 1 rfl
      have d2 := KT2.out.cell 2 rfl
      have d3 := KT2.out.cell 3 rfl
      have h5b : (D.tries == 5) = true := by simpa using h5
      have c0 := KO2.out.cell 0 rfl
      have f0 := KO2.out.frozen 0
      have c1 := KO2.out.cell 1 rfl
      have f1 := KO2.out.frozen 1
      have c2 := KO2.out.cell 2 rfl
      have f2 := KO2.out.frozen 2
      have c3 := KO2.out.cell 3 rfl
      have f3 := KO2.out.frozen 3
      go_wp2
      obtain ⟨k1, k2⟩ := tm_stored zeroT KO2.out
      exact bodyPost_ret (v := .tuple #[tmV zeroT, .int .i64 2]) (res2 rfl (is_cell rfl k1 aggTm) (is_tmp rfl)) rfl ⟨by rw [← HV.out, ← HN.out, (next_end h1 h5).1, (next_end h1 h5).2], k2 _ _ (by have := L1.out; have := GA.out; have := L2.out; omega) B2.out⟩
    · have d0 := KT2.out.cell 0 rfl
      have d1 := KT2.out.cell 1 rfl
      have d2 := KT2.out.cell 2 rfl
      have d3 := KT2.out.cell 3 rfl
      have h5b : (D.tries == 5) = false := by simpa using h5
      have hw1 : IntKind.i64.wrap (2 * D.wait) = 2 * D.wait := by rw [IntKind.wrap_i64]; have := HP.out.2.2.1; omega
      have hw4 : IntKind.i64.wrap (D.tries + 1) = D.tries + 1 := by rw [IntKind.wrap_i64]; have := HP.out.2.2.2.1; omega
      by_cases h8 : 8 < 2 * D.wait
      · have hw2 : IntKind.i64.wrap (now + 8) = now + 8 := by rw [IntKind.wrap_i64]; have := HP.out.2.2.2.2.1; omega
        have he : Hid (nextW D.wait = 8) := if_pos h8
        have c0 := KO2.out.cell 0 rfl
        have f0 := KO2.out.frozen 0
        have c1 := KO2.out.cell 1 rfl
        have f1 := KO2.out.frozen 1
        have c2 := KO2.out.cell 2 rfl
        have f2 := KO2.out.frozen 2
        have c3 := KO2.out.cell 3 rfl
        have f3 := KO2.out.frozen 3
        go_wp2
        obtain ⟨k1, k2⟩ := tm_stored ⟨true, now + 8, 8, D.tries + 1⟩ KO2.out
        exact bodyPost_ret (v := .tuple #[tmV ⟨true, now + 8, 8, D.tries + 1⟩, .int .i64 1]) (res2 rfl (is_cell rfl k1 aggTm) (is_tmp rfl)) rfl ⟨by rw [← HV.out, ← HN.out, (next_on h1 h5).1, (next_on h1 h5).2, he.out], k2 _ _ (by have := L1.out; have := GA.out; have := L2.out; omega) B2.out⟩
      · have hw2 : IntKind.i64.wrap (now + 2 * D.wait) = now + 2 * D.wait := by rw [IntKind.wrap_i64]; have := HP.out.2.2.2.2.1; have := HP.out.2.2.1; omega
        have he : Hid (nextW D.wait = 2 * D.wait) := if_neg h8
        have c0 := KO2.out.cell 0 rfl
        have f0 := KO2.out.frozen 0
        have c1 := KO2.out.cell 1 rfl
        have f1 := KO2.out.frozen 1
        have c2 := KO2.out.cell 2 rfl
        have f2 := KO2.out.frozen 2
        have c3 := KO2.out.cell 3 rfl
        have f3 := KO2.out.frozen 3
        go_wp2
        obtain ⟨k1, k2⟩ := tm_stored ⟨true, now + 2 * D.wait, 2 * D.wait, D.tries + 1⟩ KO2.out
        exact bodyPost_ret (v := .tuple #[tmV ⟨true, now + 2 * D.wait, 2 * D.wait, D.tries + 1⟩, .int .i64 1]) (res2 rfl (is_cell rfl k1 aggTm) (is_tmp rfl)) rfl ⟨by rw [← HV.out, ← HN.out, (next_on h1 h5).1, (next_on h1 h5).2, he.out], k2 _ _ (by have := L1.out; have := GA.out; have := L2.out; omega) B2.out⟩
set_option maxRecDepth 100000 in
set_option maxHeartbeats 4000000 in
theorem implSpanOf (n : Int) (w : World) :
    Calls Try.prog 15 #[.int .i64 n] w fun e w' => e = .returned (.int .i64 (spanOf n)) ∧ Below w.heap.size w w' := by
  cases h1 : isIn n 1 5 with
  | false =>
    go_enter Try.func15, Try.ntmps15
    go_wp2_with fail
    refine (isTry n _).mono ?_
    rintro e y ⟨rfl, rfl⟩
    rw [h1]
    go_wp2
    go_ret
    exact ⟨by rw [span_no h1]; rfl, Below.refl _ _⟩
  | true =>
    have h1' := of_decide_eq_true h1
    obtain rfl | rfl | rfl | rfl | rfl : n = 1 ∨ n = 2 ∨ n = 3 ∨ n = 4 ∨ n = 5 := by omega
    · clear h1'
      go_enter Try.func15, Try.ntmps15
      go_wp2_with fail
      refine (isTry 1 _).mono ?_
      rintro e y ⟨rfl, rfl⟩
      rw [h1]
      go_wp2
      go_ret
      exact ⟨rfl, (Below.refl _ _).alloc (Nat.le_refl _) _⟩
    · clear h1'
      go_enter Try.func15, Try.ntmps15
      go_wp2_with fail
      refine (isTry 2 _).mono ?_
      rintro e y ⟨rfl, rfl⟩
      rw [h1]
      go_wp2
      go_ret
      exact ⟨rfl, (Below.refl _ _).alloc (Nat.le_refl _) _⟩
    · clear h1'
      go_enter Try.func15, Try.ntmps15
      go_wp2_with fail
      refine (isTry 3 _).mono ?_
      rintro e y ⟨rfl, rfl⟩
      rw [h1]
      go_wp2
      go_ret
      exact ⟨rfl, (Below.refl _ _).alloc (Nat.le_refl _) _⟩
    · clear h1'
      go_enter Try.func15, Try.ntmps15
      go_wp2_with fail
      refine (isTry 4 _).mono ?_
      rintro e y ⟨rfl, rfl⟩
      rw [h1]
      go_wp2
      go_ret
      exact ⟨rfl, (Below.refl _ _).alloc (Nat.le_refl _) _⟩
    · clear h1'
      go_enter Try.func15, Try.ntmps15
      go_wp2_with fail
      refine (isTry 5 _).mono ?_
      rintro e y ⟨rfl, rfl⟩
      rw [h1]
      go_wp2
      go_ret
      exact ⟨rfl, (Below.refl _ _).alloc (Nat.le_refl _) _⟩
end Go.Proofs.Ytadlckgaeljdkaa.TmI
