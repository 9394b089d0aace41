/-
  What impl's WinNew, WinOk, WinHas, WinMay, WinAdd, WinList and WinOf answer at every window, number and list.
-/
import Derived.Test.YtmcflfpckpjphaaWnM
namespace Go.Proofs.Ytmcflfpckpjphaa.WnK
open Go.RowKit Go.Proofs.Ytmcflfpckpjphaa.Mem Go.Proofs.Ytmcflfpckpjphaa.MemI Go.Proofs.Ytmcflfpckpjphaa.Blk Go.Proofs.Ytmcflfpckpjphaa.Zone Go.Proofs.Ytmcflfpckpjphaa.ZoneI Go.Proofs.Ytmcflfpckpjphaa.WnZ Go.Proofs.Ytmcflfpckpjphaa.Res Go.Proofs.Ytmcflfpckpjphaa.WinP Go.Proofs.Ytmcflfpckpjphaa.WinB Go.Proofs.Ytmcflfpckpjphaa.Bits Go.Proofs.Ytmcflfpckpjphaa.WnC Go.Proofs.Ytmcflfpckpjphaa.WnI Go.Proofs.Ytmcflfpckpjphaa.WnJ Go.Proofs.Ytmcflfpckpjphaa.WnL Go.Proofs.Ytmcflfpckpjphaa.WnS Go.Proofs.Ytmcflfpckpjphaa.WnM

/-- A window stored whole into a block that lies apart from its memory. -/
theorem stored {w : World} {g lo hi : Nat} {u v : Value} {D : WnD} {S : WnS} (k : Blk w g 26 [u, v]) (o : WnOwn w lo hi S D) (d : g + 1 ≤ lo) :
    Blk ((w.setCell ⟨g, 0, none⟩ (.int .i64 D.top)).setCell ⟨g, 1, none⟩ (.slice S.bits.a S.bits.n S.bits.c)) g 26 [.int .i64 D.top, .slice S.bits.a S.bits.n S.bits.c] ∧
      WnOwn ((w.setCell ⟨g, 0, none⟩ (.int .i64 D.top)).setCell ⟨g, 1, none⟩ (.slice S.bits.a S.bits.n S.bits.c)) lo hi S D ∧
      ∀ B a, B ≤ g → Below B a w → Below B a ((w.setCell ⟨g, 0, none⟩ (.int .i64 D.top)).setCell ⟨g, 1, none⟩ (.slice S.bits.a S.bits.n S.bits.c)) :=
  ⟨(k.set 0 _ (by simp [maxLen])).set 1 _ (by simp [maxLen]), (o.carry (Kept.setCell _ _ _ _) (.inr d)).carry (Kept.setCell _ _ _ _) (.inr d), fun B a h b => (b.setCell h _).setCell h _⟩
theorem size2 (w : World) (a b : Addr) (u v : Value) : ((w.setCell a u).setCell b v).heap.size = w.heap.size := by simp
/-- What a call that makes a window answers. -/
def Made (D : WnD) (w : World) (e : Ending) (w' : World) : Prop := ∃ S', e = .returned (wnV D S') ∧ WnOwn w' w.heap.size w'.heap.size S' D ∧ Below w.heap.size w w'
noncomputable def addD (D : WnD) (n : Int) : WnD := ⟨addTop D.top D.bits n, addBits D.top D.bits n⟩
/-- What a call that adds a number answers. -/
def Added (D : WnD) (n : Int) (w : World) (e : Ending) (w' : World) : Prop := ∃ S', e = .returned (.tuple #[wnV (addD D n) S', .bool (winMay D.top D.bits n)]) ∧ WnOwn w' w.heap.size w'.heap.size S' (addD D n) ∧ Below w.heap.size w w'
noncomputable def ofD (l : List Int) (k : Nat) : WnD := ⟨(ofTop l k).1, (ofTop l k).2⟩
theorem may_split {D : WnD} {n : Int} (h : winOk D.top D.bits = true) : winMay D.top D.bits n = WinP.may D.top D.bits n := by unfold winMay; rw [h]; rfl
theorem may_notok {D : WnD} {n : Int} (h : winOk D.top D.bits = false) : winMay D.top D.bits n = false := by unfold winMay; rw [h]; rfl
theorem add_yes {D : WnD} {n : Int} (h : winMay D.top D.bits n = true) : addD D n = ⟨max D.top n, addL D.top D.bits n.toNat⟩ := by unfold addD addTop addBits; rw [if_pos h, if_pos h]
theorem add_no {D : WnD} {n : Int} (h : winMay D.top D.bits n = false) : addD D n = D := by unfold addD addTop addBits; rw [h]; rfl
theorem may_bounds {top : Int} {l : List Int} {n : Int} (h : WinP.may top l n = true) : 0 ≤ n ∧ n ≤ 281474976710655 := by
  unfold WinP.may at h
  rw [Bool.and_eq_true, decide_eq_true_iff] at h
  exact ⟨h.1.1, h.1.2.1⟩

set_option maxRecDepth 100000 in
set_option maxHeartbeats 2000000 in
theorem implWinNew (w : World) : Calls Try.prog 78 #[] w (Made ⟨-1, zeros⟩ w) := by
  obtain ⟨x0, hx0⟩ : ∃ x0, w.alloc (.cells #[.int .i64 0, .slice none 0 0] 26) = x0 := ⟨_, rfl⟩
  have HW0 : Hid (_ = x0) := hx0
  have B0 : Hid (Below w.heap.size w x0) := by rw [← hx0]; exact (Below.refl _ _).alloc (Nat.le_refl _) _
  have KO0 : Hid (Blk x0 w.heap.size 26 [.int .i64 0, .slice none 0 0]) := by rw [← hx0]; exact Blk.new w _ _
  clear hx0
  go_enter Try.func78, Try.ntmps78
  go_upto_region 1 with fail
  rw [HW0.out]
  go_wp2_with fail
  refine (newWindow x0).mono ?_
  rintro e x1 ⟨rfl, w1, b1⟩
  have W1 : Hid (Wnd x1 x0.heap.size (-1) zeros) := w1
  have B1 : Hid (Below w.heap.size w x1) := B0.out.trans (b1.mono B0.out.size)
  have KO1 : Hid (Blk x1 w.heap.size 26 [.int .i64 0, .slice none 0 0]) := KO0.out.later b1
  clear w1 b1 B0 KO0 HW0
  go_wp2_with fail
  refine (win x0.heap.size (-1) zeros x1 W1.out).mono ?_
  rintro e x2 ⟨S, rfl, o2, b2⟩
  have O2 : Hid (WnOwn x2 x1.heap.size x2.heap.size S ⟨-1, zeros⟩) := o2
  have B2 : Hid (Below w.heap.size w x2) := B1.out.trans (b2.mono B1.out.size)
  have KO2 : Hid (Blk x2 w.heap.size 26 [.int .i64 0, .slice none 0 0]) := KO1.out.later b2
  have HLT : Hid (w.heap.size + 1 ≤ x1.heap.size) := KO1.out.lt
  clear o2 b2 B1 KO1 W1
  have q0 := KO2.out.cell 0 rfl
  have q1 := KO2.out.cell 1 rfl
  have f0 := KO2.out.frozen 0
  have f1 := KO2.out.frozen 1
  unfold wnV
  go_wp2
  obtain ⟨k3, o3, b3⟩ := stored KO2.out O2.out HLT.out
  exact bodyPost_ret (v := wnV ⟨-1, zeros⟩ S) (res1 rfl (is_cell rfl k3 aggWn)) rfl ⟨S, rfl, o3.mono (by have := HLT.out; omega) (by rw [size2]; exact Nat.le_refl _), b3 _ _ (Nat.le_refl _) B2.out⟩

set_option maxRecDepth 100000 in
set_option maxHeartbeats 2000000 in
theorem implWinOk (S : WnS) (D : WnD) (w : World) (h : WnRd w S D) :
    Calls Try.prog 12 #[wnV D S] w fun e w' => e = .returned (.bool (winOk D.top D.bits)) ∧ Below w.heap.size w w' := by
  have HR : Hid (WnRd w S D) := h
  obtain ⟨x0, hx0, k0, b0, _⟩ := boxed w D S
  have HW0 : Hid (_ = x0) := hx0
  have B0 : Hid (Below w.heap.size w x0) := b0
  have KA : Hid (Blk x0 w.heap.size 26 [.int .i64 D.top, .slice S.bits.a S.bits.n S.bits.c]) := k0
  obtain ⟨v, hv⟩ : ∃ v, winOk D.top D.bits = v := ⟨_, rfl⟩
  rw [hv]
  clear h hx0 k0 b0
  have c0 := KA.out.cell 0 rfl
  have c1 := KA.out.cell 1 rfl
  unfold wnV
  go_enter Try.func12, Try.ntmps12
  go_upto_region 1 with fail
  rw [HW0.out]
  go_wp2_with fail
  refine (windowOf S D x0 (HR.out.later B0.out)).mono ?_
  rintro e x1 ⟨hc, b1⟩
  have B1 : Hid (Below w.heap.size w x1) := B0.out.trans (b1.mono B0.out.size)
  clear b1 c0 c1
  rcases hc with ⟨hk, g, rfl, _, _⟩ | ⟨hk, rfl⟩
  · obtain rfl : v = true := hv.symm.trans hk
    clear hv hk
    go_wp2
    go_ret
    exact ⟨rfl, B1.out⟩
  · obtain rfl : v = false := hv.symm.trans hk
    clear hv hk
    go_wp2
    go_ret
    exact ⟨rfl, B1.out⟩

set_option maxRecDepth 100000 in
set_option maxHeartbeats 2000000 in
theorem implWinHas (S : WnS) (D : WnD) (n : Int) (w : World) (h : WnRd w S D) :
    Calls Try.prog 17 #[wnV D S, .int .i64 n] w fun e w' => e = .returned (.bool (winHas D.top D.bits n)) ∧ Below w.heap.size w w' := by
  have HR : Hid (WnRd w S D) := h
  obtain ⟨x0, hx0, k0, b0, _⟩ := boxed w D S
  have HW0 : Hid (_ = x0) := hx0
  have B0 : Hid (Below w.heap.size w x0) := b0
  have KA : Hid (Blk x0 w.heap.size 26 [.int .i64 D.top, .slice S.bits.a S.bits.n S.bits.c]) := k0
  obtain ⟨v, hv⟩ : ∃ v, winHas D.top D.bits n = v := ⟨_, rfl⟩
  have HV : Hid (winHas D.top D.bits n = v) := hv
  rw [hv]
  clear h hx0 k0 b0 hv
  have c0 := KA.out.cell 0 rfl
  have c1 := KA.out.cell 1 rfl
  unfold wnV
  go_enter Try.func17, Try.ntmps17
  go_upto_region 1 with fail
  rw [HW0.out]
  go_wp2_with fail
  refine (windowOf S D x0 (HR.out.later B0.out)).mono ?_
  rintro e x1 ⟨hc, b1⟩
  have B1 : Hid (Below w.heap.size w x1) := B0.out.trans (b1.mono B0.out.size)
  clear b1 c0 c1
  rcases hc with ⟨hk, g, rfl, _, hw⟩ | ⟨hk, rfl⟩
  · have HO : Hid (WOk D.top D.bits) := winOk_iff.1 hk
    have HW : Hid (Wnd x1 g D.top D.bits) := hw
    have HH : Hid (WinP.has D.top D.bits n = v) := by show _ = v; rw [← HV.out]; unfold winHas; rw [hk]; rfl
    clear hk hw
    go_wp2_with fail
    refine (has g D.top D.bits n x1 HW.out HO.out.lo HO.out.hi).mono ?_
    rw [HH.out]
    rintro e x2 ⟨rfl, b2⟩
    have B2 : Hid (Below w.heap.size w x2) := B1.out.trans (b2.mono B1.out.size)
    clear b2
    go_wp2
    go_ret
    exact ⟨by first | rfl | simp, B2.out⟩
  · have HF : Hid (v = false) := by show v = false; rw [← HV.out]; unfold winHas; rw [hk]; rfl
    clear hk
    go_wp2
    go_ret
    exact ⟨by rw [HF.out]; rfl, B1.out⟩

set_option maxRecDepth 100000 in
set_option maxHeartbeats 2000000 in
theorem implWinMay (S : WnS) (D : WnD) (n : Int) (w : World) (h : WnRd w S D) :
    Calls Try.prog 15 #[wnV D S, .int .i64 n] w fun e w' => e = .returned (.bool (winMay D.top D.bits n)) ∧ Below w.heap.size w w' := by
  have HR : Hid (WnRd w S D) := h
  obtain ⟨x0, hx0, k0, b0, _⟩ := boxed w D S
  have HW0 : Hid (_ = x0) := hx0
  have B0 : Hid (Below w.heap.size w x0) := b0
  have KA : Hid (Blk x0 w.heap.size 26 [.int .i64 D.top, .slice S.bits.a S.bits.n S.bits.c]) := k0
  obtain ⟨v, hv⟩ : ∃ v, winMay D.top D.bits n = v := ⟨_, rfl⟩
  have HV : Hid (winMay D.top D.bits n = v) := hv
  rw [hv]
  clear h hx0 k0 b0 hv
  have c0 := KA.out.cell 0 rfl
  have c1 := KA.out.cell 1 rfl
  unfold wnV
  go_enter Try.func15, Try.ntmps15
  go_upto_region 1 with fail
  rw [HW0.out]
  go_wp2_with fail
  refine (windowOf S D x0 (HR.out.later B0.out)).mono ?_
  rintro e x1 ⟨hc, b1⟩
  have B1 : Hid (Below w.heap.size w x1) := B0.out.trans (b1.mono B0.out.size)
  clear b1 c0 c1
  rcases hc with ⟨hk, g, rfl, _, hw⟩ | ⟨hk, rfl⟩
  · have HO : Hid (WOk D.top D.bits) := winOk_iff.1 hk
    have HW : Hid (Wnd x1 g D.top D.bits) := hw
    have HH : Hid (WinP.may D.top D.bits n = v) := by show _ = v; rw [← HV.out]; unfold winMay; rw [hk]; rfl
    clear hk hw
    go_wp2_with fail
    refine (may g D.top D.bits n x1 HW.out HO.out.lo HO.out.hi).mono ?_
    rw [HH.out]
    rintro e x2 ⟨rfl, b2⟩
    have B2 : Hid (Below w.heap.size w x2) := B1.out.trans (b2.mono B1.out.size)
    clear b2
    go_wp2
    go_ret
    exact ⟨by first | rfl | simp, B2.out⟩
  · have HF : Hid (v = false) := by show v = false; rw [← HV.out]; unfold winMay; rw [hk]; rfl
    clear hk
    go_wp2
    go_ret
    exact ⟨by rw [HF.out]; rfl, B1.out⟩

set_option maxRecDepth 100000 in
set_option maxHeartbeats 4000000 in
theorem implWinAdd (S : WnS) (D : WnD) (n : Int) (w : World) (h : WnRd w S D) (hl : D.bits.length ≤ 4194304) : Calls Try.prog 11 #[wnV D S, .int .i64 n] w (Added D n w) := by
  have HR : Hid (WnRd w S D) := h
  obtain ⟨x0, hx0⟩ : ∃ x0, (w.alloc (.cells #[.int .i64 D.top, .slice S.bits.a S.bits.n S.bits.c] 26)).alloc (.cells #[.int .i64 0, .slice none 0 0] 26) = x0 := ⟨_, rfl⟩
  have HW0 : Hid (_ = x0) := hx0
  have B0 : Hid (Below w.heap.size w x0) := by rw [← hx0]; exact ((Below.refl _ _).alloc (Nat.le_refl _) _).alloc (by simp) _
  have KA : Hid (Blk x0 w.heap.size 26 [.int .i64 D.top, .slice S.bits.a S.bits.n S.bits.c]) := by rw [← hx0]; exact (Blk.new w _ _).alloc _
  have KO : Hid (Blk x0 (w.heap.size + 1) 26 [.int .i64 0, .slice none 0 0]) := by
    have := Blk.new (w.alloc (.cells #[.int .i64 D.top, .slice S.bits.a S.bits.n S.bits.c] 26)) 26 [.int .i64 0, .slice none 0 0]
    rw [World.size_alloc] at this
    rw [← hx0]; exact this
  clear h hx0
  have c0 := KA.out.cell 0 rfl
  have c1 := KA.out.cell 1 rfl
  unfold wnV
  go_enter Try.func11, Try.ntmps11
  go_upto_region 1 with fail
  rw [HW0.out]
  go_wp2_with fail
  refine (windowOf S D x0 (HR.out.later B0.out)).mono ?_
  rintro e x1 ⟨hc, b1⟩
  have B1 : Hid (Below w.heap.size w x1) := B0.out.trans (b1.mono B0.out.size)
  have KA1 : Hid (Blk x1 w.heap.size 26 [.int .i64 D.top, .slice S.bits.a S.bits.n S.bits.c]) := KA.out.later b1
  have KO1 : Hid (Blk x1 (w.heap.size + 1) 26 [.int .i64 0, .slice none 0 0]) := KO.out.later b1
  have HLT : Hid (w.heap.size + 1 < x0.heap.size) := KO.out.lt
  clear b1 c0 c1 KA KO B0 HW0
  rcases hc with ⟨hk, g, rfl, hg, hw⟩ | ⟨hk, rfl⟩
  · have HO : Hid (WOk D.top D.bits) := winOk_iff.1 hk
    have HW : Hid (Wnd x1 g D.top D.bits) := hw
    have HG : Hid (w.heap.size + 1 < g) := Nat.lt_of_lt_of_le HLT.out hg
    have HM : Hid (winMay D.top D.bits n = WinP.may D.top D.bits n) := may_split hk
    clear hk hw hg
    go_wp2_with fail
    refine (may g D.top D.bits n x1 HW.out HO.out.lo HO.out.hi).mono ?_
    cases hm : WinP.may D.top D.bits n with
    | false =>
      have HMF : Hid (winMay D.top D.bits n = false) := by show _ = false; rw [HM.out, hm]
      clear hm
      rintro e x2 ⟨rfl, b2⟩
      have B2 : Hid (Below w.heap.size w x2) := B1.out.trans (b2.mono B1.out.size)
      have KA2 : Hid (Blk x2 w.heap.size 26 [.int .i64 D.top, .slice S.bits.a S.bits.n S.bits.c]) := KA1.out.later b2
      have KO2 : Hid (Blk x2 (w.heap.size + 1) 26 [.int .i64 0, .slice none 0 0]) := KO1.out.later b2
      clear b2 B1 KA1 KO1 HW
      have c0 := KA2.out.cell 0 rfl
      have c1 := KA2.out.cell 1 rfl
      go_wp2_with fail
      refine (implCopy S D x2 (HR.out.later B2.out) hl).mono ?_
      rintro e x3 ⟨S', rfl, o3, b3⟩
      have O3 : Hid (WnOwn x3 x2.heap.size x3.heap.size S' D) := o3
      have B3 : Hid (Below w.heap.size w x3) := B2.out.trans (b3.mono B2.out.size)
      have KO3 : Hid (Blk x3 (w.heap.size + 1) 26 [.int .i64 0, .slice none 0 0]) := KO2.out.later b3
      have HL3 : Hid (w.heap.size + 1 + 1 ≤ x2.heap.size) := KO2.out.lt
      clear o3 b3 B2 KO2 KA2 c0 c1
      have q0 := KO3.out.cell 0 rfl
      have q1 := KO3.out.cell 1 rfl
      have f0 := KO3.out.frozen 0
      have f1 := KO3.out.frozen 1
      unfold wnV
      go_wp2
      obtain ⟨k4, o4, b4⟩ := stored KO3.out O3.out HL3.out
      exact bodyPost_ret (v := .tuple #[wnV D S', .bool false]) (res2 rfl (is_cell rfl k4 aggWn) (is_tmp rfl)) rfl ⟨S', by rw [add_no HMF.out, HMF.out], by rw [add_no HMF.out]; exact o4.mono (by have := HL3.out; omega) (by rw [size2]; exact Nat.le_refl _), b4 _ _ (Nat.le_succ _) B3.out⟩
    | true =>
      have HMT : Hid (winMay D.top D.bits n = true) := by show _ = true; rw [HM.out, hm]
      obtain ⟨h0, h1⟩ := may_bounds hm
      clear hm
      rintro e x2 ⟨rfl, b2⟩
      have B2 : Hid (Below w.heap.size w x2) := B1.out.trans (b2.mono B1.out.size)
      have KO2 : Hid (Blk x2 (w.heap.size + 1) 26 [.int .i64 0, .slice none 0 0]) := KO1.out.later b2
      have W2 : Hid (Wnd x2 g D.top D.bits) := HW.out.later b2
      clear b2 B1 KA1 KO1 HW
      obtain ⟨N, rfl⟩ := Int.eq_ofNat_of_zero_le h0
      go_wp2_with fail
      refine (add g D.top D.bits N x2 W2.out HO.out.lo (by omega)).mono ?_
      rintro e x3 ⟨rfl, w3, k3⟩
      have HAD : Hid (addD D (N : Int) = ⟨max D.top N, addL D.top D.bits N⟩) := by show _ = _; rw [add_yes HMT.out, Int.toNat_natCast]
      have W3 : Hid (Wnd x3 g (max D.top N) (addL D.top D.bits N)) := w3
      have B3 : Hid (Below w.heap.size w x3) := B2.out.trans (k3.below (by have := HG.out; omega) B2.out.size)
      have KO3 : Hid (Blk x3 (w.heap.size + 1) 26 [.int .i64 0, .slice none 0 0]) := KO2.out.keep (k3.block _ KO2.out.lt (.inl HG.out))
      clear w3 k3 B2 KO2 W2
      go_wp2_with fail
      refine (win g (max D.top N) (addL D.top D.bits N) x3 W3.out).mono ?_
      rw [← HAD.out]
      obtain ⟨D', hD'⟩ : ∃ D', addD D (N : Int) = D' := ⟨_, rfl⟩
      have HD' : Hid (addD D (N : Int) = D') := hD'
      rw [hD']
      clear hD'
      rintro e x4 ⟨S', rfl, o4, b4⟩
      have O4 : Hid (WnOwn x4 x3.heap.size x4.heap.size S' D') := o4
      have B4 : Hid (Below w.heap.size w x4) := B3.out.trans (b4.mono B3.out.size)
      have KO4 : Hid (Blk x4 (w.heap.size + 1) 26 [.int .i64 0, .slice none 0 0]) := KO3.out.later b4
      have HL3 : Hid (w.heap.size + 1 + 1 ≤ x3.heap.size) := KO3.out.lt
      clear o4 b4 B3 KO3 W3
      have q0 := KO4.out.cell 0 rfl
      have q1 := KO4.out.cell 1 rfl
      have f0 := KO4.out.frozen 0
      have f1 := KO4.out.frozen 1
      unfold wnV
      go_wp2
      obtain ⟨k5, o5, b5⟩ := stored KO4.out O4.out HL3.out
      exact bodyPost_ret (v := .tuple #[wnV D' S', .bool true]) (res2 rfl (is_cell rfl k5 aggWn) (is_tmp rfl)) rfl ⟨S', by rw [HD'.out, HMT.out], by rw [HD'.out]; exact o5.mono (by have := HL3.out; omega) (by rw [size2]; exact Nat.le_refl _), b5 _ _ (Nat.le_succ _) B4.out⟩
  · have HMF : Hid (winMay D.top D.bits n = false) := may_notok hk
    have B2 : Hid (Below w.heap.size w x1) := B1.out
    have KA2 : Hid (Blk x1 w.heap.size 26 [.int .i64 D.top, .slice S.bits.a S.bits.n S.bits.c]) := KA1.out
    have KO2 : Hid (Blk x1 (w.heap.size + 1) 26 [.int .i64 0, .slice none 0 0]) := KO1.out
    clear hk B1 KA1 KO1
    have c0 := KA2.out.cell 0 rfl
    have c1 := KA2.out.cell 1 rfl
    go_wp2_with fail
    refine (implCopy S D x1 (HR.out.later B2.out) hl).mono ?_
    rintro e x3 ⟨S', rfl, o3, b3⟩
    have O3 : Hid (WnOwn x3 x1.heap.size x3.heap.size S' D) := o3
    have B3 : Hid (Below w.heap.size w x3) := B2.out.trans (b3.mono B2.out.size)
    have KO3 : Hid (Blk x3 (w.heap.size + 1) 26 [.int .i64 0, .slice none 0 0]) := KO2.out.later b3
    have HL3 : Hid (w.heap.size + 1 + 1 ≤ x1.heap.size) := KO2.out.lt
    clear o3 b3 B2 KO2 KA2 c0 c1
    have q0 := KO3.out.cell 0 rfl
    have q1 := KO3.out.cell 1 rfl
    have f0 := KO3.out.frozen 0
    have f1 := KO3.out.frozen 1
    unfold wnV
    go_wp2
    obtain ⟨k4, o4, b4⟩ := stored KO3.out O3.out HL3.out
    exact bodyPost_ret (v := .tuple #[wnV D S', .bool false]) (res2 rfl (is_cell rfl k4 aggWn) (is_tmp rfl)) rfl ⟨S', by rw [add_no HMF.out, HMF.out], by rw [add_no HMF.out]; exact o4.mono (by have := HL3.out; omega) (by rw [size2]; exact Nat.le_refl _), b4 _ _ (Nat.le_succ _) B3.out⟩

set_option maxRecDepth 100000 in
set_option maxHeartbeats 2000000 in
theorem implWinList (S : WnS) (D : WnD) (w : World) (h : WnRd w S D) :
    Calls Try.prog 18 #[wnV D S] w fun e w' => ∃ q m c, e = .returned (.slice (some ⟨q, 0, none⟩) m c) ∧ m = (winList D.top D.bits).length ∧ w.heap.size ≤ q ∧ IRow w' q c (winList D.top D.bits) ∧ Below w.heap.size w w' := by
  have HR : Hid (WnRd w S D) := h
  obtain ⟨x0, hx0, k0, b0, _⟩ := boxed w D S
  have HW0 : Hid (_ = x0) := hx0
  have B0 : Hid (Below w.heap.size w x0) := b0
  have KA : Hid (Blk x0 w.heap.size 26 [.int .i64 D.top, .slice S.bits.a S.bits.n S.bits.c]) := k0
  clear h hx0 k0 b0
  have c0 := KA.out.cell 0 rfl
  have c1 := KA.out.cell 1 rfl
  unfold wnV
  go_enter Try.func18, Try.ntmps18
  go_upto_region 1 with fail
  rw [HW0.out]
  go_wp2_with fail
  refine (windowOf S D x0 (HR.out.later B0.out)).mono ?_
  rintro e x1 ⟨hc, b1⟩
  have B1 : Hid (Below w.heap.size w x1) := B0.out.trans (b1.mono B0.out.size)
  clear b1 c0 c1
  rcases hc with ⟨hk, g, rfl, _, hw⟩ | ⟨hk, rfl⟩
  · have HK : Hid (winOk D.top D.bits = true) := hk
    have HO : Hid (WOk D.top D.bits) := winOk_iff.1 hk
    have HW : Hid (Wnd x1 g D.top D.bits) := hw
    clear hk hw
    go_wp2_with fail
    refine (list g D.top D.bits x1 HW.out HO.out.lo HO.out.hi HK.out).mono ?_
    rintro e x2 ⟨q, m, c, rfl, em, hq, r2, b2⟩
    have EM : Hid (m = (winList D.top D.bits).length) := em
    have R2 : Hid (IRow x2 q c (winList D.top D.bits)) := r2
    have HQ : Hid (w.heap.size ≤ q) := Nat.le_trans B1.out.size hq
    have B2 : Hid (Below w.heap.size w x2) := B1.out.trans (b2.mono B1.out.size)
    clear em hq r2 b2
    go_wp2
    go_ret
    exact ⟨q, m, c, rfl, EM.out, HQ.out, R2.out, B2.out⟩
  · have HE : Hid (winList D.top D.bits = []) := by show _ = _; unfold winList; rw [if_neg (by rw [hk]; simp)]
    clear hk
    go_wp2
    go_ret
    exact ⟨x1.heap.size, 0, 0, rfl, by rw [HE.out]; rfl, B1.out.size, by rw [HE.out]; exact irow_new x1 [] (by simp), B1.out.alloc B1.out.size _⟩

end Go.Proofs.Ytmcflfpckpjphaa.WnK
