/-
  What impl's copyEp, EpNew, EpOk answer.
-/
import Derived.Test.YtmcflfpckpjphaaEpP
import Derived.Test.YtmcflfpckpjphaaKeyI
import Derived.Test.YtmcflfpckpjphaaApp
import Derived.Test.YtmcflfpckpjphaaWnK
namespace Go.Proofs.Ytmcflfpckpjphaa.EpI
open Go.RowKit Go.Proofs.Ytmcflfpckpjphaa.Mem Go.Proofs.Ytmcflfpckpjphaa.MemI Go.Proofs.Ytmcflfpckpjphaa.App Go.Proofs.Ytmcflfpckpjphaa.Blk Go.Proofs.Ytmcflfpckpjphaa.Words Go.Proofs.Ytmcflfpckpjphaa.Zone Go.Proofs.Ytmcflfpckpjphaa.ZoneI Go.Proofs.Ytmcflfpckpjphaa.Res Go.Proofs.Ytmcflfpckpjphaa.WnZ Go.Proofs.Ytmcflfpckpjphaa.WinP Go.Proofs.Ytmcflfpckpjphaa.WnC Go.Proofs.Ytmcflfpckpjphaa.WnK Go.Proofs.Ytmcflfpckpjphaa.WnG Go.Proofs.Ytmcflfpckpjphaa.EpZ Go.Proofs.Ytmcflfpckpjphaa.EpL Go.Proofs.Ytmcflfpckpjphaa.EpP Go.Proofs.Ytmcflfpckpjphaa.KeyI

set_option maxRecDepth 100000 in
set_option maxHeartbeats 8000000 in
theorem implEpOk (S : EpS) (D : EpD) (w : World) (h : EpRd w S D) :
    Calls Try.prog 44 #[epV D S] w fun e w' => e = .returned (.bool (epOk D)) ∧ Below w.heap.size w w' := by
  have HR : Hid (EpRd w S D) := h
  obtain ⟨v, hv⟩ : ∃ v, epOk D = v := ⟨_, rfl⟩
  have HV : Hid (epOk D = v) := hv
  have HN : Hid (S.key.n = D.key.length) := h.key.len
  rw [hv]
  obtain ⟨x0, hx0⟩ : ∃ x0, w.alloc (.cells #[.int .i64 D.n, .slice S.key.a S.key.n S.key.c, .int .i64 D.seq, .int .i64 D.win.top, .slice S.win.bits.a S.win.bits.n S.win.bits.c] 54) = x0 := ⟨_, rfl⟩
  have HW0 : Hid (w.alloc (.cells #[.int .i64 D.n, .slice S.key.a S.key.n S.key.c, .int .i64 D.seq, .int .i64 D.win.top, .slice S.win.bits.a S.win.bits.n S.win.bits.c] 54) = x0) := hx0
  have B0 : Hid (Below w.heap.size w x0) := by rw [← hx0]; exact (Below.refl _ _).alloc (Nat.le_refl _) _
  have K0 : Hid (Blk x0 w.heap.size 54 [.int .i64 D.n, .slice S.key.a S.key.n S.key.c, .int .i64 D.seq, .int .i64 D.win.top, .slice S.win.bits.a S.win.bits.n S.win.bits.c]) := by rw [← hx0]; exact Blk.new w _ _
  clear h hv hx0
  unfold epV
  go_enter Try.func44, Try.ntmps44
  go_upto_region 1 with fail
  rw [HW0.out]
  obtain ⟨ga, hga⟩ : ∃ ga, w.heap.size = ga := ⟨_, rfl⟩
  rw [hga] at K0
  rw [hga]
  clear hga HW0
  have d0 := K0.out.cell 0 rfl
  have d1 := K0.out.cell 1 rfl
  have d2 := K0.out.cell 2 rfl
  have d3 := K0.out.cell 3 rfl
  have d4 := K0.out.cell 4 rfl
  go_wp2_with fail
  refine (isEpoch D.n x0).mono ?_
  rintro e y ⟨rfl, rfl⟩
  cases h0 : isIn D.n 0 4294967295 with
  | false =>
    obtain rfl : v = false := by rw [← HV.out]; unfold epOk; simp [h0]
    go_wp2
    go_ret
    exact ⟨rfl, B0.out⟩
  | true =>
    go_wp2_with fail
    refine (isKey S.key.a S.key.n S.key.c x0).mono ?_
    rintro e y ⟨rfl, rfl⟩
    cases h1 : ((S.key.n : Int) == 32) with
    | false =>
      obtain rfl : v = false := by have hn := HN.out; rw [← HV.out]; unfold epOk; rw [← hn]; simp [h1]
      go_wp2
      go_ret
      exact ⟨rfl, B0.out⟩
    | true =>
      by_cases h2 : D.seq ≥ 0
      case neg =>
        obtain rfl : v = false := by rw [← HV.out]; unfold epOk; rw [isIn_no (x := D.seq) (fun h => h2 h.1)]; simp
        go_wp2
        go_ret
        exact ⟨rfl, B0.out⟩
      by_cases h3 : D.seq ≤ 281474976710656
      case neg =>
        obtain rfl : v = false := by rw [← HV.out]; unfold epOk; rw [isIn_no (x := D.seq) (fun h => h3 h.2)]; simp
        go_wp2
        go_ret
        exact ⟨rfl, B0.out⟩
      have HQ : Hid (isIn D.seq 0 281474976710656 = true) := isIn_yes ⟨h2, h3⟩
      obtain rfl : v = winOk D.win.top D.win.bits := by have hn := HN.out; rw [← HV.out]; unfold epOk; rw [HQ.out, h0, ← hn, h1]; simp
      go_wp2_with fail
      refine (implWinOk S.win D.win x0 (HR.out.later B0.out).win).mono ?_
      rintro e x1 ⟨rfl, b1⟩
      have B1 : Hid (Below w.heap.size w x1) := B0.out.trans (b1.mono B0.out.size)
      clear b1 d0 d1 d2 d3 d4
      go_wp2
      go_ret
      exact ⟨rfl, B1.out⟩

set_option maxRecDepth 100000 in
set_option maxHeartbeats 8000000 in
theorem implEpNew (n : Int) (s : Sl) (l : List Int) (w : World) (h : SRd w s l) :
    Calls Try.prog 37 #[.int .i64 n, .slice s.a s.n s.c] w (AnsE (newE n l) w) := by
  have HR : Hid (SRd w s l) := h
  have HN : Hid (s.n = l.length) := h.len
  have HNL : Hid (s.a = none → s.c = 0) := h.nil
  obtain ⟨R, hR⟩ : ∃ R, newE n l = R := ⟨_, rfl⟩
  have HE : Hid (newE n l = R) := hR
  rw [hR]
  obtain ⟨x0, hx0⟩ : ∃ x0, w.alloc (.cells #[.int .i64 0, .slice none 0 0, .int .i64 0, .int .i64 0, .slice none 0 0] 54) = x0 := ⟨_, rfl⟩
  have HW0 : Hid (w.alloc (.cells #[.int .i64 0, .slice none 0 0, .int .i64 0, .int .i64 0, .slice none 0 0] 54) = x0) := hx0
  have B0 : Hid (Below w.heap.size w x0) := by rw [← hx0]; exact (Below.refl _ _).alloc (Nat.le_refl _) _
  have K0 : Hid (Blk x0 w.heap.size 54 [.int .i64 0, .slice none 0 0, .int .i64 0, .int .i64 0, .slice none 0 0]) := by rw [← hx0]; exact Blk.new w _ _
  clear h hR hx0
  obtain ⟨sa, sn, sc⟩ := s
  go_enter Try.func37, Try.ntmps37
  go_upto_region 1 with fail
  rw [HW0.out]
  obtain ⟨go, hgo⟩ : ∃ go, w.heap.size = go := ⟨_, rfl⟩
  have HG : Hid (w.heap.size = go ∧ go < x0.heap.size) := ⟨hgo, by rw [← hgo]; exact K0.out.lt⟩
  rw [hgo] at K0
  rw [hgo]
  clear hgo HW0
  have d0 := K0.out.cell 0 rfl
  have d1 := K0.out.cell 1 rfl
  have d2 := K0.out.cell 2 rfl
  have d3 := K0.out.cell 3 rfl
  have d4 := K0.out.cell 4 rfl
  have f0 := K0.out.frozen 0
  have f1 := K0.out.frozen 1
  have f2 := K0.out.frozen 2
  have f3 := K0.out.frozen 3
  have f4 := K0.out.frozen 4
  go_wp2_with fail
  refine (isEpoch n x0).mono ?_
  rintro e y ⟨rfl, rfl⟩
  cases h0 : isIn n 0 4294967295 with
  | false =>
    obtain rfl : R = zeroE := by have hn := HN.out; rw [← HE.out]; exact newE_no (by unfold newB; rw [← hn]; simp [h0])
    go_wp2
    obtain ⟨k1, k2, k3⟩ := ep_stored (D := zeroE) (S := zeroES) K0.out (zeroE_own x0 x0.heap.size x0.heap.size (Nat.le_refl _)) (.inl (by have := HG.out; omega))
    exact bodyPost_ret (v := epV zeroE zeroES) (res1 rfl (is_cell rfl k1 aggEp)) rfl ⟨zeroES, rfl, zeroE_own _ _ _ (by rw [ep_size]; exact B0.out.size), k3 _ _ (by have := HG.out; omega) B0.out⟩
  | true =>
    go_wp2_with fail
    refine (isKey sa sn sc x0).mono ?_
    rintro e y ⟨rfl, rfl⟩
    cases h1 : ((sn : Int) == 32) with
    | false =>
      obtain rfl : R = zeroE := by have hn := HN.out; rw [← HE.out]; exact newE_no (by unfold newB; rw [← hn]; simp [h1])
      go_wp2
      obtain ⟨k1, k2, k3⟩ := ep_stored (D := zeroE) (S := zeroES) K0.out (zeroE_own x0 x0.heap.size x0.heap.size (Nat.le_refl _)) (.inl (by have := HG.out; omega))
      exact bodyPost_ret (v := epV zeroE zeroES) (res1 rfl (is_cell rfl k1 aggEp)) rfl ⟨zeroES, rfl, zeroE_own _ _ _ (by rw [ep_size]; exact B0.out.size), k3 _ _ (by have := HG.out; omega) B0.out⟩
    | true =>
      have HB : Hid (newB n l.length = true) := by have hn := HN.out; show newB _ _ = true; unfold newB; rw [← hn]; simp [h0, h1]
      have HLL : Hid (l.length = 32) := by have := (newB_parts HB.out).2; show _ = _; omega
      obtain rfl : R = ⟨n, l, 0, ⟨-1, zeros⟩⟩ := by rw [← HE.out]; exact newE_yes HB.out
      clear h0 h1
      go_wp2_with fail
      refine (putBytes sa none sn sc 0 0 l [] x0 HN.out rfl ((HR.out.later B0.out).rd) (fun i hi => by cases hi) HNL.out (fun _ => rfl) (by have := HLL.out; omega) (by simp)).mono ?_
      rintro e x1 ⟨rfl, r, b⟩
      have r' : Row x1 x0.heap.size (sn + 0) l := by simpa using r
      have Ok : Hid (SOwn x1 x0.heap.size x1.heap.size ⟨some ⟨x0.heap.size, 0, none⟩, sn + 0, sn + 0⟩ l) := SOwn.row r' HN.out HR.out.bytes (Nat.le_refl _) r'.lt
      have T1 : Hid (Below x0.heap.size x0 x1) := b
      clear r r' b
      have K1 : Hid (Blk x1 go 54 [.int .i64 0, .slice none 0 0, .int .i64 0, .int .i64 0, .slice none 0 0]) := K0.out.later T1.out
      have L1 : Hid (x0.heap.size ≤ x1.heap.size) := T1.out.size
      have B1 : Hid (Below w.heap.size w x1) := B0.out.trans (T1.out.mono B0.out.size)
      clear d0 d1 d2 d3 d4 f0 f1 f2 f3 f4
      go_wp2_with fail
      refine (implWinNew x1).mono ?_
      unfold Made
      rintro e x2 ⟨S2, rfl, o, b⟩
      have Ow : Hid (WnOwn x2 x1.heap.size x2.heap.size S2 ⟨-1, zeros⟩) := o
      have Ok2 : Hid (SOwn x2 x0.heap.size x1.heap.size ⟨some ⟨x0.heap.size, 0, none⟩, sn + 0, sn + 0⟩ l) := Ok.out.carry (Kept.of_below b x1.heap.size) (.inl (Nat.le_refl _))
      have K2 : Hid (Blk x2 go 54 [.int .i64 0, .slice none 0 0, .int .i64 0, .int .i64 0, .slice none 0 0]) := K1.out.later b
      have B2 : Hid (Below w.heap.size w x2) := B1.out.trans (b.mono B1.out.size)
      have L2 : Hid (x1.heap.size ≤ x2.heap.size) := b.size
      clear o b
      unfold wnV
      have d0 := K2.out.cell 0 rfl
      have d1 := K2.out.cell 1 rfl
      have d2 := K2.out.cell 2 rfl
      have d3 := K2.out.cell 3 rfl
      have d4 := K2.out.cell 4 rfl
      have f0 := K2.out.frozen 0
      have f1 := K2.out.frozen 1
      have f2 := K2.out.frozen 2
      have f3 := K2.out.frozen 3
      have f4 := K2.out.frozen 4
      go_wp2
      obtain ⟨k1, k2, k3⟩ := ep_stored (D := ⟨n, l, 0, ⟨-1, zeros⟩⟩) (S := ⟨⟨some ⟨x0.heap.size, 0, none⟩, sn + 0, sn + 0⟩, S2⟩) (lo := x0.heap.size) (hi := x2.heap.size) K2.out ⟨_, _, _, _, Ok2.out, Ow.out, by have := L1.out; have := L2.out; omega⟩ (.inl (by have := HG.out; omega))
      exact bodyPost_ret (v := epV ⟨n, l, 0, ⟨-1, zeros⟩⟩ ⟨⟨some ⟨x0.heap.size, 0, none⟩, sn + 0, sn + 0⟩, S2⟩) (res1 rfl (is_cell rfl k1 aggEp)) rfl ⟨⟨⟨some ⟨x0.heap.size, 0, none⟩, sn + 0, sn + 0⟩, S2⟩, rfl, k2.mono B0.out.size (by rw [ep_size]; exact Nat.le_refl _), k3 _ _ (by have := HG.out; omega) B2.out⟩

end Go.Proofs.Ytmcflfpckpjphaa.EpI
