/-
  impl's windows: a new one, one read from what it tells, telling it, listing it.
-/
import Derived.Test.YtmcflfpckpjphaaWnJ
namespace Go.Proofs.Ytmcflfpckpjphaa.WnL
open Go.RowKit Go.Proofs.Ytmcflfpckpjphaa.Mem Go.Proofs.Ytmcflfpckpjphaa.MemI Go.Proofs.Ytmcflfpckpjphaa.Blk Go.Proofs.Ytmcflfpckpjphaa.Zone Go.Proofs.Ytmcflfpckpjphaa.ZoneI Go.Proofs.Ytmcflfpckpjphaa.WnZ Go.Proofs.Ytmcflfpckpjphaa.Res Go.Proofs.Ytmcflfpckpjphaa.Each Go.Proofs.Ytmcflfpckpjphaa.Copy Go.Proofs.Ytmcflfpckpjphaa.Ops Go.Proofs.Ytmcflfpckpjphaa.WinP Go.Proofs.Ytmcflfpckpjphaa.WinB Go.Proofs.Ytmcflfpckpjphaa.Bits Go.Proofs.Ytmcflfpckpjphaa.WnI Go.Proofs.Ytmcflfpckpjphaa.WnJ

set_option maxRecDepth 100000 in
set_option maxHeartbeats 800000 in
theorem newWindow (w : World) : Calls Try.prog 99 #[] w fun e w' => e = .returned (.pointer (some ⟨w.heap.size, 0, none⟩)) ∧ Wnd w' w.heap.size (-1) zeros ∧ Below w.heap.size w w' := by
  go_enter Try.func99, Try.ntmps99
  go_wp2
  go_ret
  exact ⟨rfl, ⟨rfl, new_ok.words, Blk.new w _ (.int .i64 (-1) :: zeros.map (Value.int .u32))⟩, (Below.refl _ _).alloc (Nat.le_refl _) _⟩

theorem irow_set {w : World} {g cap : Nat} {l : List Int} (h : IRow w g cap l) (i : Nat) (z : Int) : IRow (w.setCell ⟨g, i, none⟩ (.int .i64 z)) g cap (l.set i z) := by
  have h1 := ((h.owns (Nat.le_refl g)).stored i (.int .i64 z)).1
  rw [← List.map_set] at h1
  have e : (l.set i z).length = l.length := by rw [List.length_set]
  rw [← e] at h1
  exact (IRow.of h1).1
theorem mid_set (l : List Int) (k : Nat) (hl : l.length = 32) (hk : k < 32) : (l.take k ++ List.replicate (32 - k) 0).set k (l.getD k 0) = l.take (k + 1) ++ List.replicate (32 - (k + 1)) 0 := by
  have h := set_mid l k (by omega)
  rw [hl] at h
  exact h
theorem mid_length (l : List Int) (k : Nat) (hl : l.length = 32) (hk : k ≤ 32) : (l.take k ++ List.replicate (32 - k) (0 : Int)).length = 32 := by
  rw [List.length_append, List.length_take, List.length_replicate, hl]; omega
theorem mid_end (l : List Int) (hl : l.length = 32) : l.take 32 ++ List.replicate (32 - 32) (0 : Int) = l := by
  rw [List.take_of_length_le (by omega)]; simp

set_option maxRecDepth 100000 in
set_option maxHeartbeats 4000000 in
theorem win (g : Nat) (top : Int) (l : List Int) (w : World) (h : Wnd w g top l) :
    Calls Try.prog 52 #[.pointer (some ⟨g, 0, none⟩)] w fun e w' => ∃ S', e = .returned (wnV ⟨top, l⟩ S') ∧ WnOwn w' w.heap.size w'.heap.size S' ⟨top, l⟩ ∧ Below w.heap.size w w' := by
  have H0 : Hid (Wnd w g top l) := h
  have HG : Hid (g < w.heap.size) := h.lt
  obtain ⟨i0, hi, hz0, hz1, hz2⟩ := info_parts info64
  obtain ⟨x0, hx0⟩ : ∃ x0, w.alloc (.cells #[.int .i64 0, .slice none 0 0] 26) = x0 := ⟨_, rfl⟩
  have HW0 : Hid (_ = x0) := hx0
  have B0 : Hid (Below w.heap.size w x0) := by rw [← hx0]; exact (Below.refl _ _).alloc (Nat.le_refl _) _
  have KO0 : Hid (Blk x0 w.heap.size 26 [.int .i64 0, .slice none 0 0]) := by rw [← hx0]; exact Blk.new w _ _
  have HSZ : Hid (x0.heap.size = w.heap.size + 1) := by rw [← hx0]; show _ = _; simp
  clear h hx0
  go_enter Try.func52, Try.ntmps52
  go_upto_region 1 with fail
  rw [HW0.out]
  go_wp2_with (at_make; refine wpList_make_full _ rfl _ _ 24 rfl x0.heap.size 3 i0 (.int .i64 0) 1 Try.underlying24 hi hz0 hz1 _ _ _ _ 32 rfl rfl rfl rfl (by rw [hz2]; omega) (by unfold maxLen; omega) (Nat.le_refl _) ?_; intro w1 hown hgr)
  have b1 : Below x0.heap.size x0 w1 := (Below.refl _ _).grown hgr (Nat.le_refl _) (fun k h => by cases h)
  have B1 : Hid (Below w.heap.size w w1) := B0.out.trans (b1.mono B0.out.size)
  have KO1 : Hid (Blk w1 w.heap.size 26 [.int .i64 0, .slice none 0 0]) := KO0.out.later b1
  have R1 : Hid (IRow w1 (w.heap.size + 1) 32 (l.take 0 ++ List.replicate (32 - 0) 0)) := by
    have h2 : w1.ownsRow x0.heap.size 3 1 (.slice (some ⟨x0.heap.size, 0, none⟩) 32 32) 32 ((l.take 0 ++ List.replicate (32 - 0) 0).map (Value.int .i64)) := by
      simpa [Value.cells, toList_madeCells_one] using hown
    rw [HSZ.out] at h2
    exact (IRow.of h2).1
  rw [HSZ.out]
  clear hown hgr b1 B0 KO0 HW0
  have HL : Hid (l.length = 32) := H0.out.1
  go_loopw [6] (fun i wr => ∃ k : Nat, k ≤ 32 ∧ i = .int .i64 k ∧ IRow wr (w.heap.size + 1) 32 (l.take k ++ List.replicate (32 - k) 0) ∧ Blk wr w.heap.size 26 [.int .i64 0, .slice none 0 0] ∧ Below w.heap.size w wr) (fun i _ => 32 - (intOf i).toNat)
  case atStart => exact ⟨0, Nat.zero_le _, rfl, R1.out, KO1.out, B1.out⟩
  case round =>
    obtain ⟨k, hk, rfl, hr, hko, hbe⟩ := hrel
    have HR : Hid (IRow wr (w.heap.size + 1) 32 (l.take k ++ List.replicate (32 - k) 0)) := hr
    have HKO : Hid (Blk wr w.heap.size 26 [.int .i64 0, .slice none 0 0]) := hko
    have HBe : Hid (Below w.heap.size w wr) := hbe
    have HW : Hid (Wnd wr g top l) := H0.out.later hbe
    clear hr hko hbe R1 KO1 B1
    by_cases hlt : k < 32
    · obtain ⟨x, hx⟩ : ∃ x, l.getD k 0 = x := ⟨_, rfl⟩
      have c1 : wr.cell? ⟨g, 1 + k, none⟩ = some (.int .u32 x) := by rw [HW.out.word k hlt, hx]
      have hx2 := HW.out.2.1.at k
      rw [hx] at hx2
      have hwx : wrap64 x = x := by unfold wrap64; omega
      have R2 : Hid (IRow (wr.setCell ⟨w.heap.size + 1, k, none⟩ (.int .i64 x)) (w.heap.size + 1) 32 (l.take (k + 1) ++ List.replicate (32 - (k + 1)) 0)) := by
        have := irow_set HR.out k x
        rw [← hx, mid_set l k HL.out hlt] at this
        rw [← hx]; exact this
      have q0 : ∃ v, wr.cell? ⟨w.heap.size + 1, k, none⟩ = some v := ⟨_, HR.out.cell k (by rw [mid_length l k HL.out hk]; exact hlt)⟩
      obtain ⟨v0, q0⟩ := q0
      have f0 : wr.frozen? ⟨w.heap.size + 1, k, none⟩ = false := (HR.out.owns (Nat.le_refl _)).frozenAt k
      have K2 : Hid (Blk (wr.setCell ⟨w.heap.size + 1, k, none⟩ (.int .i64 x)) w.heap.size 26 [.int .i64 0, .slice none 0 0]) := HKO.out.other (by show w.heap.size ≠ w.heap.size + 1; omega) _
      have B2 : Hid (Below w.heap.size w (wr.setCell ⟨w.heap.size + 1, k, none⟩ (.int .i64 x))) := HBe.out.setCell (by show w.heap.size ≤ w.heap.size + 1; omega) _
      clear hx hx2
      go_wp2
      go_roundw
      case rel => exact ⟨k + 1, by omega, by go_num, R2.out, K2.out, B2.out⟩
      case measure => simp [intOf]; omega
    · obtain rfl : k = 32 := by omega
      have RF : Hid (IRow wr (w.heap.size + 1) 32 l) := by
        have := HR.out
        rw [mid_end l HL.out] at this
        exact this
      have c0 := HW.out.topCell
      have q0 := HKO.out.cell 0 rfl
      have q1 := HKO.out.cell 1 rfl
      have f0 := HKO.out.frozen 0
      have f1 := HKO.out.frozen 1
      clear HR
      go_wp2
      have KF : Blk ((wr.setCell ⟨w.heap.size, 0, none⟩ (.int .i64 top)).setCell ⟨w.heap.size, 1, none⟩ (.slice (some ⟨w.heap.size + 1, 0, none⟩) 32 32)) w.heap.size 26 [.int .i64 top, .slice (some ⟨w.heap.size + 1, 0, none⟩) 32 32] := (HKO.out.set 0 _ (by simp [maxLen])).set 1 _ (by simp [maxLen])
      have BF : Below w.heap.size w ((wr.setCell ⟨w.heap.size, 0, none⟩ (.int .i64 top)).setCell ⟨w.heap.size, 1, none⟩ (.slice (some ⟨w.heap.size + 1, 0, none⟩) 32 32)) := (HBe.out.setCell (Nat.le_refl _) _).setCell (Nat.le_refl _) _
      have RG : IRow ((wr.setCell ⟨w.heap.size, 0, none⟩ (.int .i64 top)).setCell ⟨w.heap.size, 1, none⟩ (.slice (some ⟨w.heap.size + 1, 0, none⟩) 32 32)) (w.heap.size + 1) 32 l := (RF.out.keep (Below.heap_setCell _ _ _ _ (by show w.heap.size + 1 ≠ w.heap.size; omega))).keep (Below.heap_setCell _ _ _ _ (by show w.heap.size + 1 ≠ w.heap.size; omega))
      exact bodyPost_ret (v := wnV ⟨top, l⟩ ⟨⟨some ⟨w.heap.size + 1, 0, none⟩, 32, 32⟩⟩) (res1 rfl (is_cell rfl KF aggWn)) rfl ⟨⟨⟨some ⟨w.heap.size + 1, 0, none⟩, 32, 32⟩⟩, rfl, ⟨ISOwn.row RG HL.out.symm (by omega) RG.lt, ⟨⟩⟩, BF⟩
set_option maxRecDepth 100000 in
set_option maxHeartbeats 4000000 in
theorem list (g : Nat) (top : Int) (l : List Int) (w : World) (h : Wnd w g top l) (lo : -1 ≤ top) (hi : top ≤ 281474976710655) (hok : winOk top l = true) :
    Calls Try.prog 58 #[.pointer (some ⟨g, 0, none⟩)] w fun e w' => ∃ q m c, e = .returned (.slice (some ⟨q, 0, none⟩) m c) ∧ m = (winList top l).length ∧ w.heap.size ≤ q ∧ IRow w' q c (winList top l) ∧ Below w.heap.size w w' := by
  have H0 : Hid (Wnd w g top l) := h
  have HLS0 : Hid (winList top l = lst l (least top).toNat (top + 1 - least top).toNat) := by show _ = _; unfold winList; rw [if_pos hok]
  have R1 : Hid (IRow (w.alloc (.cells #[] 3)) w.heap.size 0 []) := irow_new w [] (by simp)
  have B1 : Hid (Below w.heap.size w (w.alloc (.cells #[] 3))) := (Below.refl _ _).alloc (Nat.le_refl _) _
  have c0 := (H0.out.later B1.out).topCell
  clear h hok
  by_cases ha : 0 < top - 1024 + 1
  · obtain ⟨A, hA⟩ : ∃ A : Nat, top - 1024 + 1 = (A : Int) := ⟨(top - 1024 + 1).toNat, by omega⟩
    obtain ⟨C, hC⟩ : ∃ C : Nat, top + 1 - (A : Int) = (C : Int) := ⟨(top + 1 - (A : Int)).toNat, by omega⟩
    have hc1 : C ≤ 1024 := by omega
    have HLS : Hid (winList top l = lst l A C) := by
      show _ = _
      rw [HLS0.out]
      have e : least top = (A : Int) := by unfold least; split <;> omega
      rw [e, hC, Int.toNat_natCast, Int.toNat_natCast]
    rw [hA] at ha
    go_enter Try.func58, Try.ntmps58
    go_wp2
    have hA1 : A ≤ 281474976710655 := by omega
    have HAB : Hid ((A : Int) = top - 1023 ∧ (C : Int) = 1024) := by show _ ∧ _; omega
    clear c0 hA hC ha
    go_loopw [3, 22] (fun s3 i wr => ∃ (k q m c : Nat), k ≤ C ∧ i = .int .i64 k ∧ s3 = .slice (some ⟨q, 0, none⟩) m c ∧ m = (lst l A k).length ∧ IRow wr q c (lst l A k) ∧ w.heap.size ≤ q ∧ Below w.heap.size w wr) (fun _ i _ => C - (intOf i).toNat)
    case atStart => exact ⟨0, w.heap.size, 0, 0, Nat.zero_le _, rfl, rfl, rfl, R1.out, Nat.le_refl _, B1.out⟩
    case round =>
      obtain ⟨k, q, m, c, hk, rfl, rfl, em, hr, hq, hbe⟩ := hrel
      have EM : Hid (m = (lst l A k).length) := em
      have HR : Hid (IRow wr q c (lst l A k)) := hr
      have HBe : Hid (Below w.heap.size w wr) := hbe
      have HW : Hid (Wnd wr g top l) := H0.out.later hbe
      have hml : m ≤ 1024 := by have := lst_length l A k; omega
      clear em hr hbe R1 B1
      by_cases hlt : k < C
      · go_wp2_with fail
        refine (has g top l ((A : Int) + k) wr HW.out lo hi).mono ?_
        have HH : Hid (WinP.has top l ((A : Int) + k) = bit l (A + k)) := by
          show _ = _
          have := HAB.out
          rw [has_yes (by omega), show ((A : Int) + k).toNat = A + k by omega]
        rw [HH.out]
        cases hbit : bit l (A + k) with
        | true =>
          have HS : Hid (lst l A (k + 1) = lst l A k ++ [(A : Int) + k]) := by show _ = _; rw [lst, if_pos hbit, show (((A + k : Nat)) : Int) = (A : Int) + k by omega]
          clear hbit HH
          rintro e w2 ⟨rfl, b2⟩
          have B2 : Hid (Below w.heap.size w w2) := HBe.out.trans (b2.mono HBe.out.size)
          have R2 : Hid (IRow w2 q c (lst l A k)) := HR.out.later b2
          clear b2 HR HBe HW
          go_wp2_with (at_builtin; refine iwpList_app _ rfl (.tmp 31) (.tmp 33) rfl w.heap.size q m c (lst l A k) [(A : Int) + k] rfl EM.out (irow_alloc R2.out _) hq (some ⟨w2.heap.size, 0, none⟩) 1 1 rfl rfl (ird_one w2 _) (by intro e; cases e) (by rw [← EM.out, List.length_singleton]; omega) ?_; intro q3 c3 w3 r3 k3 l3 gr3; have R3 : Hid (IRow w3 q3 c3 (lst l A k ++ [(A : Int) + k])) := r3; have K3 : Hid (w.heap.size ≤ q3) := k3; have B3 : Hid (Below w.heap.size w w3) := (B2.out.alloc B2.out.size _).grown gr3 (Nat.le_trans B2.out.size (by simp)) (fun k h => by cases h; exact hq); clear r3 k3 l3 gr3)
          go_wp2
          go_roundw
          case rel => exact ⟨k + 1, q3, m + 1, c3, by omega, by go_num, rfl, by rw [HS.out, List.length_append, ← EM.out]; rfl, by rw [HS.out]; exact R3.out, K3.out, B3.out⟩
          case measure => simp [intOf]; omega
        | false =>
          have HS : Hid (lst l A (k + 1) = lst l A k) := by show _ = _; rw [lst, hbit]; simp
          clear hbit HH
          rintro e w2 ⟨rfl, b2⟩
          have B2 : Hid (Below w.heap.size w w2) := HBe.out.trans (b2.mono HBe.out.size)
          have R2 : Hid (IRow w2 q c (lst l A k)) := HR.out.later b2
          clear b2 HR HBe HW
          go_wp2
          go_roundw
          case rel => exact ⟨k + 1, q, m, c, by omega, by go_num, rfl, by rw [HS.out]; exact EM.out, by rw [HS.out]; exact R2.out, hq, B2.out⟩
          case measure => simp [intOf]; omega
      · obtain rfl : k = C := by omega
        go_wp2
        go_ret
        exact ⟨q, m, c, rfl, by rw [HLS.out]; exact EM.out, hq, by rw [HLS.out]; exact HR.out, HBe.out⟩
  · obtain ⟨C, hC⟩ : ∃ C : Nat, top + 1 = (C : Int) := ⟨(top + 1).toNat, by omega⟩
    have hc1 : C ≤ 1024 := by omega
    have HLS : Hid (winList top l = lst l 0 C) := by
      show _ = _
      rw [HLS0.out]
      have e : least top = 0 := by unfold least; split <;> omega
      rw [e, show (top + 1 - 0).toNat = C by omega]; rfl
    go_enter Try.func58, Try.ntmps58
    go_wp2
    have HAB : Hid ((0 : Int) = 0 ∧ (C : Int) = top + 1) := by show _ ∧ _; omega
    clear c0 hC
    go_loopw [3, 22] (fun s3 i wr => ∃ (k q m c : Nat), k ≤ C ∧ i = .int .i64 k ∧ s3 = .slice (some ⟨q, 0, none⟩) m c ∧ m = (lst l 0 k).length ∧ IRow wr q c (lst l 0 k) ∧ w.heap.size ≤ q ∧ Below w.heap.size w wr) (fun _ i _ => C - (intOf i).toNat)
    case atStart => exact ⟨0, w.heap.size, 0, 0, Nat.zero_le _, rfl, rfl, rfl, R1.out, Nat.le_refl _, B1.out⟩
    case round =>
      obtain ⟨k, q, m, c, hk, rfl, rfl, em, hr, hq, hbe⟩ := hrel
      have EM : Hid (m = (lst l 0 k).length) := em
      have HR : Hid (IRow wr q c (lst l 0 k)) := hr
      have HBe : Hid (Below w.heap.size w wr) := hbe
      have HW : Hid (Wnd wr g top l) := H0.out.later hbe
      have hml : m ≤ 1024 := by have := lst_length l 0 k; omega
      clear em hr hbe R1 B1
      by_cases hlt : k < C
      · go_wp2_with fail
        refine (has g top l ((k : Int)) wr HW.out lo hi).mono ?_
        have HH : Hid (WinP.has top l ((k : Int)) = bit l (0 + k)) := by
          show _ = _
          have := HAB.out
          rw [has_yes (by omega), show ((k : Int)).toNat = 0 + k by omega]
        rw [HH.out]
        cases hbit : bit l (0 + k) with
        | true =>
          have HS : Hid (lst l 0 (k + 1) = lst l 0 k ++ [(k : Int)]) := by show _ = _; rw [lst, if_pos hbit, show (((0 + k : Nat)) : Int) = (k : Int) by omega]
          clear hbit HH
          rintro e w2 ⟨rfl, b2⟩
          have B2 : Hid (Below w.heap.size w w2) := HBe.out.trans (b2.mono HBe.out.size)
          have R2 : Hid (IRow w2 q c (lst l 0 k)) := HR.out.later b2
          clear b2 HR HBe HW
          go_wp2_with (at_builtin; refine iwpList_app _ rfl (.tmp 31) (.tmp 33) rfl w.heap.size q m c (lst l 0 k) [(k : Int)] rfl EM.out (irow_alloc R2.out _) hq (some ⟨w2.heap.size, 0, none⟩) 1 1 rfl rfl (ird_one w2 _) (by intro e; cases e) (by rw [← EM.out, List.length_singleton]; omega) ?_; intro q3 c3 w3 r3 k3 l3 gr3; have R3 : Hid (IRow w3 q3 c3 (lst l 0 k ++ [(k : Int)])) := r3; have K3 : Hid (w.heap.size ≤ q3) := k3; have B3 : Hid (Below w.heap.size w w3) := (B2.out.alloc B2.out.size _).grown gr3 (Nat.le_trans B2.out.size (by simp)) (fun k h => by cases h; exact hq); clear r3 k3 l3 gr3)
          go_wp2
          go_roundw
          case rel => exact ⟨k + 1, q3, m + 1, c3, by omega, by go_num, rfl, by rw [HS.out, List.length_append, ← EM.out]; rfl, by rw [HS.out]; exact R3.out, K3.out, B3.out⟩
          case measure => simp [intOf]; omega
        | false =>
          have HS : Hid (lst l 0 (k + 1) = lst l 0 k) := by show _ = _; rw [lst, hbit]; simp
          clear hbit HH
          rintro e w2 ⟨rfl, b2⟩
          have B2 : Hid (Below w.heap.size w w2) := HBe.out.trans (b2.mono HBe.out.size)
          have R2 : Hid (IRow w2 q c (lst l 0 k)) := HR.out.later b2
          clear b2 HR HBe HW
          go_wp2
          go_roundw
          case rel => exact ⟨k + 1, q, m, c, by omega, by go_num, rfl, by rw [HS.out]; exact EM.out, by rw [HS.out]; exact R2.out, hq, B2.out⟩
          case measure => simp [intOf]; omega
      · obtain rfl : k = C := by omega
        go_wp2
        go_ret
        exact ⟨q, m, c, rfl, by rw [HLS.out]; exact EM.out, hq, by rw [HLS.out]; exact HR.out, HBe.out⟩
end Go.Proofs.Ytmcflfpckpjphaa.WnL
