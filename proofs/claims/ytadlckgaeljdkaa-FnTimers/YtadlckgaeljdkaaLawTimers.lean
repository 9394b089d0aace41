/-
  The walk of the law FnTimers: at every code a timer that is asked at each number fires where its spans say, and then no more.
-/
import Derived.Test.YtadlckgaeljdkaaDrTm
import Derived.Test.YtadlckgaeljdkaaTmI
import Derived.Test.YtadlckgaeljdkaaTmS
import Derived.Test.YtadlckgaeljdkaaOps
namespace Go.Proofs.Ytadlckgaeljdkaa.LawTimers
open Go.RowKit Go.Proofs.Ytadlckgaeljdkaa.Mem Go.Proofs.Ytadlckgaeljdkaa.App Go.Proofs.Ytadlckgaeljdkaa.Blk Go.Proofs.Ytadlckgaeljdkaa.Draw Go.Proofs.Ytadlckgaeljdkaa.Zone Go.Proofs.Ytadlckgaeljdkaa.Res Go.Proofs.Ytadlckgaeljdkaa.DrN Go.Proofs.Ytadlckgaeljdkaa.Words Go.Proofs.Ytadlckgaeljdkaa.TmP Go.Proofs.Ytadlckgaeljdkaa.TmE Go.Proofs.Ytadlckgaeljdkaa.DrTm Go.Proofs.Ytadlckgaeljdkaa.Shp Go.Proofs.Ytadlckgaeljdkaa.Each Go.Proofs.Ytadlckgaeljdkaa.Copy Go.Proofs.Ytadlckgaeljdkaa.Ops

set_option maxRecDepth 100000 in
theorem bigNo (a : Option Addr) (len cap : Nat) (w : World) (h : len ≤ 1048576) :
    Calls Try.prog 10 #[.slice a len cap] w fun e w' => e = .returned (.bool false) ∧ w = w' := by
  have h' : ¬ ((1048576 : Int) < (len : Int)) := by omega
  go_enter Try.func10, Try.ntmps10
  go_wp2
  go_ret
  exact ⟨rfl, rfl⟩
set_option maxRecDepth 100000 in
theorem bigYes (a : Option Addr) (len cap : Nat) (w : World) (h : 1048576 < len) :
    Calls Try.prog 10 #[.slice a len cap] w fun e w' => e = .returned (.bool true) ∧ w = w' := by
  have h' : (1048576 : Int) < (len : Int) := by omega
  go_enter Try.func10, Try.ntmps10
  go_wp2
  go_ret
  exact ⟨rfl, rfl⟩
set_option maxRecDepth 100000 in
set_option maxHeartbeats 16000000 in
theorem small (a : Option Addr) (len cap : Nat) (l : List Int) (w : World) (hl : len = l.length) (hr : Rd w a l) (hb : Bytes l) (hlen : len ≤ 1048576) :
    Calls Try.prog 3 #[.slice a len cap] w fun e w' => e = .returned (.bool true) ∧ Below w.heap.size w w' := by
  have HR : Hid (Rd w a l) := hr
  have HL : Hid (len = l.length) := hl
  have HB : Hid (Bytes l) := hb
  clear hr hl hb
  have B0 : Hid (Below w.heap.size w w) := Below.refl _ _
  go_enter Try.func3, Try.ntmps3
  go_wp2_with fail
  refine (bigNo a len cap w hlen).mono ?_
  rintro e w0 ⟨rfl, rfl⟩
  go_wp2_with fail
  refine (drawTimerSet a len cap l w HL.out (HR.out.later B0.out (Nat.le_refl _)) HB.out hlen).mono ?_
  rintro e x1 ⟨n, rfl, vm, b⟩
  have L1 : Hid (w.heap.size ≤ x1.heap.size) := b.size
  have B1 : Hid (Below w.heap.size w x1) := B0.out.trans (b.mono B0.out.size)
  clear b B0
  have HNL : Hid (-1 ≤ n ∧ n ≤ 1000001) := by simp only [List.mem_cons, List.mem_nil_iff, or_false] at vm; show _ ∧ _; omega
  clear vm
  obtain ⟨T0, hT0⟩ : ∃ z : TmD, setT n = z := ⟨_, rfl⟩
  have HT0 : Hid (setT n = T0) := hT0
  clear hT0
  go_wp2_with fail
  refine (TmI.implTimerSet n x1).mono ?_
  rw [HT0.out]
  rintro e x2 ⟨rfl, b⟩
  have L2 : Hid (x1.heap.size ≤ x2.heap.size) := b.size
  have B2 : Hid (Below w.heap.size w x2) := B1.out.trans (b.mono B1.out.size)
  clear b B1
  obtain ⟨x3, hx3⟩ : ∃ x3, x2.alloc (.cells #[.bool T0.on, .int .i64 T0.due, .int .i64 T0.wait, .int .i64 T0.tries] 26) = x3 := ⟨_, rfl⟩
  have HW3 : Hid (x2.alloc (.cells #[.bool T0.on, .int .i64 T0.due, .int .i64 T0.wait, .int .i64 T0.tries] 26) = x3) := hx3
  have b3 : Below x2.heap.size x2 x3 := by rw [← hx3]; exact (Below.refl _ _).alloc (Nat.le_refl _) _
  have KN : Blk x3 x2.heap.size 26 [.bool T0.on, .int .i64 T0.due, .int .i64 T0.wait, .int .i64 T0.tries] := by rw [← hx3]; exact Blk.new x2 _ _
  have HSZ3 : Hid (x3.heap.size = x2.heap.size + 1) := by rw [← hx3]; show _ = _; simp
  clear hx3
  have L3 : Hid (x2.heap.size ≤ x3.heap.size) := b3.size
  have B3 : Hid (Below w.heap.size w x3) := B2.out.trans (b3.mono B2.out.size)
  clear b3 B2
  unfold tmV
  go_upto_region 5 with fail
  rw [HW3.out]
  obtain ⟨gt, hgt⟩ : ∃ g, x2.heap.size = g := ⟨_, rfl⟩
  have Ggt : Hid (x2.heap.size = gt ∧ x3.heap.size = gt + 1) := ⟨hgt, by rw [← hgt]; exact HSZ3.out⟩
  rw [hgt] at KN ⊢
  clear HW3 HSZ3 hgt
  have KT3 : Hid (Blk x3 gt 26 [.bool T0.on, .int .i64 T0.due, .int .i64 T0.wait, .int .i64 T0.tries]) := KN
  clear KN
  by_cases hlo : n < 0
  case pos =>
    obtain rfl : T0 = ⟨false, 0, 0, 0⟩ := by rw [← HT0.out]; exact set_no (isIn_no (by omega))
    have d0 := KT3.out.cell 0 rfl
    have d1 := KT3.out.cell 1 rfl
    have d2 := KT3.out.cell 2 rfl
    have d3 := KT3.out.cell 3 rfl
    go_wp2_with fail
    refine (TmI.implTimerOk ⟨false, 0, 0, 0⟩ x3).mono ?_
    rintro e x4 ⟨rfl, b⟩
    clear d0 d1 d2 d3
    have L4 : Hid (x3.heap.size ≤ x4.heap.size) := b.size
    have B4 : Hid (Below w.heap.size w x4) := B3.out.trans (b.mono B3.out.size)
    have KT4 : Hid (Blk x4 gt 26 [.bool false, .int .i64 0, .int .i64 0, .int .i64 0]) := KT3.out.later b
    clear b B3 KT3
    have hok : timerOk ⟨false, 0, 0, 0⟩ = true := rfl
    go_wp2
    go_ret
    exact ⟨rfl, B4.out⟩
  case neg =>
    by_cases hhi : n > 1000000
    case pos =>
      obtain rfl : T0 = ⟨false, 0, 0, 0⟩ := by rw [← HT0.out]; exact set_no (isIn_no (by omega))
      have d0 := KT3.out.cell 0 rfl
      have d1 := KT3.out.cell 1 rfl
      have d2 := KT3.out.cell 2 rfl
      have d3 := KT3.out.cell 3 rfl
      go_wp2_with fail
      refine (TmI.implTimerOk ⟨false, 0, 0, 0⟩ x3).mono ?_
      rintro e x4 ⟨rfl, b⟩
      clear d0 d1 d2 d3
      have L4 : Hid (x3.heap.size ≤ x4.heap.size) := b.size
      have B4 : Hid (Below w.heap.size w x4) := B3.out.trans (b.mono B3.out.size)
      have KT4 : Hid (Blk x4 gt 26 [.bool false, .int .i64 0, .int .i64 0, .int .i64 0]) := KT3.out.later b
      clear b B3 KT3
      have hok : timerOk ⟨false, 0, 0, 0⟩ = true := rfl
      go_wp2
      go_ret
      exact ⟨rfl, B4.out⟩
    case neg =>
      have HNN : Hid (0 ≤ n ∧ n ≤ 1000000) := by show _ ∧ _; omega
      have HS0 : Hid (T0 = ⟨true, n + 1, 1, 1⟩) := by show _ = _; rw [← HT0.out]; exact set_yes (isIn_yes HNN.out)
      have NG : Hid (w.heap.size ≤ gt) := by have := L1.out; have := L2.out; have := L3.out; have := Ggt.out; show _ ≤ _; omega
      go_wp2
      go_loopw [5, 6] (fun vk vi wr => ∃ (k i : Int) (T : TmD), vk = .int .i64 k ∧ vi = .int .i64 i ∧ 1 ≤ i ∧ i ≤ 31 ∧ Hid (TI n i k T) ∧ Blk wr gt 26 [.bool T.on, .int .i64 T.due, .int .i64 T.wait, .int .i64 T.tries] ∧ Below w.heap.size w wr) (fun _ vi _ => (31 - intOf vi).toNat)
      case atStart =>
        exact ⟨1, 1, T0, rfl, rfl, by omega, by omega, (by have q := TI.start n; rw [← HS0.out] at q; exact q), KT3.out, B3.out⟩
      case round =>
        obtain ⟨k, i, T, rfl, rfl, hi1, hi2, HTI, kb, bb⟩ := hrel
        clear B3 KT3 HS0 HT0
        have HK := HTI.out.k_le
        have B20 : Hid (Below w.heap.size w wr) := bb
        have KT20 : Hid (Blk wr gt 26 [.bool T.on, .int .i64 T.due, .int .i64 T.wait, .int .i64 T.tries]) := kb
        clear bb kb
        by_cases hlt : i ≤ 30
        case pos =>
          have hw : IntKind.i64.wrap (n + i) = n + i := by have := HNN.out; rw [IntKind.wrap_i64]; omega
          have hwi : IntKind.i64.wrap (i + 1) = i + 1 := by rw [IntKind.wrap_i64]; omega
          have hwk : IntKind.i64.wrap (k + 1) = k + 1 := by rw [IntKind.wrap_i64]; omega
          have HST : Hid (_ ∧ _ ∧ _) := TI.step HNN.out hi1 HTI.out
          obtain ⟨N, hN⟩ : ∃ z : TmD, nextT T (n + i) = z := ⟨_, rfl⟩
          have HN : Hid (nextT T (n + i) = N) := hN
          clear hN
          obtain ⟨C, hC⟩ : ∃ z : Int, nextC T (n + i) = z := ⟨_, rfl⟩
          have HC : Hid (nextC T (n + i) = C) := hC
          clear hC
          have HOK : Hid (timerOk N = true) := by have q := HST.out.1; rw [HN.out] at q; exact q
          have HNO : Hid (hit n i k = false → C = 0 ∧ TI n (i + 1) k N) := fun h => by have q := HST.out.2.1 h; rw [HN.out, HC.out] at q; exact q
          have HYES : Hid (hit n i k = true → C = (if k = 5 then 2 else 1) ∧ TI n (i + 1) (k + 1) N) := fun h => by have q := HST.out.2.2 h; rw [HN.out, HC.out] at q; exact q
          clear HST
          have d0 := KT20.out.cell 0 rfl
          have d1 := KT20.out.cell 1 rfl
          have d2 := KT20.out.cell 2 rfl
          have d3 := KT20.out.cell 3 rfl
          go_wp2_with fail
          refine (TmI.implTimerNext T (n + i) wr).mono ?_
          rw [HN.out, HC.out]
          rintro e x21 ⟨rfl, b⟩
          clear d0 d1 d2 d3
          have L21 : Hid (wr.heap.size ≤ x21.heap.size) := b.size
          have B21 : Hid (Below w.heap.size w x21) := B20.out.trans (b.mono B20.out.size)
          have KT21 : Hid (Blk x21 gt 26 [.bool T.on, .int .i64 T.due, .int .i64 T.wait, .int .i64 T.tries]) := KT20.out.later b
          clear b B20 KT20
          obtain ⟨x22, hx22⟩ : ∃ x22, x21.alloc (.cells #[.bool N.on, .int .i64 N.due, .int .i64 N.wait, .int .i64 N.tries] 26) = x22 := ⟨_, rfl⟩
          have HW22 : Hid (x21.alloc (.cells #[.bool N.on, .int .i64 N.due, .int .i64 N.wait, .int .i64 N.tries] 26) = x22) := hx22
          have b22 : Below x21.heap.size x21 x22 := by rw [← hx22]; exact (Below.refl _ _).alloc (Nat.le_refl _) _
          have KN : Blk x22 x21.heap.size 26 [.bool N.on, .int .i64 N.due, .int .i64 N.wait, .int .i64 N.tries] := by rw [← hx22]; exact Blk.new x21 _ _
          have HSZ22 : Hid (x22.heap.size = x21.heap.size + 1) := by rw [← hx22]; show _ = _; simp
          clear hx22
          have L22 : Hid (x21.heap.size ≤ x22.heap.size) := b22.size
          have B22 : Hid (Below w.heap.size w x22) := B21.out.trans (b22.mono B21.out.size)
          have KT22 : Hid (Blk x22 gt 26 [.bool T.on, .int .i64 T.due, .int .i64 T.wait, .int .i64 T.tries]) := KT21.out.later b22
          clear b22 B21 KT21
          unfold tmV
          go_upto_region 12 with fail
          rw [HW22.out]
          obtain ⟨gx, hgx⟩ : ∃ g, x21.heap.size = g := ⟨_, rfl⟩
          have Ggx : Hid (x21.heap.size = gx ∧ x22.heap.size = gx + 1) := ⟨hgx, by rw [← hgx]; exact HSZ22.out⟩
          rw [hgx] at KN ⊢
          clear HW22 HSZ22 hgx
          have KX22 : Hid (Blk x22 gx 26 [.bool N.on, .int .i64 N.due, .int .i64 N.wait, .int .i64 N.tries]) := KN
          clear KN
          by_cases h5 : k ≤ 5
          case neg =>
            have HH : hit n i k = false := by unfold hit; simp [h5]
            obtain ⟨rfl, ti⟩ := HNO.out HH
            have HT9 : Hid (TI n (i + 1) k N) := ti
            clear ti HH
            have p0 := KX22.out.cell 0 rfl
            have p1 := KX22.out.cell 1 rfl
            have p2 := KX22.out.cell 2 rfl
            have p3 := KX22.out.cell 3 rfl
            go_wp2_with fail
            refine (TmI.implTimerOk N x22).mono ?_
            rw [HOK.out]
            rintro e x23 ⟨rfl, b⟩
            clear p0 p1 p2 p3
            have L23 : Hid (x22.heap.size ≤ x23.heap.size) := b.size
            have B23 : Hid (Below w.heap.size w x23) := B22.out.trans (b.mono B22.out.size)
            have KT23 : Hid (Blk x23 gt 26 [.bool T.on, .int .i64 T.due, .int .i64 T.wait, .int .i64 T.tries]) := KT22.out.later b
            have KX23 : Hid (Blk x23 gx 26 [.bool N.on, .int .i64 N.due, .int .i64 N.wait, .int .i64 N.tries]) := KX22.out.later b
            clear b B22 KT22 KX22
            have p0 := KX23.out.cell 0 rfl
            have p1 := KX23.out.cell 1 rfl
            have p2 := KX23.out.cell 2 rfl
            have p3 := KX23.out.cell 3 rfl
            have co0 := KT23.out.cell 0 rfl
            have fo0 := KT23.out.frozen 0
            have co1 := KT23.out.cell 1 rfl
            have fo1 := KT23.out.frozen 1
            have co2 := KT23.out.cell 2 rfl
            have fo2 := KT23.out.frozen 2
            have co3 := KT23.out.cell 3 rfl
            have fo3 := KT23.out.frozen 3
            obtain ⟨s1, s2⟩ := tm_stored N KT23.out
            have s3 := s2 _ _ NG.out B23.out
            obtain ⟨wz, hz⟩ : ∃ X, ((((x23.setCell ⟨gt, 0, none⟩ (.bool N.on)).setCell ⟨gt, 1, none⟩ (.int .i64 N.due)).setCell ⟨gt, 2, none⟩ (.int .i64 N.wait)).setCell ⟨gt, 3, none⟩ (.int .i64 N.tries)) = X := ⟨_, rfl⟩
            have HZ : Hid (((((x23.setCell ⟨gt, 0, none⟩ (.bool N.on)).setCell ⟨gt, 1, none⟩ (.int .i64 N.due)).setCell ⟨gt, 2, none⟩ (.int .i64 N.wait)).setCell ⟨gt, 3, none⟩ (.int .i64 N.tries)) = wz) := hz
            rw [hz] at s1 s3
            have K9 : Hid (Blk wz gt 26 [.bool N.on, .int .i64 N.due, .int .i64 N.wait, .int .i64 N.tries]) := s1
            have B9 : Hid (Below w.heap.size w wz) := s3
            clear s1 s2 s3 hz
            go_wp2
            rw [HZ.out]
            go_roundw
            case rel => exact ⟨k, i + 1, N, by go_num, by go_num, by omega, by omega, HT9.out, K9.out, B9.out⟩
            case measure => simp [intOf]; try omega
          case pos =>
            obtain ⟨sp, hsp⟩ : ∃ z : Int, spanOf k = z := ⟨_, rfl⟩
            have HSP : Hid (spanOf k = sp) := hsp
            clear hsp
            go_wp2_with fail
            refine (TmI.implSpanOf k x22).mono ?_
            rw [HSP.out]
            rintro e x23 ⟨rfl, b⟩
            have L23 : Hid (x22.heap.size ≤ x23.heap.size) := b.size
            have B23 : Hid (Below w.heap.size w x23) := B22.out.trans (b.mono B22.out.size)
            have KT23 : Hid (Blk x23 gt 26 [.bool T.on, .int .i64 T.due, .int .i64 T.wait, .int .i64 T.tries]) := KT22.out.later b
            have KX23 : Hid (Blk x23 gx 26 [.bool N.on, .int .i64 N.due, .int .i64 N.wait, .int .i64 N.tries]) := KX22.out.later b
            clear b B22 KT22 KX22
            by_cases hs : sp = i
            case neg =>
              have hs2 : (i == sp) = false := by rw [beq_eq_false_iff_ne]; exact fun h => hs h.symm
              have HS : Hid (¬ i = spanOf k) := by show ¬ _; rw [HSP.out]; exact fun h => hs h.symm
              clear hs
              have HH : hit n i k = false := by unfold hit; simp [HS.out]
              obtain ⟨rfl, ti⟩ := HNO.out HH
              have HT9 : Hid (TI n (i + 1) k N) := ti
              clear ti HH
              have p0 := KX23.out.cell 0 rfl
              have p1 := KX23.out.cell 1 rfl
              have p2 := KX23.out.cell 2 rfl
              have p3 := KX23.out.cell 3 rfl
              go_wp2_with fail
              refine (TmI.implTimerOk N x23).mono ?_
              rw [HOK.out]
              rintro e x24 ⟨rfl, b⟩
              clear p0 p1 p2 p3
              have L24 : Hid (x23.heap.size ≤ x24.heap.size) := b.size
              have B24 : Hid (Below w.heap.size w x24) := B23.out.trans (b.mono B23.out.size)
              have KT24 : Hid (Blk x24 gt 26 [.bool T.on, .int .i64 T.due, .int .i64 T.wait, .int .i64 T.tries]) := KT23.out.later b
              have KX24 : Hid (Blk x24 gx 26 [.bool N.on, .int .i64 N.due, .int .i64 N.wait, .int .i64 N.tries]) := KX23.out.later b
              clear b B23 KT23 KX23
              have p0 := KX24.out.cell 0 rfl
              have p1 := KX24.out.cell 1 rfl
              have p2 := KX24.out.cell 2 rfl
              have p3 := KX24.out.cell 3 rfl
              have co0 := KT24.out.cell 0 rfl
              have fo0 := KT24.out.frozen 0
              have co1 := KT24.out.cell 1 rfl
              have fo1 := KT24.out.frozen 1
              have co2 := KT24.out.cell 2 rfl
              have fo2 := KT24.out.frozen 2
              have co3 := KT24.out.cell 3 rfl
              have fo3 := KT24.out.frozen 3
              obtain ⟨s1, s2⟩ := tm_stored N KT24.out
              have s3 := s2 _ _ NG.out B24.out
              obtain ⟨wz, hz⟩ : ∃ X, ((((x24.setCell ⟨gt, 0, none⟩ (.bool N.on)).setCell ⟨gt, 1, none⟩ (.int .i64 N.due)).setCell ⟨gt, 2, none⟩ (.int .i64 N.wait)).setCell ⟨gt, 3, none⟩ (.int .i64 N.tries)) = X := ⟨_, rfl⟩
              have HZ : Hid (((((x24.setCell ⟨gt, 0, none⟩ (.bool N.on)).setCell ⟨gt, 1, none⟩ (.int .i64 N.due)).setCell ⟨gt, 2, none⟩ (.int .i64 N.wait)).setCell ⟨gt, 3, none⟩ (.int .i64 N.tries)) = wz) := hz
              rw [hz] at s1 s3
              have K9 : Hid (Blk wz gt 26 [.bool N.on, .int .i64 N.due, .int .i64 N.wait, .int .i64 N.tries]) := s1
              have B9 : Hid (Below w.heap.size w wz) := s3
              clear s1 s2 s3 hz
              go_wp2
              rw [HZ.out]
              go_roundw
              case rel => exact ⟨k, i + 1, N, by go_num, by go_num, by omega, by omega, HT9.out, K9.out, B9.out⟩
              case measure => simp [intOf]; try omega
            case pos =>
              subst hs
              have HS : Hid (sp = spanOf k) := HSP.out.symm
              by_cases ht : n + sp ≤ 1000000
              case neg =>
                have HH : hit n sp k = false := by unfold hit; simp [ht]
                obtain ⟨rfl, ti⟩ := HNO.out HH
                have HT9 : Hid (TI n (sp + 1) k N) := ti
                clear ti HH
                have p0 := KX23.out.cell 0 rfl
                have p1 := KX23.out.cell 1 rfl
                have p2 := KX23.out.cell 2 rfl
                have p3 := KX23.out.cell 3 rfl
                go_wp2_with fail
                refine (TmI.implTimerOk N x23).mono ?_
                rw [HOK.out]
                rintro e x24 ⟨rfl, b⟩
                clear p0 p1 p2 p3
                have L24 : Hid (x23.heap.size ≤ x24.heap.size) := b.size
                have B24 : Hid (Below w.heap.size w x24) := B23.out.trans (b.mono B23.out.size)
                have KT24 : Hid (Blk x24 gt 26 [.bool T.on, .int .i64 T.due, .int .i64 T.wait, .int .i64 T.tries]) := KT23.out.later b
                have KX24 : Hid (Blk x24 gx 26 [.bool N.on, .int .i64 N.due, .int .i64 N.wait, .int .i64 N.tries]) := KX23.out.later b
                clear b B23 KT23 KX23
                have p0 := KX24.out.cell 0 rfl
                have p1 := KX24.out.cell 1 rfl
                have p2 := KX24.out.cell 2 rfl
                have p3 := KX24.out.cell 3 rfl
                have co0 := KT24.out.cell 0 rfl
                have fo0 := KT24.out.frozen 0
                have co1 := KT24.out.cell 1 rfl
                have fo1 := KT24.out.frozen 1
                have co2 := KT24.out.cell 2 rfl
                have fo2 := KT24.out.frozen 2
                have co3 := KT24.out.cell 3 rfl
                have fo3 := KT24.out.frozen 3
                obtain ⟨s1, s2⟩ := tm_stored N KT24.out
                have s3 := s2 _ _ NG.out B24.out
                obtain ⟨wz, hz⟩ : ∃ X, ((((x24.setCell ⟨gt, 0, none⟩ (.bool N.on)).setCell ⟨gt, 1, none⟩ (.int .i64 N.due)).setCell ⟨gt, 2, none⟩ (.int .i64 N.wait)).setCell ⟨gt, 3, none⟩ (.int .i64 N.tries)) = X := ⟨_, rfl⟩
                have HZ : Hid (((((x24.setCell ⟨gt, 0, none⟩ (.bool N.on)).setCell ⟨gt, 1, none⟩ (.int .i64 N.due)).setCell ⟨gt, 2, none⟩ (.int .i64 N.wait)).setCell ⟨gt, 3, none⟩ (.int .i64 N.tries)) = wz) := hz
                rw [hz] at s1 s3
                have K9 : Hid (Blk wz gt 26 [.bool N.on, .int .i64 N.due, .int .i64 N.wait, .int .i64 N.tries]) := s1
                have B9 : Hid (Below w.heap.size w wz) := s3
                clear s1 s2 s3 hz
                go_wp2
                rw [HZ.out]
                go_roundw
                case rel => exact ⟨k, sp + 1, N, by go_num, by go_num, by omega, by omega, HT9.out, K9.out, B9.out⟩
                case measure => simp [intOf]; try omega
              case pos =>
                have HH : hit n sp k = true := by unfold hit; rw [decide_eq_true h5, decide_eq_true HS.out, decide_eq_true ht]; rfl
                obtain ⟨hc, ti⟩ := HYES.out HH
                have HT9 : Hid (TI n (sp + 1) (k + 1) N) := ti
                clear ti HH
                by_cases hk : k = 5
                case pos =>
                  obtain rfl : C = 2 := by rw [hc, if_pos hk]
                  clear hc
                  subst hk
                  have p0 := KX23.out.cell 0 rfl
                  have p1 := KX23.out.cell 1 rfl
                  have p2 := KX23.out.cell 2 rfl
                  have p3 := KX23.out.cell 3 rfl
                  go_wp2_with fail
                  refine (TmI.implTimerOk N x23).mono ?_
                  rw [HOK.out]
                  rintro e x24 ⟨rfl, b⟩
                  clear p0 p1 p2 p3
                  have L24 : Hid (x23.heap.size ≤ x24.heap.size) := b.size
                  have B24 : Hid (Below w.heap.size w x24) := B23.out.trans (b.mono B23.out.size)
                  have KT24 : Hid (Blk x24 gt 26 [.bool T.on, .int .i64 T.due, .int .i64 T.wait, .int .i64 T.tries]) := KT23.out.later b
                  have KX24 : Hid (Blk x24 gx 26 [.bool N.on, .int .i64 N.due, .int .i64 N.wait, .int .i64 N.tries]) := KX23.out.later b
                  clear b B23 KT23 KX23
                  have p0 := KX24.out.cell 0 rfl
                  have p1 := KX24.out.cell 1 rfl
                  have p2 := KX24.out.cell 2 rfl
                  have p3 := KX24.out.cell 3 rfl
                  have co0 := KT24.out.cell 0 rfl
                  have fo0 := KT24.out.frozen 0
                  have co1 := KT24.out.cell 1 rfl
                  have fo1 := KT24.out.frozen 1
                  have co2 := KT24.out.cell 2 rfl
                  have fo2 := KT24.out.frozen 2
                  have co3 := KT24.out.cell 3 rfl
                  have fo3 := KT24.out.frozen 3
                  obtain ⟨s1, s2⟩ := tm_stored N KT24.out
                  have s3 := s2 _ _ NG.out B24.out
                  obtain ⟨wz, hz⟩ : ∃ X, ((((x24.setCell ⟨gt, 0, none⟩ (.bool N.on)).setCell ⟨gt, 1, none⟩ (.int .i64 N.due)).setCell ⟨gt, 2, none⟩ (.int .i64 N.wait)).setCell ⟨gt, 3, none⟩ (.int .i64 N.tries)) = X := ⟨_, rfl⟩
                  have HZ : Hid (((((x24.setCell ⟨gt, 0, none⟩ (.bool N.on)).setCell ⟨gt, 1, none⟩ (.int .i64 N.due)).setCell ⟨gt, 2, none⟩ (.int .i64 N.wait)).setCell ⟨gt, 3, none⟩ (.int .i64 N.tries)) = wz) := hz
                  rw [hz] at s1 s3
                  have K9 : Hid (Blk wz gt 26 [.bool N.on, .int .i64 N.due, .int .i64 N.wait, .int .i64 N.tries]) := s1
                  have B9 : Hid (Below w.heap.size w wz) := s3
                  clear s1 s2 s3 hz
                  go_wp2
                  rw [HZ.out]
                  go_roundw
                  case rel => exact ⟨(5 + 1), sp + 1, N, by go_num, by go_num, by omega, by omega, HT9.out, K9.out, B9.out⟩
                  case measure => simp [intOf]; try omega
                case neg =>
                  obtain rfl : C = 1 := by rw [hc, if_neg hk]
                  clear hc
                  have hk2 : (k == 5) = false := by simpa using hk
                  have p0 := KX23.out.cell 0 rfl
                  have p1 := KX23.out.cell 1 rfl
                  have p2 := KX23.out.cell 2 rfl
                  have p3 := KX23.out.cell 3 rfl
                  go_wp2_with fail
                  refine (TmI.implTimerOk N x23).mono ?_
                  rw [HOK.out]
                  rintro e x24 ⟨rfl, b⟩
                  clear p0 p1 p2 p3
                  have L24 : Hid (x23.heap.size ≤ x24.heap.size) := b.size
                  have B24 : Hid (Below w.heap.size w x24) := B23.out.trans (b.mono B23.out.size)
                  have KT24 : Hid (Blk x24 gt 26 [.bool T.on, .int .i64 T.due, .int .i64 T.wait, .int .i64 T.tries]) := KT23.out.later b
                  have KX24 : Hid (Blk x24 gx 26 [.bool N.on, .int .i64 N.due, .int .i64 N.wait, .int .i64 N.tries]) := KX23.out.later b
                  clear b B23 KT23 KX23
                  have p0 := KX24.out.cell 0 rfl
                  have p1 := KX24.out.cell 1 rfl
                  have p2 := KX24.out.cell 2 rfl
                  have p3 := KX24.out.cell 3 rfl
                  have co0 := KT24.out.cell 0 rfl
                  have fo0 := KT24.out.frozen 0
                  have co1 := KT24.out.cell 1 rfl
                  have fo1 := KT24.out.frozen 1
                  have co2 := KT24.out.cell 2 rfl
                  have fo2 := KT24.out.frozen 2
                  have co3 := KT24.out.cell 3 rfl
                  have fo3 := KT24.out.frozen 3
                  obtain ⟨s1, s2⟩ := tm_stored N KT24.out
                  have s3 := s2 _ _ NG.out B24.out
                  obtain ⟨wz, hz⟩ : ∃ X, ((((x24.setCell ⟨gt, 0, none⟩ (.bool N.on)).setCell ⟨gt, 1, none⟩ (.int .i64 N.due)).setCell ⟨gt, 2, none⟩ (.int .i64 N.wait)).setCell ⟨gt, 3, none⟩ (.int .i64 N.tries)) = X := ⟨_, rfl⟩
                  have HZ : Hid (((((x24.setCell ⟨gt, 0, none⟩ (.bool N.on)).setCell ⟨gt, 1, none⟩ (.int .i64 N.due)).setCell ⟨gt, 2, none⟩ (.int .i64 N.wait)).setCell ⟨gt, 3, none⟩ (.int .i64 N.tries)) = wz) := hz
                  rw [hz] at s1 s3
                  have K9 : Hid (Blk wz gt 26 [.bool N.on, .int .i64 N.due, .int .i64 N.wait, .int .i64 N.tries]) := s1
                  have B9 : Hid (Below w.heap.size w wz) := s3
                  clear s1 s2 s3 hz
                  go_wp2
                  rw [HZ.out]
                  go_roundw
                  case rel => exact ⟨(k + 1), sp + 1, N, by go_num, by go_num, by omega, by omega, HT9.out, K9.out, B9.out⟩
                  case measure => simp [intOf]; try omega
        case neg =>
          obtain rfl : i = 31 := by omega
          have HON : Hid (T.on = decide (n + 23 > 1000000)) := HTI.out.over
          obtain ⟨o, ho⟩ : ∃ o, T.on = o := ⟨_, rfl⟩
          have hw : IntKind.i64.wrap (n + 23) = n + 23 := by have := HNN.out; rw [IntKind.wrap_i64]; omega
          have ho' := ho
          have HO2 : Hid ((o == decide (n + 23 > 1000000)) = true) := by show _ = _; rw [← ho, HON.out]; simp
          go_upto_region 21 with fail
          go_cut [2] from 68 to 74 (fun sv wx => sv = .bool true ∧ Below wr.heap.size wr wx)
          case first =>
            rename_i J K' hRJ hMet
            generalize hA : Act.mk _ _ = A
            have a3' : A.eval (.tmp 3) = .int .i64 n := by rw [← hA]; rfl
            have a4' : A.eval (.tmp 4) = .pointer (some ⟨gt, 0, none⟩) := by rw [← hA]; rfl
            have asz : A.tmps.size = 75 := by rw [← hA]; rfl
            have hKT : ∀ wx, Below wr.heap.size wr wx → wx.cell? ⟨gt, 0, none⟩ = some (.bool o) := fun wx hb => by have q := (KT20.out.later hb).cell 0 rfl; rw [ho'] at q; exact q
            refine region_each (by kernel_rfl) [68, 69, 70, 71, 72, 73, 74] 7 (fun i => [68, 69, 70, 71, 72, 73, 74].getD i 0) (fun _ => 0)
              (fun i gB v wx => match i with
                | 0 => v = .pointer (some ⟨gt, 0, none⟩)
                | 1 => v = .bool o
                | 2 => v = .int .i64 n
                | 3 => v = .int .i64 (spanOf 5)
                | 4 => v = .int .i64 (n + 23)
                | 5 => v = .bool (decide (n + 23 > 1000000))
                | 6 => v = .bool true
                | _ => False) (fun wx => Below wr.heap.size wr wx) (by kernel_rfl) (Below.refl _ _).drew ?_ ?_ ?_
            · intro i gB v wx wy hi hF hb _
              match i, hi with
              | 0, _ => exact hF
              | 1, _ => exact hF
              | 2, _ => exact hF
              | 3, _ => exact hF
              | 4, _ => exact hF
              | 5, _ => exact hF
              | 6, _ => exact hF
            · intro i hi t ρ wx hB hp hd
              match i, hi with
              | 0, _ =>
                have e4 : (fr [68, 69, 70, 71, 72, 73, 74] A t).eval (.tmp 4) = .pointer (some ⟨gt, 0, none⟩) := (fr_eval_old _ _ _ 4 rfl).trans a4'
                refine op_run (v := .pointer (some ⟨gt, 0, none⟩)) (w' := wx) rfl rfl ?_ ?_
                · clear hp hd; have ec : ∀ v, (fr [68, 69, 70, 71, 72, 73, 74] A t).eval (.const v) = v := fun _ => rfl; generalize (fr [68, 69, 70, 71, 72, 73, 74] A t).eval = ev at ec e4 ⊢; go_simp
                · exact ⟨_, 0, rfl, hB, Below.refl _ _, rfl, .inl rfl⟩
              | 1, _ =>
                have e68 : (fr [68, 69, 70, 71, 72, 73, 74] A t).eval (.tmp 68) = .pointer (some ⟨gt, 0, none⟩) := (fr_eval _ _ _ 68 rfl (by rw [asz]; decide)).trans (hp 0 (pre_mem (by kernel_rfl)))
                have hc := hKT wx hB
                refine op_run (v := .bool o) (w' := wx) rfl rfl ?_ ?_
                · clear hp hd; have ec : ∀ v, (fr [68, 69, 70, 71, 72, 73, 74] A t).eval (.const v) = v := fun _ => rfl; generalize (fr [68, 69, 70, 71, 72, 73, 74] A t).eval = ev at ec e68 ⊢; go_simp
                · exact ⟨_, 0, rfl, hB, Below.refl _ _, rfl, .inl rfl⟩
              | 2, _ =>
                have e3 : (fr [68, 69, 70, 71, 72, 73, 74] A t).eval (.tmp 3) = .int .i64 n := (fr_eval_old _ _ _ 3 rfl).trans a3'
                refine op_run (v := .int .i64 n) (w' := wx) rfl rfl ?_ ?_
                · clear hp hd; have ec : ∀ v, (fr [68, 69, 70, 71, 72, 73, 74] A t).eval (.const v) = v := fun _ => rfl; generalize (fr [68, 69, 70, 71, 72, 73, 74] A t).eval = ev at ec e3 ⊢; go_simp
                · exact ⟨_, 0, rfl, hB, Below.refl _ _, rfl, .inl rfl⟩
              | 3, _ =>
                refine op_call (f := 15) (args := #[.int .i64 5]) rfl rfl ?_ (TmI.implSpanOf 5 wx) ?_
                · have ef : (fr [68, 69, 70, 71, 72, 73, 74] A t).eval (.func 15) = .func (.func 15) #[] #[] := rfl; clear hp hd; have ec : ∀ v, (fr [68, 69, 70, 71, 72, 73, 74] A t).eval (.const v) = v := fun _ => rfl; generalize (fr [68, 69, 70, 71, 72, 73, 74] A t).eval = ev at ec  ef ⊢; go_simp
                · rintro e wy ⟨rfl, b1⟩
                  exact ⟨_, rfl, _, 0, rfl, hB.trans (b1.mono hB.size), b1, rfl, .inl rfl⟩
              | 4, _ =>
                have e70 : (fr [68, 69, 70, 71, 72, 73, 74] A t).eval (.tmp 70) = .int .i64 n := (fr_eval _ _ _ 70 rfl (by rw [asz]; decide)).trans (hp 2 (pre_mem (by kernel_rfl)))
                have hv3 := hp 3 (pre_mem (by kernel_rfl))
                have e71 : (fr [68, 69, 70, 71, 72, 73, 74] A t).eval (.tmp 71) = .int .i64 (spanOf 5) := (fr_eval _ _ _ 71 rfl (by rw [asz]; decide)).trans hv3
                have hsp : spanOf 5 = 23 := rfl
                refine op_run (v := .int .i64 (n + 23)) (w' := wx) rfl rfl ?_ ?_
                · clear hp hd; have ec : ∀ v, (fr [68, 69, 70, 71, 72, 73, 74] A t).eval (.const v) = v := fun _ => rfl; generalize (fr [68, 69, 70, 71, 72, 73, 74] A t).eval = ev at ec e70 e71 ⊢; go_simp
                · exact ⟨_, 0, rfl, hB, Below.refl _ _, rfl, .inl rfl⟩
              | 5, _ =>
                have e72 : (fr [68, 69, 70, 71, 72, 73, 74] A t).eval (.tmp 72) = .int .i64 (n + 23) := (fr_eval _ _ _ 72 rfl (by rw [asz]; decide)).trans (hp 4 (pre_mem (by kernel_rfl)))
                refine op_run (v := .bool (decide (n + 23 > 1000000))) (w' := wx) rfl rfl ?_ ?_
                · clear hp hd; have ec : ∀ v, (fr [68, 69, 70, 71, 72, 73, 74] A t).eval (.const v) = v := fun _ => rfl; generalize (fr [68, 69, 70, 71, 72, 73, 74] A t).eval = ev at ec e72 ⊢; go_simp
                · exact ⟨_, 0, rfl, hB, Below.refl _ _, rfl, .inl rfl⟩
              | 6, _ =>
                have e69 : (fr [68, 69, 70, 71, 72, 73, 74] A t).eval (.tmp 69) = .bool o := (fr_eval _ _ _ 69 rfl (by rw [asz]; decide)).trans (hp 1 (pre_mem (by kernel_rfl)))
                have e73 : (fr [68, 69, 70, 71, 72, 73, 74] A t).eval (.tmp 73) = .bool (decide (n + 23 > 1000000)) := (fr_eval _ _ _ 73 rfl (by rw [asz]; decide)).trans (hp 5 (pre_mem (by kernel_rfl)))
                have hoo := HO2.out
                refine op_run (v := .bool true) (w' := wx) rfl rfl ?_ ?_
                · clear hp hd; have ec : ∀ v, (fr [68, 69, 70, 71, 72, 73, 74] A t).eval (.const v) = v := fun _ => rfl; generalize (fr [68, 69, 70, 71, 72, 73, 74] A t).eval = ev at ec e69 e73 ⊢; go_simp
                · exact ⟨_, 0, rfl, hB, Below.refl _ _, rfl, .inl rfl⟩
            · intro t ρ wx hB hF hne
              have e74 : (fr [68, 69, 70, 71, 72, 73, 74] A t).eval (.tmp 74) = .bool true := (fr_eval _ _ _ 74 rfl (by rw [asz]; decide)).trans (hF 6 (by decide))
              clear hne
              refine op_wp rfl rfl ?_
              generalize hE : (fr [68, 69, 70, 71, 72, 73, 74] A t).eval = ev at e74
              unfold Oper.wp
              rw [hE]
              go_simp
              refine hMet _ _ (Met.intro (hRJ _ _ ⟨_, t 68, t 69, t 70, t 71, t 72, t 73, t 74, ⟨rfl, hB⟩, ?_⟩))
              rw [← hA]; rfl
          case rest =>
            obtain ⟨rfl, b⟩ := hcut
            go_wp2
            go_ret
            exact ⟨rfl, B20.out.trans (b.mono B20.out.size)⟩

set_option maxRecDepth 100000 in
theorem walk (a : Option Addr) (len cap : Nat) (zs : List Int) (w : World)  (h : IsRow .u8 w a len cap zs) :
    Calls Try.prog 3 #[.slice a len cap] w fun e w' => e = .returned (.bool true) ∧ Below w.heap.size w w' := by
  obtain ⟨l, h1, h2, _, h4⟩ := h.read
  by_cases hl : len ≤ 1048576
  · exact small a len cap l w  h1 h2 h4 hl
  · clear h h1 h2 h4
    go_enter Try.func3, Try.ntmps3
    go_wp2_with fail
    refine (bigYes a len cap w (by omega)).mono ?_
    rintro e w0 ⟨rfl, rfl⟩
    go_wp2
    go_ret
    exact ⟨rfl, Below.refl _ _⟩
end Go.Proofs.Ytadlckgaeljdkaa.LawTimers
