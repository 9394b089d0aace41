/-
  The walk of the law FnWins: at every code it answers true, and nothing that was there is written.
-/
import Derived.Test.YtdoichpaobiaeaaWnDr
import Derived.Test.YtdoichpaobiaeaaWnW
import Derived.Test.YtdoichpaobiaeaaWinQ
import Derived.Test.YtdoichpaobiaeaaAppAtI
import Derived.Test.YtdoichpaobiaeaaGuard
namespace Go.Proofs.Ytdoichpaobiaeaa.LawWins
open Go.RowKit Go.Proofs.Ytdoichpaobiaeaa.Mem Go.Proofs.Ytdoichpaobiaeaa.MemI Go.Proofs.Ytdoichpaobiaeaa.Blk Go.Proofs.Ytdoichpaobiaeaa.Zone Go.Proofs.Ytdoichpaobiaeaa.ZoneI Go.Proofs.Ytdoichpaobiaeaa.WnZ Go.Proofs.Ytdoichpaobiaeaa.Res Go.Proofs.Ytdoichpaobiaeaa.WinP Go.Proofs.Ytdoichpaobiaeaa.WinQ Go.Proofs.Ytdoichpaobiaeaa.WnK Go.Proofs.Ytdoichpaobiaeaa.WnV Go.Proofs.Ytdoichpaobiaeaa.WnG Go.Proofs.Ytdoichpaobiaeaa.WnW Go.Proofs.Ytdoichpaobiaeaa.WnDr Go.Proofs.Ytdoichpaobiaeaa.Each Go.Proofs.Ytdoichpaobiaeaa.Copy Go.Proofs.Ytdoichpaobiaeaa.Ops Go.Proofs.Ytdoichpaobiaeaa.Guard

theorem bigNo (a : Option Addr) (len cap : Nat) (w : World) (h : len ≤ 1048576) :
    Calls Try.prog 12 #[.slice a len cap] w fun e w' => e = .returned (.bool false) ∧ w = w' := by
  have h' : ¬ ((1048576 : Int) < (len : Int)) := by omega
  go_enter Try.func12, Try.ntmps12
  go_wp2
  go_ret
  exact ⟨rfl, rfl⟩
theorem bigYes (a : Option Addr) (len cap : Nat) (w : World) (h : 1048576 < len) :
    Calls Try.prog 12 #[.slice a len cap] w fun e w' => e = .returned (.bool true) ∧ w = w' := by
  have h' : (1048576 : Int) < (len : Int) := by omega
  go_enter Try.func12, Try.ntmps12
  go_wp2
  go_ret
  exact ⟨rfl, rfl⟩
theorem _root_.Go.Proofs.Ytdoichpaobiaeaa.MemI.IRow.keep_set2 {w : World} {g q c i j : Nat} {l : List Int} {u v : Value} (h : IRow w q c l) (hne : q ≠ g) : IRow ((w.setCell ⟨g, i, none⟩ u).setCell ⟨g, j, none⟩ v) q c l :=
  (h.keep (Below.heap_setCell w ⟨g, i, none⟩ u q hne)).keep (Below.heap_setCell _ ⟨g, j, none⟩ v q hne)
/-- What abides behind the first loop. -/
structure Abide (w : World) (go q c' g c q2 c2 lo hi : Nat) (S : WnS) (D : WnD) (G L V : List Int) : Prop where
  rq : IRow w q c' G
  ko : Blk w go 27 [.int .i64 D.top, .slice S.bits.a S.bits.n S.bits.c]
  os : WnOwn w lo hi S D
  rg : IRow w g c L
  rv : IRow w q2 c2 V
theorem Abide.later {w w' : World} {go q c' g c q2 c2 lo hi : Nat} {S : WnS} {D : WnD} {G L V : List Int} (h : Abide w go q c' g c q2 c2 lo hi S D G L V) (b : Below w.heap.size w w') : Abide w' go q c' g c q2 c2 lo hi S D G L V := ⟨h.rq.later b, h.ko.later b, h.os.later b, h.rg.later b, h.rv.later b⟩
theorem inv_D (L : List Int) (k : Nat) : Inv (ofD L k).top (ofD L k).bits (gots L k) := inv_of L k
theorem gots_step (L : List Int) (k : Nat) : gots L (k + 1) = gots L k ++ (if winMay (ofD L k).top (ofD L k).bits (L.getD k 0) then [L.getD k 0] else []) := rfl

set_option maxRecDepth 100000 in
set_option maxHeartbeats 16000000 in
theorem small (a : Option Addr) (len cap : Nat) (l : List Int) (w : World) (hl : len = l.length) (hr : Rd w a l) (hb : Bytes l) (hlen : len ≤ 1048576) :
    Calls Try.prog 3 #[.slice a len cap] w fun e w' => e = .returned (.bool true) ∧ Below w.heap.size w w' := by
  have HLn : Hid (len = l.length) := hl
  have HRl : Hid (Rd w a l) := hr
  have HBl : Hid (Bytes l) := hb
  clear hl hr hb
  go_enter Try.func3, Try.ntmps3
  go_wp2_with fail
  refine (bigNo a len cap w hlen).mono ?_
  rintro e w0 ⟨rfl, rfl⟩
  go_wp2_with fail
  refine (drawNums a len cap l w HLn.out HRl.out HBl.out hlen).mono ?_
  rintro e x1 ⟨g, n, c, L, rfl, en, hn, hg, rg, b1⟩
  have HN : Hid (n = L.length) := en
  have HG0 : Hid (w.heap.size ≤ g ∧ g < x1.heap.size) := ⟨hg, rg.lt⟩
  have L1 : Hid (w.heap.size ≤ x1.heap.size) := b1.size
  have B1 : Hid (Below w.heap.size w x1) := b1
  clear b1
  have RG1 : Hid (IRow x1 g c L) := rg
  clear en hg rg
  go_wp2_with fail
  refine (implWinNew x1).mono ?_
  unfold Made
  rintro e x2 ⟨S0, rfl, o2, b2⟩
  have L2 : Hid (x1.heap.size ≤ x2.heap.size) := b2.size
  have B2 : Hid (Below w.heap.size w x2) := B1.out.trans (b2.mono B1.out.size)
  have RG2 : Hid (IRow x2 g c L) := RG1.out.later b2
  clear b2 B1 RG1
  have OS2 : Hid (WnOwn x2 x1.heap.size x2.heap.size S0 (ofD L 0)) := o2
  clear o2
  obtain ⟨x3, hx3⟩ : ∃ x3, x2.alloc (.cells #[.int .i64 (-1), .slice S0.bits.a S0.bits.n S0.bits.c] 27) = x3 := ⟨_, rfl⟩
  have HW3 : Hid (x2.alloc (.cells #[.int .i64 (-1), .slice S0.bits.a S0.bits.n S0.bits.c] 27) = x3) := hx3
  have b3 : Below x2.heap.size x2 x3 := by rw [← hx3]; exact (Below.refl _ _).alloc (Nat.le_refl _) _
  have KN : Blk x3 x2.heap.size 27 [.int .i64 (-1), .slice S0.bits.a S0.bits.n S0.bits.c] := by rw [← hx3]; exact Blk.new x2 _ _
  have HSZ3 : Hid (x3.heap.size = x2.heap.size + 1) := by rw [← hx3]; show _ = _; simp
  clear hx3
  have L3 : Hid (x2.heap.size ≤ x3.heap.size) := b3.size
  have B3 : Hid (Below w.heap.size w x3) := B2.out.trans (b3.mono B2.out.size)
  have RG3 : Hid (IRow x3 g c L) := RG2.out.later b3
  have OS3 : Hid (WnOwn x3 x1.heap.size x2.heap.size S0 (ofD L 0)) := OS2.out.later b3
  clear b3 B2 RG2 OS2
  unfold wnV
  go_upto_region 5 with fail
  rw [HW3.out]
  obtain ⟨go, hgo⟩ : ∃ go, x2.heap.size = go := ⟨_, rfl⟩
  have Ggo : Hid (x2.heap.size = go ∧ x3.heap.size = go + 1) := ⟨hgo, by rw [← hgo]; exact HSZ3.out⟩
  rw [hgo] at KN ⊢
  clear HW3 HSZ3 hgo
  have KO3 : Hid (Blk x3 go 27 [.int .i64 (-1), .slice S0.bits.a S0.bits.n S0.bits.c]) := KN
  clear KN
  have RQ3 : Hid (IRow (x3.alloc (.cells #[] 3)) x3.heap.size 0 (gots L 0)) := irow_new x3 [] (by simp)
  have b4 : Below x3.heap.size x3 (x3.alloc (.cells #[] 3)) := (Below.refl _ _).alloc (Nat.le_refl _) _
  obtain ⟨x4, hx4⟩ : ∃ x4, x3.alloc (.cells #[] 3) = x4 := ⟨_, rfl⟩
  have HX4 : Hid (x3.alloc (.cells #[] 3) = x4) := hx4
  rw [hx4] at RQ3 b4
  clear hx4
  have L4 : Hid (x3.heap.size ≤ x4.heap.size) := b4.size
  have B4 : Hid (Below w.heap.size w x4) := B3.out.trans (b4.mono B3.out.size)
  have RG4 : Hid (IRow x4 g c L) := RG3.out.later b4
  have OS4 : Hid (WnOwn x4 x1.heap.size x2.heap.size S0 (ofD L 0)) := OS3.out.later b4
  have KO4 : Hid (Blk x4 go 27 [.int .i64 (-1), .slice S0.bits.a S0.bits.n S0.bits.c]) := KO3.out.later b4
  clear b4 B3 RG3 OS3 KO3
  obtain ⟨q0, hq0⟩ : ∃ q0, x3.heap.size = q0 := ⟨_, rfl⟩
  have GQ : Hid (x3.heap.size = q0) := hq0
  rw [hq0] at RQ3
  clear hq0
  have RQ4 : Hid (IRow x4 q0 0 (gots L 0)) := RQ3.out
  go_upto_region 6 with fail
  rw [HX4.out, GQ.out]
  clear HX4 RQ3
  go_wp2
  go_loopw [5, 6, 7] (fun s5 s6 s7 wr => ∃ (k q m c' : Nat) (S : WnS) (lo hi : Nat), k ≤ n ∧ s7 = .int .i64 k ∧ s6 = .int .i64 (ofD L k).top ∧ s5 = .slice (some ⟨q, 0, none⟩) m c' ∧ m = (gots L k).length ∧ IRow wr q c' (gots L k) ∧ Blk wr go 27 [.int .i64 (ofD L k).top, .slice S.bits.a S.bits.n S.bits.c] ∧ WnOwn wr lo hi S (ofD L k) ∧ IRow wr g c L ∧ (go < lo ∨ hi ≤ go) ∧ hi ≤ wr.heap.size ∧ g < lo ∧ q ≠ go ∧ q ≠ g ∧ (q < lo ∨ hi ≤ q) ∧ w.heap.size ≤ q ∧ w.heap.size ≤ go ∧ g ≠ go ∧ w.heap.size ≤ g ∧ Below w.heap.size w wr) (fun _ _ s7 _ => n - (intOf s7).toNat)
  case atStart => exact ⟨0, q0, 0, 0, S0, x1.heap.size, x2.heap.size, Nat.zero_le _, rfl, rfl, rfl, rfl, RQ4.out, KO4.out, OS4.out, RG4.out, (by have := HG0.out; have := L1.out; have := L2.out; have := L3.out; have := Ggo.out; have := L4.out; have := GQ.out; omega), (by have := HG0.out; have := L1.out; have := L2.out; have := L3.out; have := Ggo.out; have := L4.out; have := GQ.out; omega), (by have := HG0.out; have := L1.out; have := L2.out; have := L3.out; have := Ggo.out; have := L4.out; have := GQ.out; omega), (by have := HG0.out; have := L1.out; have := L2.out; have := L3.out; have := Ggo.out; have := L4.out; have := GQ.out; omega), (by have := HG0.out; have := L1.out; have := L2.out; have := L3.out; have := Ggo.out; have := L4.out; have := GQ.out; omega), (by have := HG0.out; have := L1.out; have := L2.out; have := L3.out; have := Ggo.out; have := L4.out; have := GQ.out; omega), (by have := HG0.out; have := L1.out; have := L2.out; have := L3.out; have := Ggo.out; have := L4.out; have := GQ.out; omega), (by have := HG0.out; have := L1.out; have := L2.out; have := L3.out; have := Ggo.out; have := L4.out; have := GQ.out; omega), (by have := HG0.out; have := L1.out; have := L2.out; have := L3.out; have := Ggo.out; have := L4.out; have := GQ.out; omega), (by have := HG0.out; have := L1.out; have := L2.out; have := L3.out; have := Ggo.out; have := L4.out; have := GQ.out; omega), B4.out⟩
  case round =>
    obtain ⟨k, q, m, c', S, lo, hi, hk, rfl, rfl, rfl, em, rq, ko, os, rg, i1, i2, i3, i4, i5, i6, i7, i8, i9, i10, hbe⟩ := hrel
    have HI : Hid ((go < lo ∨ hi ≤ go) ∧ hi ≤ wr.heap.size ∧ g < lo ∧ q ≠ go ∧ q ≠ g ∧ (q < lo ∨ hi ≤ q) ∧ w.heap.size ≤ q ∧ w.heap.size ≤ go ∧ g ≠ go ∧ w.heap.size ≤ g) := ⟨i1, i2, i3, i4, i5, i6, i7, i8, i9, i10⟩
    have HIq : Hid (q < wr.heap.size ∧ g < wr.heap.size ∧ go < wr.heap.size) := ⟨rq.lt, rg.lt, ko.lt⟩
    have HInv : Hid (Inv (ofD L k).top (ofD L k).bits (gots L k)) := inv_D L k
    have HDL : Hid ((ofD L k).bits.length = 32) := ofD_len L k
    have hmk : m ≤ 31 := by have := gots_length L k; omega
    have HSt : Hid (ofD L (k + 1) = addD (ofD L k) (L.getD k 0)) := ofD_step L k
    have HGs := gots_step L k
    obtain ⟨D, hD⟩ : ∃ D, ofD L k = D := ⟨_, rfl⟩
    have HD : Hid (ofD L k = D) := hD
    obtain ⟨G, hG⟩ : ∃ G, gots L k = G := ⟨_, rfl⟩
    have HG : Hid (gots L k = G) := hG
    rw [hD, hG] at HGs
    have HGs2 : Hid _ := HGs
    rw [hD] at ko os HInv HDL HSt ⊢
    rw [hG] at em rq HInv
    have EM : Hid (m = G.length) := em
    have RQ5 : Hid (IRow wr q c' G) := rq
    have KO5 : Hid (Blk wr go 27 [.int .i64 D.top, .slice S.bits.a S.bits.n S.bits.c]) := ko
    have OS5 : Hid (WnOwn wr lo hi S D) := os
    have RG5 : Hid (IRow wr g c L) := rg
    have B5 : Hid (Below w.heap.size w wr) := hbe
    clear hD hG HGs em rq ko os rg i1 i2 i3 i4 i5 i6 i7 i8 i9 i10 hbe RQ4 KO4 OS4 RG4 B4
    by_cases hlt : k < n
    · have hkL : k < L.length := by have := HN.out; omega
      obtain ⟨z, hz⟩ : ∃ z, L.getD k 0 = z := ⟨_, rfl⟩
      have cz : wr.cell? ⟨g, k, none⟩ = some (.int .i64 z) := by rw [RG5.out.cell k hkL, hz]
      rw [hz] at HSt HGs2
      clear hz hkL
      obtain ⟨v, hv⟩ : ∃ v, winMay D.top D.bits z = v := ⟨_, rfl⟩
      have HV : Hid (winMay D.top D.bits z = v) := hv
      have HU : Hid (mayL D.top G z = v) := by show _ = _; rw [inv_may HInv.out z, hv]
      rw [hv] at HGs2
      clear hv
      have hvv : (v != v) = false := by simp
      go_wp2
      clear cz
      go_loop [9, 10] (fun s9 s10 => ∃ j : Nat, j ≤ m ∧ s10 = .int .i64 j ∧ s9 = .bool ((G.take j).contains z)) (fun _ s10 => m - (intOf s10).toNat)
      case atStart => exact ⟨0, Nat.zero_le _, rfl, by simp⟩
      case round =>
        obtain ⟨j, hj, rfl, rfl⟩ := hrel
        by_cases hjm : j < m
        · have hjG : j < G.length := by have := EM.out; omega
          have HC := contains_step G z j hjG
          obtain ⟨y, hy⟩ : ∃ y, G.getD j 0 = y := ⟨_, rfl⟩
          have cy : wr.cell? ⟨q, j, none⟩ = some (.int .i64 y) := by rw [RQ5.out.cell j hjG, hy]
          rw [hy] at HC
          have HC2 : Hid _ := HC
          clear HC hy hjG
          cases hh : (G.take j).contains z with
          | true =>
            rw [hh] at HC2
            clear hh cy
            go_wp2
            go_round
            case rel => exact ⟨j + 1, by omega, by go_num, by rw [HC2.out]; rfl⟩
            case measure => simp [intOf]; omega
          | false =>
            rw [hh] at HC2
            clear hh
            go_wp2
            go_round
            case rel => exact ⟨j + 1, by omega, by go_num, by rw [HC2.out]; first | rfl | simp⟩
            case measure => simp [intOf]; omega
        · obtain rfl : j = m := by omega
          have HTk : Hid ((G.take j).contains z = G.contains z) := by show _ = _; rw [EM.out, List.take_length]
          rw [HTk.out]
          obtain ⟨hd, hhd⟩ : ∃ hd, G.contains z = hd := ⟨_, rfl⟩
          rw [hhd]
          have HU2 : Hid ((decide (0 ≤ z) && decide (z < 281474976710656) && !hd && decide (D.top - 1024 < z)) = v) := by show _ = _; rw [← hhd]; exact HU.out
          have ht1 := HInv.out.ok.lo
          have ht2 := HInv.out.ok.hi
          clear hhd HTk hj hjm
          clear ht1 ht2
          go_upto_region 16 with fail
          go_cut [11] from 49 to 64 (fun s11 wx => s11 = .bool v ∧ wx = wr)
          case first =>
            have ht1 := HInv.out.ok.lo
            have ht2 := HInv.out.ok.hi
            by_cases h1 : z ≥ 0
            · by_cases h2 : z < 281474976710656
              · cases hd with
                | true =>
                  go_wp2
                  go_meet; exact ⟨by rw [← HU2.out]; simp, rfl⟩
                | false =>
                  by_cases h4 : z > D.top - 1024
                  · go_wp2
                    go_meet; exact ⟨by rw [← HU2.out]; simp; intros; omega, rfl⟩
                  · go_wp2
                    go_meet; exact ⟨by rw [← HU2.out]; simp; intros; omega, rfl⟩
              · go_wp2
                go_meet; exact ⟨by rw [← HU2.out]; simp; intros; omega, rfl⟩
            · go_wp2
              go_meet; exact ⟨by rw [← HU2.out]; simp; intros; omega, rfl⟩
          case rest =>
            obtain ⟨rfl, hwc⟩ := hcut
            obtain rfl : wr = wc := hwc.symm
            clear HU2
            have c0 := KO5.out.cell 0 rfl
            have c1 := KO5.out.cell 1 rfl
            go_wp2_with fail
            refine (implWinAdd S D z wr OS5.out.rd (by rw [HDL.out]; omega)).mono ?_
            unfold Added
            obtain ⟨D2, hD2⟩ : ∃ D2, addD D z = D2 := ⟨_, rfl⟩
            have HD2 : Hid (addD D z = D2) := hD2
            rw [hD2, HV.out]
            clear hD2
            rintro e x6 ⟨S2, rfl, o6, b6⟩
            clear c0 c1
            have L6 : Hid (wr.heap.size ≤ x6.heap.size) := b6.size
            have RQ6 : Hid (IRow x6 q c' G) := RQ5.out.later b6
            have KO6 : Hid (Blk x6 go 27 [.int .i64 D.top, .slice S.bits.a S.bits.n S.bits.c]) := KO5.out.later b6
            have OS6 : Hid (WnOwn x6 lo hi S D) := OS5.out.later b6
            have RG6 : Hid (IRow x6 g c L) := RG5.out.later b6
            have B6 : Hid (Below w.heap.size w x6) := B5.out.trans (b6.mono B5.out.size)
            clear b6 RQ5 KO5 OS5 RG5 B5
            have OX6 : Hid (WnOwn x6 wr.heap.size x6.heap.size S2 D2) := o6
            clear o6
            obtain ⟨x7, hx7⟩ : ∃ x7, x6.alloc (.cells #[.int .i64 D2.top, .slice S2.bits.a S2.bits.n S2.bits.c] 27) = x7 := ⟨_, rfl⟩
            have HW7 : Hid (x6.alloc (.cells #[.int .i64 D2.top, .slice S2.bits.a S2.bits.n S2.bits.c] 27) = x7) := hx7
            have b7 : Below x6.heap.size x6 x7 := by rw [← hx7]; exact (Below.refl _ _).alloc (Nat.le_refl _) _
            have KN : Blk x7 x6.heap.size 27 [.int .i64 D2.top, .slice S2.bits.a S2.bits.n S2.bits.c] := by rw [← hx7]; exact Blk.new x6 _ _
            have HSZ7 : Hid (x7.heap.size = x6.heap.size + 1) := by rw [← hx7]; show _ = _; simp
            clear hx7
            have L7 : Hid (x6.heap.size ≤ x7.heap.size) := b7.size
            have RQ7 : Hid (IRow x7 q c' G) := RQ6.out.later b7
            have KO7 : Hid (Blk x7 go 27 [.int .i64 D.top, .slice S.bits.a S.bits.n S.bits.c]) := KO6.out.later b7
            have OS7 : Hid (WnOwn x7 lo hi S D) := OS6.out.later b7
            have RG7 : Hid (IRow x7 g c L) := RG6.out.later b7
            have B7 : Hid (Below w.heap.size w x7) := B6.out.trans (b7.mono B6.out.size)
            have OX7 : Hid (WnOwn x7 wr.heap.size x6.heap.size S2 D2) := OX6.out.later b7
            clear b7 RQ6 KO6 OS6 RG6 B6 OX6
            unfold wnV
            go_upto_region 18 with fail
            rw [HW7.out]
            obtain ⟨gx, hgx⟩ : ∃ gx, x6.heap.size = gx := ⟨_, rfl⟩
            have Ggx : Hid (x6.heap.size = gx ∧ x7.heap.size = gx + 1) := ⟨hgx, by rw [← hgx]; exact HSZ7.out⟩
            rw [hgx] at KN ⊢
            clear HW7 HSZ7 hgx
            have KX7 : Hid (Blk x7 gx 27 [.int .i64 D2.top, .slice S2.bits.a S2.bits.n S2.bits.c]) := KN
            clear KN
            have c0 := KO7.out.cell 0 rfl
            have c1 := KO7.out.cell 1 rfl
            go_wp2_with fail
            refine (implWinMay S D z x7 OS7.out.rd).mono ?_
            rw [HV.out]
            rintro e x8 ⟨rfl, b8⟩
            clear c0 c1
            have L8 : Hid (x7.heap.size ≤ x8.heap.size) := b8.size
            have RQ8 : Hid (IRow x8 q c' G) := RQ7.out.later b8
            have KO8 : Hid (Blk x8 go 27 [.int .i64 D.top, .slice S.bits.a S.bits.n S.bits.c]) := KO7.out.later b8
            have OS8 : Hid (WnOwn x8 lo hi S D) := OS7.out.later b8
            have RG8 : Hid (IRow x8 g c L) := RG7.out.later b8
            have B8 : Hid (Below w.heap.size w x8) := B7.out.trans (b8.mono B7.out.size)
            have OX8 : Hid (WnOwn x8 wr.heap.size x6.heap.size S2 D2) := OX7.out.later b8
            have KX8 : Hid (Blk x8 gx 27 [.int .i64 D2.top, .slice S2.bits.a S2.bits.n S2.bits.c]) := KX7.out.later b8
            clear b8 RQ7 KO7 OS7 RG7 B7 OX7 KX7
            have HOK2 : Hid (winOk D2.top D2.bits = true) := by show _ = _; rw [← HD2.out]; exact winOk_true (addBits_ok z HInv.out.ok)
            have c0 := KX8.out.cell 0 rfl
            have c1 := KX8.out.cell 1 rfl
            go_wp2_with fail
            refine (implWinOk S2 D2 x8 OX8.out.rd).mono ?_
            rw [HOK2.out]
            rintro e x9 ⟨rfl, b9⟩
            clear c0 c1
            have L9 : Hid (x8.heap.size ≤ x9.heap.size) := b9.size
            have RQ9 : Hid (IRow x9 q c' G) := RQ8.out.later b9
            have KO9 : Hid (Blk x9 go 27 [.int .i64 D.top, .slice S.bits.a S.bits.n S.bits.c]) := KO8.out.later b9
            have OS9 : Hid (WnOwn x9 lo hi S D) := OS8.out.later b9
            have RG9 : Hid (IRow x9 g c L) := RG8.out.later b9
            have B9 : Hid (Below w.heap.size w x9) := B8.out.trans (b9.mono B8.out.size)
            have OX9 : Hid (WnOwn x9 wr.heap.size x6.heap.size S2 D2) := OX8.out.later b9
            have KX9 : Hid (Blk x9 gx 27 [.int .i64 D2.top, .slice S2.bits.a S2.bits.n S2.bits.c]) := KX8.out.later b9
            clear b9 RQ8 KO8 OS8 RG8 B8 OX8 KX8
            have HBD : Hid (q < x9.heap.size ∧ go < x9.heap.size ∧ g < x9.heap.size ∧ gx < x9.heap.size ∧ gx ≠ q ∧ gx ≠ go ∧ x6.heap.size ≤ x9.heap.size ∧ wr.heap.size ≤ x6.heap.size) := by have := HI.out; have := HIq.out; have := L6.out; have := L7.out; have := Ggx.out; have := L8.out; have := L9.out; have := KX9.out.lt; show _ ∧ _; omega
            cases v with
            | true =>
              have HG3 : Hid (gots L (k + 1) = G ++ [z]) := HGs2.out
              have HSt2 : Hid (ofD L (k + 1) = D2) := by show _ = _; rw [HSt.out, HD2.out]
              by_cases hgt : z > D.top
              · have HDT : Hid (z = D2.top) := by show _ = _; rw [← HD2.out, add_yes HV.out]; show _ = max D.top z; omega
                have hnt : (D2.top != z) = false := by rw [← HDT.out]; simp
                go_wp2_with (at_builtin; refine AppAtI.iwpList_app_at _ rfl (.tmp 87) (.tmp 89) rfl q q _ c' G [z] rfl EM.out (irow_alloc RQ9.out _) (Nat.le_refl _) (some ⟨x9.heap.size, 0, none⟩) 1 1 rfl rfl (Blk.ird_one x9 _) (by intro e; cases e) (by rw [← EM.out, List.length_singleton]; omega) ?_; intro q3 c3 y1 r3 _ k3 gr3; have RQ3 : Hid (IRow y1 q3 c3 (G ++ [z])) := r3; have Q3 : Hid (q3 = q ∨ x9.heap.size ≤ q3) := (k3.imp id (fun h => Nat.le_trans (by simp) h)); have KO3 : Hid (Blk y1 go 27 [.int .i64 D.top, .slice S.bits.a S.bits.n S.bits.c]) := (KO9.out.alloc _).keep (gr3.block _ (KO9.out.alloc _).lt (by simp only [ne_eq, Option.some.injEq]; have := HI.out; omega)); have KX3 : Hid (Blk y1 gx 27 [.int .i64 D2.top, .slice S2.bits.a S2.bits.n S2.bits.c]) := (KX9.out.alloc _).keep (gr3.block _ (KX9.out.alloc _).lt (by simp only [ne_eq, Option.some.injEq]; have := HBD.out; omega)); have RG3 : Hid (IRow y1 g c L) := (irow_alloc RG9.out _).keep (gr3.block _ (irow_alloc RG9.out _).lt (by simp only [ne_eq, Option.some.injEq]; have := HI.out; omega)); have OX3 : Hid (WnOwn y1 wr.heap.size x6.heap.size S2 D2) := (OX9.out.later ((Below.refl _ _).alloc (Nat.le_refl _) _)).carry (Kept.of_grown gr3) (by have := HIq.out; omega); have B3 : Hid (Below w.heap.size w y1) := (B9.out.alloc B9.out.size _).grown gr3 (Nat.le_trans B9.out.size (by simp)) (fun k h => by cases h; have := HI.out; omega); have HS3 : Hid (x9.heap.size ≤ y1.heap.size) := (Nat.le_trans (by simp) gr3.size); have d0 := KX3.out.cell 0 rfl; have d1 := KX3.out.cell 1 rfl; have e0 := KO3.out.cell 0 rfl; have e1 := KO3.out.cell 1 rfl; have f0 := KO3.out.frozen 0; have f1 := KO3.out.frozen 1; clear r3 k3 gr3)
                have ST9 := WnK.stored KO3.out OX3.out (Nat.succ_le_of_lt HIq.out.2.2)
                go_roundw
                case rel => exact ⟨k + 1, q3, _, c3, S2, wr.heap.size, x6.heap.size, by omega, by go_num, by rw [HSt2.out, HDT.out], rfl, by rw [HG3.out]; rw [List.length_append, ← EM.out]; rfl, by rw [HG3.out]; exact RQ3.out.keep_set2 (by have := HI.out; have := HIq.out; have := HBD.out; have := Q3.out; have := HS3.out; omega), by rw [HSt2.out]; exact ST9.1, by rw [HSt2.out]; exact ST9.2.1, RG3.out.keep_set2 (by have := HI.out; have := HIq.out; have := HBD.out; have := Q3.out; have := HS3.out; omega), by have := HI.out; have := HIq.out; have := HBD.out; have := Q3.out; have := HS3.out; omega, by have := HI.out; have := HIq.out; have := HBD.out; have := Q3.out; have := HS3.out; simp only [size2]; omega, by have := HI.out; have := HIq.out; have := HBD.out; have := Q3.out; have := HS3.out; omega, by have := HI.out; have := HIq.out; have := HBD.out; have := Q3.out; have := HS3.out; omega, by have := HI.out; have := HIq.out; have := HBD.out; have := Q3.out; have := HS3.out; omega, by have := HI.out; have := HIq.out; have := HBD.out; have := Q3.out; have := HS3.out; omega, by have := HI.out; have := HIq.out; have := HBD.out; have := Q3.out; have := HS3.out; omega, by have := HI.out; have := HIq.out; have := HBD.out; have := Q3.out; have := HS3.out; omega, by have := HI.out; have := HIq.out; have := HBD.out; have := Q3.out; have := HS3.out; omega, by have := HI.out; have := HIq.out; have := HBD.out; have := Q3.out; have := HS3.out; omega, ST9.2.2 _ _ (by have := HI.out; have := HIq.out; have := HBD.out; have := Q3.out; have := HS3.out; omega) B3.out⟩
                case measure => simp [intOf]; omega
              · have HDT : Hid (D.top = D2.top) := by show _ = _; rw [← HD2.out, add_yes HV.out]; show _ = max D.top z; omega
                have hnt : (D2.top != D.top) = false := by rw [← HDT.out]; simp
                go_wp2_with (at_builtin; refine AppAtI.iwpList_app_at _ rfl (.tmp 87) (.tmp 89) rfl q q _ c' G [z] rfl EM.out (irow_alloc RQ9.out _) (Nat.le_refl _) (some ⟨x9.heap.size, 0, none⟩) 1 1 rfl rfl (Blk.ird_one x9 _) (by intro e; cases e) (by rw [← EM.out, List.length_singleton]; omega) ?_; intro q3 c3 y1 r3 _ k3 gr3; have RQ3 : Hid (IRow y1 q3 c3 (G ++ [z])) := r3; have Q3 : Hid (q3 = q ∨ x9.heap.size ≤ q3) := (k3.imp id (fun h => Nat.le_trans (by simp) h)); have KO3 : Hid (Blk y1 go 27 [.int .i64 D.top, .slice S.bits.a S.bits.n S.bits.c]) := (KO9.out.alloc _).keep (gr3.block _ (KO9.out.alloc _).lt (by simp only [ne_eq, Option.some.injEq]; have := HI.out; omega)); have KX3 : Hid (Blk y1 gx 27 [.int .i64 D2.top, .slice S2.bits.a S2.bits.n S2.bits.c]) := (KX9.out.alloc _).keep (gr3.block _ (KX9.out.alloc _).lt (by simp only [ne_eq, Option.some.injEq]; have := HBD.out; omega)); have RG3 : Hid (IRow y1 g c L) := (irow_alloc RG9.out _).keep (gr3.block _ (irow_alloc RG9.out _).lt (by simp only [ne_eq, Option.some.injEq]; have := HI.out; omega)); have OX3 : Hid (WnOwn y1 wr.heap.size x6.heap.size S2 D2) := (OX9.out.later ((Below.refl _ _).alloc (Nat.le_refl _) _)).carry (Kept.of_grown gr3) (by have := HIq.out; omega); have B3 : Hid (Below w.heap.size w y1) := (B9.out.alloc B9.out.size _).grown gr3 (Nat.le_trans B9.out.size (by simp)) (fun k h => by cases h; have := HI.out; omega); have HS3 : Hid (x9.heap.size ≤ y1.heap.size) := (Nat.le_trans (by simp) gr3.size); have d0 := KX3.out.cell 0 rfl; have d1 := KX3.out.cell 1 rfl; have e0 := KO3.out.cell 0 rfl; have e1 := KO3.out.cell 1 rfl; have f0 := KO3.out.frozen 0; have f1 := KO3.out.frozen 1; clear r3 k3 gr3)
                have ST9 := WnK.stored KO3.out OX3.out (Nat.succ_le_of_lt HIq.out.2.2)
                go_roundw
                case rel => exact ⟨k + 1, q3, _, c3, S2, wr.heap.size, x6.heap.size, by omega, by go_num, by rw [HSt2.out, HDT.out], rfl, by rw [HG3.out]; rw [List.length_append, ← EM.out]; rfl, by rw [HG3.out]; exact RQ3.out.keep_set2 (by have := HI.out; have := HIq.out; have := HBD.out; have := Q3.out; have := HS3.out; omega), by rw [HSt2.out]; exact ST9.1, by rw [HSt2.out]; exact ST9.2.1, RG3.out.keep_set2 (by have := HI.out; have := HIq.out; have := HBD.out; have := Q3.out; have := HS3.out; omega), by have := HI.out; have := HIq.out; have := HBD.out; have := Q3.out; have := HS3.out; omega, by have := HI.out; have := HIq.out; have := HBD.out; have := Q3.out; have := HS3.out; simp only [size2]; omega, by have := HI.out; have := HIq.out; have := HBD.out; have := Q3.out; have := HS3.out; omega, by have := HI.out; have := HIq.out; have := HBD.out; have := Q3.out; have := HS3.out; omega, by have := HI.out; have := HIq.out; have := HBD.out; have := Q3.out; have := HS3.out; omega, by have := HI.out; have := HIq.out; have := HBD.out; have := Q3.out; have := HS3.out; omega, by have := HI.out; have := HIq.out; have := HBD.out; have := Q3.out; have := HS3.out; omega, by have := HI.out; have := HIq.out; have := HBD.out; have := Q3.out; have := HS3.out; omega, by have := HI.out; have := HIq.out; have := HBD.out; have := Q3.out; have := HS3.out; omega, by have := HI.out; have := HIq.out; have := HBD.out; have := Q3.out; have := HS3.out; omega, ST9.2.2 _ _ (by have := HI.out; have := HIq.out; have := HBD.out; have := Q3.out; have := HS3.out; omega) B3.out⟩
                case measure => simp [intOf]; omega
            | false =>
              have HG3 : Hid (gots L (k + 1) = G) := by show _ = _; rw [HGs2.out]; simp
              have HDD : Hid (D2 = D) := by show _ = _; rw [← HD2.out, add_no HV.out]
              have HSt2 : Hid (ofD L (k + 1) = D2) := by show _ = _; rw [HSt.out, HD2.out]
              have HDT : Hid (D.top = D2.top) := by show _ = _; rw [HDD.out]
              have hnt : (D2.top != D.top) = false := by rw [← HDT.out]; simp
              have d0 := KX9.out.cell 0 rfl
              have d1 := KX9.out.cell 1 rfl
              have e0 := KO9.out.cell 0 rfl
              have e1 := KO9.out.cell 1 rfl
              have f0 := KO9.out.frozen 0
              have f1 := KO9.out.frozen 1
              go_wp2
              have ST9 := WnK.stored KO9.out OX9.out (by have := HI.out; have := HIq.out; have := HBD.out; omega)
              go_roundw
              case rel => exact ⟨k + 1, q, _, c', S2, wr.heap.size, x6.heap.size, by omega, by go_num, by rw [HSt2.out, HDT.out], rfl, by rw [HG3.out]; exact EM.out, by rw [HG3.out]; exact RQ9.out.keep_set2 (by have := HI.out; have := HIq.out; have := HBD.out; omega), by rw [HSt2.out]; exact ST9.1, by rw [HSt2.out]; exact ST9.2.1, RG9.out.keep_set2 (by have := HI.out; have := HIq.out; have := HBD.out; omega), by have := HI.out; have := HIq.out; have := HBD.out; omega, by have := HI.out; have := HIq.out; have := HBD.out; simp only [size2]; omega, by have := HI.out; have := HIq.out; have := HBD.out; omega, by have := HI.out; have := HIq.out; have := HBD.out; omega, by have := HI.out; have := HIq.out; have := HBD.out; omega, by have := HI.out; have := HIq.out; have := HBD.out; omega, by have := HI.out; have := HIq.out; have := HBD.out; omega, by have := HI.out; have := HIq.out; have := HBD.out; omega, by have := HI.out; have := HIq.out; have := HBD.out; omega, by have := HI.out; have := HIq.out; have := HBD.out; omega, ST9.2.2 _ _ (by have := HI.out; have := HIq.out; have := HBD.out; omega) B9.out⟩
              case measure => simp [intOf]; omega
    · have hkn : k = n := by omega
      have HKN : Hid (ofD L L.length = D) := by show _ = _; rw [← HN.out, ← hkn]; exact HD.out
      clear hkn
      obtain ⟨V, hV⟩ : ∃ V, winList D.top D.bits = V := ⟨_, rfl⟩
      have HVS : Hid (V.Pairwise (· < ·)) := by show List.Pairwise _ _; rw [← hV]; exact winList_sorted _ _
      have HVM : Hid (∀ z ∈ V, winHas D.top D.bits z = true) := fun z hz => by rw [← hV] at hz; exact (winList_mem _ _ _).1 hz
      have HVC : Hid (cnt G D.top G.length = V.length) := by show _ = _; rw [← hV]; exact cnt_end HInv.out
      have HVL : Hid (V.length ≤ 1024) := by show _ ≤ _; rw [← hV]; exact winList_length _ _
      have HVW : Hid (winList D.top D.bits = V) := hV
      clear hV
      have ca0 := KO5.out.cell 0 rfl
      have ca1 := KO5.out.cell 1 rfl
      go_wp2_with fail
      refine (implWinList S D wr OS5.out.rd).mono ?_
      rw [HVW.out]
      rintro e x6 ⟨q2, m2, c2, rfl, em2, hq2, rv, b6⟩
      have EM2 : Hid (m2 = V.length) := em2
      have hm2 : m2 ≤ 1024 := by have := HVL.out; omega
      have RQ6 : Hid (IRow x6 q c' G) := RQ5.out.later b6
      have KO6 : Hid (Blk x6 go 27 [.int .i64 D.top, .slice S.bits.a S.bits.n S.bits.c]) := KO5.out.later b6
      have OS6 : Hid (WnOwn x6 lo hi S D) := OS5.out.later b6
      have RG6 : Hid (IRow x6 g c L) := RG5.out.later b6
      have RV6 : Hid (IRow x6 q2 c2 V) := rv
      have B6 : Hid (Below w.heap.size w x6) := B5.out.trans (b6.mono B5.out.size)
      clear em2 hq2 rv b6 ca0 ca1 RQ5 KO5 OS5 RG5 B5
      go_wp2
      go_loopw [16] (fun s16 wr => ∃ i : Nat, i ≤ m2 ∧ s16 = .int .i64 i ∧ Abide wr go q c' g c q2 c2 lo hi S D G L V ∧ Below w.heap.size w wr) (fun s16 _ => m2 - (intOf s16).toNat)
      case atStart => exact ⟨0, Nat.zero_le _, rfl, ⟨RQ6.out, KO6.out, OS6.out, RG6.out, RV6.out⟩, B6.out⟩
      case round =>
        obtain ⟨iw, hi', rfl, ab, hbe⟩ := hrel
        have AB : Hid (Abide wr go q c' g c q2 c2 lo hi S D G L V) := ab
        have B7 : Hid (Below w.heap.size w wr) := hbe
        clear ab hbe RQ6 KO6 OS6 RG6 RV6 B6
        by_cases him : iw < m2
        · have hiV : iw < V.length := by have := EM2.out; omega
          have himI : (iw : Int) < (m2 : Int) := by omega
          obtain ⟨z, hz⟩ : ∃ z, V.getD iw 0 = z := ⟨_, rfl⟩
          have HZ : Hid (V.getD iw 0 = z) := hz
          have HHas : Hid (winHas D.top D.bits z = true) := by show _ = _; rw [← hz]; exact HVM.out _ (mem_at hiV)
          have HC0 : Hid (∀ wz, Below wr.heap.size wr wz → Calls Try.prog 19 #[.agg #[.int .i64 D.top, .slice S.bits.a S.bits.n S.bits.c], .int .i64 z] wz fun e w' => e = .returned (.bool true) ∧ Below wz.heap.size wz w') := by
            intro wz hb
            have := implWinHas S D z wz (AB.out.os.later hb).rd
            rw [HHas.out] at this
            exact this
          by_cases hpos : (iw : Int) > 0
          · have hpn : 0 < iw := by omega
            obtain ⟨i0, hi0⟩ : ∃ i0 : Nat, (iw : Int) - 1 = (i0 : Int) := ⟨iw - 1, by omega⟩
            have hii : iw = i0 + 1 := by omega
            have hiz : i0 < V.length := by omega
            have HSo : Hid (V.getD i0 0 < V.getD iw 0) := by rw [hii]; exact sorted_at HVS.out (by omega)
            clear hii
            obtain ⟨y0, hy0⟩ : ∃ y0, V.getD i0 0 = y0 := ⟨_, rfl⟩
            have HY : Hid (V.getD i0 0 = y0) := hy0
            have hlt0 : y0 < z := by have := HSo.out; rw [hy0, hz] at this; exact this
            have hge : ¬ y0 ≥ z := by omega
            have hi0l : (i0 : Int) < (m2 : Int) := by omega
            have hwi : IntKind.i64.wrap (i0 : Int) = (i0 : Int) := Bits.wrap_i64_nat i0 (by omega)
            clear hz hy0 HSo
            go_upto_region 32 with fail
            go_cut [130] from 108 to 129 (fun sv wx => sv = .bool false ∧ Below wr.heap.size wr wx)
            case first =>
              rename_i J K' hRJ hMet
              generalize hA : Act.mk _ _ = A
              have a16' : A.eval (.tmp 16) = .int .i64 (iw : Int) := by rw [← hA]; rfl
              have a14' : A.eval (.tmp 14) = .slice (some ⟨q2, 0, none⟩) m2 c2 := by rw [← hA]; rfl
              have a4' : A.eval (.tmp 4) = .pointer (some ⟨go, 0, none⟩) := by rw [← hA]; rfl
              have asz : A.tmps.size = 163 := by rw [← hA]; rfl
              have hAB : ∀ wx, Below wr.heap.size wr wx → Abide wx go q c' g c q2 c2 lo hi S D G L V := fun wx hb => AB.out.later hb
              refine region_each (by kernel_rfl) [108, 109, 110, 111, 112, 113, 114, 115, 116, 117, 118, 119, 120, 121, 122, 123, 124, 125, 126, 127, 128, 129] 22 (fun i => [108, 109, 110, 111, 112, 113, 114, 115, 116, 117, 118, 119, 120, 121, 122, 123, 124, 125, 126, 127, 128, 129].getD i 0) (fun _ => 0)
                (fun i gB v wx => match i with
                  | 0 => v = .int .i64 (iw : Int)
                  | 1 => v = .bool true
                  | 2 => v = .bool true
                  | 3 => v = .slice (some ⟨q2, 0, none⟩) m2 c2
                  | 4 => v = .int .i64 (iw : Int)
                  | 5 => v = .int .i64 (i0 : Int)
                  | 6 => v = .pointer (some ⟨q2, i0, none⟩)
                  | 7 => v = .int .i64 y0
                  | 8 => v = .slice (some ⟨q2, 0, none⟩) m2 c2
                  | 9 => v = .int .i64 (iw : Int)
                  | 10 => v = .pointer (some ⟨q2, iw, none⟩)
                  | 11 => v = .int .i64 z
                  | 12 => v = .bool false
                  | 13 => v = .bool false
                  | 14 => v = .bool false
                  | 15 => v = .agg #[.int .i64 D.top, .slice S.bits.a S.bits.n S.bits.c]
                  | 16 => v = .slice (some ⟨q2, 0, none⟩) m2 c2
                  | 17 => v = .int .i64 (iw : Int)
                  | 18 => v = .pointer (some ⟨q2, iw, none⟩)
                  | 19 => v = .int .i64 z
                  | 20 => v = .bool true
                  | 21 => v = .bool false
                  | _ => False) (fun wx => Below wr.heap.size wr wx) (by kernel_rfl) (Below.refl _ _).drew ?_ ?_ ?_
              · intro i gB v wx wy hi hF hb _
                match i, hi with
                | 0, _ => exact hF
                | 1, _ => exact hF
                | 2, _ => exact hF
                | 3, _ => exact hF
                | 4, _ => exact hF
                | 5, _ => exact hF
                | 6, _ => exact hF
                | 7, _ => exact hF
                | 8, _ => exact hF
                | 9, _ => exact hF
                | 10, _ => exact hF
                | 11, _ => exact hF
                | 12, _ => exact hF
                | 13, _ => exact hF
                | 14, _ => exact hF
                | 15, _ => exact hF
                | 16, _ => exact hF
                | 17, _ => exact hF
                | 18, _ => exact hF
                | 19, _ => exact hF
                | 20, _ => exact hF
                | 21, _ => exact hF
                | n + 22, hi => exact absurd hi (by omega)
              · intro i hi t ρ wx hB hp hd
                match i, hi with
                | 0, _ =>
                  have e16 : (fr [108, 109, 110, 111, 112, 113, 114, 115, 116, 117, 118, 119, 120, 121, 122, 123, 124, 125, 126, 127, 128, 129] A t).eval (.tmp 16) = .int .i64 (iw : Int) := (fr_eval_old _ _ _ 16 rfl).trans a16'
                  refine op_run (v := .int .i64 (iw : Int)) (w' := wx) rfl rfl ?_ ?_
                  · clear hp hd; have ec : ∀ v, (fr [108, 109, 110, 111, 112, 113, 114, 115, 116, 117, 118, 119, 120, 121, 122, 123, 124, 125, 126, 127, 128, 129] A t).eval (.const v) = v := fun _ => rfl; generalize (fr [108, 109, 110, 111, 112, 113, 114, 115, 116, 117, 118, 119, 120, 121, 122, 123, 124, 125, 126, 127, 128, 129] A t).eval = ev at ec e16 ⊢; go_simp
                  · exact ⟨_, 0, rfl, hB, Below.refl _ _, rfl, .inl rfl⟩
                | 1, _ =>
                  have e108 : (fr [108, 109, 110, 111, 112, 113, 114, 115, 116, 117, 118, 119, 120, 121, 122, 123, 124, 125, 126, 127, 128, 129] A t).eval (.tmp 108) = .int .i64 (iw : Int) := (fr_eval _ _ _ 108 rfl (by rw [asz]; decide)).trans (hp 0 (pre_mem (by kernel_rfl)))
                  refine op_run (v := .bool true) (w' := wx) rfl rfl ?_ ?_
                  · clear hp hd; have ec : ∀ v, (fr [108, 109, 110, 111, 112, 113, 114, 115, 116, 117, 118, 119, 120, 121, 122, 123, 124, 125, 126, 127, 128, 129] A t).eval (.const v) = v := fun _ => rfl; generalize (fr [108, 109, 110, 111, 112, 113, 114, 115, 116, 117, 118, 119, 120, 121, 122, 123, 124, 125, 126, 127, 128, 129] A t).eval = ev at ec e108 ⊢; go_simp
                  · exact ⟨_, 0, rfl, hB, Below.refl _ _, rfl, .inl rfl⟩
                | 2, _ =>
                  have e109 : (fr [108, 109, 110, 111, 112, 113, 114, 115, 116, 117, 118, 119, 120, 121, 122, 123, 124, 125, 126, 127, 128, 129] A t).eval (.tmp 109) = .bool true := (fr_eval _ _ _ 109 rfl (by rw [asz]; decide)).trans (hp 1 (pre_mem (by kernel_rfl)))
                  refine op_run (v := .bool true) (w' := wx) rfl rfl ?_ ?_
                  · clear hp hd; have ec : ∀ v, (fr [108, 109, 110, 111, 112, 113, 114, 115, 116, 117, 118, 119, 120, 121, 122, 123, 124, 125, 126, 127, 128, 129] A t).eval (.const v) = v := fun _ => rfl; generalize (fr [108, 109, 110, 111, 112, 113, 114, 115, 116, 117, 118, 119, 120, 121, 122, 123, 124, 125, 126, 127, 128, 129] A t).eval = ev at ec e109 ⊢; go_simp
                  · exact ⟨_, 0, rfl, hB, Below.refl _ _, rfl, .inl rfl⟩
                | 3, _ =>
                  have e14 : (fr [108, 109, 110, 111, 112, 113, 114, 115, 116, 117, 118, 119, 120, 121, 122, 123, 124, 125, 126, 127, 128, 129] A t).eval (.tmp 14) = .slice (some ⟨q2, 0, none⟩) m2 c2 := (fr_eval_old _ _ _ 14 rfl).trans a14'
                  have e110 : (fr [108, 109, 110, 111, 112, 113, 114, 115, 116, 117, 118, 119, 120, 121, 122, 123, 124, 125, 126, 127, 128, 129] A t).eval (.tmp 110) = .bool true := (fr_eval _ _ _ 110 rfl (by rw [asz]; decide)).trans (hp 2 (pre_mem (by kernel_rfl)))
                  refine op_run_g (v := .slice (some ⟨q2, 0, none⟩) m2 c2) (w' := wx) rfl (wanted_true rfl rfl e110) ?_ ?_
                  · clear hp hd; have ec : ∀ v, (fr [108, 109, 110, 111, 112, 113, 114, 115, 116, 117, 118, 119, 120, 121, 122, 123, 124, 125, 126, 127, 128, 129] A t).eval (.const v) = v := fun _ => rfl; generalize (fr [108, 109, 110, 111, 112, 113, 114, 115, 116, 117, 118, 119, 120, 121, 122, 123, 124, 125, 126, 127, 128, 129] A t).eval = ev at ec e14 e110 ⊢; go_simp
                  · exact ⟨_, 0, rfl, hB, Below.refl _ _, rfl, .inl rfl⟩
                | 4, _ =>
                  have e16 : (fr [108, 109, 110, 111, 112, 113, 114, 115, 116, 117, 118, 119, 120, 121, 122, 123, 124, 125, 126, 127, 128, 129] A t).eval (.tmp 16) = .int .i64 (iw : Int) := (fr_eval_old _ _ _ 16 rfl).trans a16'
                  have e110 : (fr [108, 109, 110, 111, 112, 113, 114, 115, 116, 117, 118, 119, 120, 121, 122, 123, 124, 125, 126, 127, 128, 129] A t).eval (.tmp 110) = .bool true := (fr_eval _ _ _ 110 rfl (by rw [asz]; decide)).trans (hp 2 (pre_mem (by kernel_rfl)))
                  refine op_run_g (v := .int .i64 (iw : Int)) (w' := wx) rfl (wanted_true rfl rfl e110) ?_ ?_
                  · clear hp hd; have ec : ∀ v, (fr [108, 109, 110, 111, 112, 113, 114, 115, 116, 117, 118, 119, 120, 121, 122, 123, 124, 125, 126, 127, 128, 129] A t).eval (.const v) = v := fun _ => rfl; generalize (fr [108, 109, 110, 111, 112, 113, 114, 115, 116, 117, 118, 119, 120, 121, 122, 123, 124, 125, 126, 127, 128, 129] A t).eval = ev at ec e16 e110 ⊢; go_simp
                  · exact ⟨_, 0, rfl, hB, Below.refl _ _, rfl, .inl rfl⟩
                | 5, _ =>
                  have e112 : (fr [108, 109, 110, 111, 112, 113, 114, 115, 116, 117, 118, 119, 120, 121, 122, 123, 124, 125, 126, 127, 128, 129] A t).eval (.tmp 112) = .int .i64 (iw : Int) := (fr_eval _ _ _ 112 rfl (by rw [asz]; decide)).trans (hp 4 (pre_mem (by kernel_rfl)))
                  have e110 : (fr [108, 109, 110, 111, 112, 113, 114, 115, 116, 117, 118, 119, 120, 121, 122, 123, 124, 125, 126, 127, 128, 129] A t).eval (.tmp 110) = .bool true := (fr_eval _ _ _ 110 rfl (by rw [asz]; decide)).trans (hp 2 (pre_mem (by kernel_rfl)))
                  refine op_run_g (v := .int .i64 (i0 : Int)) (w' := wx) rfl (wanted_true rfl rfl e110) ?_ ?_
                  · clear hp hd; have ec : ∀ v, (fr [108, 109, 110, 111, 112, 113, 114, 115, 116, 117, 118, 119, 120, 121, 122, 123, 124, 125, 126, 127, 128, 129] A t).eval (.const v) = v := fun _ => rfl; generalize (fr [108, 109, 110, 111, 112, 113, 114, 115, 116, 117, 118, 119, 120, 121, 122, 123, 124, 125, 126, 127, 128, 129] A t).eval = ev at ec e112 e110 ⊢; go_simp
                  · exact ⟨_, 0, rfl, hB, Below.refl _ _, rfl, .inl rfl⟩
                | 6, _ =>
                  have e111 : (fr [108, 109, 110, 111, 112, 113, 114, 115, 116, 117, 118, 119, 120, 121, 122, 123, 124, 125, 126, 127, 128, 129] A t).eval (.tmp 111) = .slice (some ⟨q2, 0, none⟩) m2 c2 := (fr_eval _ _ _ 111 rfl (by rw [asz]; decide)).trans (hp 3 (pre_mem (by kernel_rfl)))
                  have e113 : (fr [108, 109, 110, 111, 112, 113, 114, 115, 116, 117, 118, 119, 120, 121, 122, 123, 124, 125, 126, 127, 128, 129] A t).eval (.tmp 113) = .int .i64 (i0 : Int) := (fr_eval _ _ _ 113 rfl (by rw [asz]; decide)).trans (hp 5 (pre_mem (by kernel_rfl)))
                  have e110 : (fr [108, 109, 110, 111, 112, 113, 114, 115, 116, 117, 118, 119, 120, 121, 122, 123, 124, 125, 126, 127, 128, 129] A t).eval (.tmp 110) = .bool true := (fr_eval _ _ _ 110 rfl (by rw [asz]; decide)).trans (hp 2 (pre_mem (by kernel_rfl)))
                  refine op_run_g (v := .pointer (some ⟨q2, i0, none⟩)) (w' := wx) rfl (wanted_true rfl rfl e110) ?_ ?_
                  · clear hp hd; have ec : ∀ v, (fr [108, 109, 110, 111, 112, 113, 114, 115, 116, 117, 118, 119, 120, 121, 122, 123, 124, 125, 126, 127, 128, 129] A t).eval (.const v) = v := fun _ => rfl; generalize (fr [108, 109, 110, 111, 112, 113, 114, 115, 116, 117, 118, 119, 120, 121, 122, 123, 124, 125, 126, 127, 128, 129] A t).eval = ev at ec e111 e113 e110 ⊢; go_simp
                  · exact ⟨_, 0, rfl, hB, Below.refl _ _, rfl, .inl rfl⟩
                | 7, _ =>
                  have e114 : (fr [108, 109, 110, 111, 112, 113, 114, 115, 116, 117, 118, 119, 120, 121, 122, 123, 124, 125, 126, 127, 128, 129] A t).eval (.tmp 114) = .pointer (some ⟨q2, i0, none⟩) := (fr_eval _ _ _ 114 rfl (by rw [asz]; decide)).trans (hp 6 (pre_mem (by kernel_rfl)))
                  have e110 : (fr [108, 109, 110, 111, 112, 113, 114, 115, 116, 117, 118, 119, 120, 121, 122, 123, 124, 125, 126, 127, 128, 129] A t).eval (.tmp 110) = .bool true := (fr_eval _ _ _ 110 rfl (by rw [asz]; decide)).trans (hp 2 (pre_mem (by kernel_rfl)))
                  have hc : wx.cell? ⟨q2, i0, none⟩ = some (.int .i64 y0) := by rw [(hAB wx hB).rv.cell i0 (by omega), HY.out]
                  refine op_run_g (v := .int .i64 y0) (w' := wx) rfl (wanted_true rfl rfl e110) ?_ ?_
                  · clear hp hd; have ec : ∀ v, (fr [108, 109, 110, 111, 112, 113, 114, 115, 116, 117, 118, 119, 120, 121, 122, 123, 124, 125, 126, 127, 128, 129] A t).eval (.const v) = v := fun _ => rfl; generalize (fr [108, 109, 110, 111, 112, 113, 114, 115, 116, 117, 118, 119, 120, 121, 122, 123, 124, 125, 126, 127, 128, 129] A t).eval = ev at ec e114 e110 ⊢; go_simp
                  · exact ⟨_, 0, rfl, hB, Below.refl _ _, rfl, .inl rfl⟩
                | 8, _ =>
                  have e14 : (fr [108, 109, 110, 111, 112, 113, 114, 115, 116, 117, 118, 119, 120, 121, 122, 123, 124, 125, 126, 127, 128, 129] A t).eval (.tmp 14) = .slice (some ⟨q2, 0, none⟩) m2 c2 := (fr_eval_old _ _ _ 14 rfl).trans a14'
                  have e110 : (fr [108, 109, 110, 111, 112, 113, 114, 115, 116, 117, 118, 119, 120, 121, 122, 123, 124, 125, 126, 127, 128, 129] A t).eval (.tmp 110) = .bool true := (fr_eval _ _ _ 110 rfl (by rw [asz]; decide)).trans (hp 2 (pre_mem (by kernel_rfl)))
                  refine op_run_g (v := .slice (some ⟨q2, 0, none⟩) m2 c2) (w' := wx) rfl (wanted_true rfl rfl e110) ?_ ?_
                  · clear hp hd; have ec : ∀ v, (fr [108, 109, 110, 111, 112, 113, 114, 115, 116, 117, 118, 119, 120, 121, 122, 123, 124, 125, 126, 127, 128, 129] A t).eval (.const v) = v := fun _ => rfl; generalize (fr [108, 109, 110, 111, 112, 113, 114, 115, 116, 117, 118, 119, 120, 121, 122, 123, 124, 125, 126, 127, 128, 129] A t).eval = ev at ec e14 e110 ⊢; go_simp
                  · exact ⟨_, 0, rfl, hB, Below.refl _ _, rfl, .inl rfl⟩
                | 9, _ =>
                  have e16 : (fr [108, 109, 110, 111, 112, 113, 114, 115, 116, 117, 118, 119, 120, 121, 122, 123, 124, 125, 126, 127, 128, 129] A t).eval (.tmp 16) = .int .i64 (iw : Int) := (fr_eval_old _ _ _ 16 rfl).trans a16'
                  have e110 : (fr [108, 109, 110, 111, 112, 113, 114, 115, 116, 117, 118, 119, 120, 121, 122, 123, 124, 125, 126, 127, 128, 129] A t).eval (.tmp 110) = .bool true := (fr_eval _ _ _ 110 rfl (by rw [asz]; decide)).trans (hp 2 (pre_mem (by kernel_rfl)))
                  refine op_run_g (v := .int .i64 (iw : Int)) (w' := wx) rfl (wanted_true rfl rfl e110) ?_ ?_
                  · clear hp hd; have ec : ∀ v, (fr [108, 109, 110, 111, 112, 113, 114, 115, 116, 117, 118, 119, 120, 121, 122, 123, 124, 125, 126, 127, 128, 129] A t).eval (.const v) = v := fun _ => rfl; generalize (fr [108, 109, 110, 111, 112, 113, 114, 115, 116, 117, 118, 119, 120, 121, 122, 123, 124, 125, 126, 127, 128, 129] A t).eval = ev at ec e16 e110 ⊢; go_simp
                  · exact ⟨_, 0, rfl, hB, Below.refl _ _, rfl, .inl rfl⟩
                | 10, _ =>
                  have e116 : (fr [108, 109, 110, 111, 112, 113, 114, 115, 116, 117, 118, 119, 120, 121, 122, 123, 124, 125, 126, 127, 128, 129] A t).eval (.tmp 116) = .slice (some ⟨q2, 0, none⟩) m2 c2 := (fr_eval _ _ _ 116 rfl (by rw [asz]; decide)).trans (hp 8 (pre_mem (by kernel_rfl)))
                  have e117 : (fr [108, 109, 110, 111, 112, 113, 114, 115, 116, 117, 118, 119, 120, 121, 122, 123, 124, 125, 126, 127, 128, 129] A t).eval (.tmp 117) = .int .i64 (iw : Int) := (fr_eval _ _ _ 117 rfl (by rw [asz]; decide)).trans (hp 9 (pre_mem (by kernel_rfl)))
                  have e110 : (fr [108, 109, 110, 111, 112, 113, 114, 115, 116, 117, 118, 119, 120, 121, 122, 123, 124, 125, 126, 127, 128, 129] A t).eval (.tmp 110) = .bool true := (fr_eval _ _ _ 110 rfl (by rw [asz]; decide)).trans (hp 2 (pre_mem (by kernel_rfl)))
                  refine op_run_g (v := .pointer (some ⟨q2, iw, none⟩)) (w' := wx) rfl (wanted_true rfl rfl e110) ?_ ?_
                  · clear hp hd; have ec : ∀ v, (fr [108, 109, 110, 111, 112, 113, 114, 115, 116, 117, 118, 119, 120, 121, 122, 123, 124, 125, 126, 127, 128, 129] A t).eval (.const v) = v := fun _ => rfl; generalize (fr [108, 109, 110, 111, 112, 113, 114, 115, 116, 117, 118, 119, 120, 121, 122, 123, 124, 125, 126, 127, 128, 129] A t).eval = ev at ec e116 e117 e110 ⊢; go_simp
                  · exact ⟨_, 0, rfl, hB, Below.refl _ _, rfl, .inl rfl⟩
                | 11, _ =>
                  have e118 : (fr [108, 109, 110, 111, 112, 113, 114, 115, 116, 117, 118, 119, 120, 121, 122, 123, 124, 125, 126, 127, 128, 129] A t).eval (.tmp 118) = .pointer (some ⟨q2, iw, none⟩) := (fr_eval _ _ _ 118 rfl (by rw [asz]; decide)).trans (hp 10 (pre_mem (by kernel_rfl)))
                  have e110 : (fr [108, 109, 110, 111, 112, 113, 114, 115, 116, 117, 118, 119, 120, 121, 122, 123, 124, 125, 126, 127, 128, 129] A t).eval (.tmp 110) = .bool true := (fr_eval _ _ _ 110 rfl (by rw [asz]; decide)).trans (hp 2 (pre_mem (by kernel_rfl)))
                  have hc : wx.cell? ⟨q2, iw, none⟩ = some (.int .i64 z) := by rw [(hAB wx hB).rv.cell iw hiV, HZ.out]
                  refine op_run_g (v := .int .i64 z) (w' := wx) rfl (wanted_true rfl rfl e110) ?_ ?_
                  · clear hp hd; have ec : ∀ v, (fr [108, 109, 110, 111, 112, 113, 114, 115, 116, 117, 118, 119, 120, 121, 122, 123, 124, 125, 126, 127, 128, 129] A t).eval (.const v) = v := fun _ => rfl; generalize (fr [108, 109, 110, 111, 112, 113, 114, 115, 116, 117, 118, 119, 120, 121, 122, 123, 124, 125, 126, 127, 128, 129] A t).eval = ev at ec e118 e110 ⊢; go_simp
                  · exact ⟨_, 0, rfl, hB, Below.refl _ _, rfl, .inl rfl⟩
                | 12, _ =>
                  have e115 : (fr [108, 109, 110, 111, 112, 113, 114, 115, 116, 117, 118, 119, 120, 121, 122, 123, 124, 125, 126, 127, 128, 129] A t).eval (.tmp 115) = .int .i64 y0 := (fr_eval _ _ _ 115 rfl (by rw [asz]; decide)).trans (hp 7 (pre_mem (by kernel_rfl)))
                  have e119 : (fr [108, 109, 110, 111, 112, 113, 114, 115, 116, 117, 118, 119, 120, 121, 122, 123, 124, 125, 126, 127, 128, 129] A t).eval (.tmp 119) = .int .i64 z := (fr_eval _ _ _ 119 rfl (by rw [asz]; decide)).trans (hp 11 (pre_mem (by kernel_rfl)))
                  have e110 : (fr [108, 109, 110, 111, 112, 113, 114, 115, 116, 117, 118, 119, 120, 121, 122, 123, 124, 125, 126, 127, 128, 129] A t).eval (.tmp 110) = .bool true := (fr_eval _ _ _ 110 rfl (by rw [asz]; decide)).trans (hp 2 (pre_mem (by kernel_rfl)))
                  refine op_run_g (v := .bool false) (w' := wx) rfl (wanted_true rfl rfl e110) ?_ ?_
                  · clear hp hd; have ec : ∀ v, (fr [108, 109, 110, 111, 112, 113, 114, 115, 116, 117, 118, 119, 120, 121, 122, 123, 124, 125, 126, 127, 128, 129] A t).eval (.const v) = v := fun _ => rfl; generalize (fr [108, 109, 110, 111, 112, 113, 114, 115, 116, 117, 118, 119, 120, 121, 122, 123, 124, 125, 126, 127, 128, 129] A t).eval = ev at ec e115 e119 e110 ⊢; go_simp
                  · exact ⟨_, 0, rfl, hB, Below.refl _ _, rfl, .inl rfl⟩
                | 13, _ =>
                  have e110 : (fr [108, 109, 110, 111, 112, 113, 114, 115, 116, 117, 118, 119, 120, 121, 122, 123, 124, 125, 126, 127, 128, 129] A t).eval (.tmp 110) = .bool true := (fr_eval _ _ _ 110 rfl (by rw [asz]; decide)).trans (hp 2 (pre_mem (by kernel_rfl)))
                  have e120 : (fr [108, 109, 110, 111, 112, 113, 114, 115, 116, 117, 118, 119, 120, 121, 122, 123, 124, 125, 126, 127, 128, 129] A t).eval (.tmp 120) = .bool false := (fr_eval _ _ _ 120 rfl (by rw [asz]; decide)).trans (hp 12 (pre_mem (by kernel_rfl)))
                  refine op_run (v := .bool false) (w' := wx) rfl rfl ?_ ?_
                  · clear hp hd; have ec : ∀ v, (fr [108, 109, 110, 111, 112, 113, 114, 115, 116, 117, 118, 119, 120, 121, 122, 123, 124, 125, 126, 127, 128, 129] A t).eval (.const v) = v := fun _ => rfl; generalize (fr [108, 109, 110, 111, 112, 113, 114, 115, 116, 117, 118, 119, 120, 121, 122, 123, 124, 125, 126, 127, 128, 129] A t).eval = ev at ec e110 e120 ⊢; go_simp
                  · exact ⟨_, 0, rfl, hB, Below.refl _ _, rfl, .inl rfl⟩
                | 14, _ =>
                  have e121 : (fr [108, 109, 110, 111, 112, 113, 114, 115, 116, 117, 118, 119, 120, 121, 122, 123, 124, 125, 126, 127, 128, 129] A t).eval (.tmp 121) = .bool false := (fr_eval _ _ _ 121 rfl (by rw [asz]; decide)).trans (hp 13 (pre_mem (by kernel_rfl)))
                  refine op_run (v := .bool false) (w' := wx) rfl rfl ?_ ?_
                  · clear hp hd; have ec : ∀ v, (fr [108, 109, 110, 111, 112, 113, 114, 115, 116, 117, 118, 119, 120, 121, 122, 123, 124, 125, 126, 127, 128, 129] A t).eval (.const v) = v := fun _ => rfl; generalize (fr [108, 109, 110, 111, 112, 113, 114, 115, 116, 117, 118, 119, 120, 121, 122, 123, 124, 125, 126, 127, 128, 129] A t).eval = ev at ec e121 ⊢; go_simp
                  · exact ⟨_, 0, rfl, hB, Below.refl _ _, rfl, .inl rfl⟩
                | 15, _ =>
                  have e4 : (fr [108, 109, 110, 111, 112, 113, 114, 115, 116, 117, 118, 119, 120, 121, 122, 123, 124, 125, 126, 127, 128, 129] A t).eval (.tmp 4) = .pointer (some ⟨go, 0, none⟩) := (fr_eval_old _ _ _ 4 rfl).trans a4'
                  have e122 : (fr [108, 109, 110, 111, 112, 113, 114, 115, 116, 117, 118, 119, 120, 121, 122, 123, 124, 125, 126, 127, 128, 129] A t).eval (.tmp 122) = .bool false := (fr_eval _ _ _ 122 rfl (by rw [asz]; decide)).trans (hp 14 (pre_mem (by kernel_rfl)))
                  have hc0 := (hAB wx hB).ko.cell 0 rfl
                  have hc1 := (hAB wx hB).ko.cell 1 rfl
                  refine op_run_g (v := .agg #[.int .i64 D.top, .slice S.bits.a S.bits.n S.bits.c]) (w' := wx) rfl (wanted_true rfl rfl e122) ?_ ?_
                  · clear hp hd; have ec : ∀ v, (fr [108, 109, 110, 111, 112, 113, 114, 115, 116, 117, 118, 119, 120, 121, 122, 123, 124, 125, 126, 127, 128, 129] A t).eval (.const v) = v := fun _ => rfl; generalize (fr [108, 109, 110, 111, 112, 113, 114, 115, 116, 117, 118, 119, 120, 121, 122, 123, 124, 125, 126, 127, 128, 129] A t).eval = ev at ec e4 e122 ⊢; go_simp
                  · exact ⟨_, 0, rfl, hB, Below.refl _ _, rfl, .inl rfl⟩
                | 16, _ =>
                  have e14 : (fr [108, 109, 110, 111, 112, 113, 114, 115, 116, 117, 118, 119, 120, 121, 122, 123, 124, 125, 126, 127, 128, 129] A t).eval (.tmp 14) = .slice (some ⟨q2, 0, none⟩) m2 c2 := (fr_eval_old _ _ _ 14 rfl).trans a14'
                  have e122 : (fr [108, 109, 110, 111, 112, 113, 114, 115, 116, 117, 118, 119, 120, 121, 122, 123, 124, 125, 126, 127, 128, 129] A t).eval (.tmp 122) = .bool false := (fr_eval _ _ _ 122 rfl (by rw [asz]; decide)).trans (hp 14 (pre_mem (by kernel_rfl)))
                  refine op_run_g (v := .slice (some ⟨q2, 0, none⟩) m2 c2) (w' := wx) rfl (wanted_true rfl rfl e122) ?_ ?_
                  · clear hp hd; have ec : ∀ v, (fr [108, 109, 110, 111, 112, 113, 114, 115, 116, 117, 118, 119, 120, 121, 122, 123, 124, 125, 126, 127, 128, 129] A t).eval (.const v) = v := fun _ => rfl; generalize (fr [108, 109, 110, 111, 112, 113, 114, 115, 116, 117, 118, 119, 120, 121, 122, 123, 124, 125, 126, 127, 128, 129] A t).eval = ev at ec e14 e122 ⊢; go_simp
                  · exact ⟨_, 0, rfl, hB, Below.refl _ _, rfl, .inl rfl⟩
                | 17, _ =>
                  have e16 : (fr [108, 109, 110, 111, 112, 113, 114, 115, 116, 117, 118, 119, 120, 121, 122, 123, 124, 125, 126, 127, 128, 129] A t).eval (.tmp 16) = .int .i64 (iw : Int) := (fr_eval_old _ _ _ 16 rfl).trans a16'
                  have e122 : (fr [108, 109, 110, 111, 112, 113, 114, 115, 116, 117, 118, 119, 120, 121, 122, 123, 124, 125, 126, 127, 128, 129] A t).eval (.tmp 122) = .bool false := (fr_eval _ _ _ 122 rfl (by rw [asz]; decide)).trans (hp 14 (pre_mem (by kernel_rfl)))
                  refine op_run_g (v := .int .i64 (iw : Int)) (w' := wx) rfl (wanted_true rfl rfl e122) ?_ ?_
                  · clear hp hd; have ec : ∀ v, (fr [108, 109, 110, 111, 112, 113, 114, 115, 116, 117, 118, 119, 120, 121, 122, 123, 124, 125, 126, 127, 128, 129] A t).eval (.const v) = v := fun _ => rfl; generalize (fr [108, 109, 110, 111, 112, 113, 114, 115, 116, 117, 118, 119, 120, 121, 122, 123, 124, 125, 126, 127, 128, 129] A t).eval = ev at ec e16 e122 ⊢; go_simp
                  · exact ⟨_, 0, rfl, hB, Below.refl _ _, rfl, .inl rfl⟩
                | 18, _ =>
                  have e124 : (fr [108, 109, 110, 111, 112, 113, 114, 115, 116, 117, 118, 119, 120, 121, 122, 123, 124, 125, 126, 127, 128, 129] A t).eval (.tmp 124) = .slice (some ⟨q2, 0, none⟩) m2 c2 := (fr_eval _ _ _ 124 rfl (by rw [asz]; decide)).trans (hp 16 (pre_mem (by kernel_rfl)))
                  have e125 : (fr [108, 109, 110, 111, 112, 113, 114, 115, 116, 117, 118, 119, 120, 121, 122, 123, 124, 125, 126, 127, 128, 129] A t).eval (.tmp 125) = .int .i64 (iw : Int) := (fr_eval _ _ _ 125 rfl (by rw [asz]; decide)).trans (hp 17 (pre_mem (by kernel_rfl)))
                  have e122 : (fr [108, 109, 110, 111, 112, 113, 114, 115, 116, 117, 118, 119, 120, 121, 122, 123, 124, 125, 126, 127, 128, 129] A t).eval (.tmp 122) = .bool false := (fr_eval _ _ _ 122 rfl (by rw [asz]; decide)).trans (hp 14 (pre_mem (by kernel_rfl)))
                  refine op_run_g (v := .pointer (some ⟨q2, iw, none⟩)) (w' := wx) rfl (wanted_true rfl rfl e122) ?_ ?_
                  · clear hp hd; have ec : ∀ v, (fr [108, 109, 110, 111, 112, 113, 114, 115, 116, 117, 118, 119, 120, 121, 122, 123, 124, 125, 126, 127, 128, 129] A t).eval (.const v) = v := fun _ => rfl; generalize (fr [108, 109, 110, 111, 112, 113, 114, 115, 116, 117, 118, 119, 120, 121, 122, 123, 124, 125, 126, 127, 128, 129] A t).eval = ev at ec e124 e125 e122 ⊢; go_simp
                  · exact ⟨_, 0, rfl, hB, Below.refl _ _, rfl, .inl rfl⟩
                | 19, _ =>
                  have e126 : (fr [108, 109, 110, 111, 112, 113, 114, 115, 116, 117, 118, 119, 120, 121, 122, 123, 124, 125, 126, 127, 128, 129] A t).eval (.tmp 126) = .pointer (some ⟨q2, iw, none⟩) := (fr_eval _ _ _ 126 rfl (by rw [asz]; decide)).trans (hp 18 (pre_mem (by kernel_rfl)))
                  have e122 : (fr [108, 109, 110, 111, 112, 113, 114, 115, 116, 117, 118, 119, 120, 121, 122, 123, 124, 125, 126, 127, 128, 129] A t).eval (.tmp 122) = .bool false := (fr_eval _ _ _ 122 rfl (by rw [asz]; decide)).trans (hp 14 (pre_mem (by kernel_rfl)))
                  have hc : wx.cell? ⟨q2, iw, none⟩ = some (.int .i64 z) := by rw [(hAB wx hB).rv.cell iw hiV, HZ.out]
                  refine op_run_g (v := .int .i64 z) (w' := wx) rfl (wanted_true rfl rfl e122) ?_ ?_
                  · clear hp hd; have ec : ∀ v, (fr [108, 109, 110, 111, 112, 113, 114, 115, 116, 117, 118, 119, 120, 121, 122, 123, 124, 125, 126, 127, 128, 129] A t).eval (.const v) = v := fun _ => rfl; generalize (fr [108, 109, 110, 111, 112, 113, 114, 115, 116, 117, 118, 119, 120, 121, 122, 123, 124, 125, 126, 127, 128, 129] A t).eval = ev at ec e126 e122 ⊢; go_simp
                  · exact ⟨_, 0, rfl, hB, Below.refl _ _, rfl, .inl rfl⟩
                | 20, _ =>
                  have e123 : (fr [108, 109, 110, 111, 112, 113, 114, 115, 116, 117, 118, 119, 120, 121, 122, 123, 124, 125, 126, 127, 128, 129] A t).eval (.tmp 123) = .agg #[.int .i64 D.top, .slice S.bits.a S.bits.n S.bits.c] := (fr_eval _ _ _ 123 rfl (by rw [asz]; decide)).trans (hp 15 (pre_mem (by kernel_rfl)))
                  have e127 : (fr [108, 109, 110, 111, 112, 113, 114, 115, 116, 117, 118, 119, 120, 121, 122, 123, 124, 125, 126, 127, 128, 129] A t).eval (.tmp 127) = .int .i64 z := (fr_eval _ _ _ 127 rfl (by rw [asz]; decide)).trans (hp 19 (pre_mem (by kernel_rfl)))
                  have e122 : (fr [108, 109, 110, 111, 112, 113, 114, 115, 116, 117, 118, 119, 120, 121, 122, 123, 124, 125, 126, 127, 128, 129] A t).eval (.tmp 122) = .bool false := (fr_eval _ _ _ 122 rfl (by rw [asz]; decide)).trans (hp 14 (pre_mem (by kernel_rfl)))
                  refine op_call_g (f := 19) (args := #[.agg #[.int .i64 D.top, .slice S.bits.a S.bits.n S.bits.c], .int .i64 z]) rfl (wanted_true rfl rfl e122) ?_ (HC0.out wx hB) ?_
                  · have ef : (fr [108, 109, 110, 111, 112, 113, 114, 115, 116, 117, 118, 119, 120, 121, 122, 123, 124, 125, 126, 127, 128, 129] A t).eval (.func 19) = .func (.func 19) #[] #[] := rfl; clear hp hd; have ec : ∀ v, (fr [108, 109, 110, 111, 112, 113, 114, 115, 116, 117, 118, 119, 120, 121, 122, 123, 124, 125, 126, 127, 128, 129] A t).eval (.const v) = v := fun _ => rfl; generalize (fr [108, 109, 110, 111, 112, 113, 114, 115, 116, 117, 118, 119, 120, 121, 122, 123, 124, 125, 126, 127, 128, 129] A t).eval = ev at ec e123 e127 e122 ef ⊢; go_simp
                  · rintro e wy ⟨rfl, b1⟩
                    exact ⟨_, rfl, _, wx.heap.size, rfl, hB.trans (b1.mono hB.size), b1, rfl, .inl rfl⟩
                | 21, _ =>
                  have hv20 := hp 20 (pre_mem (by kernel_rfl))
                  have e128 : (fr [108, 109, 110, 111, 112, 113, 114, 115, 116, 117, 118, 119, 120, 121, 122, 123, 124, 125, 126, 127, 128, 129] A t).eval (.tmp 128) = .bool true := (fr_eval _ _ _ 128 rfl (by rw [asz]; decide)).trans hv20
                  have e122 : (fr [108, 109, 110, 111, 112, 113, 114, 115, 116, 117, 118, 119, 120, 121, 122, 123, 124, 125, 126, 127, 128, 129] A t).eval (.tmp 122) = .bool false := (fr_eval _ _ _ 122 rfl (by rw [asz]; decide)).trans (hp 14 (pre_mem (by kernel_rfl)))
                  refine op_run_g (v := .bool false) (w' := wx) rfl (wanted_true rfl rfl e122) ?_ ?_
                  · clear hp hd; have ec : ∀ v, (fr [108, 109, 110, 111, 112, 113, 114, 115, 116, 117, 118, 119, 120, 121, 122, 123, 124, 125, 126, 127, 128, 129] A t).eval (.const v) = v := fun _ => rfl; generalize (fr [108, 109, 110, 111, 112, 113, 114, 115, 116, 117, 118, 119, 120, 121, 122, 123, 124, 125, 126, 127, 128, 129] A t).eval = ev at ec e128 e122 ⊢; go_simp
                  · exact ⟨_, 0, rfl, hB, Below.refl _ _, rfl, .inl rfl⟩
                | n + 22, hi => exact absurd hi (by omega)
              · intro t ρ wx hB hF hne
                have e122 : (fr [108, 109, 110, 111, 112, 113, 114, 115, 116, 117, 118, 119, 120, 121, 122, 123, 124, 125, 126, 127, 128, 129] A t).eval (.tmp 122) = .bool false := (fr_eval _ _ _ 122 rfl (by rw [asz]; decide)).trans (hF 14 (by decide))
                have e129 : (fr [108, 109, 110, 111, 112, 113, 114, 115, 116, 117, 118, 119, 120, 121, 122, 123, 124, 125, 126, 127, 128, 129] A t).eval (.tmp 129) = .bool false := (fr_eval _ _ _ 129 rfl (by rw [asz]; decide)).trans (hF 21 (by decide))
                clear hne
                refine op_wp rfl rfl ?_
                generalize hE : (fr [108, 109, 110, 111, 112, 113, 114, 115, 116, 117, 118, 119, 120, 121, 122, 123, 124, 125, 126, 127, 128, 129] A t).eval = ev at e122 e129
                unfold Oper.wp
                rw [hE]
                go_simp
                refine hMet _ _ (Met.intro (hRJ _ _ ⟨t 108, t 109, t 110, t 111, t 112, t 113, t 114, t 115, t 116, t 117, t 118, t 119, t 120, t 121, t 122, t 123, t 124, t 125, t 126, t 127, t 128, t 129, _, ⟨rfl, hB⟩, ?_⟩))
                rw [← hA]; rfl
            case rest =>
              obtain ⟨rfl, b7⟩ := hcut
              have AB2 : Hid (Abide wc go q c' g c q2 c2 lo hi S D G L V) := AB.out.later b7
              have B8 : Hid (Below w.heap.size w wc) := B7.out.trans (b7.mono B7.out.size)
              clear b7 hi0 hwi hge hlt0
              go_wp2
              go_roundw
              case rel => exact ⟨iw + 1, by omega, by go_num, AB2.out, B8.out⟩
              case measure => simp [intOf]; omega
          · have hdp : decide ((iw : Int) > 0) = false := decide_eq_false hpos
            have hpn : ¬ 0 < iw := by omega
            clear hz
            go_upto_region 32 with fail
            go_cut [130] from 108 to 129 (fun sv wx => sv = .bool false ∧ Below wr.heap.size wr wx)
            case first =>
              rename_i J K' hRJ hMet
              generalize hA : Act.mk _ _ = A
              have a16' : A.eval (.tmp 16) = .int .i64 (iw : Int) := by rw [← hA]; rfl
              have a14' : A.eval (.tmp 14) = .slice (some ⟨q2, 0, none⟩) m2 c2 := by rw [← hA]; rfl
              have a4' : A.eval (.tmp 4) = .pointer (some ⟨go, 0, none⟩) := by rw [← hA]; rfl
              have asz : A.tmps.size = 163 := by rw [← hA]; rfl
              have hAB : ∀ wx, Below wr.heap.size wr wx → Abide wx go q c' g c q2 c2 lo hi S D G L V := fun wx hb => AB.out.later hb
              refine region_each (by kernel_rfl) [108, 109, 110, 111, 112, 113, 114, 115, 116, 117, 118, 119, 120, 121, 122, 123, 124, 125, 126, 127, 128, 129] 22 (fun i => [108, 109, 110, 111, 112, 113, 114, 115, 116, 117, 118, 119, 120, 121, 122, 123, 124, 125, 126, 127, 128, 129].getD i 0) (fun _ => 0)
                (fun i gB v wx => match i with
                  | 0 => v = .int .i64 (iw : Int)
                  | 1 => v = .bool false
                  | 2 => v = .bool false
                  | 3 => v = undef
                  | 4 => v = undef
                  | 5 => v = undef
                  | 6 => v = undef
                  | 7 => v = undef
                  | 8 => v = undef
                  | 9 => v = undef
                  | 10 => v = undef
                  | 11 => v = undef
                  | 12 => v = undef
                  | 13 => v = .bool false
                  | 14 => v = .bool false
                  | 15 => v = .agg #[.int .i64 D.top, .slice S.bits.a S.bits.n S.bits.c]
                  | 16 => v = .slice (some ⟨q2, 0, none⟩) m2 c2
                  | 17 => v = .int .i64 (iw : Int)
                  | 18 => v = .pointer (some ⟨q2, iw, none⟩)
                  | 19 => v = .int .i64 z
                  | 20 => v = .bool true
                  | 21 => v = .bool false
                  | _ => False) (fun wx => Below wr.heap.size wr wx) (by kernel_rfl) (Below.refl _ _).drew ?_ ?_ ?_
              · intro i gB v wx wy hi hF hb _
                match i, hi with
                | 0, _ => exact hF
                | 1, _ => exact hF
                | 2, _ => exact hF
                | 3, _ => exact hF
                | 4, _ => exact hF
                | 5, _ => exact hF
                | 6, _ => exact hF
                | 7, _ => exact hF
                | 8, _ => exact hF
                | 9, _ => exact hF
                | 10, _ => exact hF
                | 11, _ => exact hF
                | 12, _ => exact hF
                | 13, _ => exact hF
                | 14, _ => exact hF
                | 15, _ => exact hF
                | 16, _ => exact hF
                | 17, _ => exact hF
                | 18, _ => exact hF
                | 19, _ => exact hF
                | 20, _ => exact hF
                | 21, _ => exact hF
                | n + 22, hi => exact absurd hi (by omega)
              · intro i hi t ρ wx hB hp hd
                match i, hi with
                | 0, _ =>
                  have e16 : (fr [108, 109, 110, 111, 112, 113, 114, 115, 116, 117, 118, 119, 120, 121, 122, 123, 124, 125, 126, 127, 128, 129] A t).eval (.tmp 16) = .int .i64 (iw : Int) := (fr_eval_old _ _ _ 16 rfl).trans a16'
                  refine op_run (v := .int .i64 (iw : Int)) (w' := wx) rfl rfl ?_ ?_
                  · clear hp hd; have ec : ∀ v, (fr [108, 109, 110, 111, 112, 113, 114, 115, 116, 117, 118, 119, 120, 121, 122, 123, 124, 125, 126, 127, 128, 129] A t).eval (.const v) = v := fun _ => rfl; generalize (fr [108, 109, 110, 111, 112, 113, 114, 115, 116, 117, 118, 119, 120, 121, 122, 123, 124, 125, 126, 127, 128, 129] A t).eval = ev at ec e16 ⊢; go_simp
                  · exact ⟨_, 0, rfl, hB, Below.refl _ _, rfl, .inl rfl⟩
                | 1, _ =>
                  have e108 : (fr [108, 109, 110, 111, 112, 113, 114, 115, 116, 117, 118, 119, 120, 121, 122, 123, 124, 125, 126, 127, 128, 129] A t).eval (.tmp 108) = .int .i64 (iw : Int) := (fr_eval _ _ _ 108 rfl (by rw [asz]; decide)).trans (hp 0 (pre_mem (by kernel_rfl)))
                  refine op_run (v := .bool false) (w' := wx) rfl rfl ?_ ?_
                  · clear hp hd; have ec : ∀ v, (fr [108, 109, 110, 111, 112, 113, 114, 115, 116, 117, 118, 119, 120, 121, 122, 123, 124, 125, 126, 127, 128, 129] A t).eval (.const v) = v := fun _ => rfl; generalize (fr [108, 109, 110, 111, 112, 113, 114, 115, 116, 117, 118, 119, 120, 121, 122, 123, 124, 125, 126, 127, 128, 129] A t).eval = ev at ec e108 ⊢; go_simp
                  · exact ⟨_, 0, rfl, hB, Below.refl _ _, rfl, .inl rfl⟩
                | 2, _ =>
                  have e109 : (fr [108, 109, 110, 111, 112, 113, 114, 115, 116, 117, 118, 119, 120, 121, 122, 123, 124, 125, 126, 127, 128, 129] A t).eval (.tmp 109) = .bool false := (fr_eval _ _ _ 109 rfl (by rw [asz]; decide)).trans (hp 1 (pre_mem (by kernel_rfl)))
                  refine op_run (v := .bool false) (w' := wx) rfl rfl ?_ ?_
                  · clear hp hd; have ec : ∀ v, (fr [108, 109, 110, 111, 112, 113, 114, 115, 116, 117, 118, 119, 120, 121, 122, 123, 124, 125, 126, 127, 128, 129] A t).eval (.const v) = v := fun _ => rfl; generalize (fr [108, 109, 110, 111, 112, 113, 114, 115, 116, 117, 118, 119, 120, 121, 122, 123, 124, 125, 126, 127, 128, 129] A t).eval = ev at ec e109 ⊢; go_simp
                  · exact ⟨_, 0, rfl, hB, Below.refl _ _, rfl, .inl rfl⟩
                | 3, _ =>
                  have e110 : (fr [108, 109, 110, 111, 112, 113, 114, 115, 116, 117, 118, 119, 120, 121, 122, 123, 124, 125, 126, 127, 128, 129] A t).eval (.tmp 110) = .bool false := (fr_eval _ _ _ 110 rfl (by rw [asz]; decide)).trans (hp 2 (pre_mem (by kernel_rfl)))
                  refine op_skip rfl (wanted_false rfl rfl e110 rfl) ?_
                  exact ⟨_, 0, rfl, hB, Below.refl _ _, rfl, .inl rfl⟩
                | 4, _ =>
                  have e110 : (fr [108, 109, 110, 111, 112, 113, 114, 115, 116, 117, 118, 119, 120, 121, 122, 123, 124, 125, 126, 127, 128, 129] A t).eval (.tmp 110) = .bool false := (fr_eval _ _ _ 110 rfl (by rw [asz]; decide)).trans (hp 2 (pre_mem (by kernel_rfl)))
                  refine op_skip rfl (wanted_false rfl rfl e110 rfl) ?_
                  exact ⟨_, 0, rfl, hB, Below.refl _ _, rfl, .inl rfl⟩
                | 5, _ =>
                  have e110 : (fr [108, 109, 110, 111, 112, 113, 114, 115, 116, 117, 118, 119, 120, 121, 122, 123, 124, 125, 126, 127, 128, 129] A t).eval (.tmp 110) = .bool false := (fr_eval _ _ _ 110 rfl (by rw [asz]; decide)).trans (hp 2 (pre_mem (by kernel_rfl)))
                  refine op_skip rfl (wanted_false rfl rfl e110 rfl) ?_
                  exact ⟨_, 0, rfl, hB, Below.refl _ _, rfl, .inl rfl⟩
                | 6, _ =>
                  have e110 : (fr [108, 109, 110, 111, 112, 113, 114, 115, 116, 117, 118, 119, 120, 121, 122, 123, 124, 125, 126, 127, 128, 129] A t).eval (.tmp 110) = .bool false := (fr_eval _ _ _ 110 rfl (by rw [asz]; decide)).trans (hp 2 (pre_mem (by kernel_rfl)))
                  refine op_skip rfl (wanted_false rfl rfl e110 rfl) ?_
                  exact ⟨_, 0, rfl, hB, Below.refl _ _, rfl, .inl rfl⟩
                | 7, _ =>
                  have e110 : (fr [108, 109, 110, 111, 112, 113, 114, 115, 116, 117, 118, 119, 120, 121, 122, 123, 124, 125, 126, 127, 128, 129] A t).eval (.tmp 110) = .bool false := (fr_eval _ _ _ 110 rfl (by rw [asz]; decide)).trans (hp 2 (pre_mem (by kernel_rfl)))
                  refine op_skip rfl (wanted_false rfl rfl e110 rfl) ?_
                  exact ⟨_, 0, rfl, hB, Below.refl _ _, rfl, .inl rfl⟩
                | 8, _ =>
                  have e110 : (fr [108, 109, 110, 111, 112, 113, 114, 115, 116, 117, 118, 119, 120, 121, 122, 123, 124, 125, 126, 127, 128, 129] A t).eval (.tmp 110) = .bool false := (fr_eval _ _ _ 110 rfl (by rw [asz]; decide)).trans (hp 2 (pre_mem (by kernel_rfl)))
                  refine op_skip rfl (wanted_false rfl rfl e110 rfl) ?_
                  exact ⟨_, 0, rfl, hB, Below.refl _ _, rfl, .inl rfl⟩
                | 9, _ =>
                  have e110 : (fr [108, 109, 110, 111, 112, 113, 114, 115, 116, 117, 118, 119, 120, 121, 122, 123, 124, 125, 126, 127, 128, 129] A t).eval (.tmp 110) = .bool false := (fr_eval _ _ _ 110 rfl (by rw [asz]; decide)).trans (hp 2 (pre_mem (by kernel_rfl)))
                  refine op_skip rfl (wanted_false rfl rfl e110 rfl) ?_
                  exact ⟨_, 0, rfl, hB, Below.refl _ _, rfl, .inl rfl⟩
                | 10, _ =>
                  have e110 : (fr [108, 109, 110, 111, 112, 113, 114, 115, 116, 117, 118, 119, 120, 121, 122, 123, 124, 125, 126, 127, 128, 129] A t).eval (.tmp 110) = .bool false := (fr_eval _ _ _ 110 rfl (by rw [asz]; decide)).trans (hp 2 (pre_mem (by kernel_rfl)))
                  refine op_skip rfl (wanted_false rfl rfl e110 rfl) ?_
                  exact ⟨_, 0, rfl, hB, Below.refl _ _, rfl, .inl rfl⟩
                | 11, _ =>
                  have e110 : (fr [108, 109, 110, 111, 112, 113, 114, 115, 116, 117, 118, 119, 120, 121, 122, 123, 124, 125, 126, 127, 128, 129] A t).eval (.tmp 110) = .bool false := (fr_eval _ _ _ 110 rfl (by rw [asz]; decide)).trans (hp 2 (pre_mem (by kernel_rfl)))
                  refine op_skip rfl (wanted_false rfl rfl e110 rfl) ?_
                  exact ⟨_, 0, rfl, hB, Below.refl _ _, rfl, .inl rfl⟩
                | 12, _ =>
                  have e110 : (fr [108, 109, 110, 111, 112, 113, 114, 115, 116, 117, 118, 119, 120, 121, 122, 123, 124, 125, 126, 127, 128, 129] A t).eval (.tmp 110) = .bool false := (fr_eval _ _ _ 110 rfl (by rw [asz]; decide)).trans (hp 2 (pre_mem (by kernel_rfl)))
                  refine op_skip rfl (wanted_false rfl rfl e110 rfl) ?_
                  exact ⟨_, 0, rfl, hB, Below.refl _ _, rfl, .inl rfl⟩
                | 13, _ =>
                  have e110 : (fr [108, 109, 110, 111, 112, 113, 114, 115, 116, 117, 118, 119, 120, 121, 122, 123, 124, 125, 126, 127, 128, 129] A t).eval (.tmp 110) = .bool false := (fr_eval _ _ _ 110 rfl (by rw [asz]; decide)).trans (hp 2 (pre_mem (by kernel_rfl)))
                  have e120 : (fr [108, 109, 110, 111, 112, 113, 114, 115, 116, 117, 118, 119, 120, 121, 122, 123, 124, 125, 126, 127, 128, 129] A t).eval (.tmp 120) = undef := (fr_eval _ _ _ 120 rfl (by rw [asz]; decide)).trans (hp 12 (pre_mem (by kernel_rfl)))
                  refine op_run (v := .bool false) (w' := wx) rfl rfl ?_ ?_
                  · clear hp hd; have ec : ∀ v, (fr [108, 109, 110, 111, 112, 113, 114, 115, 116, 117, 118, 119, 120, 121, 122, 123, 124, 125, 126, 127, 128, 129] A t).eval (.const v) = v := fun _ => rfl; generalize (fr [108, 109, 110, 111, 112, 113, 114, 115, 116, 117, 118, 119, 120, 121, 122, 123, 124, 125, 126, 127, 128, 129] A t).eval = ev at ec e110 e120 ⊢; go_simp
                  · exact ⟨_, 0, rfl, hB, Below.refl _ _, rfl, .inl rfl⟩
                | 14, _ =>
                  have e121 : (fr [108, 109, 110, 111, 112, 113, 114, 115, 116, 117, 118, 119, 120, 121, 122, 123, 124, 125, 126, 127, 128, 129] A t).eval (.tmp 121) = .bool false := (fr_eval _ _ _ 121 rfl (by rw [asz]; decide)).trans (hp 13 (pre_mem (by kernel_rfl)))
                  refine op_run (v := .bool false) (w' := wx) rfl rfl ?_ ?_
                  · clear hp hd; have ec : ∀ v, (fr [108, 109, 110, 111, 112, 113, 114, 115, 116, 117, 118, 119, 120, 121, 122, 123, 124, 125, 126, 127, 128, 129] A t).eval (.const v) = v := fun _ => rfl; generalize (fr [108, 109, 110, 111, 112, 113, 114, 115, 116, 117, 118, 119, 120, 121, 122, 123, 124, 125, 126, 127, 128, 129] A t).eval = ev at ec e121 ⊢; go_simp
                  · exact ⟨_, 0, rfl, hB, Below.refl _ _, rfl, .inl rfl⟩
                | 15, _ =>
                  have e4 : (fr [108, 109, 110, 111, 112, 113, 114, 115, 116, 117, 118, 119, 120, 121, 122, 123, 124, 125, 126, 127, 128, 129] A t).eval (.tmp 4) = .pointer (some ⟨go, 0, none⟩) := (fr_eval_old _ _ _ 4 rfl).trans a4'
                  have e122 : (fr [108, 109, 110, 111, 112, 113, 114, 115, 116, 117, 118, 119, 120, 121, 122, 123, 124, 125, 126, 127, 128, 129] A t).eval (.tmp 122) = .bool false := (fr_eval _ _ _ 122 rfl (by rw [asz]; decide)).trans (hp 14 (pre_mem (by kernel_rfl)))
                  have hc0 := (hAB wx hB).ko.cell 0 rfl
                  have hc1 := (hAB wx hB).ko.cell 1 rfl
                  refine op_run_g (v := .agg #[.int .i64 D.top, .slice S.bits.a S.bits.n S.bits.c]) (w' := wx) rfl (wanted_true rfl rfl e122) ?_ ?_
                  · clear hp hd; have ec : ∀ v, (fr [108, 109, 110, 111, 112, 113, 114, 115, 116, 117, 118, 119, 120, 121, 122, 123, 124, 125, 126, 127, 128, 129] A t).eval (.const v) = v := fun _ => rfl; generalize (fr [108, 109, 110, 111, 112, 113, 114, 115, 116, 117, 118, 119, 120, 121, 122, 123, 124, 125, 126, 127, 128, 129] A t).eval = ev at ec e4 e122 ⊢; go_simp
                  · exact ⟨_, 0, rfl, hB, Below.refl _ _, rfl, .inl rfl⟩
                | 16, _ =>
                  have e14 : (fr [108, 109, 110, 111, 112, 113, 114, 115, 116, 117, 118, 119, 120, 121, 122, 123, 124, 125, 126, 127, 128, 129] A t).eval (.tmp 14) = .slice (some ⟨q2, 0, none⟩) m2 c2 := (fr_eval_old _ _ _ 14 rfl).trans a14'
                  have e122 : (fr [108, 109, 110, 111, 112, 113, 114, 115, 116, 117, 118, 119, 120, 121, 122, 123, 124, 125, 126, 127, 128, 129] A t).eval (.tmp 122) = .bool false := (fr_eval _ _ _ 122 rfl (by rw [asz]; decide)).trans (hp 14 (pre_mem (by kernel_rfl)))
                  refine op_run_g (v := .slice (some ⟨q2, 0, none⟩) m2 c2) (w' := wx) rfl (wanted_true rfl rfl e122) ?_ ?_
                  · clear hp hd; have ec : ∀ v, (fr [108, 109, 110, 111, 112, 113, 114, 115, 116, 117, 118, 119, 120, 121, 122, 123, 124, 125, 126, 127, 128, 129] A t).eval (.const v) = v := fun _ => rfl; generalize (fr [108, 109, 110, 111, 112, 113, 114, 115, 116, 117, 118, 119, 120, 121, 122, 123, 124, 125, 126, 127, 128, 129] A t).eval = ev at ec e14 e122 ⊢; go_simp
                  · exact ⟨_, 0, rfl, hB, Below.refl _ _, rfl, .inl rfl⟩
                | 17, _ =>
                  have e16 : (fr [108, 109, 110, 111, 112, 113, 114, 115, 116, 117, 118, 119, 120, 121, 122, 123, 124, 125, 126, 127, 128, 129] A t).eval (.tmp 16) = .int .i64 (iw : Int) := (fr_eval_old _ _ _ 16 rfl).trans a16'
                  have e122 : (fr [108, 109, 110, 111, 112, 113, 114, 115, 116, 117, 118, 119, 120, 121, 122, 123, 124, 125, 126, 127, 128, 129] A t).eval (.tmp 122) = .bool false := (fr_eval _ _ _ 122 rfl (by rw [asz]; decide)).trans (hp 14 (pre_mem (by kernel_rfl)))
                  refine op_run_g (v := .int .i64 (iw : Int)) (w' := wx) rfl (wanted_true rfl rfl e122) ?_ ?_
                  · clear hp hd; have ec : ∀ v, (fr [108, 109, 110, 111, 112, 113, 114, 115, 116, 117, 118, 119, 120, 121, 122, 123, 124, 125, 126, 127, 128, 129] A t).eval (.const v) = v := fun _ => rfl; generalize (fr [108, 109, 110, 111, 112, 113, 114, 115, 116, 117, 118, 119, 120, 121, 122, 123, 124, 125, 126, 127, 128, 129] A t).eval = ev at ec e16 e122 ⊢; go_simp
                  · exact ⟨_, 0, rfl, hB, Below.refl _ _, rfl, .inl rfl⟩
                | 18, _ =>
                  have e124 : (fr [108, 109, 110, 111, 112, 113, 114, 115, 116, 117, 118, 119, 120, 121, 122, 123, 124, 125, 126, 127, 128, 129] A t).eval (.tmp 124) = .slice (some ⟨q2, 0, none⟩) m2 c2 := (fr_eval _ _ _ 124 rfl (by rw [asz]; decide)).trans (hp 16 (pre_mem (by kernel_rfl)))
                  have e125 : (fr [108, 109, 110, 111, 112, 113, 114, 115, 116, 117, 118, 119, 120, 121, 122, 123, 124, 125, 126, 127, 128, 129] A t).eval (.tmp 125) = .int .i64 (iw : Int) := (fr_eval _ _ _ 125 rfl (by rw [asz]; decide)).trans (hp 17 (pre_mem (by kernel_rfl)))
                  have e122 : (fr [108, 109, 110, 111, 112, 113, 114, 115, 116, 117, 118, 119, 120, 121, 122, 123, 124, 125, 126, 127, 128, 129] A t).eval (.tmp 122) = .bool false := (fr_eval _ _ _ 122 rfl (by rw [asz]; decide)).trans (hp 14 (pre_mem (by kernel_rfl)))
                  refine op_run_g (v := .pointer (some ⟨q2, iw, none⟩)) (w' := wx) rfl (wanted_true rfl rfl e122) ?_ ?_
                  · clear hp hd; have ec : ∀ v, (fr [108, 109, 110, 111, 112, 113, 114, 115, 116, 117, 118, 119, 120, 121, 122, 123, 124, 125, 126, 127, 128, 129] A t).eval (.const v) = v := fun _ => rfl; generalize (fr [108, 109, 110, 111, 112, 113, 114, 115, 116, 117, 118, 119, 120, 121, 122, 123, 124, 125, 126, 127, 128, 129] A t).eval = ev at ec e124 e125 e122 ⊢; go_simp
                  · exact ⟨_, 0, rfl, hB, Below.refl _ _, rfl, .inl rfl⟩
                | 19, _ =>
                  have e126 : (fr [108, 109, 110, 111, 112, 113, 114, 115, 116, 117, 118, 119, 120, 121, 122, 123, 124, 125, 126, 127, 128, 129] A t).eval (.tmp 126) = .pointer (some ⟨q2, iw, none⟩) := (fr_eval _ _ _ 126 rfl (by rw [asz]; decide)).trans (hp 18 (pre_mem (by kernel_rfl)))
                  have e122 : (fr [108, 109, 110, 111, 112, 113, 114, 115, 116, 117, 118, 119, 120, 121, 122, 123, 124, 125, 126, 127, 128, 129] A t).eval (.tmp 122) = .bool false := (fr_eval _ _ _ 122 rfl (by rw [asz]; decide)).trans (hp 14 (pre_mem (by kernel_rfl)))
                  have hc : wx.cell? ⟨q2, iw, none⟩ = some (.int .i64 z) := by rw [(hAB wx hB).rv.cell iw hiV, HZ.out]
                  refine op_run_g (v := .int .i64 z) (w' := wx) rfl (wanted_true rfl rfl e122) ?_ ?_
                  · clear hp hd; have ec : ∀ v, (fr [108, 109, 110, 111, 112, 113, 114, 115, 116, 117, 118, 119, 120, 121, 122, 123, 124, 125, 126, 127, 128, 129] A t).eval (.const v) = v := fun _ => rfl; generalize (fr [108, 109, 110, 111, 112, 113, 114, 115, 116, 117, 118, 119, 120, 121, 122, 123, 124, 125, 126, 127, 128, 129] A t).eval = ev at ec e126 e122 ⊢; go_simp
                  · exact ⟨_, 0, rfl, hB, Below.refl _ _, rfl, .inl rfl⟩
                | 20, _ =>
                  have e123 : (fr [108, 109, 110, 111, 112, 113, 114, 115, 116, 117, 118, 119, 120, 121, 122, 123, 124, 125, 126, 127, 128, 129] A t).eval (.tmp 123) = .agg #[.int .i64 D.top, .slice S.bits.a S.bits.n S.bits.c] := (fr_eval _ _ _ 123 rfl (by rw [asz]; decide)).trans (hp 15 (pre_mem (by kernel_rfl)))
                  have e127 : (fr [108, 109, 110, 111, 112, 113, 114, 115, 116, 117, 118, 119, 120, 121, 122, 123, 124, 125, 126, 127, 128, 129] A t).eval (.tmp 127) = .int .i64 z := (fr_eval _ _ _ 127 rfl (by rw [asz]; decide)).trans (hp 19 (pre_mem (by kernel_rfl)))
                  have e122 : (fr [108, 109, 110, 111, 112, 113, 114, 115, 116, 117, 118, 119, 120, 121, 122, 123, 124, 125, 126, 127, 128, 129] A t).eval (.tmp 122) = .bool false := (fr_eval _ _ _ 122 rfl (by rw [asz]; decide)).trans (hp 14 (pre_mem (by kernel_rfl)))
                  refine op_call_g (f := 19) (args := #[.agg #[.int .i64 D.top, .slice S.bits.a S.bits.n S.bits.c], .int .i64 z]) rfl (wanted_true rfl rfl e122) ?_ (HC0.out wx hB) ?_
                  · have ef : (fr [108, 109, 110, 111, 112, 113, 114, 115, 116, 117, 118, 119, 120, 121, 122, 123, 124, 125, 126, 127, 128, 129] A t).eval (.func 19) = .func (.func 19) #[] #[] := rfl; clear hp hd; have ec : ∀ v, (fr [108, 109, 110, 111, 112, 113, 114, 115, 116, 117, 118, 119, 120, 121, 122, 123, 124, 125, 126, 127, 128, 129] A t).eval (.const v) = v := fun _ => rfl; generalize (fr [108, 109, 110, 111, 112, 113, 114, 115, 116, 117, 118, 119, 120, 121, 122, 123, 124, 125, 126, 127, 128, 129] A t).eval = ev at ec e123 e127 e122 ef ⊢; go_simp
                  · rintro e wy ⟨rfl, b1⟩
                    exact ⟨_, rfl, _, wx.heap.size, rfl, hB.trans (b1.mono hB.size), b1, rfl, .inl rfl⟩
                | 21, _ =>
                  have hv20 := hp 20 (pre_mem (by kernel_rfl))
                  have e128 : (fr [108, 109, 110, 111, 112, 113, 114, 115, 116, 117, 118, 119, 120, 121, 122, 123, 124, 125, 126, 127, 128, 129] A t).eval (.tmp 128) = .bool true := (fr_eval _ _ _ 128 rfl (by rw [asz]; decide)).trans hv20
                  have e122 : (fr [108, 109, 110, 111, 112, 113, 114, 115, 116, 117, 118, 119, 120, 121, 122, 123, 124, 125, 126, 127, 128, 129] A t).eval (.tmp 122) = .bool false := (fr_eval _ _ _ 122 rfl (by rw [asz]; decide)).trans (hp 14 (pre_mem (by kernel_rfl)))
                  refine op_run_g (v := .bool false) (w' := wx) rfl (wanted_true rfl rfl e122) ?_ ?_
                  · clear hp hd; have ec : ∀ v, (fr [108, 109, 110, 111, 112, 113, 114, 115, 116, 117, 118, 119, 120, 121, 122, 123, 124, 125, 126, 127, 128, 129] A t).eval (.const v) = v := fun _ => rfl; generalize (fr [108, 109, 110, 111, 112, 113, 114, 115, 116, 117, 118, 119, 120, 121, 122, 123, 124, 125, 126, 127, 128, 129] A t).eval = ev at ec e128 e122 ⊢; go_simp
                  · exact ⟨_, 0, rfl, hB, Below.refl _ _, rfl, .inl rfl⟩
                | n + 22, hi => exact absurd hi (by omega)
              · intro t ρ wx hB hF hne
                have e122 : (fr [108, 109, 110, 111, 112, 113, 114, 115, 116, 117, 118, 119, 120, 121, 122, 123, 124, 125, 126, 127, 128, 129] A t).eval (.tmp 122) = .bool false := (fr_eval _ _ _ 122 rfl (by rw [asz]; decide)).trans (hF 14 (by decide))
                have e129 : (fr [108, 109, 110, 111, 112, 113, 114, 115, 116, 117, 118, 119, 120, 121, 122, 123, 124, 125, 126, 127, 128, 129] A t).eval (.tmp 129) = .bool false := (fr_eval _ _ _ 129 rfl (by rw [asz]; decide)).trans (hF 21 (by decide))
                clear hne
                refine op_wp rfl rfl ?_
                generalize hE : (fr [108, 109, 110, 111, 112, 113, 114, 115, 116, 117, 118, 119, 120, 121, 122, 123, 124, 125, 126, 127, 128, 129] A t).eval = ev at e122 e129
                unfold Oper.wp
                rw [hE]
                go_simp
                refine hMet _ _ (Met.intro (hRJ _ _ ⟨t 108, t 109, t 110, t 111, t 112, t 113, t 114, t 115, t 116, t 117, t 118, t 119, t 120, t 121, t 122, t 123, t 124, t 125, t 126, t 127, t 128, t 129, _, ⟨rfl, hB⟩, ?_⟩))
                rw [← hA]; rfl
            case rest =>
              obtain ⟨rfl, b7⟩ := hcut
              have AB2 : Hid (Abide wc go q c' g c q2 c2 lo hi S D G L V) := AB.out.later b7
              have B8 : Hid (Below w.heap.size w wc) := B7.out.trans (b7.mono B7.out.size)
              clear b7 hdp
              go_wp2
              go_roundw
              case rel => exact ⟨iw + 1, by omega, by go_num, AB2.out, B8.out⟩
              case measure => simp [intOf]; omega
        · go_upto_region 34 with fail
          clear him hi'
          go_wp2
          go_loopw [15, 17] (fun s15 s17 wy => ∃ iw : Nat, iw ≤ m ∧ s17 = .int .i64 iw ∧ s15 = .int .i64 (cnt G D.top iw : Nat) ∧ Abide wy go q c' g c q2 c2 lo hi S D G L V ∧ Below w.heap.size w wy) (fun _ s17 _ => m - (intOf s17).toNat)
          case atStart => exact ⟨0, Nat.zero_le _, rfl, by simp [cnt], AB.out, B7.out⟩
          case round =>
            obtain ⟨iw, hi', rfl, rfl, ab, hbe⟩ := hrel
            clear AB B7
            have AB : Hid (Abide wr go q c' g c q2 c2 lo hi S D G L V) := ab
            have B7 : Hid (Below w.heap.size w wr) := hbe
            clear ab hbe
            have htl := HInv.out.ok.lo
            have hth := HInv.out.ok.hi
            have hcl := cnt_le G D.top iw
            by_cases him : iw < m
            · have hiG : iw < G.length := by have := EM.out; omega
              have himI : (iw : Int) < (m : Int) := by omega
              have hcs := cnt_step G D.top iw hiG
              obtain ⟨z, hz⟩ : ∃ z, G.getD iw 0 = z := ⟨_, rfl⟩
              have HZ : Hid (G.getD iw 0 = z) := hz
              rw [hz] at hcs
              have cz : wr.cell? ⟨q, iw, none⟩ = some (.int .i64 z) := by rw [AB.out.rq.cell iw hiG, hz]
              obtain ⟨cc, hcc⟩ : ∃ cc, cnt G D.top iw = cc := ⟨_, rfl⟩
              rw [hcc] at hcs hcl ⊢
              have HCS : Hid _ := hcs
              have HMem : Hid (z ∈ G) := by show _ ∈ _; rw [← hz]; exact mem_at hiG
              clear hcs hcc hz
              by_cases hgt : z > D.top - 1024
              · have HHas : Hid (winHas D.top D.bits z = true) := inv_has HInv.out HMem.out (by omega)
                have HC2 : Hid (cnt G D.top (iw + 1) = cc + 1) := by show _ = _; rw [HCS.out, if_pos (by omega)]
                have HC0 : Hid (∀ wz, Below wr.heap.size wr wz → Calls Try.prog 19 #[.agg #[.int .i64 D.top, .slice S.bits.a S.bits.n S.bits.c], .int .i64 z] wz fun e w' => e = .returned (.bool true) ∧ Below wz.heap.size wz w') := by
                  intro wz hb
                  have := implWinHas S D z wz (AB.out.os.later hb).rd
                  rw [HHas.out] at this
                  exact this
                go_upto_region 39 with fail
                clear cz
                go_cut [152] from 146 to 151 (fun sv wx => sv = .bool false ∧ Below wr.heap.size wr wx)
                case first =>
                  rename_i J K' hRJ hMet
                  generalize hA : Act.mk _ _ = A
                  have a17' : A.eval (.tmp 17) = .int .i64 (iw : Int) := by rw [← hA]; rfl
                  have a5' : A.eval (.tmp 5) = .slice (some ⟨q, 0, none⟩) m c' := by rw [← hA]; rfl
                  have a4' : A.eval (.tmp 4) = .pointer (some ⟨go, 0, none⟩) := by rw [← hA]; rfl
                  have asz : A.tmps.size = 163 := by rw [← hA]; rfl
                  have hAB : ∀ wx, Below wr.heap.size wr wx → Abide wx go q c' g c q2 c2 lo hi S D G L V := fun wx hb => AB.out.later hb
                  refine region_each (by kernel_rfl) [146, 147, 148, 149, 150, 151] 6 (fun i => [146, 147, 148, 149, 150, 151].getD i 0) (fun _ => 0)
                    (fun i gB v wx => match i with
                      | 0 => v = .agg #[.int .i64 D.top, .slice S.bits.a S.bits.n S.bits.c]
                      | 1 => v = .slice (some ⟨q, 0, none⟩) m c'
                      | 2 => v = .int .i64 (iw : Int)
                      | 3 => v = .pointer (some ⟨q, iw, none⟩)
                      | 4 => v = .int .i64 z
                      | 5 => v = .bool true
                      | _ => False) (fun wx => Below wr.heap.size wr wx) (by kernel_rfl) (Below.refl _ _).drew ?_ ?_ ?_
                  · intro i gB v wx wy hi hF hb _
                    match i, hi with
                    | 0, _ => exact hF
                    | 1, _ => exact hF
                    | 2, _ => exact hF
                    | 3, _ => exact hF
                    | 4, _ => exact hF
                    | 5, _ => exact hF
                  · intro i hi t ρ wx hB hp hd
                    match i, hi with
                    | 0, _ =>
                      have e4 : (fr [146, 147, 148, 149, 150, 151] A t).eval (.tmp 4) = .pointer (some ⟨go, 0, none⟩) := (fr_eval_old _ _ _ 4 rfl).trans a4'
                      have hc0 := (hAB wx hB).ko.cell 0 rfl
                      have hc1 := (hAB wx hB).ko.cell 1 rfl
                      refine op_run (v := .agg #[.int .i64 D.top, .slice S.bits.a S.bits.n S.bits.c]) (w' := wx) rfl rfl ?_ ?_
                      · clear hp hd; have ec : ∀ v, (fr [146, 147, 148, 149, 150, 151] A t).eval (.const v) = v := fun _ => rfl; generalize (fr [146, 147, 148, 149, 150, 151] A t).eval = ev at ec e4 ⊢; go_simp
                      · exact ⟨_, 0, rfl, hB, Below.refl _ _, rfl, .inl rfl⟩
                    | 1, _ =>
                      have e5 : (fr [146, 147, 148, 149, 150, 151] A t).eval (.tmp 5) = .slice (some ⟨q, 0, none⟩) m c' := (fr_eval_old _ _ _ 5 rfl).trans a5'
                      refine op_run (v := .slice (some ⟨q, 0, none⟩) m c') (w' := wx) rfl rfl ?_ ?_
                      · clear hp hd; have ec : ∀ v, (fr [146, 147, 148, 149, 150, 151] A t).eval (.const v) = v := fun _ => rfl; generalize (fr [146, 147, 148, 149, 150, 151] A t).eval = ev at ec e5 ⊢; go_simp
                      · exact ⟨_, 0, rfl, hB, Below.refl _ _, rfl, .inl rfl⟩
                    | 2, _ =>
                      have e17 : (fr [146, 147, 148, 149, 150, 151] A t).eval (.tmp 17) = .int .i64 (iw : Int) := (fr_eval_old _ _ _ 17 rfl).trans a17'
                      refine op_run (v := .int .i64 (iw : Int)) (w' := wx) rfl rfl ?_ ?_
                      · clear hp hd; have ec : ∀ v, (fr [146, 147, 148, 149, 150, 151] A t).eval (.const v) = v := fun _ => rfl; generalize (fr [146, 147, 148, 149, 150, 151] A t).eval = ev at ec e17 ⊢; go_simp
                      · exact ⟨_, 0, rfl, hB, Below.refl _ _, rfl, .inl rfl⟩
                    | 3, _ =>
                      have e147 : (fr [146, 147, 148, 149, 150, 151] A t).eval (.tmp 147) = .slice (some ⟨q, 0, none⟩) m c' := (fr_eval _ _ _ 147 rfl (by rw [asz]; decide)).trans (hp 1 (pre_mem (by kernel_rfl)))
                      have e148 : (fr [146, 147, 148, 149, 150, 151] A t).eval (.tmp 148) = .int .i64 (iw : Int) := (fr_eval _ _ _ 148 rfl (by rw [asz]; decide)).trans (hp 2 (pre_mem (by kernel_rfl)))
                      refine op_run (v := .pointer (some ⟨q, iw, none⟩)) (w' := wx) rfl rfl ?_ ?_
                      · clear hp hd; have ec : ∀ v, (fr [146, 147, 148, 149, 150, 151] A t).eval (.const v) = v := fun _ => rfl; generalize (fr [146, 147, 148, 149, 150, 151] A t).eval = ev at ec e147 e148 ⊢; go_simp
                      · exact ⟨_, 0, rfl, hB, Below.refl _ _, rfl, .inl rfl⟩
                    | 4, _ =>
                      have e149 : (fr [146, 147, 148, 149, 150, 151] A t).eval (.tmp 149) = .pointer (some ⟨q, iw, none⟩) := (fr_eval _ _ _ 149 rfl (by rw [asz]; decide)).trans (hp 3 (pre_mem (by kernel_rfl)))
                      have hc : wx.cell? ⟨q, iw, none⟩ = some (.int .i64 z) := by rw [(hAB wx hB).rq.cell iw hiG, HZ.out]
                      refine op_run (v := .int .i64 z) (w' := wx) rfl rfl ?_ ?_
                      · clear hp hd; have ec : ∀ v, (fr [146, 147, 148, 149, 150, 151] A t).eval (.const v) = v := fun _ => rfl; generalize (fr [146, 147, 148, 149, 150, 151] A t).eval = ev at ec e149 ⊢; go_simp
                      · exact ⟨_, 0, rfl, hB, Below.refl _ _, rfl, .inl rfl⟩
                    | 5, _ =>
                      have e146 : (fr [146, 147, 148, 149, 150, 151] A t).eval (.tmp 146) = .agg #[.int .i64 D.top, .slice S.bits.a S.bits.n S.bits.c] := (fr_eval _ _ _ 146 rfl (by rw [asz]; decide)).trans (hp 0 (pre_mem (by kernel_rfl)))
                      have e150 : (fr [146, 147, 148, 149, 150, 151] A t).eval (.tmp 150) = .int .i64 z := (fr_eval _ _ _ 150 rfl (by rw [asz]; decide)).trans (hp 4 (pre_mem (by kernel_rfl)))
                      refine op_call (f := 19) (args := #[.agg #[.int .i64 D.top, .slice S.bits.a S.bits.n S.bits.c], .int .i64 z]) rfl rfl ?_ (HC0.out wx hB) ?_
                      · have ef : (fr [146, 147, 148, 149, 150, 151] A t).eval (.func 19) = .func (.func 19) #[] #[] := rfl; clear hp hd; have ec : ∀ v, (fr [146, 147, 148, 149, 150, 151] A t).eval (.const v) = v := fun _ => rfl; generalize (fr [146, 147, 148, 149, 150, 151] A t).eval = ev at ec e146 e150 ef ⊢; go_simp
                      · rintro e wy ⟨rfl, b1⟩
                        exact ⟨_, rfl, _, wx.heap.size, rfl, hB.trans (b1.mono hB.size), b1, rfl, .inl rfl⟩
                  · intro t ρ wx hB hF hne
                    have hv5 := hF 5 (by decide)
                    have e151 : (fr [146, 147, 148, 149, 150, 151] A t).eval (.tmp 151) = .bool true := (fr_eval _ _ _ 151 rfl (by rw [asz]; decide)).trans hv5
                    clear hne
                    have hv : t 151 = .bool true := hF 5 (by decide)
                    refine op_wp rfl rfl ?_
                    generalize hE : (fr [146, 147, 148, 149, 150, 151] A t).eval = ev at e151
                    unfold Oper.wp
                    rw [hE]
                    clear hv
                    go_simp
                    refine hMet _ _ (Met.intro (hRJ _ _ ⟨t 146, t 147, t 148, t 149, t 150, t 151, _, ⟨rfl, hB⟩, ?_⟩))
                    rw [← hA]; rfl
                case rest =>
                  obtain ⟨rfl, b7⟩ := hcut
                  have AB2 : Hid (Abide wc go q c' g c q2 c2 lo hi S D G L V) := AB.out.later b7
                  have B8 : Hid (Below w.heap.size w wc) := B7.out.trans (b7.mono B7.out.size)
                  clear b7
                  go_wp2
                  go_roundw
                  case rel => exact ⟨iw + 1, by omega, by go_num, by rw [HC2.out]; rfl, AB2.out, B8.out⟩
                  case measure => simp [intOf]; omega
              · have HC2 : Hid (cnt G D.top (iw + 1) = cc) := by show _ = _; rw [HCS.out, if_neg (by omega), Nat.add_zero]
                go_wp2
                go_roundw
                case rel => exact ⟨iw + 1, by omega, by go_num, by rw [HC2.out], AB.out, B7.out⟩
                case measure => simp [intOf]; omega
            · have HCM : cnt G D.top iw = m2 := by rw [show iw = m by omega, EM.out, HVC.out, EM2.out]
              rw [HCM]
              clear HCM hcl
              obtain ⟨cc, hcc⟩ : ∃ cc : Nat, m2 = cc := ⟨_, rfl⟩
              have hcm : ((m2 : Int) == (m2 : Int)) = true := by simp
              clear hcc cc
              have HSh : Hid (WnShort D 4194304) := ⟨by rw [HDL.out]; omega⟩
              have HWO : Hid (∀ wz, Below wr.heap.size wr wz → Calls Try.prog 21 #[.slice (some ⟨g, 0, none⟩) n c] wz fun e w' => ∃ S4, e = .returned (.agg #[.int .i64 D.top, .slice S4.bits.a S4.bits.n S4.bits.c]) ∧ WnRd w' S4 D ∧ Below wz.heap.size wz w') := by
                intro wz hb
                have hrg := AB.out.rg.later hb
                have hrd : ISRd wz ⟨some ⟨g, 0, none⟩, n, c⟩ L := ⟨HN.out, hrg.rd, (fun e => by cases e), by have := hrg.1; have := HN.out; show n ≤ c; omega⟩
                refine (implWinOf (some ⟨g, 0, none⟩) n c L wz hrd (by have := HN.out; omega)).mono ?_
                unfold Made
                rw [HKN.out]
                rintro e w' ⟨S4, rfl, o4, b4⟩
                exact ⟨S4, rfl, o4.rd, b4⟩
              go_upto_region 41 with fail
              go_cut [2] from 153 to 162 (fun sv wx => sv = .bool true ∧ Below wr.heap.size wr wx)
              case first =>
                rename_i J K' hRJ hMet
                generalize hA : Act.mk _ _ = A
                have a15' : A.eval (.tmp 15) = .int .i64 (m2 : Int) := by rw [← hA]; rfl
                have a14' : A.eval (.tmp 14) = .slice (some ⟨q2, 0, none⟩) m2 c2 := by rw [← hA]; rfl
                have a4' : A.eval (.tmp 4) = .pointer (some ⟨go, 0, none⟩) := by rw [← hA]; rfl
                have a3' : A.eval (.tmp 3) = .slice (some ⟨g, 0, none⟩) n c := by rw [← hA]; rfl
                have asz : A.tmps.size = 163 := by rw [← hA]; rfl
                have hAB : ∀ wx, Below wr.heap.size wr wx → Abide wx go q c' g c q2 c2 lo hi S D G L V := fun wx hb => AB.out.later hb
                refine region_each (by kernel_rfl) [153, 154, 155, 156, 157, 158, 159, 160, 161, 162] 10 (fun i => [153, 154, 155, 156, 157, 158, 159, 160, 161, 162].getD i 0) (fun _ => 0)
                  (fun i gB v wx => match i with
                    | 0 => v = .int .i64 (m2 : Int)
                    | 1 => v = .slice (some ⟨q2, 0, none⟩) m2 c2
                    | 2 => v = .int .i64 (m2 : Int)
                    | 3 => v = .bool true
                    | 4 => v = .bool true
                    | 5 => v = .agg #[.int .i64 D.top, .slice S.bits.a S.bits.n S.bits.c]
                    | 6 => v = .slice (some ⟨g, 0, none⟩) n c
                    | 7 => ∃ S4, v = .agg #[.int .i64 D.top, .slice S4.bits.a S4.bits.n S4.bits.c] ∧ WnRd wx S4 D
                    | 8 => v = .bool true
                    | 9 => v = .bool true
                    | _ => False) (fun wx => Below wr.heap.size wr wx) (by kernel_rfl) (Below.refl _ _).drew ?_ ?_ ?_
                · intro i gB v wx wy hi hF hb _
                  match i, hi with
                  | 0, _ => exact hF
                  | 1, _ => exact hF
                  | 2, _ => exact hF
                  | 3, _ => exact hF
                  | 4, _ => exact hF
                  | 5, _ => exact hF
                  | 6, _ => exact hF
                  | 7, _ => obtain ⟨S4, h0, h1⟩ := hF; exact ⟨S4, h0, h1.later hb⟩
                  | 8, _ => exact hF
                  | 9, _ => exact hF
                · intro i hi t ρ wx hB hp hd
                  match i, hi with
                  | 0, _ =>
                    have e15 : (fr [153, 154, 155, 156, 157, 158, 159, 160, 161, 162] A t).eval (.tmp 15) = .int .i64 (m2 : Int) := (fr_eval_old _ _ _ 15 rfl).trans a15'
                    refine op_run (v := .int .i64 (m2 : Int)) (w' := wx) rfl rfl ?_ ?_
                    · clear hp hd; have ec : ∀ v, (fr [153, 154, 155, 156, 157, 158, 159, 160, 161, 162] A t).eval (.const v) = v := fun _ => rfl; generalize (fr [153, 154, 155, 156, 157, 158, 159, 160, 161, 162] A t).eval = ev at ec e15 ⊢; go_simp
                    · exact ⟨_, 0, rfl, hB, Below.refl _ _, rfl, .inl rfl⟩
                  | 1, _ =>
                    have e14 : (fr [153, 154, 155, 156, 157, 158, 159, 160, 161, 162] A t).eval (.tmp 14) = .slice (some ⟨q2, 0, none⟩) m2 c2 := (fr_eval_old _ _ _ 14 rfl).trans a14'
                    refine op_run (v := .slice (some ⟨q2, 0, none⟩) m2 c2) (w' := wx) rfl rfl ?_ ?_
                    · clear hp hd; have ec : ∀ v, (fr [153, 154, 155, 156, 157, 158, 159, 160, 161, 162] A t).eval (.const v) = v := fun _ => rfl; generalize (fr [153, 154, 155, 156, 157, 158, 159, 160, 161, 162] A t).eval = ev at ec e14 ⊢; go_simp
                    · exact ⟨_, 0, rfl, hB, Below.refl _ _, rfl, .inl rfl⟩
                  | 2, _ =>
                    have e154 : (fr [153, 154, 155, 156, 157, 158, 159, 160, 161, 162] A t).eval (.tmp 154) = .slice (some ⟨q2, 0, none⟩) m2 c2 := (fr_eval _ _ _ 154 rfl (by rw [asz]; decide)).trans (hp 1 (pre_mem (by kernel_rfl)))
                    refine op_run (v := .int .i64 (m2 : Int)) (w' := wx) rfl rfl ?_ ?_
                    · clear hp hd; have ec : ∀ v, (fr [153, 154, 155, 156, 157, 158, 159, 160, 161, 162] A t).eval (.const v) = v := fun _ => rfl; generalize (fr [153, 154, 155, 156, 157, 158, 159, 160, 161, 162] A t).eval = ev at ec e154 ⊢; go_simp
                    · exact ⟨_, 0, rfl, hB, Below.refl _ _, rfl, .inl rfl⟩
                  | 3, _ =>
                    have e153 : (fr [153, 154, 155, 156, 157, 158, 159, 160, 161, 162] A t).eval (.tmp 153) = .int .i64 (m2 : Int) := (fr_eval _ _ _ 153 rfl (by rw [asz]; decide)).trans (hp 0 (pre_mem (by kernel_rfl)))
                    have e155 : (fr [153, 154, 155, 156, 157, 158, 159, 160, 161, 162] A t).eval (.tmp 155) = .int .i64 (m2 : Int) := (fr_eval _ _ _ 155 rfl (by rw [asz]; decide)).trans (hp 2 (pre_mem (by kernel_rfl)))
                    refine op_run (v := .bool true) (w' := wx) rfl rfl ?_ ?_
                    · clear hp hd; have ec : ∀ v, (fr [153, 154, 155, 156, 157, 158, 159, 160, 161, 162] A t).eval (.const v) = v := fun _ => rfl; generalize (fr [153, 154, 155, 156, 157, 158, 159, 160, 161, 162] A t).eval = ev at ec e153 e155 ⊢; go_simp
                    · exact ⟨_, 0, rfl, hB, Below.refl _ _, rfl, .inl rfl⟩
                  | 4, _ =>
                    have e156 : (fr [153, 154, 155, 156, 157, 158, 159, 160, 161, 162] A t).eval (.tmp 156) = .bool true := (fr_eval _ _ _ 156 rfl (by rw [asz]; decide)).trans (hp 3 (pre_mem (by kernel_rfl)))
                    refine op_run (v := .bool true) (w' := wx) rfl rfl ?_ ?_
                    · clear hp hd; have ec : ∀ v, (fr [153, 154, 155, 156, 157, 158, 159, 160, 161, 162] A t).eval (.const v) = v := fun _ => rfl; generalize (fr [153, 154, 155, 156, 157, 158, 159, 160, 161, 162] A t).eval = ev at ec e156 ⊢; go_simp
                    · exact ⟨_, 0, rfl, hB, Below.refl _ _, rfl, .inl rfl⟩
                  | 5, _ =>
                    have e4 : (fr [153, 154, 155, 156, 157, 158, 159, 160, 161, 162] A t).eval (.tmp 4) = .pointer (some ⟨go, 0, none⟩) := (fr_eval_old _ _ _ 4 rfl).trans a4'
                    have e157 : (fr [153, 154, 155, 156, 157, 158, 159, 160, 161, 162] A t).eval (.tmp 157) = .bool true := (fr_eval _ _ _ 157 rfl (by rw [asz]; decide)).trans (hp 4 (pre_mem (by kernel_rfl)))
                    have hc0 := (hAB wx hB).ko.cell 0 rfl
                    have hc1 := (hAB wx hB).ko.cell 1 rfl
                    refine op_run_g (v := .agg #[.int .i64 D.top, .slice S.bits.a S.bits.n S.bits.c]) (w' := wx) rfl (wanted_true rfl rfl e157) ?_ ?_
                    · clear hp hd; have ec : ∀ v, (fr [153, 154, 155, 156, 157, 158, 159, 160, 161, 162] A t).eval (.const v) = v := fun _ => rfl; generalize (fr [153, 154, 155, 156, 157, 158, 159, 160, 161, 162] A t).eval = ev at ec e4 e157 ⊢; go_simp
                    · exact ⟨_, 0, rfl, hB, Below.refl _ _, rfl, .inl rfl⟩
                  | 6, _ =>
                    have e3 : (fr [153, 154, 155, 156, 157, 158, 159, 160, 161, 162] A t).eval (.tmp 3) = .slice (some ⟨g, 0, none⟩) n c := (fr_eval_old _ _ _ 3 rfl).trans a3'
                    have e157 : (fr [153, 154, 155, 156, 157, 158, 159, 160, 161, 162] A t).eval (.tmp 157) = .bool true := (fr_eval _ _ _ 157 rfl (by rw [asz]; decide)).trans (hp 4 (pre_mem (by kernel_rfl)))
                    refine op_run_g (v := .slice (some ⟨g, 0, none⟩) n c) (w' := wx) rfl (wanted_true rfl rfl e157) ?_ ?_
                    · clear hp hd; have ec : ∀ v, (fr [153, 154, 155, 156, 157, 158, 159, 160, 161, 162] A t).eval (.const v) = v := fun _ => rfl; generalize (fr [153, 154, 155, 156, 157, 158, 159, 160, 161, 162] A t).eval = ev at ec e3 e157 ⊢; go_simp
                    · exact ⟨_, 0, rfl, hB, Below.refl _ _, rfl, .inl rfl⟩
                  | 7, _ =>
                    have e159 : (fr [153, 154, 155, 156, 157, 158, 159, 160, 161, 162] A t).eval (.tmp 159) = .slice (some ⟨g, 0, none⟩) n c := (fr_eval _ _ _ 159 rfl (by rw [asz]; decide)).trans (hp 6 (pre_mem (by kernel_rfl)))
                    have e157 : (fr [153, 154, 155, 156, 157, 158, 159, 160, 161, 162] A t).eval (.tmp 157) = .bool true := (fr_eval _ _ _ 157 rfl (by rw [asz]; decide)).trans (hp 4 (pre_mem (by kernel_rfl)))
                    refine op_call_g (f := 21) (args := #[.slice (some ⟨g, 0, none⟩) n c]) rfl (wanted_true rfl rfl e157) ?_ (HWO.out wx hB) ?_
                    · have ef : (fr [153, 154, 155, 156, 157, 158, 159, 160, 161, 162] A t).eval (.func 21) = .func (.func 21) #[] #[] := rfl; clear hp hd; have ec : ∀ v, (fr [153, 154, 155, 156, 157, 158, 159, 160, 161, 162] A t).eval (.const v) = v := fun _ => rfl; generalize (fr [153, 154, 155, 156, 157, 158, 159, 160, 161, 162] A t).eval = ev at ec e159 e157 ef ⊢; go_simp
                    · rintro e wy ⟨S4, rfl, o4, b1⟩
                      exact ⟨_, rfl, _, wx.heap.size, rfl, hB.trans (b1.mono hB.size), b1, ⟨S4, rfl, o4⟩, .inl rfl⟩
                  | 8, _ =>
                    have e158 : (fr [153, 154, 155, 156, 157, 158, 159, 160, 161, 162] A t).eval (.tmp 158) = .agg #[.int .i64 D.top, .slice S.bits.a S.bits.n S.bits.c] := (fr_eval _ _ _ 158 rfl (by rw [asz]; decide)).trans (hp 5 (pre_mem (by kernel_rfl)))
                    obtain ⟨S47, hv7, q7_0⟩ := hp 7 (pre_mem (by kernel_rfl))
                    have e160 : (fr [153, 154, 155, 156, 157, 158, 159, 160, 161, 162] A t).eval (.tmp 160) = .agg #[.int .i64 D.top, .slice S47.bits.a S47.bits.n S47.bits.c] := (fr_eval _ _ _ 160 rfl (by rw [asz]; decide)).trans hv7
                    have e157 : (fr [153, 154, 155, 156, 157, 158, 159, 160, 161, 162] A t).eval (.tmp 157) = .bool true := (fr_eval _ _ _ 157 rfl (by rw [asz]; decide)).trans (hp 4 (pre_mem (by kernel_rfl)))
                    refine op_call_g (f := 20) (args := #[.agg #[.int .i64 D.top, .slice S.bits.a S.bits.n S.bits.c], .agg #[.int .i64 D.top, .slice S47.bits.a S47.bits.n S47.bits.c]]) rfl (wanted_true rfl rfl e157) ?_ (sameWin S S47 D wx (hAB wx hB).os.rd q7_0 HSh.out) ?_
                    · have ef : (fr [153, 154, 155, 156, 157, 158, 159, 160, 161, 162] A t).eval (.func 20) = .func (.func 20) #[] #[] := rfl; clear hp hd q7_0; have ec : ∀ v, (fr [153, 154, 155, 156, 157, 158, 159, 160, 161, 162] A t).eval (.const v) = v := fun _ => rfl; generalize (fr [153, 154, 155, 156, 157, 158, 159, 160, 161, 162] A t).eval = ev at ec e158 e160 e157 ef ⊢; go_simp
                    · rintro e wy ⟨rfl, b1⟩
                      exact ⟨_, rfl, _, wx.heap.size, rfl, hB.trans (b1.mono hB.size), b1, rfl, .inl rfl⟩
                  | 9, _ =>
                    have e157 : (fr [153, 154, 155, 156, 157, 158, 159, 160, 161, 162] A t).eval (.tmp 157) = .bool true := (fr_eval _ _ _ 157 rfl (by rw [asz]; decide)).trans (hp 4 (pre_mem (by kernel_rfl)))
                    have hv8 := hp 8 (pre_mem (by kernel_rfl))
                    have e161 : (fr [153, 154, 155, 156, 157, 158, 159, 160, 161, 162] A t).eval (.tmp 161) = .bool true := (fr_eval _ _ _ 161 rfl (by rw [asz]; decide)).trans hv8
                    refine op_run (v := .bool true) (w' := wx) rfl rfl ?_ ?_
                    · clear hp hd; have ec : ∀ v, (fr [153, 154, 155, 156, 157, 158, 159, 160, 161, 162] A t).eval (.const v) = v := fun _ => rfl; generalize (fr [153, 154, 155, 156, 157, 158, 159, 160, 161, 162] A t).eval = ev at ec e157 e161 ⊢; go_simp
                    · exact ⟨_, 0, rfl, hB, Below.refl _ _, rfl, .inl rfl⟩
                · intro t ρ wx hB hF hne
                  have e162 : (fr [153, 154, 155, 156, 157, 158, 159, 160, 161, 162] A t).eval (.tmp 162) = .bool true := (fr_eval _ _ _ 162 rfl (by rw [asz]; decide)).trans (hF 9 (by decide))
                  clear hne
                  refine op_wp rfl rfl ?_
                  generalize hE : (fr [153, 154, 155, 156, 157, 158, 159, 160, 161, 162] A t).eval = ev at e162
                  unfold Oper.wp
                  rw [hE]
                  go_simp
                  refine hMet _ _ (Met.intro (hRJ _ _ ⟨_, t 153, t 154, t 155, t 156, t 157, t 158, t 159, t 160, t 161, t 162, ⟨rfl, hB⟩, ?_⟩))
                  rw [← hA]; rfl
              case rest =>
                obtain ⟨rfl, b7⟩ := hcut
                have B8 : Hid (Below w.heap.size w wc) := B7.out.trans (b7.mono B7.out.size)
                clear b7
                go_wp2
                go_ret
                exact ⟨rfl, B8.out⟩

theorem walk (a : Option Addr) (len cap : Nat) (zs : List Int) (w : World) (h : IsRow .u8 w a len cap zs) :
    Calls Try.prog 3 #[.slice a len cap] w fun e w' => e = .returned (.bool true) ∧ Below w.heap.size w w' := by
  obtain ⟨l, h1, h2, _, h4⟩ := h.read
  by_cases hl : len ≤ 1048576
  · exact small a len cap l w h1 h2 h4 hl
  · clear h h1 h2 h4
    go_enter Try.func3, Try.ntmps3
    go_wp2_with fail
    refine (bigYes a len cap w (by omega)).mono ?_
    rintro e w0 ⟨rfl, rfl⟩
    go_wp2
    go_ret
    exact ⟨rfl, Below.refl _ _⟩
end Go.Proofs.Ytdoichpaobiaeaa.LawWins
