/-
  What spec's WinAdd and WinOf answer.
-/
import Derived.Test.YtmcflfpckpjphaaGreatDoorVdWnT
set_option maxRecDepth 100000
namespace Go.Proofs.YtmcflfpckpjphaaGreatDoor.WnU
open Go.RowKit Mem MemI Blk Zone ZoneI WnZ Res Each Copy Ops WinP WinB Bits WnC WnL WnS WnK WnT

theorem own32 {w : World} {lo hi : Nat} {S : WnS} {D : WnD} (h : WnOwn w lo hi S D) (hl : D.bits.length = 32) : ∃ q c, S = ⟨⟨some ⟨q, 0, none⟩, 32, c⟩⟩ ∧ lo ≤ q ∧ q < hi ∧ IRow w q c D.bits := by
 rcases h.bits with ⟨_, h2⟩ | ⟨q, h1, h2, h3, h4, h5⟩
 ·
  rw [h2] at hl; cases hl
 ·
  obtain ⟨⟨sa, sn, sc⟩⟩ := S
  simp only at h1 h2 h5
  refine ⟨q, sc, by rw [h1, h2, hl], h3, h4, h5⟩
theorem shl_pow (k : Nat) (hk : k < 32) : wrap64 (2 ^ k) = ((2 ^ k : Nat) : Int) := by
 have h := pow_lt k hk
 have e : (2 : Int) ^ k = ((2 ^ k : Nat) : Int) := by simp
 rw [e]
 generalize 2 ^ k = M at *
 unfold wrap64
 omega

abbrev DL1 : List Nat := [32, 33, 34, 35, 36, 37, 38, 39, 40, 41, 42, 43, 44, 45, 46]
abbrev DL2 : List Nat := [51, 52, 53, 54, 55, 56, 57, 58, 59, 60, 61, 62, 63, 64, 65]
set_option maxHeartbeats 8000000 in
theorem specWinAdd (S : WnS) (D : WnD) (n : Int) (w : World) (h : WnRd w S D) (hl : D.bits.length ≤ 4194304) : Calls Tryz.prog 89 #[wnV D S, .int .i64 n] w (Added D n w) := by
 have HR := hid (h)
 obtain ⟨x0, hx0⟩ : ∃ x0, (w.alloc (.cells #[.int .i64 D.top, .slice S.bits.a S.bits.n S.bits.c] 39)).alloc (.cells #[.int .i64 0, .slice none 0 0] 39) = x0 := ⟨_, rfl⟩
 have HW0 : Hid (_ = x0) := hx0
 have B0 : Hid (Below w.heap.size w x0) := by rw [← hx0]; exact ((Below.refl _ _).alloc (Nat.le_refl _) _).alloc (by simp) _
 have KA0 : Hid (Blk x0 w.heap.size 39 [.int .i64 D.top, .slice S.bits.a S.bits.n S.bits.c]) := by rw [← hx0]; exact (Blk.new w _ _).alloc _
 have KR0 : Hid (Blk x0 (w.heap.size + 1) 39 [.int .i64 0, .slice none 0 0]) := by
  have := Blk.new (w.alloc (.cells #[.int .i64 D.top, .slice S.bits.a S.bits.n S.bits.c] 39)) 39 [.int .i64 0, .slice none 0 0]
  rw [World.size_alloc] at this
  rw [← hx0]; exact this
 have HLT : Hid (w.heap.size + 1 + 1 ≤ x0.heap.size) := KR0.out.lt
 clear h hx0
 have c0 := KA0.out.cell 0 rfl
 have c1 := KA0.out.cell 1 rfl
 unfold wnV
 go_enter Tryz.func89, Tryz.ntmps89
 go_upto_region 1 with fail
 rw [HW0.out]
 clear HW0
 go_wp2_with fail
 refine (specCopy S D x0 (HR.out.later B0.out) hl).mono ?_
 rintro e x1 ⟨S1, rfl, o1, b1⟩
 obtain ⟨x2, hx2⟩ : ∃ x2, x1.alloc (.cells #[.int .i64 D.top, .slice S1.bits.a S1.bits.n S1.bits.c] 39) = x2 := ⟨_, rfl⟩
 have HW2 : Hid (_ = x2) := hx2
 have b2 : Below x1.heap.size x1 x2 := by rw [← hx2]; exact (Below.refl _ _).alloc (Nat.le_refl _) _
 have O2 : Hid (WnOwn x2 x0.heap.size x1.heap.size S1 D) := o1.later b2
 have b12 : Below x0.heap.size x0 x2 := b1.trans (b2.mono b1.size)
 have B2 := hid (B0.out.trans (b12.mono B0.out.size))
 have KA2 := hid (KA0.out.later b12)
 have KR2 := hid (KR0.out.later b12)
 have KO2 : Hid (Blk x2 x1.heap.size 39 [.int .i64 D.top, .slice S1.bits.a S1.bits.n S1.bits.c]) := by rw [← hx2]; exact Blk.new x1 _ _
 have HGO : Hid (x1.heap.size < x2.heap.size) := KO2.out.lt
 obtain ⟨go, hgo⟩ : ∃ go, x1.heap.size = go := ⟨_, rfl⟩
 have HG1 : Hid (x1.heap.size = go) := hgo
 clear c0 c1 o1 b1 b2 b12 hx2 B0 KA0 KR0
 unfold wnV
 go_upto_region 2 with fail
 rw [HW2.out]
 rw [hgo] at O2 KO2 HGO
 clear HW2 HG1 hgo
 have c0 := KA2.out.cell 0 rfl
 have c1 := KA2.out.cell 1 rfl
 go_wp2_with fail
 refine (specWinMay S D n x2 (HR.out.later B2.out)).mono ?_
 cases hm : winMay D.top D.bits n with
 | false =>
  have HMF : Hid (winMay D.top D.bits n = false) := hm
  clear hm
  rintro e x3 ⟨rfl, b3⟩
  have B3 := hid (B2.out.trans (b3.mono B2.out.size))
  have KR3 := hid (KR2.out.later b3)
  have KO3 := hid (KO2.out.later b3)
  have O3 := hid (O2.out.later b3)
  have HG3 : Hid (go ≤ x3.heap.size) := Nat.le_of_lt (Nat.lt_of_lt_of_le HGO.out b3.size)
  clear b3 c0 c1 B2 KA2 KR2 KO2 O2
  have o0 := KO3.out.cell 0 rfl
  have o1 := KO3.out.cell 1 rfl
  have q0 := KR3.out.cell 0 rfl
  have q1 := KR3.out.cell 1 rfl
  have f0 := KR3.out.frozen 0
  have f1 := KR3.out.frozen 1
  go_wp2
  obtain ⟨k4, o4, b4⟩ := WnK.stored KR3.out O3.out HLT.out
  exact bodyPost_ret (v := .tuple #[wnV D S1, .bool false]) (res2 rfl (is_cell rfl k4 aggWn) (is_tmp rfl)) rfl ⟨S1, by rw [add_no HMF.out, HMF.out], by rw [add_no HMF.out]; exact o4.mono (by have := HLT.out; omega) (by rw [size2]; exact HG3.out), b4 _ _ (Nat.le_succ _) B3.out⟩
 | true =>
  have HMT : Hid (winMay D.top D.bits n = true) := hm
  obtain ⟨hok, hmay⟩ := winMay_ok hm
  have HOK : Hid (WOk D.top D.bits) := hok
  obtain ⟨h0, h1⟩ := may_bounds hmay
  have HTI : Hid (D.top - 1024 < n) := by
   show _ < _
   unfold may at hmay
   rw [Bool.and_eq_true, decide_eq_true_iff] at hmay
   exact hmay.1.2.2
  clear hm hok hmay
  rintro e x3 ⟨rfl, b3⟩
  have B3 := hid (B2.out.trans (b3.mono B2.out.size))
  have KA3 := hid (KA2.out.later b3)
  have KR3 := hid (KR2.out.later b3)
  have KO3' : Hid (Blk x3 go 39 [.int .i64 D.top, .slice S1.bits.a S1.bits.n S1.bits.c]) := KO2.out.later b3
  have O3 := hid (O2.out.later b3)
  clear b3 c0 c1 B2 KA2 KR2 KO2 O2
  obtain ⟨q, c, rfl, hq1, hq2, hrow⟩ := own32 O3.out HOK.out.len
  have HQ : Hid (w.heap.size + 1 < q ∧ q < go) := ⟨by have := HLT.out; omega, hq2⟩
  have KO3 : Hid (Blk x3 go 39 [.int .i64 D.top, .slice (some ⟨q, 0, none⟩) 32 c]) := KO3'.out
  have R3 := hid (hrow)
  clear KO3' O3 hq1 hq2 hrow
  simp only
  obtain ⟨N, rfl⟩ := Int.eq_ofNat_of_zero_le h0
  have hN : N ≤ 281474976710655 := by omega
  obtain ⟨An, hA⟩ : ∃ An : Nat, D.top + 1 = (An : Int) := ⟨(D.top + 1).toNat, by have := HOK.out.lo; omega⟩
  have hAl : An ≤ 281474976710656 := by have := HOK.out.hi; omega
  have HA : Hid (D.top = (An : Int) - 1) := by show _ = _; omega
  have HAN : Hid ((D.top + 1).toNat = An) := by show _ = _; omega
  have hD1 : -1 ≤ D.top := HOK.out.lo
  have hD2 : D.top ≤ 281474976710655 := HOK.out.hi
  have c0 := KA3.out.cell 0 rfl
  clear h0 h1
  go_wp2
  clear c0 hA
  go_loopw [7, 8] (fun s7 s8 wr => ∃ k : Nat, k ≤ 1024 ∧ (k = 0 ∨ An + k ≤ N + 1) ∧ s7 = .int .i64 k ∧ s8 = .int .i64 ((An : Int) + k) ∧ IRow wr q c (clrs D.bits An k) ∧ Kept q (q + 1) x3 wr) (fun s7 _ _ => 1024 - (intOf s7).toNat)
  case atStart => exact ⟨0, Nat.zero_le _, .inl rfl, rfl, by simp, R3.out, Kept.refl _ _ _⟩
  case round =>
   obtain ⟨k, hk, hk2, rfl, rfl, hrw, hkp⟩ := hrel
   have HRW := hid (hrw)
   have HKP := hid (hkp)
   have HKO := hid (KO3.out.keep (hkp.block go KO3.out.lt (by have := HQ.out; omega)))
   have HKA := hid (KA3.out.keep (hkp.block _ KA3.out.lt (by have := HQ.out; omega)))
   have HL32 : Hid ((clrs D.bits An k).length = 32) := by show _ = _; rw [clrs_length, HOK.out.len]
   have HWL : Hid (Words (clrs D.bits An k)) := clrs_words HOK.out.words An k
   clear hrw hkp
   by_cases hle : (An : Int) + k ≤ N
   ·
    by_cases hlt : k < 1024
    ·
     obtain ⟨Jn, hJ0⟩ : ∃ Jn : Nat, (An + k) % 1024 = Jn := ⟨_, rfl⟩
     have hJ : ((An : Int) + k) % 1024 = (Jn : Int) := by omega
     have hJl : Jn < 1024 := by omega
     have HJ0 : Hid ((An + k) % 1024 = Jn) := hJ0
     clear hJ0
     obtain ⟨p, hp0⟩ : ∃ p : Nat, Jn / 32 = p := ⟨_, rfl⟩
     obtain ⟨r, hr0⟩ : ∃ r : Nat, Jn % 32 = r := ⟨_, rfl⟩
     have hpl : p < 32 := by omega
     have hpI : (p : Int) < 32 := by omega
     have hrl : r < 32 := by omega
     have hJp : (Jn : Int) / 32 = (p : Int) := by omega
     have hJr : (Jn : Int).tmod 32 = (r : Int) := by rw [Int.tmod_eq_emod_of_nonneg (by omega)]; omega
     have hwp : IntKind.i64.wrap (p : Int) = (p : Int) := wrap_i64_nat p (by omega)
     have hwr : IntKind.i64.wrap (r : Int) = (r : Int) := wrap_i64_nat r (by omega)
     have HLL : Hid ((clrs D.bits An k).length = 32) := HL32.out
     obtain ⟨x, hx⟩ : ∃ x, (clrs D.bits An k).getD p 0 = x := ⟨_, rfl⟩
     have HX : Hid ((clrs D.bits An k).getD p 0 = x) := hx
     have hx2 := HWL.out.at p
     rw [hx] at hx2
     obtain ⟨X, rfl⟩ := Int.eq_ofNat_of_zero_le hx2.1
     have hxl : X < 4294967296 := by omega
     obtain ⟨M, hM0⟩ : ∃ M : Int, ((2 ^ r : Nat) : Int) = M := ⟨_, rfl⟩
     have hM : IntKind.i64.wrap (2 ^ r) = M := by rw [IntWalk.i64_left, shl_pow r hrl, hM0]
     have HYY : Hid ((clrs D.bits An k).set p (bits .andNot .i64 (X : Int) M) = clrL (clrs D.bits An k) Jn) := by
      show _ = _
      unfold clrL
      rw [hp0, hr0, hx, Int.toNat_natCast, ← hM0, clr_i64 X r hxl hrl]
     clear hp0 hr0 hx hx2 hxl hM0
     generalize (X : Int) = x at *
     go_upto_region 9 with fail
     try rw [hJ]
     go_cut [46] from 32 to 45 (fun s46 wx => IRow wx q c (clrL (clrs D.bits An k) Jn) ∧ Kept q (q + 1) wr wx)
     case first =>
      rename_i J K' hRJ hMet
      generalize hA : Act.mk _ _ = A
      have a6' : A.eval (.tmp 6) = .pointer (some ⟨go, 0, none⟩) := by rw [← hA]; rfl
      have a9' : A.eval (.tmp 9) = .int .i64 (Jn : Int) := by rw [← hA]; rfl
      have asz : A.tmps.size = 73 := by rw [← hA]; rfl
      have hKO : ∀ wx, Below wr.heap.size wr wx → Blk wx go 39 [.int .i64 D.top, .slice (some ⟨q, 0, none⟩) 32 c] := fun wx hb => HKO.out.later hb
      have hRW : ∀ wx, Below wr.heap.size wr wx → IRow wx q c (clrs D.bits An k) := fun wx hb => HRW.out.later hb
      refine region_each (by kernel_rfl) DL1 15 (fun i => DL1.getD i 0) (fun _ => 0)
       (fun i gB v wx => match i with
        | 0 => v = .pointer (some ⟨go, 1, none⟩)
        | 1 => v = .slice (some ⟨q, 0, none⟩) 32 c
        | 2 => v = .int .i64 (Jn : Int)
        | 3 => v = .int .i64 (p : Int)
        | 4 => v = .pointer (some ⟨go, 1, none⟩)
        | 5 => v = .slice (some ⟨q, 0, none⟩) 32 c
        | 6 => v = .int .i64 (Jn : Int)
        | 7 => v = .int .i64 (p : Int)
        | 8 => v = .pointer (some ⟨q, p, none⟩)
        | 9 => v = .int .i64 x
        | 10 => v = .int .i64 (Jn : Int)
        | 11 => v = .int .i64 (r : Int)
        | 12 => v = .int .i64 M
        | 13 => v = .int .i64 (bits .andNot .i64 x M)
        | 14 => v = .pointer (some ⟨q, p, none⟩)
        | _ => False) (fun wx => Below wr.heap.size wr wx) (by kernel_rfl) (Below.refl _ _).drew ?_ ?_ ?_
      ·
       intro i gB v wx wy hi hF hb _
       match i, hi with
       | 0, _ => exact hF
       | 1, _ => exact hF
       | 2, _ => exact hF
       | 3, _ => exact hF
       | 4, _ => exact hF
       | 5, _ => exact hF
       | 6, _ => exact hF
       | 7, _ => exact hF
       | 8, _ => exact hF
       | 9, _ => exact hF
       | 10, _ => exact hF
       | 11, _ => exact hF
       | 12, _ => exact hF
       | 13, _ => exact hF
       | 14, _ => exact hF
      ·
       intro i hi t ρ wx hB hp hd
       match i, hi with
       | 0, _ =>
        have e6 : (fr DL1 A t).eval (.tmp 6) = .pointer (some ⟨go, 0, none⟩) := (fr_eval_old _ _ _ 6 rfl).trans a6'
        refine op_run (v := .pointer (some ⟨go, 1, none⟩)) (w' := wx) rfl rfl ?_ ?_
        ·
         clear hp hd; have ec : ∀ v, (fr DL1 A t).eval (.const v) = v := fun _ => rfl; generalize (fr DL1 A t).eval = ev at ec e6 ⊢; go_simp
        ·
         exact ⟨_, 0, rfl, hB, Below.refl _ _, rfl, .inl rfl⟩
       | 1, _ =>
        have e32 : (fr DL1 A t).eval (.tmp 32) = .pointer (some ⟨go, 1, none⟩) := (fr_eval _ _ _ 32 rfl (by rw [asz]; decide)).trans (hp 0 (pre_mem (by kernel_rfl)))
        have hc := (hKO wx hB).cell 1 rfl
        refine op_run (v := .slice (some ⟨q, 0, none⟩) 32 c) (w' := wx) rfl rfl ?_ ?_
        ·
         clear hp hd; have ec : ∀ v, (fr DL1 A t).eval (.const v) = v := fun _ => rfl; generalize (fr DL1 A t).eval = ev at ec e32 ⊢; go_simp
        ·
         exact ⟨_, 0, rfl, hB, Below.refl _ _, rfl, .inl rfl⟩
       | 2, _ =>
        have e9 : (fr DL1 A t).eval (.tmp 9) = .int .i64 (Jn : Int) := (fr_eval_old _ _ _ 9 rfl).trans a9'
        refine op_run (v := .int .i64 (Jn : Int)) (w' := wx) rfl rfl ?_ ?_
        ·
         clear hp hd; have ec : ∀ v, (fr DL1 A t).eval (.const v) = v := fun _ => rfl; generalize (fr DL1 A t).eval = ev at ec e9 ⊢; go_simp
        ·
         exact ⟨_, 0, rfl, hB, Below.refl _ _, rfl, .inl rfl⟩
       | 3, _ =>
        have e34 : (fr DL1 A t).eval (.tmp 34) = .int .i64 (Jn : Int) := (fr_eval _ _ _ 34 rfl (by rw [asz]; decide)).trans (hp 2 (pre_mem (by kernel_rfl)))
        refine op_run (v := .int .i64 (p : Int)) (w' := wx) rfl rfl ?_ ?_
        ·
         clear hp hd; have ec : ∀ v, (fr DL1 A t).eval (.const v) = v := fun _ => rfl; generalize (fr DL1 A t).eval = ev at ec e34 ⊢; go_simp
        ·
         exact ⟨_, 0, rfl, hB, Below.refl _ _, rfl, .inl rfl⟩
       | 4, _ =>
        have e6 : (fr DL1 A t).eval (.tmp 6) = .pointer (some ⟨go, 0, none⟩) := (fr_eval_old _ _ _ 6 rfl).trans a6'
        refine op_run (v := .pointer (some ⟨go, 1, none⟩)) (w' := wx) rfl rfl ?_ ?_
        ·
         clear hp hd; have ec : ∀ v, (fr DL1 A t).eval (.const v) = v := fun _ => rfl; generalize (fr DL1 A t).eval = ev at ec e6 ⊢; go_simp
        ·
         exact ⟨_, 0, rfl, hB, Below.refl _ _, rfl, .inl rfl⟩
       | 5, _ =>
        have e36 : (fr DL1 A t).eval (.tmp 36) = .pointer (some ⟨go, 1, none⟩) := (fr_eval _ _ _ 36 rfl (by rw [asz]; decide)).trans (hp 4 (pre_mem (by kernel_rfl)))
        have hc := (hKO wx hB).cell 1 rfl
        refine op_run (v := .slice (some ⟨q, 0, none⟩) 32 c) (w' := wx) rfl rfl ?_ ?_
        ·
         clear hp hd; have ec : ∀ v, (fr DL1 A t).eval (.const v) = v := fun _ => rfl; generalize (fr DL1 A t).eval = ev at ec e36 ⊢; go_simp
        ·
         exact ⟨_, 0, rfl, hB, Below.refl _ _, rfl, .inl rfl⟩
       | 6, _ =>
        have e9 : (fr DL1 A t).eval (.tmp 9) = .int .i64 (Jn : Int) := (fr_eval_old _ _ _ 9 rfl).trans a9'
        refine op_run (v := .int .i64 (Jn : Int)) (w' := wx) rfl rfl ?_ ?_
        ·
         clear hp hd; have ec : ∀ v, (fr DL1 A t).eval (.const v) = v := fun _ => rfl; generalize (fr DL1 A t).eval = ev at ec e9 ⊢; go_simp
        ·
         exact ⟨_, 0, rfl, hB, Below.refl _ _, rfl, .inl rfl⟩
       | 7, _ =>
        have e38 : (fr DL1 A t).eval (.tmp 38) = .int .i64 (Jn : Int) := (fr_eval _ _ _ 38 rfl (by rw [asz]; decide)).trans (hp 6 (pre_mem (by kernel_rfl)))
        refine op_run (v := .int .i64 (p : Int)) (w' := wx) rfl rfl ?_ ?_
        ·
         clear hp hd; have ec : ∀ v, (fr DL1 A t).eval (.const v) = v := fun _ => rfl; generalize (fr DL1 A t).eval = ev at ec e38 ⊢; go_simp
        ·
         exact ⟨_, 0, rfl, hB, Below.refl _ _, rfl, .inl rfl⟩
       | 8, _ =>
        have e37 : (fr DL1 A t).eval (.tmp 37) = .slice (some ⟨q, 0, none⟩) 32 c := (fr_eval _ _ _ 37 rfl (by rw [asz]; decide)).trans (hp 5 (pre_mem (by kernel_rfl)))
        have e39 : (fr DL1 A t).eval (.tmp 39) = .int .i64 (p : Int) := (fr_eval _ _ _ 39 rfl (by rw [asz]; decide)).trans (hp 7 (pre_mem (by kernel_rfl)))
        refine op_run (v := .pointer (some ⟨q, p, none⟩)) (w' := wx) rfl rfl ?_ ?_
        ·
         clear hp hd; have ec : ∀ v, (fr DL1 A t).eval (.const v) = v := fun _ => rfl; generalize (fr DL1 A t).eval = ev at ec e37 e39 ⊢; go_simp
        ·
         exact ⟨_, 0, rfl, hB, Below.refl _ _, rfl, .inl rfl⟩
       | 9, _ =>
        have e40 : (fr DL1 A t).eval (.tmp 40) = .pointer (some ⟨q, p, none⟩) := (fr_eval _ _ _ 40 rfl (by rw [asz]; decide)).trans (hp 8 (pre_mem (by kernel_rfl)))
        have hc : wx.cell? ⟨q, p, none⟩ = some (.int .i64 x) := by rw [(hRW wx hB).cell p (by rw [HLL.out]; exact hpl), HX.out]
        refine op_run (v := .int .i64 x) (w' := wx) rfl rfl ?_ ?_
        ·
         clear hp hd; have ec : ∀ v, (fr DL1 A t).eval (.const v) = v := fun _ => rfl; generalize (fr DL1 A t).eval = ev at ec e40 ⊢; go_simp
        ·
         exact ⟨_, 0, rfl, hB, Below.refl _ _, rfl, .inl rfl⟩
       | 10, _ =>
        have e9 : (fr DL1 A t).eval (.tmp 9) = .int .i64 (Jn : Int) := (fr_eval_old _ _ _ 9 rfl).trans a9'
        refine op_run (v := .int .i64 (Jn : Int)) (w' := wx) rfl rfl ?_ ?_
        ·
         clear hp hd; have ec : ∀ v, (fr DL1 A t).eval (.const v) = v := fun _ => rfl; generalize (fr DL1 A t).eval = ev at ec e9 ⊢; go_simp
        ·
         exact ⟨_, 0, rfl, hB, Below.refl _ _, rfl, .inl rfl⟩
       | 11, _ =>
        have e42 : (fr DL1 A t).eval (.tmp 42) = .int .i64 (Jn : Int) := (fr_eval _ _ _ 42 rfl (by rw [asz]; decide)).trans (hp 10 (pre_mem (by kernel_rfl)))
        refine op_run (v := .int .i64 (r : Int)) (w' := wx) rfl rfl ?_ ?_
        ·
         clear hp hd; have ec : ∀ v, (fr DL1 A t).eval (.const v) = v := fun _ => rfl; generalize (fr DL1 A t).eval = ev at ec e42 ⊢; go_simp
        ·
         exact ⟨_, 0, rfl, hB, Below.refl _ _, rfl, .inl rfl⟩
       | 12, _ =>
        have e43 : (fr DL1 A t).eval (.tmp 43) = .int .i64 (r : Int) := (fr_eval _ _ _ 43 rfl (by rw [asz]; decide)).trans (hp 11 (pre_mem (by kernel_rfl)))
        refine op_run (v := .int .i64 M) (w' := wx) rfl rfl ?_ ?_
        ·
         clear hp hd; have ec : ∀ v, (fr DL1 A t).eval (.const v) = v := fun _ => rfl; generalize (fr DL1 A t).eval = ev at ec e43 ⊢; go_simp
        ·
         exact ⟨_, 0, rfl, hB, Below.refl _ _, rfl, .inl rfl⟩
       | 13, _ =>
        have e41 : (fr DL1 A t).eval (.tmp 41) = .int .i64 x := (fr_eval _ _ _ 41 rfl (by rw [asz]; decide)).trans (hp 9 (pre_mem (by kernel_rfl)))
        have e44 : (fr DL1 A t).eval (.tmp 44) = .int .i64 M := (fr_eval _ _ _ 44 rfl (by rw [asz]; decide)).trans (hp 12 (pre_mem (by kernel_rfl)))
        refine op_run (v := .int .i64 (bits .andNot .i64 x M)) (w' := wx) rfl rfl ?_ ?_
        ·
         clear hp hd; have ec : ∀ v, (fr DL1 A t).eval (.const v) = v := fun _ => rfl; generalize (fr DL1 A t).eval = ev at ec e41 e44 ⊢; go_simp
        ·
         exact ⟨_, 0, rfl, hB, Below.refl _ _, rfl, .inl rfl⟩
       | 14, _ =>
        have e33 : (fr DL1 A t).eval (.tmp 33) = .slice (some ⟨q, 0, none⟩) 32 c := (fr_eval _ _ _ 33 rfl (by rw [asz]; decide)).trans (hp 1 (pre_mem (by kernel_rfl)))
        have e35 : (fr DL1 A t).eval (.tmp 35) = .int .i64 (p : Int) := (fr_eval _ _ _ 35 rfl (by rw [asz]; decide)).trans (hp 3 (pre_mem (by kernel_rfl)))
        refine op_run (v := .pointer (some ⟨q, p, none⟩)) (w' := wx) rfl rfl ?_ ?_
        ·
         clear hp hd; have ec : ∀ v, (fr DL1 A t).eval (.const v) = v := fun _ => rfl; generalize (fr DL1 A t).eval = ev at ec e33 e35 ⊢; go_simp
        ·
         exact ⟨_, 0, rfl, hB, Below.refl _ _, rfl, .inl rfl⟩
      ·
       intro t ρ wx hB hF hne
       have e46 : (fr DL1 A t).eval (.tmp 46) = .pointer (some ⟨q, p, none⟩) := (fr_eval _ _ _ 46 rfl (by rw [asz]; decide)).trans (hF 14 (by decide))
       have e45 : (fr DL1 A t).eval (.tmp 45) = .int .i64 (bits .andNot .i64 x M) := (fr_eval _ _ _ 45 rfl (by rw [asz]; decide)).trans (hF 13 (by decide))
       clear hne
       have q0 : ∃ v, wx.cell? ⟨q, p, none⟩ = some v := ⟨_, (hRW wx hB).cell p (by rw [HLL.out]; exact hpl)⟩
       obtain ⟨v0, q0⟩ := q0
       have f0 : wx.frozen? ⟨q, p, none⟩ = false := ((hRW wx hB).owns (Nat.le_refl _)).frozenAt p
       have rW : Hid (IRow wx q c (clrs D.bits An k)) := hRW wx hB
       refine op_wp rfl rfl ?_
       clear hF hKO hRW
       generalize hE : (fr DL1 A t).eval = ev at e46 e45
       unfold Oper.wp
       rw [hE]
       go_simp
       refine hMet _ _ (Met.intro (hRJ _ _ ⟨t 32, t 33, t 34, t 35, t 36, t 37, t 38, t 39, t 40, t 41, t 42, t 43, t 44, t 45, t 46, ⟨by rw [← HYY.out]; exact irow_set rW.out p _, (Kept.of_below hB 0).any.trans (Kept.setCell _ _ _ _)⟩, ?_⟩))
       rw [← hA]; rfl
     case rest =>
      obtain ⟨r2, k2⟩ := hcut
      have HR2 : Hid (IRow wc q c (clrs D.bits An (k + 1))) := by show IRow _ _ _ (clrL (clrs D.bits An k) ((An + k) % 1024)); rw [HJ0.out]; exact r2
      have HK2 := hid (HKP.out.trans k2)
      clear r2 k2 HRW HKP HKO HKA hJ hJp hJr hwp hwr hM HX HYY
      go_wp2
      go_roundw
      case rel => exact ⟨k + 1, by omega, by omega, by go_num, by go_num, HR2.out, HK2.out⟩
      case measure => simp [intOf]; omega
    ·
     have HC : Hid (addL D.top D.bits N = setL (clrs D.bits An k) (N % 1024)) := by
      show _ = _
      unfold addL
      rw [HAN.out, show min ((N : Int) - D.top).toNat 1024 = k by have := HA.out; omega]
     have hlt2 : decide ((k : Int) < 1024) = false := decide_eq_false (by omega)
     clear hlt
     go_wp2
     clear hlt2 hle
     obtain ⟨L, hL⟩ : ∃ L, clrs D.bits An k = L := ⟨_, rfl⟩
     rw [hL] at HRW HL32 HWL HC
     clear hL
     obtain ⟨Jn, hJ0⟩ : ∃ Jn : Nat, N % 1024 = Jn := ⟨_, rfl⟩
     have hJ : (N : Int) % 1024 = (Jn : Int) := by omega
     have hJl : Jn < 1024 := by omega
     rw [hJ0] at HC
     clear hJ0
     obtain ⟨p, hp0⟩ : ∃ p : Nat, Jn / 32 = p := ⟨_, rfl⟩
     obtain ⟨r, hr0⟩ : ∃ r : Nat, Jn % 32 = r := ⟨_, rfl⟩
     have hpl : p < 32 := by omega
     have hpI : (p : Int) < 32 := by omega
     have hrl : r < 32 := by omega
     have hJp : (Jn : Int) / 32 = (p : Int) := by omega
     have hJr : (Jn : Int).tmod 32 = (r : Int) := by rw [Int.tmod_eq_emod_of_nonneg (by omega)]; omega
     have hwp : IntKind.i64.wrap (p : Int) = (p : Int) := wrap_i64_nat p (by omega)
     have hwr : IntKind.i64.wrap (r : Int) = (r : Int) := wrap_i64_nat r (by omega)
     have HLL : Hid ((L).length = 32) := HL32.out
     obtain ⟨x, hx⟩ : ∃ x, (L).getD p 0 = x := ⟨_, rfl⟩
     have HX : Hid ((L).getD p 0 = x) := hx
     have hx2 := HWL.out.at p
     rw [hx] at hx2
     obtain ⟨X, rfl⟩ := Int.eq_ofNat_of_zero_le hx2.1
     have hxl : X < 4294967296 := by omega
     obtain ⟨M, hM0⟩ : ∃ M : Int, ((2 ^ r : Nat) : Int) = M := ⟨_, rfl⟩
     have hM : IntKind.i64.wrap (2 ^ r) = M := by rw [IntWalk.i64_left, shl_pow r hrl, hM0]
     have HYY : Hid ((L).set p (bits .or .i64 (X : Int) M) = setL (L) Jn) := by
      show _ = _
      unfold setL
      rw [hp0, hr0, hx, Int.toNat_natCast, ← hM0, set_i64 X r hxl hrl]
     clear hp0 hr0 hx hx2 hxl hM0
     generalize (X : Int) = x at *
     go_upto_region 12 with fail
     try rw [hJ]
     go_cut [65] from 51 to 64 (fun s65 wx => IRow wx q c (setL L Jn) ∧ Kept q (q + 1) wr wx)
     case first =>
      rename_i J K' hRJ hMet
      generalize hA : Act.mk _ _ = A
      have a6' : A.eval (.tmp 6) = .pointer (some ⟨go, 0, none⟩) := by rw [← hA]; rfl
      have a10' : A.eval (.tmp 10) = .int .i64 (Jn : Int) := by rw [← hA]; rfl
      have asz : A.tmps.size = 73 := by rw [← hA]; rfl
      have hKO : ∀ wx, Below wr.heap.size wr wx → Blk wx go 39 [.int .i64 D.top, .slice (some ⟨q, 0, none⟩) 32 c] := fun wx hb => HKO.out.later hb
      have hRW : ∀ wx, Below wr.heap.size wr wx → IRow wx q c L := fun wx hb => HRW.out.later hb
      refine region_each (by kernel_rfl) DL2 15 (fun i => DL2.getD i 0) (fun _ => 0)
       (fun i gB v wx => match i with
        | 0 => v = .pointer (some ⟨go, 1, none⟩)
        | 1 => v = .slice (some ⟨q, 0, none⟩) 32 c
        | 2 => v = .int .i64 (Jn : Int)
        | 3 => v = .int .i64 (p : Int)
        | 4 => v = .pointer (some ⟨go, 1, none⟩)
        | 5 => v = .slice (some ⟨q, 0, none⟩) 32 c
        | 6 => v = .int .i64 (Jn : Int)
        | 7 => v = .int .i64 (p : Int)
        | 8 => v = .pointer (some ⟨q, p, none⟩)
        | 9 => v = .int .i64 x
        | 10 => v = .int .i64 (Jn : Int)
        | 11 => v = .int .i64 (r : Int)
        | 12 => v = .int .i64 M
        | 13 => v = .int .i64 (bits .or .i64 x M)
        | 14 => v = .pointer (some ⟨q, p, none⟩)
        | _ => False) (fun wx => Below wr.heap.size wr wx) (by kernel_rfl) (Below.refl _ _).drew ?_ ?_ ?_
      ·
       intro i gB v wx wy hi hF hb _
       match i, hi with
       | 0, _ => exact hF
       | 1, _ => exact hF
       | 2, _ => exact hF
       | 3, _ => exact hF
       | 4, _ => exact hF
       | 5, _ => exact hF
       | 6, _ => exact hF
       | 7, _ => exact hF
       | 8, _ => exact hF
       | 9, _ => exact hF
       | 10, _ => exact hF
       | 11, _ => exact hF
       | 12, _ => exact hF
       | 13, _ => exact hF
       | 14, _ => exact hF
      ·
       intro i hi t ρ wx hB hp hd
       match i, hi with
       | 0, _ =>
        have e6 : (fr DL2 A t).eval (.tmp 6) = .pointer (some ⟨go, 0, none⟩) := (fr_eval_old _ _ _ 6 rfl).trans a6'
        refine op_run (v := .pointer (some ⟨go, 1, none⟩)) (w' := wx) rfl rfl ?_ ?_
        ·
         clear hp hd; have ec : ∀ v, (fr DL2 A t).eval (.const v) = v := fun _ => rfl; generalize (fr DL2 A t).eval = ev at ec e6 ⊢; go_simp
        ·
         exact ⟨_, 0, rfl, hB, Below.refl _ _, rfl, .inl rfl⟩
       | 1, _ =>
        have e51 : (fr DL2 A t).eval (.tmp 51) = .pointer (some ⟨go, 1, none⟩) := (fr_eval _ _ _ 51 rfl (by rw [asz]; decide)).trans (hp 0 (pre_mem (by kernel_rfl)))
        have hc := (hKO wx hB).cell 1 rfl
        refine op_run (v := .slice (some ⟨q, 0, none⟩) 32 c) (w' := wx) rfl rfl ?_ ?_
        ·
         clear hp hd; have ec : ∀ v, (fr DL2 A t).eval (.const v) = v := fun _ => rfl; generalize (fr DL2 A t).eval = ev at ec e51 ⊢; go_simp
        ·
         exact ⟨_, 0, rfl, hB, Below.refl _ _, rfl, .inl rfl⟩
       | 2, _ =>
        have e10 : (fr DL2 A t).eval (.tmp 10) = .int .i64 (Jn : Int) := (fr_eval_old _ _ _ 10 rfl).trans a10'
        refine op_run (v := .int .i64 (Jn : Int)) (w' := wx) rfl rfl ?_ ?_
        ·
         clear hp hd; have ec : ∀ v, (fr DL2 A t).eval (.const v) = v := fun _ => rfl; generalize (fr DL2 A t).eval = ev at ec e10 ⊢; go_simp
        ·
         exact ⟨_, 0, rfl, hB, Below.refl _ _, rfl, .inl rfl⟩
       | 3, _ =>
        have e53 : (fr DL2 A t).eval (.tmp 53) = .int .i64 (Jn : Int) := (fr_eval _ _ _ 53 rfl (by rw [asz]; decide)).trans (hp 2 (pre_mem (by kernel_rfl)))
        refine op_run (v := .int .i64 (p : Int)) (w' := wx) rfl rfl ?_ ?_
        ·
         clear hp hd; have ec : ∀ v, (fr DL2 A t).eval (.const v) = v := fun _ => rfl; generalize (fr DL2 A t).eval = ev at ec e53 ⊢; go_simp
        ·
         exact ⟨_, 0, rfl, hB, Below.refl _ _, rfl, .inl rfl⟩
       | 4, _ =>
        have e6 : (fr DL2 A t).eval (.tmp 6) = .pointer (some ⟨go, 0, none⟩) := (fr_eval_old _ _ _ 6 rfl).trans a6'
        refine op_run (v := .pointer (some ⟨go, 1, none⟩)) (w' := wx) rfl rfl ?_ ?_
        ·
         clear hp hd; have ec : ∀ v, (fr DL2 A t).eval (.const v) = v := fun _ => rfl; generalize (fr DL2 A t).eval = ev at ec e6 ⊢; go_simp
        ·
         exact ⟨_, 0, rfl, hB, Below.refl _ _, rfl, .inl rfl⟩
       | 5, _ =>
        have e55 : (fr DL2 A t).eval (.tmp 55) = .pointer (some ⟨go, 1, none⟩) := (fr_eval _ _ _ 55 rfl (by rw [asz]; decide)).trans (hp 4 (pre_mem (by kernel_rfl)))
        have hc := (hKO wx hB).cell 1 rfl
        refine op_run (v := .slice (some ⟨q, 0, none⟩) 32 c) (w' := wx) rfl rfl ?_ ?_
        ·
         clear hp hd; have ec : ∀ v, (fr DL2 A t).eval (.const v) = v := fun _ => rfl; generalize (fr DL2 A t).eval = ev at ec e55 ⊢; go_simp
        ·
         exact ⟨_, 0, rfl, hB, Below.refl _ _, rfl, .inl rfl⟩
       | 6, _ =>
        have e10 : (fr DL2 A t).eval (.tmp 10) = .int .i64 (Jn : Int) := (fr_eval_old _ _ _ 10 rfl).trans a10'
        refine op_run (v := .int .i64 (Jn : Int)) (w' := wx) rfl rfl ?_ ?_
        ·
         clear hp hd; have ec : ∀ v, (fr DL2 A t).eval (.const v) = v := fun _ => rfl; generalize (fr DL2 A t).eval = ev at ec e10 ⊢; go_simp
        ·
         exact ⟨_, 0, rfl, hB, Below.refl _ _, rfl, .inl rfl⟩
       | 7, _ =>
        have e57 : (fr DL2 A t).eval (.tmp 57) = .int .i64 (Jn : Int) := (fr_eval _ _ _ 57 rfl (by rw [asz]; decide)).trans (hp 6 (pre_mem (by kernel_rfl)))
        refine op_run (v := .int .i64 (p : Int)) (w' := wx) rfl rfl ?_ ?_
        ·
         clear hp hd; have ec : ∀ v, (fr DL2 A t).eval (.const v) = v := fun _ => rfl; generalize (fr DL2 A t).eval = ev at ec e57 ⊢; go_simp
        ·
         exact ⟨_, 0, rfl, hB, Below.refl _ _, rfl, .inl rfl⟩
       | 8, _ =>
        have e56 : (fr DL2 A t).eval (.tmp 56) = .slice (some ⟨q, 0, none⟩) 32 c := (fr_eval _ _ _ 56 rfl (by rw [asz]; decide)).trans (hp 5 (pre_mem (by kernel_rfl)))
        have e58 : (fr DL2 A t).eval (.tmp 58) = .int .i64 (p : Int) := (fr_eval _ _ _ 58 rfl (by rw [asz]; decide)).trans (hp 7 (pre_mem (by kernel_rfl)))
        refine op_run (v := .pointer (some ⟨q, p, none⟩)) (w' := wx) rfl rfl ?_ ?_
        ·
         clear hp hd; have ec : ∀ v, (fr DL2 A t).eval (.const v) = v := fun _ => rfl; generalize (fr DL2 A t).eval = ev at ec e56 e58 ⊢; go_simp
        ·
         exact ⟨_, 0, rfl, hB, Below.refl _ _, rfl, .inl rfl⟩
       | 9, _ =>
        have e59 : (fr DL2 A t).eval (.tmp 59) = .pointer (some ⟨q, p, none⟩) := (fr_eval _ _ _ 59 rfl (by rw [asz]; decide)).trans (hp 8 (pre_mem (by kernel_rfl)))
        have hc : wx.cell? ⟨q, p, none⟩ = some (.int .i64 x) := by rw [(hRW wx hB).cell p (by rw [HLL.out]; exact hpl), HX.out]
        refine op_run (v := .int .i64 x) (w' := wx) rfl rfl ?_ ?_
        ·
         clear hp hd; have ec : ∀ v, (fr DL2 A t).eval (.const v) = v := fun _ => rfl; generalize (fr DL2 A t).eval = ev at ec e59 ⊢; go_simp
        ·
         exact ⟨_, 0, rfl, hB, Below.refl _ _, rfl, .inl rfl⟩
       | 10, _ =>
        have e10 : (fr DL2 A t).eval (.tmp 10) = .int .i64 (Jn : Int) := (fr_eval_old _ _ _ 10 rfl).trans a10'
        refine op_run (v := .int .i64 (Jn : Int)) (w' := wx) rfl rfl ?_ ?_
        ·
         clear hp hd; have ec : ∀ v, (fr DL2 A t).eval (.const v) = v := fun _ => rfl; generalize (fr DL2 A t).eval = ev at ec e10 ⊢; go_simp
        ·
         exact ⟨_, 0, rfl, hB, Below.refl _ _, rfl, .inl rfl⟩
       | 11, _ =>
        have e61 : (fr DL2 A t).eval (.tmp 61) = .int .i64 (Jn : Int) := (fr_eval _ _ _ 61 rfl (by rw [asz]; decide)).trans (hp 10 (pre_mem (by kernel_rfl)))
        refine op_run (v := .int .i64 (r : Int)) (w' := wx) rfl rfl ?_ ?_
        ·
         clear hp hd; have ec : ∀ v, (fr DL2 A t).eval (.const v) = v := fun _ => rfl; generalize (fr DL2 A t).eval = ev at ec e61 ⊢; go_simp
        ·
         exact ⟨_, 0, rfl, hB, Below.refl _ _, rfl, .inl rfl⟩
       | 12, _ =>
        have e62 : (fr DL2 A t).eval (.tmp 62) = .int .i64 (r : Int) := (fr_eval _ _ _ 62 rfl (by rw [asz]; decide)).trans (hp 11 (pre_mem (by kernel_rfl)))
        refine op_run (v := .int .i64 M) (w' := wx) rfl rfl ?_ ?_
        ·
         clear hp hd; have ec : ∀ v, (fr DL2 A t).eval (.const v) = v := fun _ => rfl; generalize (fr DL2 A t).eval = ev at ec e62 ⊢; go_simp
        ·
         exact ⟨_, 0, rfl, hB, Below.refl _ _, rfl, .inl rfl⟩
       | 13, _ =>
        have e60 : (fr DL2 A t).eval (.tmp 60) = .int .i64 x := (fr_eval _ _ _ 60 rfl (by rw [asz]; decide)).trans (hp 9 (pre_mem (by kernel_rfl)))
        have e63 : (fr DL2 A t).eval (.tmp 63) = .int .i64 M := (fr_eval _ _ _ 63 rfl (by rw [asz]; decide)).trans (hp 12 (pre_mem (by kernel_rfl)))
        refine op_run (v := .int .i64 (bits .or .i64 x M)) (w' := wx) rfl rfl ?_ ?_
        ·
         clear hp hd; have ec : ∀ v, (fr DL2 A t).eval (.const v) = v := fun _ => rfl; generalize (fr DL2 A t).eval = ev at ec e60 e63 ⊢; go_simp
        ·
         exact ⟨_, 0, rfl, hB, Below.refl _ _, rfl, .inl rfl⟩
       | 14, _ =>
        have e52 : (fr DL2 A t).eval (.tmp 52) = .slice (some ⟨q, 0, none⟩) 32 c := (fr_eval _ _ _ 52 rfl (by rw [asz]; decide)).trans (hp 1 (pre_mem (by kernel_rfl)))
        have e54 : (fr DL2 A t).eval (.tmp 54) = .int .i64 (p : Int) := (fr_eval _ _ _ 54 rfl (by rw [asz]; decide)).trans (hp 3 (pre_mem (by kernel_rfl)))
        refine op_run (v := .pointer (some ⟨q, p, none⟩)) (w' := wx) rfl rfl ?_ ?_
        ·
         clear hp hd; have ec : ∀ v, (fr DL2 A t).eval (.const v) = v := fun _ => rfl; generalize (fr DL2 A t).eval = ev at ec e52 e54 ⊢; go_simp
        ·
         exact ⟨_, 0, rfl, hB, Below.refl _ _, rfl, .inl rfl⟩
      ·
       intro t ρ wx hB hF hne
       have e65 : (fr DL2 A t).eval (.tmp 65) = .pointer (some ⟨q, p, none⟩) := (fr_eval _ _ _ 65 rfl (by rw [asz]; decide)).trans (hF 14 (by decide))
       have e64 : (fr DL2 A t).eval (.tmp 64) = .int .i64 (bits .or .i64 x M) := (fr_eval _ _ _ 64 rfl (by rw [asz]; decide)).trans (hF 13 (by decide))
       clear hne
       have q0 : ∃ v, wx.cell? ⟨q, p, none⟩ = some v := ⟨_, (hRW wx hB).cell p (by rw [HLL.out]; exact hpl)⟩
       obtain ⟨v0, q0⟩ := q0
       have f0 : wx.frozen? ⟨q, p, none⟩ = false := ((hRW wx hB).owns (Nat.le_refl _)).frozenAt p
       have rW : Hid (IRow wx q c L) := hRW wx hB
       refine op_wp rfl rfl ?_
       clear hF hKO hRW
       generalize hE : (fr DL2 A t).eval = ev at e65 e64
       unfold Oper.wp
       rw [hE]
       go_simp
       refine hMet _ _ (Met.intro (hRJ _ _ ⟨t 51, t 52, t 53, t 54, t 55, t 56, t 57, t 58, t 59, t 60, t 61, t 62, t 63, t 64, t 65, ⟨by rw [← HYY.out]; exact irow_set rW.out p _, (Kept.of_below hB 0).any.trans (Kept.setCell _ _ _ _)⟩, ?_⟩))
       rw [← hA]; rfl
     case rest =>
      obtain ⟨r2, k2⟩ := hcut
      have HR2 : Hid (IRow wc q c (addL D.top D.bits N)) := by show IRow _ _ _ _; rw [HC.out]; exact r2
      have HK2 := hid (HKP.out.trans k2)
      have KA4 := hid (KA3.out.keep (HK2.out.block _ KA3.out.lt (by have := HQ.out; omega)))
      have KR4 := hid (KR3.out.keep (HK2.out.block _ KR3.out.lt (by have := HQ.out; omega)))
      have KO4 := hid (KO3.out.keep (HK2.out.block _ KO3.out.lt (by have := HQ.out; omega)))
      have B4 := hid (B3.out.trans (HK2.out.below (by have := HQ.out; omega) B3.out.size))
      have HLA : Hid ((addL D.top D.bits N).length = 32) := by show _ = _; rw [addL_length, HOK.out.len]
      have HAD : Hid (addD D (N : Int) = ⟨max D.top N, addL D.top D.bits N⟩) := by show _ = _; rw [add_yes HMT.out, Int.toNat_natCast]
      clear r2 k2 HRW HKP HKO HKA hJ hJp hJr hwp hwr hM HX HYY HK2 KA3 KR3 KO3 R3 B3 HC HL32 HWL HLL
      have c0 := KA4.out.cell 0 rfl
      have q0 := KR4.out.cell 0 rfl
      have q1 := KR4.out.cell 1 rfl
      have f0 := KR4.out.frozen 0
      have f1 := KR4.out.frozen 1
      have o0 := KO4.out.cell 0 rfl
      have o1 := KO4.out.cell 1 rfl
      have p0 := KO4.out.frozen 0
      by_cases hgt : (N : Int) > D.top
      ·
       have HMX : Hid (max D.top (N : Int) = N) := by show _ = _; omega
       obtain ⟨w5, hw5⟩ : ∃ w5, wc.setCell ⟨go, 0, none⟩ (.int .i64 (N : Int)) = w5 := ⟨_, rfl⟩
       have HW5 : Hid (_ = w5) := hw5
       have KR5 : Hid (Blk w5 (w.heap.size + 1) 39 [.int .i64 0, .slice none 0 0]) := by rw [← hw5]; exact KR4.out.other (by show w.heap.size + 1 ≠ go; have := HQ.out; omega) _
       have KO5 : Hid (Blk w5 go 39 [.int .i64 (N : Int), .slice (some ⟨q, 0, none⟩) 32 c]) := by rw [← hw5]; exact KO4.out.set 0 _ (by simp [maxLen])
       have OD : Hid (WnOwn w5 (w.heap.size + 2) (q + 1) ⟨⟨some ⟨q, 0, none⟩, 32, c⟩⟩ ⟨N, addL D.top D.bits N⟩) := ⟨ISOwn.row (by rw [← hw5]; exact HR2.out.keep (Below.heap_setCell _ _ _ _ (by show q ≠ go; have := HQ.out; omega))) HLA.out.symm (by have := HQ.out; omega) (Nat.lt_succ_self _), ⟨⟩⟩
       have B5 : Hid (Below w.heap.size w w5) := by rw [← hw5]; exact B4.out.setCell (by show _ ≤ go; have := HQ.out; omega) _
       have HS5 : Hid (q + 1 ≤ w5.heap.size) := by show _ ≤ _; have := KO5.out.lt; have := HQ.out; omega
       clear hw5
       go_upto_region 15 with fail
       rw [HW5.out]
       clear HW5 c0 q0 q1 f0 f1 o0 o1 p0 KA4 KR4 KO4 hgt
       have q0 := KR5.out.cell 0 rfl
       have q1 := KR5.out.cell 1 rfl
       have f0 := KR5.out.frozen 0
       have f1 := KR5.out.frozen 1
       have o0 := KO5.out.cell 0 rfl
       have o1 := KO5.out.cell 1 rfl
       go_wp2
       obtain ⟨k6, o6, b6⟩ := WnK.stored KR5.out OD.out (Nat.le_refl _)
       exact bodyPost_ret (v := .tuple #[wnV ⟨N, addL D.top D.bits N⟩ ⟨⟨some ⟨q, 0, none⟩, 32, c⟩⟩, .bool true]) (res2 rfl (is_cell rfl k6 aggWn) (is_tmp rfl)) rfl ⟨⟨⟨some ⟨q, 0, none⟩, 32, c⟩⟩, by rw [HAD.out, HMX.out, HMT.out], by rw [HAD.out, HMX.out]; exact o6.mono (by omega) (by rw [size2]; exact HS5.out), b6 _ _ (Nat.le_succ _) B5.out⟩
      ·
       have HMX : Hid (max D.top (N : Int) = D.top) := by show _ = _; omega
       have OD : Hid (WnOwn wc (w.heap.size + 2) (q + 1) ⟨⟨some ⟨q, 0, none⟩, 32, c⟩⟩ ⟨D.top, addL D.top D.bits N⟩) := ⟨ISOwn.row HR2.out HLA.out.symm (by have := HQ.out; omega) (Nat.lt_succ_self _), ⟨⟩⟩
       have HS5 : Hid (q + 1 ≤ wc.heap.size) := by show _ ≤ _; have := KO4.out.lt; have := HQ.out; omega
       go_wp2
       obtain ⟨k6, o6, b6⟩ := WnK.stored KR4.out OD.out (Nat.le_refl _)
       exact bodyPost_ret (v := .tuple #[wnV ⟨D.top, addL D.top D.bits N⟩ ⟨⟨some ⟨q, 0, none⟩, 32, c⟩⟩, .bool true]) (res2 rfl (is_cell rfl k6 aggWn) (is_tmp rfl)) rfl ⟨⟨⟨some ⟨q, 0, none⟩, 32, c⟩⟩, by rw [HAD.out, HMX.out, HMT.out], by rw [HAD.out, HMX.out]; exact o6.mono (by omega) (by rw [size2]; exact HS5.out), b6 _ _ (Nat.le_succ _) B4.out⟩
   ·
    have HC : Hid (addL D.top D.bits N = setL (clrs D.bits An k) (N % 1024)) := by
     show _ = _
     unfold addL
     rw [HAN.out, show min ((N : Int) - D.top).toNat 1024 = k by have := HA.out; omega]
    have hle2 : decide ((An : Int) + k ≤ N) = false := decide_eq_false hle
    go_wp2
    clear hle hle2
    obtain ⟨L, hL⟩ : ∃ L, clrs D.bits An k = L := ⟨_, rfl⟩
    rw [hL] at HRW HL32 HWL HC
    clear hL
    obtain ⟨Jn, hJ0⟩ : ∃ Jn : Nat, N % 1024 = Jn := ⟨_, rfl⟩
    have hJ : (N : Int) % 1024 = (Jn : Int) := by omega
    have hJl : Jn < 1024 := by omega
    rw [hJ0] at HC
    clear hJ0
    obtain ⟨p, hp0⟩ : ∃ p : Nat, Jn / 32 = p := ⟨_, rfl⟩
    obtain ⟨r, hr0⟩ : ∃ r : Nat, Jn % 32 = r := ⟨_, rfl⟩
    have hpl : p < 32 := by omega
    have hpI : (p : Int) < 32 := by omega
    have hrl : r < 32 := by omega
    have hJp : (Jn : Int) / 32 = (p : Int) := by omega
    have hJr : (Jn : Int).tmod 32 = (r : Int) := by rw [Int.tmod_eq_emod_of_nonneg (by omega)]; omega
    have hwp : IntKind.i64.wrap (p : Int) = (p : Int) := wrap_i64_nat p (by omega)
    have hwr : IntKind.i64.wrap (r : Int) = (r : Int) := wrap_i64_nat r (by omega)
    have HLL : Hid ((L).length = 32) := HL32.out
    obtain ⟨x, hx⟩ : ∃ x, (L).getD p 0 = x := ⟨_, rfl⟩
    have HX : Hid ((L).getD p 0 = x) := hx
    have hx2 := HWL.out.at p
    rw [hx] at hx2
    obtain ⟨X, rfl⟩ := Int.eq_ofNat_of_zero_le hx2.1
    have hxl : X < 4294967296 := by omega
    obtain ⟨M, hM0⟩ : ∃ M : Int, ((2 ^ r : Nat) : Int) = M := ⟨_, rfl⟩
    have hM : IntKind.i64.wrap (2 ^ r) = M := by rw [IntWalk.i64_left, shl_pow r hrl, hM0]
    have HYY : Hid ((L).set p (bits .or .i64 (X : Int) M) = setL (L) Jn) := by
     show _ = _
     unfold setL
     rw [hp0, hr0, hx, Int.toNat_natCast, ← hM0, set_i64 X r hxl hrl]
    clear hp0 hr0 hx hx2 hxl hM0
    generalize (X : Int) = x at *
    go_upto_region 12 with fail
    try rw [hJ]
    go_cut [65] from 51 to 64 (fun s65 wx => IRow wx q c (setL L Jn) ∧ Kept q (q + 1) wr wx)
    case first =>
     rename_i J K' hRJ hMet
     generalize hA : Act.mk _ _ = A
     have a6' : A.eval (.tmp 6) = .pointer (some ⟨go, 0, none⟩) := by rw [← hA]; rfl
     have a10' : A.eval (.tmp 10) = .int .i64 (Jn : Int) := by rw [← hA]; rfl
     have asz : A.tmps.size = 73 := by rw [← hA]; rfl
     have hKO : ∀ wx, Below wr.heap.size wr wx → Blk wx go 39 [.int .i64 D.top, .slice (some ⟨q, 0, none⟩) 32 c] := fun wx hb => HKO.out.later hb
     have hRW : ∀ wx, Below wr.heap.size wr wx → IRow wx q c L := fun wx hb => HRW.out.later hb
     refine region_each (by kernel_rfl) DL2 15 (fun i => DL2.getD i 0) (fun _ => 0)
      (fun i gB v wx => match i with
       | 0 => v = .pointer (some ⟨go, 1, none⟩)
       | 1 => v = .slice (some ⟨q, 0, none⟩) 32 c
       | 2 => v = .int .i64 (Jn : Int)
       | 3 => v = .int .i64 (p : Int)
       | 4 => v = .pointer (some ⟨go, 1, none⟩)
       | 5 => v = .slice (some ⟨q, 0, none⟩) 32 c
       | 6 => v = .int .i64 (Jn : Int)
       | 7 => v = .int .i64 (p : Int)
       | 8 => v = .pointer (some ⟨q, p, none⟩)
       | 9 => v = .int .i64 x
       | 10 => v = .int .i64 (Jn : Int)
       | 11 => v = .int .i64 (r : Int)
       | 12 => v = .int .i64 M
       | 13 => v = .int .i64 (bits .or .i64 x M)
       | 14 => v = .pointer (some ⟨q, p, none⟩)
       | _ => False) (fun wx => Below wr.heap.size wr wx) (by kernel_rfl) (Below.refl _ _).drew ?_ ?_ ?_
     ·
      intro i gB v wx wy hi hF hb _
      match i, hi with
      | 0, _ => exact hF
      | 1, _ => exact hF
      | 2, _ => exact hF
      | 3, _ => exact hF
      | 4, _ => exact hF
      | 5, _ => exact hF
      | 6, _ => exact hF
      | 7, _ => exact hF
      | 8, _ => exact hF
      | 9, _ => exact hF
      | 10, _ => exact hF
      | 11, _ => exact hF
      | 12, _ => exact hF
      | 13, _ => exact hF
      | 14, _ => exact hF
     ·
      intro i hi t ρ wx hB hp hd
      match i, hi with
      | 0, _ =>
       have e6 : (fr DL2 A t).eval (.tmp 6) = .pointer (some ⟨go, 0, none⟩) := (fr_eval_old _ _ _ 6 rfl).trans a6'
       refine op_run (v := .pointer (some ⟨go, 1, none⟩)) (w' := wx) rfl rfl ?_ ?_
       ·
        clear hp hd; have ec : ∀ v, (fr DL2 A t).eval (.const v) = v := fun _ => rfl; generalize (fr DL2 A t).eval = ev at ec e6 ⊢; go_simp
       ·
        exact ⟨_, 0, rfl, hB, Below.refl _ _, rfl, .inl rfl⟩
      | 1, _ =>
       have e51 : (fr DL2 A t).eval (.tmp 51) = .pointer (some ⟨go, 1, none⟩) := (fr_eval _ _ _ 51 rfl (by rw [asz]; decide)).trans (hp 0 (pre_mem (by kernel_rfl)))
       have hc := (hKO wx hB).cell 1 rfl
       refine op_run (v := .slice (some ⟨q, 0, none⟩) 32 c) (w' := wx) rfl rfl ?_ ?_
       ·
        clear hp hd; have ec : ∀ v, (fr DL2 A t).eval (.const v) = v := fun _ => rfl; generalize (fr DL2 A t).eval = ev at ec e51 ⊢; go_simp
       ·
        exact ⟨_, 0, rfl, hB, Below.refl _ _, rfl, .inl rfl⟩
      | 2, _ =>
       have e10 : (fr DL2 A t).eval (.tmp 10) = .int .i64 (Jn : Int) := (fr_eval_old _ _ _ 10 rfl).trans a10'
       refine op_run (v := .int .i64 (Jn : Int)) (w' := wx) rfl rfl ?_ ?_
       ·
        clear hp hd; have ec : ∀ v, (fr DL2 A t).eval (.const v) = v := fun _ => rfl; generalize (fr DL2 A t).eval = ev at ec e10 ⊢; go_simp
       ·
        exact ⟨_, 0, rfl, hB, Below.refl _ _, rfl, .inl rfl⟩
      | 3, _ =>
       have e53 : (fr DL2 A t).eval (.tmp 53) = .int .i64 (Jn : Int) := (fr_eval _ _ _ 53 rfl (by rw [asz]; decide)).trans (hp 2 (pre_mem (by kernel_rfl)))
       refine op_run (v := .int .i64 (p : Int)) (w' := wx) rfl rfl ?_ ?_
       ·
        clear hp hd; have ec : ∀ v, (fr DL2 A t).eval (.const v) = v := fun _ => rfl; generalize (fr DL2 A t).eval = ev at ec e53 ⊢; go_simp
       ·
        exact ⟨_, 0, rfl, hB, Below.refl _ _, rfl, .inl rfl⟩
      | 4, _ =>
       have e6 : (fr DL2 A t).eval (.tmp 6) = .pointer (some ⟨go, 0, none⟩) := (fr_eval_old _ _ _ 6 rfl).trans a6'
       refine op_run (v := .pointer (some ⟨go, 1, none⟩)) (w' := wx) rfl rfl ?_ ?_
       ·
        clear hp hd; have ec : ∀ v, (fr DL2 A t).eval (.const v) = v := fun _ => rfl; generalize (fr DL2 A t).eval = ev at ec e6 ⊢; go_simp
       ·
        exact ⟨_, 0, rfl, hB, Below.refl _ _, rfl, .inl rfl⟩
      | 5, _ =>
       have e55 : (fr DL2 A t).eval (.tmp 55) = .pointer (some ⟨go, 1, none⟩) := (fr_eval _ _ _ 55 rfl (by rw [asz]; decide)).trans (hp 4 (pre_mem (by kernel_rfl)))
       have hc := (hKO wx hB).cell 1 rfl
       refine op_run (v := .slice (some ⟨q, 0, none⟩) 32 c) (w' := wx) rfl rfl ?_ ?_
       ·
        clear hp hd; have ec : ∀ v, (fr DL2 A t).eval (.const v) = v := fun _ => rfl; generalize (fr DL2 A t).eval = ev at ec e55 ⊢; go_simp
       ·
        exact ⟨_, 0, rfl, hB, Below.refl _ _, rfl, .inl rfl⟩
      | 6, _ =>
       have e10 : (fr DL2 A t).eval (.tmp 10) = .int .i64 (Jn : Int) := (fr_eval_old _ _ _ 10 rfl).trans a10'
       refine op_run (v := .int .i64 (Jn : Int)) (w' := wx) rfl rfl ?_ ?_
       ·
        clear hp hd; have ec : ∀ v, (fr DL2 A t).eval (.const v) = v := fun _ => rfl; generalize (fr DL2 A t).eval = ev at ec e10 ⊢; go_simp
       ·
        exact ⟨_, 0, rfl, hB, Below.refl _ _, rfl, .inl rfl⟩
      | 7, _ =>
       have e57 : (fr DL2 A t).eval (.tmp 57) = .int .i64 (Jn : Int) := (fr_eval _ _ _ 57 rfl (by rw [asz]; decide)).trans (hp 6 (pre_mem (by kernel_rfl)))
       refine op_run (v := .int .i64 (p : Int)) (w' := wx) rfl rfl ?_ ?_
       ·
        clear hp hd; have ec : ∀ v, (fr DL2 A t).eval (.const v) = v := fun _ => rfl; generalize (fr DL2 A t).eval = ev at ec e57 ⊢; go_simp
       ·
        exact ⟨_, 0, rfl, hB, Below.refl _ _, rfl, .inl rfl⟩
      | 8, _ =>
       have e56 : (fr DL2 A t).eval (.tmp 56) = .slice (some ⟨q, 0, none⟩) 32 c := (fr_eval _ _ _ 56 rfl (by rw [asz]; decide)).trans (hp 5 (pre_mem (by kernel_rfl)))
       have e58 : (fr DL2 A t).eval (.tmp 58) = .int .i64 (p : Int) := (fr_eval _ _ _ 58 rfl (by rw [asz]; decide)).trans (hp 7 (pre_mem (by kernel_rfl)))
       refine op_run (v := .pointer (some ⟨q, p, none⟩)) (w' := wx) rfl rfl ?_ ?_
       ·
        clear hp hd; have ec : ∀ v, (fr DL2 A t).eval (.const v) = v := fun _ => rfl; generalize (fr DL2 A t).eval = ev at ec e56 e58 ⊢; go_simp
       ·
        exact ⟨_, 0, rfl, hB, Below.refl _ _, rfl, .inl rfl⟩
      | 9, _ =>
       have e59 : (fr DL2 A t).eval (.tmp 59) = .pointer (some ⟨q, p, none⟩) := (fr_eval _ _ _ 59 rfl (by rw [asz]; decide)).trans (hp 8 (pre_mem (by kernel_rfl)))
       have hc : wx.cell? ⟨q, p, none⟩ = some (.int .i64 x) := by rw [(hRW wx hB).cell p (by rw [HLL.out]; exact hpl), HX.out]
       refine op_run (v := .int .i64 x) (w' := wx) rfl rfl ?_ ?_
       ·
        clear hp hd; have ec : ∀ v, (fr DL2 A t).eval (.const v) = v := fun _ => rfl; generalize (fr DL2 A t).eval = ev at ec e59 ⊢; go_simp
       ·
        exact ⟨_, 0, rfl, hB, Below.refl _ _, rfl, .inl rfl⟩
      | 10, _ =>
       have e10 : (fr DL2 A t).eval (.tmp 10) = .int .i64 (Jn : Int) := (fr_eval_old _ _ _ 10 rfl).trans a10'
       refine op_run (v := .int .i64 (Jn : Int)) (w' := wx) rfl rfl ?_ ?_
       ·
        clear hp hd; have ec : ∀ v, (fr DL2 A t).eval (.const v) = v := fun _ => rfl; generalize (fr DL2 A t).eval = ev at ec e10 ⊢; go_simp
       ·
        exact ⟨_, 0, rfl, hB, Below.refl _ _, rfl, .inl rfl⟩
      | 11, _ =>
       have e61 : (fr DL2 A t).eval (.tmp 61) = .int .i64 (Jn : Int) := (fr_eval _ _ _ 61 rfl (by rw [asz]; decide)).trans (hp 10 (pre_mem (by kernel_rfl)))
       refine op_run (v := .int .i64 (r : Int)) (w' := wx) rfl rfl ?_ ?_
       ·
        clear hp hd; have ec : ∀ v, (fr DL2 A t).eval (.const v) = v := fun _ => rfl; generalize (fr DL2 A t).eval = ev at ec e61 ⊢; go_simp
       ·
        exact ⟨_, 0, rfl, hB, Below.refl _ _, rfl, .inl rfl⟩
      | 12, _ =>
       have e62 : (fr DL2 A t).eval (.tmp 62) = .int .i64 (r : Int) := (fr_eval _ _ _ 62 rfl (by rw [asz]; decide)).trans (hp 11 (pre_mem (by kernel_rfl)))
       refine op_run (v := .int .i64 M) (w' := wx) rfl rfl ?_ ?_
       ·
        clear hp hd; have ec : ∀ v, (fr DL2 A t).eval (.const v) = v := fun _ => rfl; generalize (fr DL2 A t).eval = ev at ec e62 ⊢; go_simp
       ·
        exact ⟨_, 0, rfl, hB, Below.refl _ _, rfl, .inl rfl⟩
      | 13, _ =>
       have e60 : (fr DL2 A t).eval (.tmp 60) = .int .i64 x := (fr_eval _ _ _ 60 rfl (by rw [asz]; decide)).trans (hp 9 (pre_mem (by kernel_rfl)))
       have e63 : (fr DL2 A t).eval (.tmp 63) = .int .i64 M := (fr_eval _ _ _ 63 rfl (by rw [asz]; decide)).trans (hp 12 (pre_mem (by kernel_rfl)))
       refine op_run (v := .int .i64 (bits .or .i64 x M)) (w' := wx) rfl rfl ?_ ?_
       ·
        clear hp hd; have ec : ∀ v, (fr DL2 A t).eval (.const v) = v := fun _ => rfl; generalize (fr DL2 A t).eval = ev at ec e60 e63 ⊢; go_simp
       ·
        exact ⟨_, 0, rfl, hB, Below.refl _ _, rfl, .inl rfl⟩
      | 14, _ =>
       have e52 : (fr DL2 A t).eval (.tmp 52) = .slice (some ⟨q, 0, none⟩) 32 c := (fr_eval _ _ _ 52 rfl (by rw [asz]; decide)).trans (hp 1 (pre_mem (by kernel_rfl)))
       have e54 : (fr DL2 A t).eval (.tmp 54) = .int .i64 (p : Int) := (fr_eval _ _ _ 54 rfl (by rw [asz]; decide)).trans (hp 3 (pre_mem (by kernel_rfl)))
       refine op_run (v := .pointer (some ⟨q, p, none⟩)) (w' := wx) rfl rfl ?_ ?_
       ·
        clear hp hd; have ec : ∀ v, (fr DL2 A t).eval (.const v) = v := fun _ => rfl; generalize (fr DL2 A t).eval = ev at ec e52 e54 ⊢; go_simp
       ·
        exact ⟨_, 0, rfl, hB, Below.refl _ _, rfl, .inl rfl⟩
     ·
      intro t ρ wx hB hF hne
      have e65 : (fr DL2 A t).eval (.tmp 65) = .pointer (some ⟨q, p, none⟩) := (fr_eval _ _ _ 65 rfl (by rw [asz]; decide)).trans (hF 14 (by decide))
      have e64 : (fr DL2 A t).eval (.tmp 64) = .int .i64 (bits .or .i64 x M) := (fr_eval _ _ _ 64 rfl (by rw [asz]; decide)).trans (hF 13 (by decide))
      clear hne
      have q0 : ∃ v, wx.cell? ⟨q, p, none⟩ = some v := ⟨_, (hRW wx hB).cell p (by rw [HLL.out]; exact hpl)⟩
      obtain ⟨v0, q0⟩ := q0
      have f0 : wx.frozen? ⟨q, p, none⟩ = false := ((hRW wx hB).owns (Nat.le_refl _)).frozenAt p
      have rW : Hid (IRow wx q c L) := hRW wx hB
      refine op_wp rfl rfl ?_
      clear hF hKO hRW
      generalize hE : (fr DL2 A t).eval = ev at e65 e64
      unfold Oper.wp
      rw [hE]
      go_simp
      refine hMet _ _ (Met.intro (hRJ _ _ ⟨t 51, t 52, t 53, t 54, t 55, t 56, t 57, t 58, t 59, t 60, t 61, t 62, t 63, t 64, t 65, ⟨by rw [← HYY.out]; exact irow_set rW.out p _, (Kept.of_below hB 0).any.trans (Kept.setCell _ _ _ _)⟩, ?_⟩))
      rw [← hA]; rfl
    case rest =>
     obtain ⟨r2, k2⟩ := hcut
     have HR2 : Hid (IRow wc q c (addL D.top D.bits N)) := by show IRow _ _ _ _; rw [HC.out]; exact r2
     have HK2 := hid (HKP.out.trans k2)
     have KA4 := hid (KA3.out.keep (HK2.out.block _ KA3.out.lt (by have := HQ.out; omega)))
     have KR4 := hid (KR3.out.keep (HK2.out.block _ KR3.out.lt (by have := HQ.out; omega)))
     have KO4 := hid (KO3.out.keep (HK2.out.block _ KO3.out.lt (by have := HQ.out; omega)))
     have B4 := hid (B3.out.trans (HK2.out.below (by have := HQ.out; omega) B3.out.size))
     have HLA : Hid ((addL D.top D.bits N).length = 32) := by show _ = _; rw [addL_length, HOK.out.len]
     have HAD : Hid (addD D (N : Int) = ⟨max D.top N, addL D.top D.bits N⟩) := by show _ = _; rw [add_yes HMT.out, Int.toNat_natCast]
     clear r2 k2 HRW HKP HKO HKA hJ hJp hJr hwp hwr hM HX HYY HK2 KA3 KR3 KO3 R3 B3 HC HL32 HWL HLL
     have c0 := KA4.out.cell 0 rfl
     have q0 := KR4.out.cell 0 rfl
     have q1 := KR4.out.cell 1 rfl
     have f0 := KR4.out.frozen 0
     have f1 := KR4.out.frozen 1
     have o0 := KO4.out.cell 0 rfl
     have o1 := KO4.out.cell 1 rfl
     have p0 := KO4.out.frozen 0
     by_cases hgt : (N : Int) > D.top
     ·
      have HMX : Hid (max D.top (N : Int) = N) := by show _ = _; omega
      obtain ⟨w5, hw5⟩ : ∃ w5, wc.setCell ⟨go, 0, none⟩ (.int .i64 (N : Int)) = w5 := ⟨_, rfl⟩
      have HW5 : Hid (_ = w5) := hw5
      have KR5 : Hid (Blk w5 (w.heap.size + 1) 39 [.int .i64 0, .slice none 0 0]) := by rw [← hw5]; exact KR4.out.other (by show w.heap.size + 1 ≠ go; have := HQ.out; omega) _
      have KO5 : Hid (Blk w5 go 39 [.int .i64 (N : Int), .slice (some ⟨q, 0, none⟩) 32 c]) := by rw [← hw5]; exact KO4.out.set 0 _ (by simp [maxLen])
      have OD : Hid (WnOwn w5 (w.heap.size + 2) (q + 1) ⟨⟨some ⟨q, 0, none⟩, 32, c⟩⟩ ⟨N, addL D.top D.bits N⟩) := ⟨ISOwn.row (by rw [← hw5]; exact HR2.out.keep (Below.heap_setCell _ _ _ _ (by show q ≠ go; have := HQ.out; omega))) HLA.out.symm (by have := HQ.out; omega) (Nat.lt_succ_self _), ⟨⟩⟩
      have B5 : Hid (Below w.heap.size w w5) := by rw [← hw5]; exact B4.out.setCell (by show _ ≤ go; have := HQ.out; omega) _
      have HS5 : Hid (q + 1 ≤ w5.heap.size) := by show _ ≤ _; have := KO5.out.lt; have := HQ.out; omega
      clear hw5
      go_upto_region 15 with fail
      rw [HW5.out]
      clear HW5 c0 q0 q1 f0 f1 o0 o1 p0 KA4 KR4 KO4 hgt
      have q0 := KR5.out.cell 0 rfl
      have q1 := KR5.out.cell 1 rfl
      have f0 := KR5.out.frozen 0
      have f1 := KR5.out.frozen 1
      have o0 := KO5.out.cell 0 rfl
      have o1 := KO5.out.cell 1 rfl
      go_wp2
      obtain ⟨k6, o6, b6⟩ := WnK.stored KR5.out OD.out (Nat.le_refl _)
      exact bodyPost_ret (v := .tuple #[wnV ⟨N, addL D.top D.bits N⟩ ⟨⟨some ⟨q, 0, none⟩, 32, c⟩⟩, .bool true]) (res2 rfl (is_cell rfl k6 aggWn) (is_tmp rfl)) rfl ⟨⟨⟨some ⟨q, 0, none⟩, 32, c⟩⟩, by rw [HAD.out, HMX.out, HMT.out], by rw [HAD.out, HMX.out]; exact o6.mono (by omega) (by rw [size2]; exact HS5.out), b6 _ _ (Nat.le_succ _) B5.out⟩
     ·
      have HMX : Hid (max D.top (N : Int) = D.top) := by show _ = _; omega
      have OD : Hid (WnOwn wc (w.heap.size + 2) (q + 1) ⟨⟨some ⟨q, 0, none⟩, 32, c⟩⟩ ⟨D.top, addL D.top D.bits N⟩) := ⟨ISOwn.row HR2.out HLA.out.symm (by have := HQ.out; omega) (Nat.lt_succ_self _), ⟨⟩⟩
      have HS5 : Hid (q + 1 ≤ wc.heap.size) := by show _ ≤ _; have := KO4.out.lt; have := HQ.out; omega
      go_wp2
      obtain ⟨k6, o6, b6⟩ := WnK.stored KR4.out OD.out (Nat.le_refl _)
      exact bodyPost_ret (v := .tuple #[wnV ⟨D.top, addL D.top D.bits N⟩ ⟨⟨some ⟨q, 0, none⟩, 32, c⟩⟩, .bool true]) (res2 rfl (is_cell rfl k6 aggWn) (is_tmp rfl)) rfl ⟨⟨⟨some ⟨q, 0, none⟩, 32, c⟩⟩, by rw [HAD.out, HMX.out, HMT.out], by rw [HAD.out, HMX.out]; exact o6.mono (by omega) (by rw [size2]; exact HS5.out), b6 _ _ (Nat.le_succ _) B4.out⟩

end Go.Proofs.YtmcflfpckpjphaaGreatDoor.WnU
