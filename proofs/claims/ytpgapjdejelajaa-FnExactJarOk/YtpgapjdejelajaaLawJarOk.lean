/-
  The walk of the law FnExactJarOk: at every argument it answers true, and nothing that was there is written.
-/
import Derived.Test.YtpgapjdejelajaaCkI
import Derived.Test.YtpgapjdejelajaaCkS
import Derived.Test.YtpgapjdejelajaaShp
import Derived.Test.YtpgapjdejelajaaOps
import Derived.Test.YtpgapjdejelajaaJaL
namespace Go.Proofs.Ytpgapjdejelajaa.LawJarOk
open Go.RowKit Go.Proofs.Ytpgapjdejelajaa.Mem Go.Proofs.Ytpgapjdejelajaa.Blk Go.Proofs.Ytpgapjdejelajaa.Zone Go.Proofs.Ytpgapjdejelajaa.ZoneB Go.Proofs.Ytpgapjdejelajaa.ZoneI Go.Proofs.Ytpgapjdejelajaa.MemI Go.Proofs.Ytpgapjdejelajaa.Each Go.Proofs.Ytpgapjdejelajaa.Copy Go.Proofs.Ytpgapjdejelajaa.Ops Go.Proofs.Ytpgapjdejelajaa.Shp Go.Proofs.Ytpgapjdejelajaa.App Go.Proofs.Ytpgapjdejelajaa.JaZ Go.Proofs.Ytpgapjdejelajaa.JaL Go.Proofs.Ytpgapjdejelajaa.CkP

set_option maxRecDepth 100000 in
set_option maxHeartbeats 8000000 in
theorem walk (D0 : JaD) (S0 : JaS) (w : World)  (h0 : JaRd w S0 D0) (m0 : JaSmall S0) :
    Calls Try.prog 3 #[jaV D0 S0] w fun e w' => e = .returned (.bool true) ∧ Below w.heap.size w w' := by
  obtain ⟨R0, hR0⟩ : ∃ R : Bool, jarOk D0 = R := ⟨_, rfl⟩
  have HRD0 : Hid (jarOk D0 = R0) := hR0
  clear hR0
  have hvv0 : (R0 != R0) = false := by simp
  have HR0 : Hid (JaRd w S0 D0) := h0
  have HM0 : Hid (JaSmall S0) := m0
  clear h0 m0
  obtain ⟨x1, hx1⟩ : ∃ x1, w.alloc (.cells #[.slice S0.secret.a S0.secret.n S0.secret.c] 24) = x1 := ⟨_, rfl⟩
  have HW0 : Hid (w.alloc (.cells #[.slice S0.secret.a S0.secret.n S0.secret.c] 24) = x1) := hx1
  have b1 : Below w.heap.size w x1 := by rw [← hx1]; exact (Below.refl _ _).alloc (Nat.le_refl _) _
  have KN0 : Blk x1 (w.heap.size) 24 [.slice S0.secret.a S0.secret.n S0.secret.c] := by
    have q := Blk.new (w) 24 [.slice S0.secret.a S0.secret.n S0.secret.c]
    rw [← hx1]; exact q
  have SZ1 : x1.heap.size = w.heap.size + 1 := by rw [← hx1]; simp
  clear hx1
  have L1 : Hid (w.heap.size ≤ x1.heap.size) := b1.size
  have B1 : Hid (Below w.heap.size w x1) := b1
  clear b1
  unfold jaV
  go_enter Try.func3, Try.ntmps3
  go_upto_region 1 with fail
  rw [HW0.out]
  obtain ⟨ga0, hga0⟩ : ∃ g, w.heap.size = g := ⟨_, rfl⟩
  have Gga : Hid (w.heap.size + 0 = ga0 ∧ x1.heap.size = w.heap.size + 1) := ⟨by omega, SZ1⟩
  rw [hga0] at KN0
  rw [hga0]
  clear HW0 SZ1 hga0
  have KA0_1 : Hid (Blk x1 ga0 24 [.slice S0.secret.a S0.secret.n S0.secret.c]) := KN0
  clear KN0
  have c0 := KA0_1.out.cell 0 rfl
  go_wp2_with fail
  refine (szJar S0 D0 (1048576 : Int) x1 HM0.out (by omega) (by omega)).mono ?_
  rintro e x2 ⟨rfl, b2⟩
  clear c0
  have L2 : Hid (x1.heap.size ≤ x2.heap.size) := b2.size
  have B2 : Hid (Below w.heap.size w x2) := B1.out.trans (b2.mono B1.out.size)
  have KA0_2 : Hid (Blk x2 ga0 24 [.slice S0.secret.a S0.secret.n S0.secret.c]) := KA0_1.out.later b2
  clear b2 B1 KA0_1
  by_cases hsum0 : (1048576 : Int) - (jaSum S0 : Int) < 0
  · rw [if_pos hsum0]
    go_wp2
    go_ret
    exact ⟨rfl, B2.out⟩
  rw [if_neg hsum0]
  have HL0 : Hid (JaShort D0 1048576) := ja_short_of HR0.out (by omega)
  have HLL0 : Hid (JaShort D0 4194304) := ja_short_le HL0.out (by omega)
  have c0 := KA0_2.out.cell 0 rfl
  go_wp2_with fail
  refine (toJar S0 D0 x2 (HR0.out.later B2.out) HLL0.out).mono ?_
  rintro e x3 ⟨Sp0, rfl, o, b3⟩
  clear c0
  have L3 : Hid (x2.heap.size ≤ x3.heap.size) := b3.size
  have B3 : Hid (Below w.heap.size w x3) := B2.out.trans (b3.mono B2.out.size)
  have KA0_3 : Hid (Blk x3 ga0 24 [.slice S0.secret.a S0.secret.n S0.secret.c]) := KA0_2.out.later b3
  clear b3 B2 KA0_2
  have Op0_3 : Hid (JaOwn x3 x2.heap.size x3.heap.size Sp0 D0) := o
  clear o
  go_wp2_with fail
  refine (CkS.specJarOk Sp0 D0 x3 Op0_3.out.rd).mono ?_
  rw [HRD0.out]
  rintro e x4 ⟨rfl, b⟩
  have L4 : Hid (x3.heap.size ≤ x4.heap.size) := b.size
  have B4 : Hid (Below w.heap.size w x4) := B3.out.trans (b.mono B3.out.size)
  have KA0_4 : Hid (Blk x4 ga0 24 [.slice S0.secret.a S0.secret.n S0.secret.c]) := KA0_3.out.later b
  have Op0_4 : Hid (JaOwn x4 x2.heap.size x3.heap.size Sp0 D0) := Op0_3.out.later b
  clear b B3 KA0_3 Op0_3
  go_upto_region 6 with fail
  clear Op0_4
  have c0 := KA0_4.out.cell 0 rfl
  go_wp2_with fail
  refine (toJar S0 D0 x4 (HR0.out.later B4.out) HLL0.out).mono ?_
  rintro e x5 ⟨Sx0, rfl, o, b5⟩
  clear c0
  have L5 : Hid (x4.heap.size ≤ x5.heap.size) := b5.size
  have B5 : Hid (Below w.heap.size w x5) := B4.out.trans (b5.mono B4.out.size)
  have KA0_5 : Hid (Blk x5 ga0 24 [.slice S0.secret.a S0.secret.n S0.secret.c]) := KA0_4.out.later b5
  clear b5 B4 KA0_4
  have Ox0_5 : Hid (JaOwn x5 x4.heap.size x5.heap.size Sx0 D0) := o
  clear o
  obtain ⟨x6, hx6⟩ : ∃ x6, x5.alloc (.cells #[.slice Sx0.secret.a Sx0.secret.n Sx0.secret.c] 27) = x6 := ⟨_, rfl⟩
  have HW6 : Hid (x5.alloc (.cells #[.slice Sx0.secret.a Sx0.secret.n Sx0.secret.c] 27) = x6) := hx6
  have b6 : Below x5.heap.size x5 x6 := by rw [← hx6]; exact (Below.refl _ _).alloc (Nat.le_refl _) _
  have KN : Blk x6 x5.heap.size 27 [.slice Sx0.secret.a Sx0.secret.n Sx0.secret.c] := by rw [← hx6]; exact Blk.new x5 _ _
  have HSZ6 : Hid (x6.heap.size = x5.heap.size + 1) := by rw [← hx6]; show _ = _; simp
  clear hx6
  have L6 : Hid (x5.heap.size ≤ x6.heap.size) := b6.size
  have B6 : Hid (Below w.heap.size w x6) := B5.out.trans (b6.mono B5.out.size)
  have KA0_6 : Hid (Blk x6 ga0 24 [.slice S0.secret.a S0.secret.n S0.secret.c]) := KA0_5.out.later b6
  have Ox0_6 : Hid (JaOwn x6 x4.heap.size x5.heap.size Sx0 D0) := Ox0_5.out.later b6
  clear b6 B5 KA0_5 Ox0_5
  unfold jaV
  go_upto_region 7 with fail
  rw [HW6.out]
  obtain ⟨gx0, hgx0⟩ : ∃ gx0, x5.heap.size = gx0 := ⟨_, rfl⟩
  have Ggx0 : Hid (x5.heap.size = gx0 ∧ x6.heap.size = gx0 + 1) := ⟨hgx0, by rw [← hgx0]; exact HSZ6.out⟩
  rw [hgx0] at KN ⊢
  clear HW6 HSZ6 hgx0
  have Kx0_6 : Hid (Blk x6 gx0 27 [.slice Sx0.secret.a Sx0.secret.n Sx0.secret.c]) := KN
  clear KN
  have cx0_0 := Kx0_6.out.cell 0 rfl
  go_wp2_with fail
  refine (CkI.implJarOk Sx0 D0 x6 Ox0_6.out.rd).mono ?_
  rw [HRD0.out]
  rintro e x7 ⟨rfl, b⟩
  clear cx0_0
  have L7 : Hid (x6.heap.size ≤ x7.heap.size) := b.size
  have B7 : Hid (Below w.heap.size w x7) := B6.out.trans (b.mono B6.out.size)
  have KA0_7 : Hid (Blk x7 ga0 24 [.slice S0.secret.a S0.secret.n S0.secret.c]) := KA0_6.out.later b
  have Ox0_7 : Hid (JaOwn x7 x4.heap.size x5.heap.size Sx0 D0) := Ox0_6.out.later b
  have Kx0_7 : Hid (Blk x7 gx0 27 [.slice Sx0.secret.a Sx0.secret.n Sx0.secret.c]) := Kx0_6.out.later b
  clear b B6 KA0_6 Ox0_6 Kx0_6
  go_upto_region 8 with fail
  go_upto_region 10 with fail
  go_cut [26] from 22 to 25 (fun sv wx => sv = .bool false ∧ Below x7.heap.size x7 wx)
  case first =>
    rename_i J K' hRJ hMet
    generalize hA : Act.mk _ _ = A
    have a1' : A.eval (.tmp 1) = .pointer (some ⟨ga0, 0, none⟩) := by rw [← hA]; rfl
    have a5' : A.eval (.tmp 5) = .pointer (some ⟨gx0, 0, none⟩) := by rw [← hA]; rfl
    have asz : A.tmps.size = 27 := by rw [← hA]; rfl
    have hKA : ∀ wx, Below x7.heap.size x7 wx → Blk wx ga0 24 [.slice S0.secret.a S0.secret.n S0.secret.c] := fun wx hb => KA0_7.out.later hb
    have hKB : ∀ wx, Below x7.heap.size x7 wx → Blk wx gx0 27 [.slice Sx0.secret.a Sx0.secret.n Sx0.secret.c] := fun wx hb => Kx0_7.out.later hb
    have hRS : ∀ wx, Below x7.heap.size x7 wx → JaRd wx S0 D0 := fun wx hb => HR0.out.later (B7.out.trans (hb.mono B7.out.size))
    have hRT : ∀ wx, Below x7.heap.size x7 wx → JaRd wx Sx0 D0 := fun wx hb => (Ox0_7.out.later hb).rd
    refine region_each (by kernel_rfl) [22, 23, 24, 25] 4 (fun i => [22, 23, 24, 25].getD i 0) (fun _ => 0)
      (fun i gB v wx => match i with
        | 0 => v = .agg #[.slice Sx0.secret.a Sx0.secret.n Sx0.secret.c]
        | 1 => v = .agg #[.slice S0.secret.a S0.secret.n S0.secret.c]
        | 2 => ∃ S3, v = jaV D0 S3 ∧ JaRd wx S3 D0
        | 3 => v = .bool true
        | _ => False) (fun wx => Below x7.heap.size x7 wx) (by kernel_rfl) (Below.refl _ _).drew ?_ ?_ ?_
    · intro i gB v wx wy hi hF hb _
      match i, hi with
      | 0, _ => exact hF
      | 1, _ => exact hF
      | 2, _ => obtain ⟨S3, h0, h1⟩ := hF; exact ⟨S3, h0, h1.later hb⟩
      | 3, _ => exact hF
    · intro i hi t ρ wx hB hp hd
      match i, hi with
      | 0, _ =>
        have e5 : (fr [22, 23, 24, 25] A t).eval (.tmp 5) = .pointer (some ⟨gx0, 0, none⟩) := (fr_eval_old _ _ _ 5 rfl).trans a5'
        have hc0 := (hKB wx hB).cell 0 rfl
        refine op_run (v := .agg #[.slice Sx0.secret.a Sx0.secret.n Sx0.secret.c]) (w' := wx) rfl rfl ?_ ?_
        · clear hp hd; have ec : ∀ v, (fr [22, 23, 24, 25] A t).eval (.const v) = v := fun _ => rfl; generalize (fr [22, 23, 24, 25] A t).eval = ev at ec e5 ⊢; go_simp
        · exact ⟨_, 0, rfl, hB, Below.refl _ _, rfl, .inl rfl⟩
      | 1, _ =>
        have e1 : (fr [22, 23, 24, 25] A t).eval (.tmp 1) = .pointer (some ⟨ga0, 0, none⟩) := (fr_eval_old _ _ _ 1 rfl).trans a1'
        have hc0 := (hKA wx hB).cell 0 rfl
        refine op_run (v := .agg #[.slice S0.secret.a S0.secret.n S0.secret.c]) (w' := wx) rfl rfl ?_ ?_
        · clear hp hd; have ec : ∀ v, (fr [22, 23, 24, 25] A t).eval (.const v) = v := fun _ => rfl; generalize (fr [22, 23, 24, 25] A t).eval = ev at ec e1 ⊢; go_simp
        · exact ⟨_, 0, rfl, hB, Below.refl _ _, rfl, .inl rfl⟩
      | 2, _ =>
        have e23 : (fr [22, 23, 24, 25] A t).eval (.tmp 23) = .agg #[.slice S0.secret.a S0.secret.n S0.secret.c] := (fr_eval _ _ _ 23 rfl (by rw [asz]; decide)).trans (hp 1 (pre_mem (by kernel_rfl)))
        refine op_call (f := 8) (args := #[.agg #[.slice S0.secret.a S0.secret.n S0.secret.c]]) rfl rfl ?_ (toJar S0 D0 wx (hRS wx hB) HLL0.out) ?_
        · have ef : (fr [22, 23, 24, 25] A t).eval (.func 8) = .func (.func 8) #[] #[] := rfl; clear hp hd; have ec : ∀ v, (fr [22, 23, 24, 25] A t).eval (.const v) = v := fun _ => rfl; generalize (fr [22, 23, 24, 25] A t).eval = ev at ec e23 ef ⊢; go_simp
        · rintro e wy ⟨S3, rfl, o3, b1⟩
          exact ⟨_, rfl, _, wx.heap.size, rfl, hB.trans (b1.mono hB.size), b1, ⟨S3, rfl, o3.rd⟩, .inl rfl⟩
      | 3, _ =>
        have e22 : (fr [22, 23, 24, 25] A t).eval (.tmp 22) = .agg #[.slice Sx0.secret.a Sx0.secret.n Sx0.secret.c] := (fr_eval _ _ _ 22 rfl (by rw [asz]; decide)).trans (hp 0 (pre_mem (by kernel_rfl)))
        obtain ⟨S32, hv2, q2_0⟩ := hp 2 (pre_mem (by kernel_rfl))
        have e24 : (fr [22, 23, 24, 25] A t).eval (.tmp 24) = jaV D0 S32 := (fr_eval _ _ _ 24 rfl (by rw [asz]; decide)).trans hv2
        refine op_call (f := 10) (args := #[.agg #[.slice Sx0.secret.a Sx0.secret.n Sx0.secret.c], jaV D0 S32]) rfl rfl ?_ (eqJar Sx0 S32 D0 wx (hRT wx hB) q2_0 HLL0.out) ?_
        · have ef : (fr [22, 23, 24, 25] A t).eval (.func 10) = .func (.func 10) #[] #[] := rfl; clear hp hd q2_0; have ec : ∀ v, (fr [22, 23, 24, 25] A t).eval (.const v) = v := fun _ => rfl; generalize (fr [22, 23, 24, 25] A t).eval = ev at ec e22 e24 ef ⊢; go_simp
        · rintro e wy ⟨rfl, b1⟩
          exact ⟨_, rfl, _, wx.heap.size, rfl, hB.trans (b1.mono hB.size), b1, rfl, .inl rfl⟩
    · intro t ρ wx hB hF hne
      have hv3 := hF 3 (by decide)
      have e25 : (fr [22, 23, 24, 25] A t).eval (.tmp 25) = .bool true := (fr_eval _ _ _ 25 rfl (by rw [asz]; decide)).trans hv3
      clear hne
      refine op_wp rfl rfl ?_
      generalize hE : (fr [22, 23, 24, 25] A t).eval = ev at e25
      unfold Oper.wp
      rw [hE]
      clear hv3
      go_simp
      refine hMet _ _ (Met.intro (hRJ _ _ ⟨t 22, t 23, t 24, t 25, _, ⟨rfl, hB⟩, ?_⟩))
      rw [← hA]; rfl
  case rest =>
  obtain ⟨x8, hq8⟩ : ∃ x8, x8 = wc := ⟨_, rfl⟩
  subst hq8
  obtain ⟨rfl, b8⟩ := hcut
  have L8 : Hid (x7.heap.size ≤ x8.heap.size) := b8.size
  have B8 : Hid (Below w.heap.size w x8) := B7.out.trans (b8.mono B7.out.size)
  have KA0_8 : Hid (Blk x8 ga0 24 [.slice S0.secret.a S0.secret.n S0.secret.c]) := KA0_7.out.later b8
  have Ox0_8 : Hid (JaOwn x8 x4.heap.size x5.heap.size Sx0 D0) := Ox0_7.out.later b8
  have Kx0_8 : Hid (Blk x8 gx0 27 [.slice Sx0.secret.a Sx0.secret.n Sx0.secret.c]) := Kx0_7.out.later b8
  clear b8 B7 KA0_7 Ox0_7 Kx0_7
  go_wp2
  go_ret
  exact ⟨rfl, B8.out⟩
end Go.Proofs.Ytpgapjdejelajaa.LawJarOk
