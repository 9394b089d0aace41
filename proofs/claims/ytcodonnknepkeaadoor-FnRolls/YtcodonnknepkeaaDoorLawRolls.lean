/-
  The walk of the law FnRolls: at every code dice that are wound back roll the same again, and each roll is one further on; where the table of round words is as the text lays it.
-/
import Derived.Test.YtcodonnknepkeaaDoorDrDi
import Derived.Test.YtcodonnknepkeaaDoorDiJ
import Derived.Test.YtcodonnknepkeaaDoorDiS
import Derived.Test.YtcodonnknepkeaaDoorSameV
import Derived.Test.YtcodonnknepkeaaDoorDig2
namespace Go.Proofs.YtcodonnknepkeaaDoor.LawRolls
open Go.RowKit Go.Proofs.YtcodonnknepkeaaDoor.Mem Go.Proofs.YtcodonnknepkeaaDoor.App Go.Proofs.YtcodonnknepkeaaDoor.Blk Go.Proofs.YtcodonnknepkeaaDoor.Draw Go.Proofs.YtcodonnknepkeaaDoor.Zone Go.Proofs.YtcodonnknepkeaaDoor.Res Go.Proofs.YtcodonnknepkeaaDoor.Comp Go.Proofs.YtcodonnknepkeaaDoor.DiZ Go.Proofs.YtcodonnknepkeaaDoor.DiL Go.Proofs.YtcodonnknepkeaaDoor.DiP Go.Proofs.YtcodonnknepkeaaDoor.DiQ Go.Proofs.YtcodonnknepkeaaDoor.DrDi Go.Proofs.YtcodonnknepkeaaDoor.Shp Go.Proofs.YtcodonnknepkeaaDoor.Each Go.Proofs.YtcodonnknepkeaaDoor.Copy Go.Proofs.YtcodonnknepkeaaDoor.Ops

set_option maxRecDepth 100000 in
theorem okI (S : DiS) (D : DiD) (v : Bool) (w : World) (h : DiRd w S D) (hv : diOk D = v) : Calls Tryd.prog 9 #[diV D S] w fun e w' => e = .returned (.bool v) ∧ Below w.heap.size w w' := by
  subst hv; exact DiI.implDiceOk S D w h
set_option maxRecDepth 100000 in
theorem okS (S : DiS) (D : DiD) (v : Bool) (w : World) (h : DiRd w S D) (hv : diOk D = v) : Calls Tryd.prog 10 #[diV D S] w fun e w' => e = .returned (.bool v) ∧ Below w.heap.size w w' := by
  subst hv; exact DiS.specDiceOk S D w h
set_option maxRecDepth 100000 in
theorem bigNo (a : Option Addr) (len cap : Nat) (w : World) (h : len ≤ 1048576) :
    Calls Tryd.prog 6 #[.slice a len cap] w fun e w' => e = .returned (.bool false) ∧ w = w' := by
  have h' : ¬ ((1048576 : Int) < (len : Int)) := by omega
  go_enter Tryd.func6, Tryd.ntmps6
  go_wp2
  go_ret
  exact ⟨rfl, rfl⟩
set_option maxRecDepth 100000 in
theorem bigYes (a : Option Addr) (len cap : Nat) (w : World) (h : 1048576 < len) :
    Calls Tryd.prog 6 #[.slice a len cap] w fun e w' => e = .returned (.bool true) ∧ w = w' := by
  have h' : (1048576 : Int) < (len : Int) := by omega
  go_enter Tryd.func6, Tryd.ntmps6
  go_wp2
  go_ret
  exact ⟨rfl, rfl⟩
set_option maxRecDepth 100000 in
set_option maxHeartbeats 16000000 in
theorem small (a : Option Addr) (len cap : Nat) (l : List Int) (w : World) (hT : Tab w) (hl : len = l.length) (hr : Rd w a l) (hb : Bytes l) (hlen : len ≤ 1048576) :
    Calls Tryd.prog 3 #[.slice a len cap] w fun e w' => e = .returned (.bool true) ∧ Below w.heap.size w w' := by
  have HR : Hid (Rd w a l) := hr
  have HL : Hid (len = l.length) := hl
  have HB : Hid (Bytes l) := hb
  clear hr hl hb
  have HT : Hid (Tab w) := hT
  clear hT
  have B0 : Hid (Below w.heap.size w w) := Below.refl _ _
  go_enter Tryd.func3, Tryd.ntmps3
  go_wp2_with fail
  refine (bigNo a len cap w hlen).mono ?_
  rintro e w0 ⟨rfl, rfl⟩
  go_wp2_with fail
  refine (drawRoll a len cap l w HL.out (HR.out.later B0.out (Nat.le_refl _)) HB.out hlen).mono ?_
  rintro e x1 ⟨D, S, rfl, sh, o, b⟩
  have L1 : Hid (w.heap.size ≤ x1.heap.size) := b.size
  have B1 : Hid (Below w.heap.size w x1) := B0.out.trans (b.mono B0.out.size)
  clear b B0
  have HSH : Hid (DiShort D 65536) := sh
  have HLL : Hid (D.seed.length ≤ 4194304) := by have := sh.seed; show _ ≤ _; omega
  clear sh
  have OD1 : Hid (DiRd x1 S D) := o
  clear o
  obtain ⟨x2, hx2⟩ : ∃ x2, x1.alloc (.cells #[.slice S.seed.a S.seed.n S.seed.c, .int .i64 D.num] 25) = x2 := ⟨_, rfl⟩
  have HW2 : Hid (x1.alloc (.cells #[.slice S.seed.a S.seed.n S.seed.c, .int .i64 D.num] 25) = x2) := hx2
  have b2 : Below x1.heap.size x1 x2 := by rw [← hx2]; exact (Below.refl _ _).alloc (Nat.le_refl _) _
  have KN : Blk x2 x1.heap.size 25 [.slice S.seed.a S.seed.n S.seed.c, .int .i64 D.num] := by rw [← hx2]; exact Blk.new x1 _ _
  have HSZ2 : Hid (x2.heap.size = x1.heap.size + 1) := by rw [← hx2]; show _ = _; simp
  clear hx2
  have L2 : Hid (x1.heap.size ≤ x2.heap.size) := b2.size
  have B2 : Hid (Below w.heap.size w x2) := B1.out.trans (b2.mono B1.out.size)
  have OD2 : Hid (DiRd x2 S D) := OD1.out.later b2
  clear b2 B1 OD1
  unfold diV
  go_upto_region 4 with fail
  rw [HW2.out]
  obtain ⟨gd, hgd⟩ : ∃ g, x1.heap.size = g := ⟨_, rfl⟩
  have Ggd : Hid (x1.heap.size = gd ∧ x2.heap.size = gd + 1) := ⟨hgd, by rw [← hgd]; exact HSZ2.out⟩
  rw [hgd] at KN ⊢
  clear HW2 HSZ2 hgd
  have KD2 : Hid (Blk x2 gd 25 [.slice S.seed.a S.seed.n S.seed.c, .int .i64 D.num]) := KN
  clear KN
  obtain ⟨X, hX⟩ : ∃ z : DiD, rollD D = z := ⟨_, rfl⟩
  have HX : Hid (rollD D = X) := hX
  clear hX
  obtain ⟨Q, hQ⟩ : ∃ z : List Int, rollL D = z := ⟨_, rfl⟩
  have HQ : Hid (rollL D = Q) := hQ
  clear hQ
  have d0 := KD2.out.cell 0 rfl
  have d1 := KD2.out.cell 1 rfl
  go_wp2_with fail
  refine (DiJ.implRoll S D x2 (HT.out.later B2.out) OD2.out HLL.out).mono ?_
  unfold AnsR
  rw [HX.out, HQ.out]
  rintro e x3 ⟨SX, SR, p0, p1, p2, p3, rfl, ox, oq, oz, b⟩
  have L3 : Hid (x2.heap.size ≤ x3.heap.size) := b.size
  have B3 : Hid (Below w.heap.size w x3) := B2.out.trans (b.mono B2.out.size)
  have OD3 : Hid (DiRd x3 S D) := OD2.out.later b
  have KD3 : Hid (Blk x3 gd 25 [.slice S.seed.a S.seed.n S.seed.c, .int .i64 D.num]) := KD2.out.later b
  clear b B2 OD2 KD2
  clear d0 d1
  have OX3 : Hid (DiRd x3 SX X) := ox.rd
  have OQ3 : Hid (SRd x3 SR Q) := oq.rd
  clear ox oq oz
  obtain ⟨x4, hx4⟩ : ∃ x4, x3.alloc (.cells #[.slice SX.seed.a SX.seed.n SX.seed.c, .int .i64 X.num] 25) = x4 := ⟨_, rfl⟩
  have HW4 : Hid (x3.alloc (.cells #[.slice SX.seed.a SX.seed.n SX.seed.c, .int .i64 X.num] 25) = x4) := hx4
  have b4 : Below x3.heap.size x3 x4 := by rw [← hx4]; exact (Below.refl _ _).alloc (Nat.le_refl _) _
  have KN : Blk x4 x3.heap.size 25 [.slice SX.seed.a SX.seed.n SX.seed.c, .int .i64 X.num] := by rw [← hx4]; exact Blk.new x3 _ _
  have HSZ4 : Hid (x4.heap.size = x3.heap.size + 1) := by rw [← hx4]; show _ = _; simp
  clear hx4
  have L4 : Hid (x3.heap.size ≤ x4.heap.size) := b4.size
  have B4 : Hid (Below w.heap.size w x4) := B3.out.trans (b4.mono B3.out.size)
  have OD4 : Hid (DiRd x4 S D) := OD3.out.later b4
  have KD4 : Hid (Blk x4 gd 25 [.slice S.seed.a S.seed.n S.seed.c, .int .i64 D.num]) := KD3.out.later b4
  have OX4 : Hid (DiRd x4 SX X) := OX3.out.later b4
  have OQ4 : Hid (SRd x4 SR Q) := OQ3.out.later b4
  clear b4 B3 OD3 KD3 OX3 OQ3
  unfold diV
  go_upto_region 5 with fail
  rw [HW4.out]
  obtain ⟨gx, hgx⟩ : ∃ g, x3.heap.size = g := ⟨_, rfl⟩
  have Ggx : Hid (x3.heap.size = gx ∧ x4.heap.size = gx + 1) := ⟨hgx, by rw [← hgx]; exact HSZ4.out⟩
  rw [hgx] at KN ⊢
  clear HW4 HSZ4 hgx
  have KX4 : Hid (Blk x4 gx 25 [.slice SX.seed.a SX.seed.n SX.seed.c, .int .i64 X.num]) := KN
  clear KN
  obtain ⟨vo, hv⟩ : ∃ v, diOk D = v := ⟨_, rfl⟩
  have HV : Hid (diOk D = vo) := hv
  clear hv
  have hvv : (vo != vo) = false := by simp
  go_cut [21] from 17 to 20 (fun sv wx => sv = .bool false ∧ Below x4.heap.size x4 wx)
  case first =>
    rename_i J K' hRJ hMet
    generalize hA : Act.mk _ _ = A
    have a3' : A.eval (.tmp 3) = .pointer (some ⟨gd, 0, none⟩) := by rw [← hA]; rfl
    have asz : A.tmps.size = 91 := by rw [← hA]; rfl
    have hKD : ∀ wx, Below x4.heap.size x4 wx → Blk wx gd 25 [.slice S.seed.a S.seed.n S.seed.c, .int .i64 D.num] := fun wx hb => KD4.out.later hb
    have hOD : ∀ wx, Below x4.heap.size x4 wx → DiRd wx S D := fun wx hb => OD4.out.later hb
    refine region_each (by kernel_rfl) [17, 18, 19, 20] 4 (fun i => [17, 18, 19, 20].getD i 0) (fun _ => 0)
      (fun i gB v wx => match i with
        | 0 => v = .agg #[.slice S.seed.a S.seed.n S.seed.c, .int .i64 D.num]
        | 1 => v = .bool vo
        | 2 => v = .agg #[.slice S.seed.a S.seed.n S.seed.c, .int .i64 D.num]
        | 3 => v = .bool vo
        | _ => False) (fun wx => Below x4.heap.size x4 wx) (by kernel_rfl) (Below.refl _ _).drew ?_ ?_ ?_
    · intro i gB v wx wy hi hF hb _
      match i, hi with
      | 0, _ => exact hF
      | 1, _ => exact hF
      | 2, _ => exact hF
      | 3, _ => exact hF
    · intro i hi t ρ wx hB hp hd
      match i, hi with
      | 0, _ =>
        have e3 : (fr [17, 18, 19, 20] A t).eval (.tmp 3) = .pointer (some ⟨gd, 0, none⟩) := (fr_eval_old _ _ _ 3 rfl).trans a3'
        have hc0 := (hKD wx hB).cell 0 rfl
        have hc1 := (hKD wx hB).cell 1 rfl
        refine op_run (v := .agg #[.slice S.seed.a S.seed.n S.seed.c, .int .i64 D.num]) (w' := wx) rfl rfl ?_ ?_
        · clear hp hd; have ec : ∀ v, (fr [17, 18, 19, 20] A t).eval (.const v) = v := fun _ => rfl; generalize (fr [17, 18, 19, 20] A t).eval = ev at ec e3 ⊢; go_simp
        · exact ⟨_, 0, rfl, hB, Below.refl _ _, rfl, .inl rfl⟩
      | 1, _ =>
        have e17 : (fr [17, 18, 19, 20] A t).eval (.tmp 17) = .agg #[.slice S.seed.a S.seed.n S.seed.c, .int .i64 D.num] := (fr_eval _ _ _ 17 rfl (by rw [asz]; decide)).trans (hp 0 (pre_mem (by kernel_rfl)))
        refine op_call (f := 9) (args := #[.agg #[.slice S.seed.a S.seed.n S.seed.c, .int .i64 D.num]]) rfl rfl ?_ (okI S D vo wx (hOD wx hB) HV.out) ?_
        · have ef : (fr [17, 18, 19, 20] A t).eval (.func 9) = .func (.func 9) #[] #[] := rfl; clear hp hd; have ec : ∀ v, (fr [17, 18, 19, 20] A t).eval (.const v) = v := fun _ => rfl; generalize (fr [17, 18, 19, 20] A t).eval = ev at ec e17 ef ⊢; go_simp
        · rintro e wy ⟨rfl, b1⟩
          exact ⟨_, rfl, _, 0, rfl, hB.trans (b1.mono hB.size), b1, rfl, .inl rfl⟩
      | 2, _ =>
        have e3 : (fr [17, 18, 19, 20] A t).eval (.tmp 3) = .pointer (some ⟨gd, 0, none⟩) := (fr_eval_old _ _ _ 3 rfl).trans a3'
        have hc0 := (hKD wx hB).cell 0 rfl
        have hc1 := (hKD wx hB).cell 1 rfl
        refine op_run (v := .agg #[.slice S.seed.a S.seed.n S.seed.c, .int .i64 D.num]) (w' := wx) rfl rfl ?_ ?_
        · clear hp hd; have ec : ∀ v, (fr [17, 18, 19, 20] A t).eval (.const v) = v := fun _ => rfl; generalize (fr [17, 18, 19, 20] A t).eval = ev at ec e3 ⊢; go_simp
        · exact ⟨_, 0, rfl, hB, Below.refl _ _, rfl, .inl rfl⟩
      | 3, _ =>
        have e19 : (fr [17, 18, 19, 20] A t).eval (.tmp 19) = .agg #[.slice S.seed.a S.seed.n S.seed.c, .int .i64 D.num] := (fr_eval _ _ _ 19 rfl (by rw [asz]; decide)).trans (hp 2 (pre_mem (by kernel_rfl)))
        refine op_call (f := 10) (args := #[.agg #[.slice S.seed.a S.seed.n S.seed.c, .int .i64 D.num]]) rfl rfl ?_ (okS S D vo wx (hOD wx hB) HV.out) ?_
        · have ef : (fr [17, 18, 19, 20] A t).eval (.func 10) = .func (.func 10) #[] #[] := rfl; clear hp hd; have ec : ∀ v, (fr [17, 18, 19, 20] A t).eval (.const v) = v := fun _ => rfl; generalize (fr [17, 18, 19, 20] A t).eval = ev at ec e19 ef ⊢; go_simp
        · rintro e wy ⟨rfl, b1⟩
          exact ⟨_, rfl, _, 0, rfl, hB.trans (b1.mono hB.size), b1, rfl, .inl rfl⟩
    · intro t ρ wx hB hF hne
      have hv1 := hF 1 (by decide)
      have e18 : (fr [17, 18, 19, 20] A t).eval (.tmp 18) = .bool vo := (fr_eval _ _ _ 18 rfl (by rw [asz]; decide)).trans hv1
      have hv3 := hF 3 (by decide)
      have e20 : (fr [17, 18, 19, 20] A t).eval (.tmp 20) = .bool vo := (fr_eval _ _ _ 20 rfl (by rw [asz]; decide)).trans hv3
      clear hne
      refine op_wp rfl rfl ?_
      generalize hE : (fr [17, 18, 19, 20] A t).eval = ev at e18 e20
      unfold Oper.wp
      rw [hE]
      go_simp
      refine hMet _ _ (Met.intro (hRJ _ _ ⟨t 17, t 18, t 19, t 20, ⟨_, ⟨rfl, hB⟩, ?_⟩⟩))
      rw [← hA]; rfl
  case rest =>
    obtain ⟨x5, hxc⟩ : ∃ zz, zz = wc := ⟨_, rfl⟩
    subst hxc
    obtain ⟨rfl, b⟩ := hcut
    clear hvv
    have L5 : Hid (x4.heap.size ≤ x5.heap.size) := b.size
    have B5 : Hid (Below w.heap.size w x5) := B4.out.trans (b.mono B4.out.size)
    have OD5 : Hid (DiRd x5 S D) := OD4.out.later b
    have KD5 : Hid (Blk x5 gd 25 [.slice S.seed.a S.seed.n S.seed.c, .int .i64 D.num]) := KD4.out.later b
    have OX5 : Hid (DiRd x5 SX X) := OX4.out.later b
    have OQ5 : Hid (SRd x5 SR Q) := OQ4.out.later b
    have KX5 : Hid (Blk x5 gx 25 [.slice SX.seed.a SX.seed.n SX.seed.c, .int .i64 X.num]) := KX4.out.later b
    clear b B4 OD4 KD4 OX4 OQ4 KX4
    have d0 := KD5.out.cell 0 rfl
    have d1 := KD5.out.cell 1 rfl
    go_wp2_with fail
    refine (okI S D vo x5 OD5.out HV.out).mono ?_
    rintro e x6 ⟨rfl, b⟩
    have L6 : Hid (x5.heap.size ≤ x6.heap.size) := b.size
    have B6 : Hid (Below w.heap.size w x6) := B5.out.trans (b.mono B5.out.size)
    have OD6 : Hid (DiRd x6 S D) := OD5.out.later b
    have KD6 : Hid (Blk x6 gd 25 [.slice S.seed.a S.seed.n S.seed.c, .int .i64 D.num]) := KD5.out.later b
    have OX6 : Hid (DiRd x6 SX X) := OX5.out.later b
    have OQ6 : Hid (SRd x6 SR Q) := OQ5.out.later b
    have KX6 : Hid (Blk x6 gx 25 [.slice SX.seed.a SX.seed.n SX.seed.c, .int .i64 X.num]) := KX5.out.later b
    clear b B5 OD5 KD5 OX5 OQ5 KX5
    clear d0 d1
    cases vo with
    | false =>
      have HNO : Hid (mayRoll D = false) := by show mayRoll D = false; unfold mayRoll; rw [HV.out]; rfl
      obtain rfl : [] = Q := by rw [← HQ.out]; exact (rollL_no HNO.out).symm
      obtain rfl : D = X := by rw [← HX.out]; exact (rollD_no HNO.out).symm
      have hr0 : ((SR.n : Int) == 0) = true := by have := OQ6.out.len; simp at this; simp [this]
      have hnn : (D.num == D.num) = true := by simp
      have d0 := KD6.out.cell 0 rfl
      have d1 := KD6.out.cell 1 rfl
      have f0 := KX6.out.cell 0 rfl
      have f1 := KX6.out.cell 1 rfl
      go_wp2_with fail
      refine (SameV.sameV SX.seed S.seed D.seed D.seed true x6 OX6.out.seed OD6.out.seed (decide_eq_true rfl)).mono ?_
      rintro e y ⟨rfl, rfl⟩
      go_wp2
      go_ret
      exact ⟨rfl, B6.out⟩
    | true =>
      have dn := KD6.out.cell 1 rfl
      cases h1 : (D.num == 10000) with
      | true =>
        have HN1 : Hid (D.num = 10000) := by show _ = _; simpa using h1
        have HNO : Hid (mayRoll D = false) := by show mayRoll D = false; unfold mayRoll; rw [HV.out, HN1.out]; rfl
        obtain rfl : [] = Q := by rw [← HQ.out]; exact (rollL_no HNO.out).symm
        obtain rfl : D = X := by rw [← HX.out]; exact (rollD_no HNO.out).symm
        have hr0 : ((SR.n : Int) == 0) = true := by have := OQ6.out.len; simp at this; simp [this]
        have hnn : (D.num == D.num) = true := by simp
        have d0 := KD6.out.cell 0 rfl
        have d1 := KD6.out.cell 1 rfl
        have f0 := KX6.out.cell 0 rfl
        have f1 := KX6.out.cell 1 rfl
        go_wp2_with fail
        refine (SameV.sameV SX.seed S.seed D.seed D.seed true x6 OX6.out.seed OD6.out.seed (decide_eq_true rfl)).mono ?_
        rintro e y ⟨rfl, rfl⟩
        go_wp2
        go_ret
        exact ⟨rfl, B6.out⟩
      | false =>
        have HM : Hid (mayRoll D = true) := by
          have q := (rollOk_iff.1 (Bool.and_eq_true_iff.1 HV.out).2).2
          have q2 : D.num ≠ 10000 := by simpa using h1
          show mayRoll D = true
          unfold mayRoll; rw [HV.out, decide_eq_true (by omega : D.num < 10000)]; rfl
        have HP : Hid (seedOk D.seed.length = true ∧ 0 ≤ D.num ∧ D.num < 10000) := may_parts HM.out
        have HXD : Hid (X = ⟨D.seed, D.num + 1⟩) := by show _ = _; rw [← HX.out]; exact rollD_yes HM.out
        have HXN : Hid (X.num = D.num + 1) := by rw [HXD.out]; rfl
        have HXO : Hid (diOk X = true) := by show _ = _; rw [HXD.out]; unfold diOk; rw [Bool.and_eq_true]; exact ⟨HP.out.1, rollOk_iff.2 ⟨by show 0 ≤ D.num + 1; have := HP.out; omega, by show D.num + 1 ≤ _; have := HP.out; omega⟩⟩
        have HXL : Hid (X.seed.length ≤ 4194304) := by have := HLL.out; rw [HXD.out]; exact this
        have HW : Hid (windD X D.num = D) := by show _ = _; rw [wind_yes (by rw [HXO.out, rollOk_iff.2 ⟨HP.out.2.1, by have := HP.out; omega⟩]; rfl), HXD.out]
        have HQD : Hid (atL D.seed D.num = Q) := by show _ = _; rw [← HQ.out, rollL_yes HM.out]
        have HQL : Hid (Q.length = 12) := by show _ = _; rw [← HQD.out]; exact at_len (Bool.and_eq_true_iff.2 ⟨HP.out.1, rollOk_iff.2 ⟨HP.out.2.1, by have := HP.out; omega⟩⟩)
        have f0 := KX6.out.cell 0 rfl
        have f1 := KX6.out.cell 1 rfl
        go_wp2_with fail
        refine (DiI.implWind SX X D.num x6 OX6.out HXL.out).mono ?_
        unfold AnsD
        rw [HW.out]
        rintro e x7 ⟨SW, rfl, o, b⟩
        clear f0 f1 dn
        have L7 : Hid (x6.heap.size ≤ x7.heap.size) := b.size
        have B7 : Hid (Below w.heap.size w x7) := B6.out.trans (b.mono B6.out.size)
        have OD7 : Hid (DiRd x7 S D) := OD6.out.later b
        have KD7 : Hid (Blk x7 gd 25 [.slice S.seed.a S.seed.n S.seed.c, .int .i64 D.num]) := KD6.out.later b
        have OX7 : Hid (DiRd x7 SX X) := OX6.out.later b
        have OQ7 : Hid (SRd x7 SR Q) := OQ6.out.later b
        have KX7 : Hid (Blk x7 gx 25 [.slice SX.seed.a SX.seed.n SX.seed.c, .int .i64 X.num]) := KX6.out.later b
        clear b B6 OD6 KD6 OX6 OQ6 KX6
        have OW7 : Hid (DiRd x7 SW D) := o.rd
        clear o
        go_wp2_with fail
        refine (DiJ.implRoll SW D x7 (HT.out.later B7.out) OW7.out HLL.out).mono ?_
        unfold AnsR
        rw [HX.out, HQ.out]
        rintro e x8 ⟨SY, SQ, q0, q1, q2, q3, rfl, ox, oq, oz, b⟩
        have L8 : Hid (x7.heap.size ≤ x8.heap.size) := b.size
        have B8 : Hid (Below w.heap.size w x8) := B7.out.trans (b.mono B7.out.size)
        have OD8 : Hid (DiRd x8 S D) := OD7.out.later b
        have KD8 : Hid (Blk x8 gd 25 [.slice S.seed.a S.seed.n S.seed.c, .int .i64 D.num]) := KD7.out.later b
        have OX8 : Hid (DiRd x8 SX X) := OX7.out.later b
        have OQ8 : Hid (SRd x8 SR Q) := OQ7.out.later b
        have KX8 : Hid (Blk x8 gx 25 [.slice SX.seed.a SX.seed.n SX.seed.c, .int .i64 X.num]) := KX7.out.later b
        have OW8 : Hid (DiRd x8 SW D) := OW7.out.later b
        clear b B7 OD7 KD7 OX7 OQ7 KX7 OW7
        have OY8 : Hid (DiRd x8 SY X) := ox.rd
        have OR8 : Hid (SRd x8 SQ Q) := oq.rd
        clear ox oq oz
        obtain ⟨x9, hx9⟩ : ∃ x9, x8.alloc (.cells #[.slice SY.seed.a SY.seed.n SY.seed.c, .int .i64 X.num] 25) = x9 := ⟨_, rfl⟩
        have HW9 : Hid (x8.alloc (.cells #[.slice SY.seed.a SY.seed.n SY.seed.c, .int .i64 X.num] 25) = x9) := hx9
        have b9 : Below x8.heap.size x8 x9 := by rw [← hx9]; exact (Below.refl _ _).alloc (Nat.le_refl _) _
        have KN : Blk x9 x8.heap.size 25 [.slice SY.seed.a SY.seed.n SY.seed.c, .int .i64 X.num] := by rw [← hx9]; exact Blk.new x8 _ _
        have HSZ9 : Hid (x9.heap.size = x8.heap.size + 1) := by rw [← hx9]; show _ = _; simp
        clear hx9
        have L9 : Hid (x8.heap.size ≤ x9.heap.size) := b9.size
        have B9 : Hid (Below w.heap.size w x9) := B8.out.trans (b9.mono B8.out.size)
        have OD9 : Hid (DiRd x9 S D) := OD8.out.later b9
        have KD9 : Hid (Blk x9 gd 25 [.slice S.seed.a S.seed.n S.seed.c, .int .i64 D.num]) := KD8.out.later b9
        have OX9 : Hid (DiRd x9 SX X) := OX8.out.later b9
        have OQ9 : Hid (SRd x9 SR Q) := OQ8.out.later b9
        have KX9 : Hid (Blk x9 gx 25 [.slice SX.seed.a SX.seed.n SX.seed.c, .int .i64 X.num]) := KX8.out.later b9
        have OW9 : Hid (DiRd x9 SW D) := OW8.out.later b9
        have OY9 : Hid (DiRd x9 SY X) := OY8.out.later b9
        have OR9 : Hid (SRd x9 SQ Q) := OR8.out.later b9
        clear b9 B8 OD8 KD8 OX8 OQ8 KX8 OW8 OY8 OR8
        unfold diV
        go_upto_region 10 with fail
        rw [HW9.out]
        obtain ⟨gy, hgy⟩ : ∃ g, x8.heap.size = g := ⟨_, rfl⟩
        have Ggy : Hid (x8.heap.size = gy ∧ x9.heap.size = gy + 1) := ⟨hgy, by rw [← hgy]; exact HSZ9.out⟩
        rw [hgy] at KN ⊢
        clear HW9 HSZ9 hgy
        have KY9 : Hid (Blk x9 gy 25 [.slice SY.seed.a SY.seed.n SY.seed.c, .int .i64 X.num]) := KN
        clear KN
        have hwr : IntKind.i64.wrap (D.num + 1) = D.num + 1 := by rw [IntKind.wrap_i64]; have := HP.out; omega
        have hxn : (X.num == D.num + 1) = true := by have := HXN.out; simpa using this
        have hl : ((SR.n : Int) == 12) = true := by have := OQ9.out.len; have := HQL.out; simp; omega
        have hxx : (X.num == X.num) = true := by simp
        have d0 := KD9.out.cell 0 rfl
        have d1 := KD9.out.cell 1 rfl
        have f0 := KX9.out.cell 0 rfl
        have f1 := KX9.out.cell 1 rfl
        have g0 := KY9.out.cell 0 rfl
        have g1 := KY9.out.cell 1 rfl
        go_wp2_with fail
        refine (SameV.sameV SR SQ Q Q true x9 OQ9.out OR9.out (decide_eq_true rfl)).mono ?_
        rintro e y ⟨rfl, rfl⟩
        go_wp2_with fail
        refine (DiJ.implDiceAt S.seed D.seed D.num x9 (HT.out.later B9.out) OD9.out.seed).mono ?_
        unfold AnsB
        rw [HQD.out]
        rintro e x10 ⟨ST, rfl, o, b⟩
        clear d0 d1
        clear f0 f1
        clear g0 g1
        have L10 : Hid (x9.heap.size ≤ x10.heap.size) := b.size
        have B10 : Hid (Below w.heap.size w x10) := B9.out.trans (b.mono B9.out.size)
        have OD10 : Hid (DiRd x10 S D) := OD9.out.later b
        have KD10 : Hid (Blk x10 gd 25 [.slice S.seed.a S.seed.n S.seed.c, .int .i64 D.num]) := KD9.out.later b
        have OX10 : Hid (DiRd x10 SX X) := OX9.out.later b
        have OQ10 : Hid (SRd x10 SR Q) := OQ9.out.later b
        have KX10 : Hid (Blk x10 gx 25 [.slice SX.seed.a SX.seed.n SX.seed.c, .int .i64 X.num]) := KX9.out.later b
        have OW10 : Hid (DiRd x10 SW D) := OW9.out.later b
        have OY10 : Hid (DiRd x10 SY X) := OY9.out.later b
        have OR10 : Hid (SRd x10 SQ Q) := OR9.out.later b
        have KY10 : Hid (Blk x10 gy 25 [.slice SY.seed.a SY.seed.n SY.seed.c, .int .i64 X.num]) := KY9.out.later b
        clear b B9 OD9 KD9 OX9 OQ9 KX9 OW9 OY9 OR9 KY9
        have OT10 : Hid (SRd x10 ST Q) := o.rd
        clear o
        have d0 := KD10.out.cell 0 rfl
        have d1 := KD10.out.cell 1 rfl
        have f0 := KX10.out.cell 0 rfl
        have f1 := KX10.out.cell 1 rfl
        have g0 := KY10.out.cell 0 rfl
        have g1 := KY10.out.cell 1 rfl
        go_wp2_with fail
        refine (SameV.sameV SR ST Q Q true x10 OQ10.out OT10.out (decide_eq_true rfl)).mono ?_
        rintro e y ⟨rfl, rfl⟩
        go_wp2_with fail
        refine (okI SX X true x10 OX10.out HXO.out).mono ?_
        rintro e x11 ⟨rfl, b⟩
        have L11 : Hid (x10.heap.size ≤ x11.heap.size) := b.size
        have B11 : Hid (Below w.heap.size w x11) := B10.out.trans (b.mono B10.out.size)
        have OD11 : Hid (DiRd x11 S D) := OD10.out.later b
        have KD11 : Hid (Blk x11 gd 25 [.slice S.seed.a S.seed.n S.seed.c, .int .i64 D.num]) := KD10.out.later b
        have OX11 : Hid (DiRd x11 SX X) := OX10.out.later b
        have OQ11 : Hid (SRd x11 SR Q) := OQ10.out.later b
        have KX11 : Hid (Blk x11 gx 25 [.slice SX.seed.a SX.seed.n SX.seed.c, .int .i64 X.num]) := KX10.out.later b
        have OW11 : Hid (DiRd x11 SW D) := OW10.out.later b
        have OY11 : Hid (DiRd x11 SY X) := OY10.out.later b
        have OR11 : Hid (SRd x11 SQ Q) := OR10.out.later b
        have KY11 : Hid (Blk x11 gy 25 [.slice SY.seed.a SY.seed.n SY.seed.c, .int .i64 X.num]) := KY10.out.later b
        have OT11 : Hid (SRd x11 ST Q) := OT10.out.later b
        clear b B10 OD10 KD10 OX10 OQ10 KX10 OW10 OY10 OR10 KY10 OT10
        clear d0 d1
        clear f0 f1
        clear g0 g1
        go_wp2
        go_ret
        exact ⟨rfl, B11.out⟩

set_option maxRecDepth 100000 in
theorem walk (a : Option Addr) (len cap : Nat) (zs : List Int) (w : World) (hT : Tab w) (h : IsRow .u8 w a len cap zs) :
    Calls Tryd.prog 3 #[.slice a len cap] w fun e w' => e = .returned (.bool true) ∧ Below w.heap.size w w' := by
  obtain ⟨l, h1, h2, _, h4⟩ := h.read
  by_cases hl : len ≤ 1048576
  · exact small a len cap l w hT h1 h2 h4 hl
  · clear h h1 h2 h4
    go_enter Tryd.func3, Tryd.ntmps3
    go_wp2_with fail
    refine (bigYes a len cap w (by omega)).mono ?_
    rintro e w0 ⟨rfl, rfl⟩
    go_wp2
    go_ret
    exact ⟨rfl, Below.refl _ _⟩
end Go.Proofs.YtcodonnknepkeaaDoor.LawRolls
