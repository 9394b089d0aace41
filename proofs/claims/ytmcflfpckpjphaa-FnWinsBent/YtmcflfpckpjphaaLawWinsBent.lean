/-
  The walk of the law FnWinsBent: at every code, of drawn windows, bent or not, what may be taken is taken, had then, and what was had is still, if it is not too old.
-/
import Derived.Test.YtmcflfpckpjphaaWnDa
import Derived.Test.YtmcflfpckpjphaaWb7
import Derived.Test.YtmcflfpckpjphaaWb2
namespace Go.Proofs.Ytmcflfpckpjphaa.LawWinsBent
open Go.RowKit Go.Proofs.Ytmcflfpckpjphaa.Mem Go.Proofs.Ytmcflfpckpjphaa.App Go.Proofs.Ytmcflfpckpjphaa.Blk Go.Proofs.Ytmcflfpckpjphaa.Draw Go.Proofs.Ytmcflfpckpjphaa.Zone Go.Proofs.Ytmcflfpckpjphaa.Res Go.Proofs.Ytmcflfpckpjphaa.MemI Go.Proofs.Ytmcflfpckpjphaa.ZoneI Go.Proofs.Ytmcflfpckpjphaa.WnZ Go.Proofs.Ytmcflfpckpjphaa.WinP Go.Proofs.Ytmcflfpckpjphaa.WinQ Go.Proofs.Ytmcflfpckpjphaa.WnK Go.Proofs.Ytmcflfpckpjphaa.WnG Go.Proofs.Ytmcflfpckpjphaa.WnBp Go.Proofs.Ytmcflfpckpjphaa.WnDa Go.Proofs.Ytmcflfpckpjphaa.Each Go.Proofs.Ytmcflfpckpjphaa.Copy Go.Proofs.Ytmcflfpckpjphaa.Ops Go.Proofs.Ytmcflfpckpjphaa.Guard

set_option maxRecDepth 100000 in
theorem hasI (S : WnS) (D : WnD) (n : Int) (v : Bool) (w : World) (h : WnRd w S D) (hv : winHas D.top D.bits n = v) : Calls Try.prog 17 #[wnV D S, .int .i64 n] w fun e w' => e = .returned (.bool v) ∧ Below w.heap.size w w' := by
  subst hv; exact implWinHas S D n w h
set_option maxRecDepth 100000 in
theorem mayI (S : WnS) (D : WnD) (n : Int) (v : Bool) (w : World) (h : WnRd w S D) (hv : winMay D.top D.bits n = v) : Calls Try.prog 15 #[wnV D S, .int .i64 n] w fun e w' => e = .returned (.bool v) ∧ Below w.heap.size w w' := by
  subst hv; exact implWinMay S D n w h
set_option maxRecDepth 100000 in
theorem mayS (S : WnS) (D : WnD) (n : Int) (v : Bool) (w : World) (h : WnRd w S D) (hv : winMay D.top D.bits n = v) : Calls Try.prog 14 #[wnV D S, .int .i64 n] w fun e w' => e = .returned (.bool v) ∧ Below w.heap.size w w' := by
  subst hv; exact WnS.specWinMay S D n w h
set_option maxRecDepth 100000 in
theorem okI (S : WnS) (D : WnD) (v : Bool) (w : World) (h : WnRd w S D) (hv : winOk D.top D.bits = v) : Calls Try.prog 12 #[wnV D S] w fun e w' => e = .returned (.bool v) ∧ Below w.heap.size w w' := by
  subst hv; exact implWinOk S D w h
set_option maxRecDepth 100000 in
theorem okS (S : WnS) (D : WnD) (v : Bool) (w : World) (h : WnRd w S D) (hv : winOk D.top D.bits = v) : Calls Try.prog 13 #[wnV D S] w fun e w' => e = .returned (.bool v) ∧ Below w.heap.size w w' := by
  subst hv; exact WnS.specWinOk S D w h
set_option maxRecDepth 100000 in
theorem has_range {top : Int} {l : List Int} {y : Int} (h : winHas top l y = true) : 0 ≤ y ∧ y ≤ 281474976710655 := by
  unfold winHas has at h
  rw [Bool.and_eq_true, Bool.and_eq_true, decide_eq_true_iff, winOk_iff] at h
  have := h.1.hi
  omega
set_option maxRecDepth 100000 in
theorem bigNo (a : Option Addr) (len cap : Nat) (w : World) (h : len ≤ 1048576) :
    Calls Try.prog 9 #[.slice a len cap] w fun e w' => e = .returned (.bool false) ∧ w = w' := by
  have h' : ¬ ((1048576 : Int) < (len : Int)) := by omega
  go_enter Try.func9, Try.ntmps9
  go_wp2
  go_ret
  exact ⟨rfl, rfl⟩
set_option maxRecDepth 100000 in
theorem bigYes (a : Option Addr) (len cap : Nat) (w : World) (h : 1048576 < len) :
    Calls Try.prog 9 #[.slice a len cap] w fun e w' => e = .returned (.bool true) ∧ w = w' := by
  have h' : (1048576 : Int) < (len : Int) := by omega
  go_enter Try.func9, Try.ntmps9
  go_wp2
  go_ret
  exact ⟨rfl, rfl⟩
set_option maxRecDepth 100000 in
set_option maxHeartbeats 16000000 in
theorem small (a : Option Addr) (len cap : Nat) (l : List Int) (w : World) (hl : len = l.length) (hr : Rd w a l) (hb : Bytes l) (hlen : len ≤ 1048576) :
    Calls Try.prog 3 #[.slice a len cap] w fun e w' => e = .returned (.bool true) ∧ Below w.heap.size w w' := by
  have HR : Hid (Rd w a l) := hr
  have HL : Hid (len = l.length) := hl
  have HB : Hid (Bytes l) := hb
  clear hr hl hb
  have B0 : Hid (Below w.heap.size w w) := Below.refl _ _
  go_enter Try.func3, Try.ntmps3
  go_wp2_with fail
  refine (bigNo a len cap w hlen).mono ?_
  rintro e w0 ⟨rfl, rfl⟩
  go_wp2_with fail
  refine (drawWinAdd a len cap l w HL.out (HR.out.later B0.out (Nat.le_refl _)) HB.out hlen).mono ?_
  rintro e x1 ⟨S, D, z, rfl, hd, os, b⟩
  have L1 : Hid (w.heap.size ≤ x1.heap.size) := b.size
  have B1 : Hid (Below w.heap.size w x1) := B0.out.trans (b.mono B0.out.size)
  clear b B0
  have HD : Hid (D.bits.length ≤ 32) := hd
  clear hd
  have OS1 : Hid (WnRd x1 S D) := os
  clear os
  obtain ⟨x2, hx2⟩ : ∃ x2, x1.alloc (.cells #[.int .i64 D.top, .slice S.bits.a S.bits.n S.bits.c] 26) = x2 := ⟨_, rfl⟩
  have HW2 : Hid (x1.alloc (.cells #[.int .i64 D.top, .slice S.bits.a S.bits.n S.bits.c] 26) = x2) := hx2
  have b2 : Below x1.heap.size x1 x2 := by rw [← hx2]; exact (Below.refl _ _).alloc (Nat.le_refl _) _
  have KN : Blk x2 x1.heap.size 26 [.int .i64 D.top, .slice S.bits.a S.bits.n S.bits.c] := by rw [← hx2]; exact Blk.new x1 _ _
  have HSZ2 : Hid (x2.heap.size = x1.heap.size + 1) := by rw [← hx2]; show _ = _; simp
  clear hx2
  have L2 : Hid (x1.heap.size ≤ x2.heap.size) := b2.size
  have B2 : Hid (Below w.heap.size w x2) := B1.out.trans (b2.mono B1.out.size)
  have OS2 : Hid (WnRd x2 S D) := OS1.out.later b2
  clear b2 B1 OS1
  unfold wnV
  go_upto_region 4 with fail
  rw [HW2.out]
  obtain ⟨gw, hgw⟩ : ∃ g, x1.heap.size = g := ⟨_, rfl⟩
  have Ggw : Hid (x1.heap.size = gw ∧ x2.heap.size = gw + 1) := ⟨hgw, by rw [← hgw]; exact HSZ2.out⟩
  rw [hgw] at KN ⊢
  clear HW2 HSZ2 hgw
  have KW2 : Hid (Blk x2 gw 26 [.int .i64 D.top, .slice S.bits.a S.bits.n S.bits.c]) := KN
  clear KN
  obtain ⟨X, hX⟩ : ∃ X, addD D z = X := ⟨_, rfl⟩
  have HX : Hid (addD D z = X) := hX
  obtain ⟨mv, hmv⟩ : ∃ v, winMay D.top D.bits z = v := ⟨_, rfl⟩
  have HMV : Hid (winMay D.top D.bits z = mv) := hmv
  have hvv : (mv != mv) = false := by simp
  clear hX hmv
  have d0 := KW2.out.cell 0 rfl
  have d1 := KW2.out.cell 1 rfl
  go_wp2_with fail
  refine (implWinAdd S D z x2 OS2.out (by have := HD.out; omega)).mono ?_
  unfold Added
  rw [HX.out, HMV.out]
  rintro e x3 ⟨S2, rfl, o, b⟩
  clear d0 d1
  have L3 : Hid (x2.heap.size ≤ x3.heap.size) := b.size
  have B3 : Hid (Below w.heap.size w x3) := B2.out.trans (b.mono B2.out.size)
  have OS3 : Hid (WnRd x3 S D) := OS2.out.later b
  have KW3 : Hid (Blk x3 gw 26 [.int .i64 D.top, .slice S.bits.a S.bits.n S.bits.c]) := KW2.out.later b
  clear b B2 OS2 KW2
  have OX3 : Hid (WnRd x3 S2 X) := o.rd
  clear o
  obtain ⟨x4, hx4⟩ : ∃ x4, x3.alloc (.cells #[.int .i64 X.top, .slice S2.bits.a S2.bits.n S2.bits.c] 26) = x4 := ⟨_, rfl⟩
  have HW4 : Hid (x3.alloc (.cells #[.int .i64 X.top, .slice S2.bits.a S2.bits.n S2.bits.c] 26) = x4) := hx4
  have b4 : Below x3.heap.size x3 x4 := by rw [← hx4]; exact (Below.refl _ _).alloc (Nat.le_refl _) _
  have KN : Blk x4 x3.heap.size 26 [.int .i64 X.top, .slice S2.bits.a S2.bits.n S2.bits.c] := by rw [← hx4]; exact Blk.new x3 _ _
  have HSZ4 : Hid (x4.heap.size = x3.heap.size + 1) := by rw [← hx4]; show _ = _; simp
  clear hx4
  have L4 : Hid (x3.heap.size ≤ x4.heap.size) := b4.size
  have B4 : Hid (Below w.heap.size w x4) := B3.out.trans (b4.mono B3.out.size)
  have OS4 : Hid (WnRd x4 S D) := OS3.out.later b4
  have KW4 : Hid (Blk x4 gw 26 [.int .i64 D.top, .slice S.bits.a S.bits.n S.bits.c]) := KW3.out.later b4
  have OX4 : Hid (WnRd x4 S2 X) := OX3.out.later b4
  clear b4 B3 OS3 KW3 OX3
  unfold wnV
  go_upto_region 5 with fail
  rw [HW4.out]
  obtain ⟨gx, hgx⟩ : ∃ g, x3.heap.size = g := ⟨_, rfl⟩
  have Ggx : Hid (x3.heap.size = gx ∧ x4.heap.size = gx + 1) := ⟨hgx, by rw [← hgx]; exact HSZ4.out⟩
  rw [hgx] at KN ⊢
  clear HW4 HSZ4 hgx
  have KX4 : Hid (Blk x4 gx 26 [.int .i64 X.top, .slice S2.bits.a S2.bits.n S2.bits.c]) := KN
  clear KN
  obtain ⟨ov, hov⟩ : ∃ v, winOk D.top D.bits = v := ⟨_, rfl⟩
  have HOV : Hid (winOk D.top D.bits = ov) := hov
  have hoo : (ov != ov) = false := by simp
  clear hov
  go_cut [40] from 22 to 39 (fun sv wx => sv = .bool false ∧ Below x4.heap.size x4 wx)
  case first =>
    rename_i J K' hRJ hMet
    generalize hA : Act.mk _ _ = A
    have a3' : A.eval (.tmp 3) = .pointer (some ⟨gw, 0, none⟩) := by rw [← hA]; rfl
    have a4' : A.eval (.tmp 4) = .int .i64 z := by rw [← hA]; rfl
    have a6' : A.eval (.tmp 6) = .bool mv := by rw [← hA]; rfl
    have asz : A.tmps.size = 83 := by rw [← hA]; rfl
    have hKW : ∀ wx, Below x4.heap.size x4 wx → Blk wx gw 26 [.int .i64 D.top, .slice S.bits.a S.bits.n S.bits.c] := fun wx hb => KW4.out.later hb
    have hOS : ∀ wx, Below x4.heap.size x4 wx → WnRd wx S D := fun wx hb => OS4.out.later hb
    refine region_each (by kernel_rfl) [22, 23, 24, 25, 26, 27, 28, 29, 30, 31, 32, 33, 34, 35, 36, 37, 38, 39] 18 (fun i => [22, 23, 24, 25, 26, 27, 28, 29, 30, 31, 32, 33, 34, 35, 36, 37, 38, 39].getD i 0) (fun _ => 0)
      (fun i gB v wx => match i with
        | 0 => v = .agg #[.int .i64 D.top, .slice S.bits.a S.bits.n S.bits.c]
        | 1 => v = .bool ov
        | 2 => v = .agg #[.int .i64 D.top, .slice S.bits.a S.bits.n S.bits.c]
        | 3 => v = .bool ov
        | 4 => v = .bool false
        | 5 => v = .bool false
        | 6 => v = .bool mv
        | 7 => v = .agg #[.int .i64 D.top, .slice S.bits.a S.bits.n S.bits.c]
        | 8 => v = .int .i64 z
        | 9 => v = .bool mv
        | 10 => v = .bool false
        | 11 => v = .bool false
        | 12 => v = .bool false
        | 13 => v = .bool mv
        | 14 => v = .agg #[.int .i64 D.top, .slice S.bits.a S.bits.n S.bits.c]
        | 15 => v = .int .i64 z
        | 16 => v = .bool mv
        | 17 => v = .bool false
        | _ => False) (fun wx => Below x4.heap.size x4 wx) (by kernel_rfl) (Below.refl _ _).drew ?_ ?_ ?_
    · intro i gB v wx wy hi hF hb _
      match i, hi with
      | 0, _ => exact hF
      | 1, _ => exact hF
      | 2, _ => exact hF
      | 3, _ => exact hF
      | 4, _ => exact hF
      | 5, _ => exact hF
      | 6, _ => exact hF
      | 7, _ => exact hF
      | 8, _ => exact hF
      | 9, _ => exact hF
      | 10, _ => exact hF
      | 11, _ => exact hF
      | 12, _ => exact hF
      | 13, _ => exact hF
      | 14, _ => exact hF
      | 15, _ => exact hF
      | 16, _ => exact hF
      | 17, _ => exact hF
      | n + 18, hi => exact absurd hi (by omega)
    · intro i hi t ρ wx hB hp hd
      match i, hi with
      | 0, _ =>
        have e3 : (fr [22, 23, 24, 25, 26, 27, 28, 29, 30, 31, 32, 33, 34, 35, 36, 37, 38, 39] A t).eval (.tmp 3) = .pointer (some ⟨gw, 0, none⟩) := (fr_eval_old _ _ _ 3 rfl).trans a3'
        have hc0 := (hKW wx hB).cell 0 rfl
        have hc1 := (hKW wx hB).cell 1 rfl
        refine op_run (v := .agg #[.int .i64 D.top, .slice S.bits.a S.bits.n S.bits.c]) (w' := wx) rfl rfl ?_ ?_
        · clear hp hd; have ec : ∀ v, (fr [22, 23, 24, 25, 26, 27, 28, 29, 30, 31, 32, 33, 34, 35, 36, 37, 38, 39] A t).eval (.const v) = v := fun _ => rfl; generalize (fr [22, 23, 24, 25, 26, 27, 28, 29, 30, 31, 32, 33, 34, 35, 36, 37, 38, 39] A t).eval = ev at ec e3 ⊢; go_simp
        · exact ⟨_, 0, rfl, hB, Below.refl _ _, rfl, .inl rfl⟩
      | 1, _ =>
        have e22 : (fr [22, 23, 24, 25, 26, 27, 28, 29, 30, 31, 32, 33, 34, 35, 36, 37, 38, 39] A t).eval (.tmp 22) = .agg #[.int .i64 D.top, .slice S.bits.a S.bits.n S.bits.c] := (fr_eval _ _ _ 22 rfl (by rw [asz]; decide)).trans (hp 0 (pre_mem (by kernel_rfl)))
        refine op_call (f := 12) (args := #[.agg #[.int .i64 D.top, .slice S.bits.a S.bits.n S.bits.c]]) rfl rfl ?_ (okI S D ov wx (hOS wx hB) HOV.out) ?_
        · have ef : (fr [22, 23, 24, 25, 26, 27, 28, 29, 30, 31, 32, 33, 34, 35, 36, 37, 38, 39] A t).eval (.func 12) = .func (.func 12) #[] #[] := rfl; clear hp hd; have ec : ∀ v, (fr [22, 23, 24, 25, 26, 27, 28, 29, 30, 31, 32, 33, 34, 35, 36, 37, 38, 39] A t).eval (.const v) = v := fun _ => rfl; generalize (fr [22, 23, 24, 25, 26, 27, 28, 29, 30, 31, 32, 33, 34, 35, 36, 37, 38, 39] A t).eval = ev at ec e22 ef ⊢; go_simp
        · rintro e wy ⟨rfl, b1⟩
          exact ⟨_, rfl, _, 0, rfl, hB.trans (b1.mono hB.size), b1, rfl, .inl rfl⟩
      | 2, _ =>
        have e3 : (fr [22, 23, 24, 25, 26, 27, 28, 29, 30, 31, 32, 33, 34, 35, 36, 37, 38, 39] A t).eval (.tmp 3) = .pointer (some ⟨gw, 0, none⟩) := (fr_eval_old _ _ _ 3 rfl).trans a3'
        have hc0 := (hKW wx hB).cell 0 rfl
        have hc1 := (hKW wx hB).cell 1 rfl
        refine op_run (v := .agg #[.int .i64 D.top, .slice S.bits.a S.bits.n S.bits.c]) (w' := wx) rfl rfl ?_ ?_
        · clear hp hd; have ec : ∀ v, (fr [22, 23, 24, 25, 26, 27, 28, 29, 30, 31, 32, 33, 34, 35, 36, 37, 38, 39] A t).eval (.const v) = v := fun _ => rfl; generalize (fr [22, 23, 24, 25, 26, 27, 28, 29, 30, 31, 32, 33, 34, 35, 36, 37, 38, 39] A t).eval = ev at ec e3 ⊢; go_simp
        · exact ⟨_, 0, rfl, hB, Below.refl _ _, rfl, .inl rfl⟩
      | 3, _ =>
        have e24 : (fr [22, 23, 24, 25, 26, 27, 28, 29, 30, 31, 32, 33, 34, 35, 36, 37, 38, 39] A t).eval (.tmp 24) = .agg #[.int .i64 D.top, .slice S.bits.a S.bits.n S.bits.c] := (fr_eval _ _ _ 24 rfl (by rw [asz]; decide)).trans (hp 2 (pre_mem (by kernel_rfl)))
        refine op_call (f := 13) (args := #[.agg #[.int .i64 D.top, .slice S.bits.a S.bits.n S.bits.c]]) rfl rfl ?_ (okS S D ov wx (hOS wx hB) HOV.out) ?_
        · have ef : (fr [22, 23, 24, 25, 26, 27, 28, 29, 30, 31, 32, 33, 34, 35, 36, 37, 38, 39] A t).eval (.func 13) = .func (.func 13) #[] #[] := rfl; clear hp hd; have ec : ∀ v, (fr [22, 23, 24, 25, 26, 27, 28, 29, 30, 31, 32, 33, 34, 35, 36, 37, 38, 39] A t).eval (.const v) = v := fun _ => rfl; generalize (fr [22, 23, 24, 25, 26, 27, 28, 29, 30, 31, 32, 33, 34, 35, 36, 37, 38, 39] A t).eval = ev at ec e24 ef ⊢; go_simp
        · rintro e wy ⟨rfl, b1⟩
          exact ⟨_, rfl, _, 0, rfl, hB.trans (b1.mono hB.size), b1, rfl, .inl rfl⟩
      | 4, _ =>
        have hv1 := hp 1 (pre_mem (by kernel_rfl))
        have e23 : (fr [22, 23, 24, 25, 26, 27, 28, 29, 30, 31, 32, 33, 34, 35, 36, 37, 38, 39] A t).eval (.tmp 23) = .bool ov := (fr_eval _ _ _ 23 rfl (by rw [asz]; decide)).trans hv1
        have hv3 := hp 3 (pre_mem (by kernel_rfl))
        have e25 : (fr [22, 23, 24, 25, 26, 27, 28, 29, 30, 31, 32, 33, 34, 35, 36, 37, 38, 39] A t).eval (.tmp 25) = .bool ov := (fr_eval _ _ _ 25 rfl (by rw [asz]; decide)).trans hv3
        have hh := hoo
        refine op_run (v := .bool false) (w' := wx) rfl rfl ?_ ?_
        · clear hp hd; have ec : ∀ v, (fr [22, 23, 24, 25, 26, 27, 28, 29, 30, 31, 32, 33, 34, 35, 36, 37, 38, 39] A t).eval (.const v) = v := fun _ => rfl; generalize (fr [22, 23, 24, 25, 26, 27, 28, 29, 30, 31, 32, 33, 34, 35, 36, 37, 38, 39] A t).eval = ev at ec e23 e25 ⊢; go_simp
        · exact ⟨_, 0, rfl, hB, Below.refl _ _, rfl, .inl rfl⟩
      | 5, _ =>
        have e26 : (fr [22, 23, 24, 25, 26, 27, 28, 29, 30, 31, 32, 33, 34, 35, 36, 37, 38, 39] A t).eval (.tmp 26) = .bool false := (fr_eval _ _ _ 26 rfl (by rw [asz]; decide)).trans (hp 4 (pre_mem (by kernel_rfl)))
        refine op_run (v := .bool false) (w' := wx) rfl rfl ?_ ?_
        · clear hp hd; have ec : ∀ v, (fr [22, 23, 24, 25, 26, 27, 28, 29, 30, 31, 32, 33, 34, 35, 36, 37, 38, 39] A t).eval (.const v) = v := fun _ => rfl; generalize (fr [22, 23, 24, 25, 26, 27, 28, 29, 30, 31, 32, 33, 34, 35, 36, 37, 38, 39] A t).eval = ev at ec e26 ⊢; go_simp
        · exact ⟨_, 0, rfl, hB, Below.refl _ _, rfl, .inl rfl⟩
      | 6, _ =>
        have e6 : (fr [22, 23, 24, 25, 26, 27, 28, 29, 30, 31, 32, 33, 34, 35, 36, 37, 38, 39] A t).eval (.tmp 6) = .bool mv := (fr_eval_old _ _ _ 6 rfl).trans a6'
        have e27 : (fr [22, 23, 24, 25, 26, 27, 28, 29, 30, 31, 32, 33, 34, 35, 36, 37, 38, 39] A t).eval (.tmp 27) = .bool false := (fr_eval _ _ _ 27 rfl (by rw [asz]; decide)).trans (hp 5 (pre_mem (by kernel_rfl)))
        refine op_run_g (v := .bool mv) (w' := wx) rfl (wanted_true rfl rfl e27) ?_ ?_
        · clear hp hd; have ec : ∀ v, (fr [22, 23, 24, 25, 26, 27, 28, 29, 30, 31, 32, 33, 34, 35, 36, 37, 38, 39] A t).eval (.const v) = v := fun _ => rfl; generalize (fr [22, 23, 24, 25, 26, 27, 28, 29, 30, 31, 32, 33, 34, 35, 36, 37, 38, 39] A t).eval = ev at ec e6 e27 ⊢; go_simp
        · exact ⟨_, 0, rfl, hB, Below.refl _ _, rfl, .inl rfl⟩
      | 7, _ =>
        have e3 : (fr [22, 23, 24, 25, 26, 27, 28, 29, 30, 31, 32, 33, 34, 35, 36, 37, 38, 39] A t).eval (.tmp 3) = .pointer (some ⟨gw, 0, none⟩) := (fr_eval_old _ _ _ 3 rfl).trans a3'
        have e27 : (fr [22, 23, 24, 25, 26, 27, 28, 29, 30, 31, 32, 33, 34, 35, 36, 37, 38, 39] A t).eval (.tmp 27) = .bool false := (fr_eval _ _ _ 27 rfl (by rw [asz]; decide)).trans (hp 5 (pre_mem (by kernel_rfl)))
        have hc0 := (hKW wx hB).cell 0 rfl
        have hc1 := (hKW wx hB).cell 1 rfl
        refine op_run_g (v := .agg #[.int .i64 D.top, .slice S.bits.a S.bits.n S.bits.c]) (w' := wx) rfl (wanted_true rfl rfl e27) ?_ ?_
        · clear hp hd; have ec : ∀ v, (fr [22, 23, 24, 25, 26, 27, 28, 29, 30, 31, 32, 33, 34, 35, 36, 37, 38, 39] A t).eval (.const v) = v := fun _ => rfl; generalize (fr [22, 23, 24, 25, 26, 27, 28, 29, 30, 31, 32, 33, 34, 35, 36, 37, 38, 39] A t).eval = ev at ec e3 e27 ⊢; go_simp
        · exact ⟨_, 0, rfl, hB, Below.refl _ _, rfl, .inl rfl⟩
      | 8, _ =>
        have e4 : (fr [22, 23, 24, 25, 26, 27, 28, 29, 30, 31, 32, 33, 34, 35, 36, 37, 38, 39] A t).eval (.tmp 4) = .int .i64 z := (fr_eval_old _ _ _ 4 rfl).trans a4'
        have e27 : (fr [22, 23, 24, 25, 26, 27, 28, 29, 30, 31, 32, 33, 34, 35, 36, 37, 38, 39] A t).eval (.tmp 27) = .bool false := (fr_eval _ _ _ 27 rfl (by rw [asz]; decide)).trans (hp 5 (pre_mem (by kernel_rfl)))
        refine op_run_g (v := .int .i64 z) (w' := wx) rfl (wanted_true rfl rfl e27) ?_ ?_
        · clear hp hd; have ec : ∀ v, (fr [22, 23, 24, 25, 26, 27, 28, 29, 30, 31, 32, 33, 34, 35, 36, 37, 38, 39] A t).eval (.const v) = v := fun _ => rfl; generalize (fr [22, 23, 24, 25, 26, 27, 28, 29, 30, 31, 32, 33, 34, 35, 36, 37, 38, 39] A t).eval = ev at ec e4 e27 ⊢; go_simp
        · exact ⟨_, 0, rfl, hB, Below.refl _ _, rfl, .inl rfl⟩
      | 9, _ =>
        have e29 : (fr [22, 23, 24, 25, 26, 27, 28, 29, 30, 31, 32, 33, 34, 35, 36, 37, 38, 39] A t).eval (.tmp 29) = .agg #[.int .i64 D.top, .slice S.bits.a S.bits.n S.bits.c] := (fr_eval _ _ _ 29 rfl (by rw [asz]; decide)).trans (hp 7 (pre_mem (by kernel_rfl)))
        have e30 : (fr [22, 23, 24, 25, 26, 27, 28, 29, 30, 31, 32, 33, 34, 35, 36, 37, 38, 39] A t).eval (.tmp 30) = .int .i64 z := (fr_eval _ _ _ 30 rfl (by rw [asz]; decide)).trans (hp 8 (pre_mem (by kernel_rfl)))
        have e27 : (fr [22, 23, 24, 25, 26, 27, 28, 29, 30, 31, 32, 33, 34, 35, 36, 37, 38, 39] A t).eval (.tmp 27) = .bool false := (fr_eval _ _ _ 27 rfl (by rw [asz]; decide)).trans (hp 5 (pre_mem (by kernel_rfl)))
        refine op_call_g (f := 14) (args := #[.agg #[.int .i64 D.top, .slice S.bits.a S.bits.n S.bits.c], .int .i64 z]) rfl (wanted_true rfl rfl e27) ?_ (mayS S D z mv wx (hOS wx hB) HMV.out) ?_
        · have ef : (fr [22, 23, 24, 25, 26, 27, 28, 29, 30, 31, 32, 33, 34, 35, 36, 37, 38, 39] A t).eval (.func 14) = .func (.func 14) #[] #[] := rfl; clear hp hd; have ec : ∀ v, (fr [22, 23, 24, 25, 26, 27, 28, 29, 30, 31, 32, 33, 34, 35, 36, 37, 38, 39] A t).eval (.const v) = v := fun _ => rfl; generalize (fr [22, 23, 24, 25, 26, 27, 28, 29, 30, 31, 32, 33, 34, 35, 36, 37, 38, 39] A t).eval = ev at ec e29 e30 e27 ef ⊢; go_simp
        · rintro e wy ⟨rfl, b1⟩
          exact ⟨_, rfl, _, 0, rfl, hB.trans (b1.mono hB.size), b1, rfl, .inl rfl⟩
      | 10, _ =>
        have e28 : (fr [22, 23, 24, 25, 26, 27, 28, 29, 30, 31, 32, 33, 34, 35, 36, 37, 38, 39] A t).eval (.tmp 28) = .bool mv := (fr_eval _ _ _ 28 rfl (by rw [asz]; decide)).trans (hp 6 (pre_mem (by kernel_rfl)))
        have hv9 := hp 9 (pre_mem (by kernel_rfl))
        have e31 : (fr [22, 23, 24, 25, 26, 27, 28, 29, 30, 31, 32, 33, 34, 35, 36, 37, 38, 39] A t).eval (.tmp 31) = .bool mv := (fr_eval _ _ _ 31 rfl (by rw [asz]; decide)).trans hv9
        have e27 : (fr [22, 23, 24, 25, 26, 27, 28, 29, 30, 31, 32, 33, 34, 35, 36, 37, 38, 39] A t).eval (.tmp 27) = .bool false := (fr_eval _ _ _ 27 rfl (by rw [asz]; decide)).trans (hp 5 (pre_mem (by kernel_rfl)))
        have hh := hvv
        refine op_run_g (v := .bool false) (w' := wx) rfl (wanted_true rfl rfl e27) ?_ ?_
        · clear hp hd; have ec : ∀ v, (fr [22, 23, 24, 25, 26, 27, 28, 29, 30, 31, 32, 33, 34, 35, 36, 37, 38, 39] A t).eval (.const v) = v := fun _ => rfl; generalize (fr [22, 23, 24, 25, 26, 27, 28, 29, 30, 31, 32, 33, 34, 35, 36, 37, 38, 39] A t).eval = ev at ec e28 e31 e27 ⊢; go_simp
        · exact ⟨_, 0, rfl, hB, Below.refl _ _, rfl, .inl rfl⟩
      | 11, _ =>
        have e27 : (fr [22, 23, 24, 25, 26, 27, 28, 29, 30, 31, 32, 33, 34, 35, 36, 37, 38, 39] A t).eval (.tmp 27) = .bool false := (fr_eval _ _ _ 27 rfl (by rw [asz]; decide)).trans (hp 5 (pre_mem (by kernel_rfl)))
        have e32 : (fr [22, 23, 24, 25, 26, 27, 28, 29, 30, 31, 32, 33, 34, 35, 36, 37, 38, 39] A t).eval (.tmp 32) = .bool false := (fr_eval _ _ _ 32 rfl (by rw [asz]; decide)).trans (hp 10 (pre_mem (by kernel_rfl)))
        refine op_run (v := .bool false) (w' := wx) rfl rfl ?_ ?_
        · clear hp hd; have ec : ∀ v, (fr [22, 23, 24, 25, 26, 27, 28, 29, 30, 31, 32, 33, 34, 35, 36, 37, 38, 39] A t).eval (.const v) = v := fun _ => rfl; generalize (fr [22, 23, 24, 25, 26, 27, 28, 29, 30, 31, 32, 33, 34, 35, 36, 37, 38, 39] A t).eval = ev at ec e27 e32 ⊢; go_simp
        · exact ⟨_, 0, rfl, hB, Below.refl _ _, rfl, .inl rfl⟩
      | 12, _ =>
        have e33 : (fr [22, 23, 24, 25, 26, 27, 28, 29, 30, 31, 32, 33, 34, 35, 36, 37, 38, 39] A t).eval (.tmp 33) = .bool false := (fr_eval _ _ _ 33 rfl (by rw [asz]; decide)).trans (hp 11 (pre_mem (by kernel_rfl)))
        refine op_run (v := .bool false) (w' := wx) rfl rfl ?_ ?_
        · clear hp hd; have ec : ∀ v, (fr [22, 23, 24, 25, 26, 27, 28, 29, 30, 31, 32, 33, 34, 35, 36, 37, 38, 39] A t).eval (.const v) = v := fun _ => rfl; generalize (fr [22, 23, 24, 25, 26, 27, 28, 29, 30, 31, 32, 33, 34, 35, 36, 37, 38, 39] A t).eval = ev at ec e33 ⊢; go_simp
        · exact ⟨_, 0, rfl, hB, Below.refl _ _, rfl, .inl rfl⟩
      | 13, _ =>
        have e6 : (fr [22, 23, 24, 25, 26, 27, 28, 29, 30, 31, 32, 33, 34, 35, 36, 37, 38, 39] A t).eval (.tmp 6) = .bool mv := (fr_eval_old _ _ _ 6 rfl).trans a6'
        have e34 : (fr [22, 23, 24, 25, 26, 27, 28, 29, 30, 31, 32, 33, 34, 35, 36, 37, 38, 39] A t).eval (.tmp 34) = .bool false := (fr_eval _ _ _ 34 rfl (by rw [asz]; decide)).trans (hp 12 (pre_mem (by kernel_rfl)))
        refine op_run_g (v := .bool mv) (w' := wx) rfl (wanted_true rfl rfl e34) ?_ ?_
        · clear hp hd; have ec : ∀ v, (fr [22, 23, 24, 25, 26, 27, 28, 29, 30, 31, 32, 33, 34, 35, 36, 37, 38, 39] A t).eval (.const v) = v := fun _ => rfl; generalize (fr [22, 23, 24, 25, 26, 27, 28, 29, 30, 31, 32, 33, 34, 35, 36, 37, 38, 39] A t).eval = ev at ec e6 e34 ⊢; go_simp
        · exact ⟨_, 0, rfl, hB, Below.refl _ _, rfl, .inl rfl⟩
      | 14, _ =>
        have e3 : (fr [22, 23, 24, 25, 26, 27, 28, 29, 30, 31, 32, 33, 34, 35, 36, 37, 38, 39] A t).eval (.tmp 3) = .pointer (some ⟨gw, 0, none⟩) := (fr_eval_old _ _ _ 3 rfl).trans a3'
        have e34 : (fr [22, 23, 24, 25, 26, 27, 28, 29, 30, 31, 32, 33, 34, 35, 36, 37, 38, 39] A t).eval (.tmp 34) = .bool false := (fr_eval _ _ _ 34 rfl (by rw [asz]; decide)).trans (hp 12 (pre_mem (by kernel_rfl)))
        have hc0 := (hKW wx hB).cell 0 rfl
        have hc1 := (hKW wx hB).cell 1 rfl
        refine op_run_g (v := .agg #[.int .i64 D.top, .slice S.bits.a S.bits.n S.bits.c]) (w' := wx) rfl (wanted_true rfl rfl e34) ?_ ?_
        · clear hp hd; have ec : ∀ v, (fr [22, 23, 24, 25, 26, 27, 28, 29, 30, 31, 32, 33, 34, 35, 36, 37, 38, 39] A t).eval (.const v) = v := fun _ => rfl; generalize (fr [22, 23, 24, 25, 26, 27, 28, 29, 30, 31, 32, 33, 34, 35, 36, 37, 38, 39] A t).eval = ev at ec e3 e34 ⊢; go_simp
        · exact ⟨_, 0, rfl, hB, Below.refl _ _, rfl, .inl rfl⟩
      | 15, _ =>
        have e4 : (fr [22, 23, 24, 25, 26, 27, 28, 29, 30, 31, 32, 33, 34, 35, 36, 37, 38, 39] A t).eval (.tmp 4) = .int .i64 z := (fr_eval_old _ _ _ 4 rfl).trans a4'
        have e34 : (fr [22, 23, 24, 25, 26, 27, 28, 29, 30, 31, 32, 33, 34, 35, 36, 37, 38, 39] A t).eval (.tmp 34) = .bool false := (fr_eval _ _ _ 34 rfl (by rw [asz]; decide)).trans (hp 12 (pre_mem (by kernel_rfl)))
        refine op_run_g (v := .int .i64 z) (w' := wx) rfl (wanted_true rfl rfl e34) ?_ ?_
        · clear hp hd; have ec : ∀ v, (fr [22, 23, 24, 25, 26, 27, 28, 29, 30, 31, 32, 33, 34, 35, 36, 37, 38, 39] A t).eval (.const v) = v := fun _ => rfl; generalize (fr [22, 23, 24, 25, 26, 27, 28, 29, 30, 31, 32, 33, 34, 35, 36, 37, 38, 39] A t).eval = ev at ec e4 e34 ⊢; go_simp
        · exact ⟨_, 0, rfl, hB, Below.refl _ _, rfl, .inl rfl⟩
      | 16, _ =>
        have e36 : (fr [22, 23, 24, 25, 26, 27, 28, 29, 30, 31, 32, 33, 34, 35, 36, 37, 38, 39] A t).eval (.tmp 36) = .agg #[.int .i64 D.top, .slice S.bits.a S.bits.n S.bits.c] := (fr_eval _ _ _ 36 rfl (by rw [asz]; decide)).trans (hp 14 (pre_mem (by kernel_rfl)))
        have e37 : (fr [22, 23, 24, 25, 26, 27, 28, 29, 30, 31, 32, 33, 34, 35, 36, 37, 38, 39] A t).eval (.tmp 37) = .int .i64 z := (fr_eval _ _ _ 37 rfl (by rw [asz]; decide)).trans (hp 15 (pre_mem (by kernel_rfl)))
        have e34 : (fr [22, 23, 24, 25, 26, 27, 28, 29, 30, 31, 32, 33, 34, 35, 36, 37, 38, 39] A t).eval (.tmp 34) = .bool false := (fr_eval _ _ _ 34 rfl (by rw [asz]; decide)).trans (hp 12 (pre_mem (by kernel_rfl)))
        refine op_call_g (f := 15) (args := #[.agg #[.int .i64 D.top, .slice S.bits.a S.bits.n S.bits.c], .int .i64 z]) rfl (wanted_true rfl rfl e34) ?_ (mayI S D z mv wx (hOS wx hB) HMV.out) ?_
        · have ef : (fr [22, 23, 24, 25, 26, 27, 28, 29, 30, 31, 32, 33, 34, 35, 36, 37, 38, 39] A t).eval (.func 15) = .func (.func 15) #[] #[] := rfl; clear hp hd; have ec : ∀ v, (fr [22, 23, 24, 25, 26, 27, 28, 29, 30, 31, 32, 33, 34, 35, 36, 37, 38, 39] A t).eval (.const v) = v := fun _ => rfl; generalize (fr [22, 23, 24, 25, 26, 27, 28, 29, 30, 31, 32, 33, 34, 35, 36, 37, 38, 39] A t).eval = ev at ec e36 e37 e34 ef ⊢; go_simp
        · rintro e wy ⟨rfl, b1⟩
          exact ⟨_, rfl, _, 0, rfl, hB.trans (b1.mono hB.size), b1, rfl, .inl rfl⟩
      | 17, _ =>
        have e35 : (fr [22, 23, 24, 25, 26, 27, 28, 29, 30, 31, 32, 33, 34, 35, 36, 37, 38, 39] A t).eval (.tmp 35) = .bool mv := (fr_eval _ _ _ 35 rfl (by rw [asz]; decide)).trans (hp 13 (pre_mem (by kernel_rfl)))
        have hv16 := hp 16 (pre_mem (by kernel_rfl))
        have e38 : (fr [22, 23, 24, 25, 26, 27, 28, 29, 30, 31, 32, 33, 34, 35, 36, 37, 38, 39] A t).eval (.tmp 38) = .bool mv := (fr_eval _ _ _ 38 rfl (by rw [asz]; decide)).trans hv16
        have e34 : (fr [22, 23, 24, 25, 26, 27, 28, 29, 30, 31, 32, 33, 34, 35, 36, 37, 38, 39] A t).eval (.tmp 34) = .bool false := (fr_eval _ _ _ 34 rfl (by rw [asz]; decide)).trans (hp 12 (pre_mem (by kernel_rfl)))
        have hh := hvv
        refine op_run_g (v := .bool false) (w' := wx) rfl (wanted_true rfl rfl e34) ?_ ?_
        · clear hp hd; have ec : ∀ v, (fr [22, 23, 24, 25, 26, 27, 28, 29, 30, 31, 32, 33, 34, 35, 36, 37, 38, 39] A t).eval (.const v) = v := fun _ => rfl; generalize (fr [22, 23, 24, 25, 26, 27, 28, 29, 30, 31, 32, 33, 34, 35, 36, 37, 38, 39] A t).eval = ev at ec e35 e38 e34 ⊢; go_simp
        · exact ⟨_, 0, rfl, hB, Below.refl _ _, rfl, .inl rfl⟩
      | n + 18, hi => exact absurd hi (by omega)
    · intro t ρ wx hB hF hne
      have e34 : (fr [22, 23, 24, 25, 26, 27, 28, 29, 30, 31, 32, 33, 34, 35, 36, 37, 38, 39] A t).eval (.tmp 34) = .bool false := (fr_eval _ _ _ 34 rfl (by rw [asz]; decide)).trans (hF 12 (by decide))
      have e39 : (fr [22, 23, 24, 25, 26, 27, 28, 29, 30, 31, 32, 33, 34, 35, 36, 37, 38, 39] A t).eval (.tmp 39) = .bool false := (fr_eval _ _ _ 39 rfl (by rw [asz]; decide)).trans (hF 17 (by decide))
      clear hne
      refine op_wp rfl rfl ?_
      have ec : ∀ v, (fr [22, 23, 24, 25, 26, 27, 28, 29, 30, 31, 32, 33, 34, 35, 36, 37, 38, 39] A t).eval (.const v) = v := fun _ => rfl
      generalize hE : (fr [22, 23, 24, 25, 26, 27, 28, 29, 30, 31, 32, 33, 34, 35, 36, 37, 38, 39] A t).eval = ev at ec e34 e39
      unfold Oper.wp
      rw [hE]
      go_simp
      refine hMet _ _ (Met.intro (hRJ _ _ ⟨t 22, t 23, t 24, t 25, t 26, t 27, t 28, t 29, t 30, t 31, t 32, t 33, t 34, t 35, t 36, t 37, t 38, t 39, _, ⟨rfl, hB⟩, ?_⟩))
      rw [← hA]; rfl
  case rest =>
    obtain ⟨x5, hxc⟩ : ∃ z, z = wc := ⟨_, rfl⟩
    subst hxc
    obtain ⟨rfl, b⟩ := hcut
    have L5 : Hid (x4.heap.size ≤ x5.heap.size) := b.size
    have B5 : Hid (Below w.heap.size w x5) := B4.out.trans (b.mono B4.out.size)
    have OS5 : Hid (WnRd x5 S D) := OS4.out.later b
    have KW5 : Hid (Blk x5 gw 26 [.int .i64 D.top, .slice S.bits.a S.bits.n S.bits.c]) := KW4.out.later b
    have OX5 : Hid (WnRd x5 S2 X) := OX4.out.later b
    have KX5 : Hid (Blk x5 gx 26 [.int .i64 X.top, .slice S2.bits.a S2.bits.n S2.bits.c]) := KX4.out.later b
    clear b B4 OS4 KW4 OX4 KX4
    clear hvv hoo
    cases mv with
    | false =>
      obtain rfl : D = X := by rw [← HX.out]; exact (add_no HMV.out).symm
      have d0 := KW5.out.cell 0 rfl
      have d1 := KW5.out.cell 1 rfl
      have e0 := KX5.out.cell 0 rfl
      have e1 := KX5.out.cell 1 rfl
      go_wp2_with fail
      refine (WnW.sameWin S2 S D x5 OX5.out OS5.out ⟨by have := HD.out; omega⟩).mono ?_
      rintro e x6 ⟨rfl, b⟩
      clear d0 d1
      clear e0 e1
      have L6 : Hid (x5.heap.size ≤ x6.heap.size) := b.size
      have B6 : Hid (Below w.heap.size w x6) := B5.out.trans (b.mono B5.out.size)
      have OS6 : Hid (WnRd x6 S D) := OS5.out.later b
      have KW6 : Hid (Blk x6 gw 26 [.int .i64 D.top, .slice S.bits.a S.bits.n S.bits.c]) := KW5.out.later b
      have OX6 : Hid (WnRd x6 S2 D) := OX5.out.later b
      have KX6 : Hid (Blk x6 gx 26 [.int .i64 D.top, .slice S2.bits.a S2.bits.n S2.bits.c]) := KX5.out.later b
      clear b B5 OS5 KW5 OX5 KX5
      go_wp2
      go_ret
      exact ⟨rfl, B6.out⟩
    | true =>
      have HH1 : Hid (winHas X.top X.bits z = true) := by rw [← HX.out]; exact took_has HMV.out
      have HH2 : Hid (winMay X.top X.bits z = false) := by rw [← HX.out]; exact took_not HMV.out
      have HH3 : Hid (winHas D.top D.bits z = false) := had_not HMV.out
      have HH4 : Hid (∀ y, winHas D.top D.bits y = true → winHas X.top X.bits y = decide (y > X.top - 1024)) := by intro y hy; rw [← HX.out]; exact has_still HMV.out hy
      have HTB : Hid (-1 ≤ X.top ∧ X.top ≤ 281474976710655) := by rw [← HX.out]; exact top_bounds HMV.out
      have d0 := KX5.out.cell 0 rfl
      have d1 := KX5.out.cell 1 rfl
      go_wp2_with fail
      refine (hasI S2 X z true x5 OX5.out HH1.out).mono ?_
      rintro e x6 ⟨rfl, b⟩
      clear d0 d1
      have L6 : Hid (x5.heap.size ≤ x6.heap.size) := b.size
      have B6 : Hid (Below w.heap.size w x6) := B5.out.trans (b.mono B5.out.size)
      have OS6 : Hid (WnRd x6 S D) := OS5.out.later b
      have KW6 : Hid (Blk x6 gw 26 [.int .i64 D.top, .slice S.bits.a S.bits.n S.bits.c]) := KW5.out.later b
      have OX6 : Hid (WnRd x6 S2 X) := OX5.out.later b
      have KX6 : Hid (Blk x6 gx 26 [.int .i64 X.top, .slice S2.bits.a S2.bits.n S2.bits.c]) := KX5.out.later b
      clear b B5 OS5 KW5 OX5 KX5
      have d0 := KX6.out.cell 0 rfl
      have d1 := KX6.out.cell 1 rfl
      go_wp2_with fail
      refine (mayI S2 X z false x6 OX6.out HH2.out).mono ?_
      rintro e x7 ⟨rfl, b⟩
      clear d0 d1
      have L7 : Hid (x6.heap.size ≤ x7.heap.size) := b.size
      have B7 : Hid (Below w.heap.size w x7) := B6.out.trans (b.mono B6.out.size)
      have OS7 : Hid (WnRd x7 S D) := OS6.out.later b
      have KW7 : Hid (Blk x7 gw 26 [.int .i64 D.top, .slice S.bits.a S.bits.n S.bits.c]) := KW6.out.later b
      have OX7 : Hid (WnRd x7 S2 X) := OX6.out.later b
      have KX7 : Hid (Blk x7 gx 26 [.int .i64 X.top, .slice S2.bits.a S2.bits.n S2.bits.c]) := KX6.out.later b
      clear b B6 OS6 KW6 OX6 KX6
      have d0 := KW7.out.cell 0 rfl
      have d1 := KW7.out.cell 1 rfl
      go_wp2_with fail
      refine (hasI S D z false x7 OS7.out HH3.out).mono ?_
      rintro e x8 ⟨rfl, b⟩
      clear d0 d1
      have L8 : Hid (x7.heap.size ≤ x8.heap.size) := b.size
      have B8 : Hid (Below w.heap.size w x8) := B7.out.trans (b.mono B7.out.size)
      have OS8 : Hid (WnRd x8 S D) := OS7.out.later b
      have KW8 : Hid (Blk x8 gw 26 [.int .i64 D.top, .slice S.bits.a S.bits.n S.bits.c]) := KW7.out.later b
      have OX8 : Hid (WnRd x8 S2 X) := OX7.out.later b
      have KX8 : Hid (Blk x8 gx 26 [.int .i64 X.top, .slice S2.bits.a S2.bits.n S2.bits.c]) := KX7.out.later b
      clear b B7 OS7 KW7 OX7 KX7
      have d0 := KW8.out.cell 0 rfl
      have d1 := KW8.out.cell 1 rfl
      go_wp2_with fail
      refine (implWinList S D x8 OS8.out).mono ?_
      rintro e x9 ⟨q, n, c, rfl, em, kq, rw, b⟩
      have HN : Hid (n = (winList D.top D.bits).length) := em
      have rl : ISOwn x9 x8.heap.size x9.heap.size ⟨some ⟨q, 0, none⟩, n, c⟩ (winList D.top D.bits) := ISOwn.row rw em kq rw.lt
      clear em kq rw
      clear d0 d1
      have L9 : Hid (x8.heap.size ≤ x9.heap.size) := b.size
      have B9 : Hid (Below w.heap.size w x9) := B8.out.trans (b.mono B8.out.size)
      have OS9 : Hid (WnRd x9 S D) := OS8.out.later b
      have KW9 : Hid (Blk x9 gw 26 [.int .i64 D.top, .slice S.bits.a S.bits.n S.bits.c]) := KW8.out.later b
      have OX9 : Hid (WnRd x9 S2 X) := OX8.out.later b
      have KX9 : Hid (Blk x9 gx 26 [.int .i64 X.top, .slice S2.bits.a S2.bits.n S2.bits.c]) := KX8.out.later b
      clear b B8 OS8 KW8 OX8 KX8
      have OL9 : Hid (ISOwn x9 x8.heap.size x9.heap.size ⟨some ⟨q, 0, none⟩, n, c⟩ (winList D.top D.bits)) := rl
      clear rl
      have HN2 : Hid (n ≤ 1024) := by show n ≤ 1024; rw [HN.out]; exact winList_length _ _
      obtain ⟨LL, hLL⟩ : ∃ v, winList D.top D.bits = v := ⟨_, rfl⟩
      have HLM : Hid (∀ y ∈ LL, winHas X.top X.bits y = decide (y > X.top - 1024)) := by intro y hy; rw [← hLL] at hy; exact HH4.out y ((winList_mem _ _ _).1 hy)
      have HLI : Hid (∀ y ∈ LL, 0 ≤ y ∧ y ≤ 281474976710655) := by intro y hy; rw [← hLL] at hy; exact has_range ((winList_mem _ _ _).1 hy)
      rw [hLL] at OL9 HN
      clear hLL
      have hn2 := HN2.out
      go_wp2
      go_loopw [8] (fun i wr => ∃ k : Nat, k ≤ n ∧ i = .int .i64 k ∧ Below x9.heap.size x9 wr) (fun i _ => n - (intOf i).toNat)
      case atStart => exact ⟨0, Nat.zero_le _, rfl, Below.refl _ _⟩
      case round =>
        obtain ⟨k, hk, rfl, hb⟩ := hrel
        have BR : Hid (Below x9.heap.size x9 wr) := hb
        clear hb
        by_cases hlt : k < n
        · obtain ⟨el, hv⟩ : ∃ v, LL.getD k 0 = v := ⟨_, rfl⟩
          have hmem : el ∈ LL := by rw [← hv]; have := HN.out; exact mem_at (by omega)
          have HV1 : Hid (winHas X.top X.bits el = decide (el > X.top - 1024)) := HLM.out el hmem
          have HTW : Hid (IntKind.i64.wrap (X.top - 1024) = X.top - 1024) := by show _ = _; rw [IntKind.wrap_i64]; have := HTB.out; omega
          have KR : Hid (Blk wr gx 26 [.int .i64 X.top, .slice S2.bits.a S2.bits.n S2.bits.c]) := KX9.out.later BR.out
          have OR : Hid (WnRd wr S2 X) := OX9.out.later BR.out
          have QR : Hid (ISRd wr ⟨some ⟨q, 0, none⟩, n, c⟩ LL) := (OL9.out.later BR.out).rd
          obtain ⟨bk, of, he, _, hcell⟩ := QR.out.rd k (by have := HN.out; omega)
          simp only [Option.some.injEq, Addr.mk.injEq, and_true] at he
          obtain ⟨rfl, rfl⟩ := he
          rw [hv] at hcell
          have HC : Hid (wr.cell? ⟨q, k, none⟩ = some (.int .i64 el)) := by rw [Nat.zero_add] at hcell; exact hcell
          clear hcell hmem hv
          cases hg : decide (el > X.top - 1024) with
          | true =>
            have HV2 : Hid (winHas X.top X.bits el = true) := by show _ = _; rw [HV1.out, hg]
            have hltI : (k : Int) < (n : Int) := by omega
            go_upto_region 15 with fail
            go_cut [82] from 68 to 81 (fun sv wx => sv = .bool false ∧ Below wr.heap.size wr wx)
            case first =>
              rename_i J K' hRJ hMet
              generalize hA : Act.mk _ _ = A
              have a5' : A.eval (.tmp 5) = .pointer (some ⟨gx, 0, none⟩) := by rw [← hA]; rfl
              have a7' : A.eval (.tmp 7) = .slice (some ⟨q, 0, none⟩) n c := by rw [← hA]; rfl
              have a8' : A.eval (.tmp 8) = .int .i64 (k : Int) := by rw [← hA]; rfl
              have asz : A.tmps.size = 83 := by rw [← hA]; rfl
              have hKX : ∀ wx, Below wr.heap.size wr wx → Blk wx gx 26 [.int .i64 X.top, .slice S2.bits.a S2.bits.n S2.bits.c] := fun wx hb => KR.out.later hb
              have hOX : ∀ wx, Below wr.heap.size wr wx → WnRd wx S2 X := fun wx hb => OR.out.later hb
              have hQX : ∀ wx, Below wr.heap.size wr wx → wx.cell? ⟨q, k, none⟩ = some (.int .i64 el) := fun wx hb => by rw [hb.cell (World.block_lt_of_cell? wr _ HC.out)]; exact HC.out
              refine region_each (by kernel_rfl) [68, 69, 70, 71, 72, 73, 74, 75, 76, 77, 78, 79, 80, 81] 14 (fun i => [68, 69, 70, 71, 72, 73, 74, 75, 76, 77, 78, 79, 80, 81].getD i 0) (fun _ => 0)
                (fun i gB v wx => match i with
                  | 0 => v = .agg #[.int .i64 X.top, .slice S2.bits.a S2.bits.n S2.bits.c]
                  | 1 => v = .slice (some ⟨q, 0, none⟩) n c
                  | 2 => v = .int .i64 (k : Int)
                  | 3 => v = .pointer (some ⟨q, k, none⟩)
                  | 4 => v = .int .i64 el
                  | 5 => v = .bool true
                  | 6 => v = .slice (some ⟨q, 0, none⟩) n c
                  | 7 => v = .int .i64 (k : Int)
                  | 8 => v = .pointer (some ⟨q, k, none⟩)
                  | 9 => v = .int .i64 el
                  | 10 => v = .pointer (some ⟨gx, 0, none⟩)
                  | 11 => v = .int .i64 X.top
                  | 12 => v = .int .i64 (X.top - 1024)
                  | 13 => v = .bool true
                  | _ => False) (fun wx => Below wr.heap.size wr wx) (by kernel_rfl) (Below.refl _ _).drew ?_ ?_ ?_
              · intro i gB v wx wy hi hF hb _
                match i, hi with
                | 0, _ => exact hF
                | 1, _ => exact hF
                | 2, _ => exact hF
                | 3, _ => exact hF
                | 4, _ => exact hF
                | 5, _ => exact hF
                | 6, _ => exact hF
                | 7, _ => exact hF
                | 8, _ => exact hF
                | 9, _ => exact hF
                | 10, _ => exact hF
                | 11, _ => exact hF
                | 12, _ => exact hF
                | 13, _ => exact hF
              · intro i hi t ρ wx hB hp hd
                match i, hi with
                | 0, _ =>
                  have e5 : (fr [68, 69, 70, 71, 72, 73, 74, 75, 76, 77, 78, 79, 80, 81] A t).eval (.tmp 5) = .pointer (some ⟨gx, 0, none⟩) := (fr_eval_old _ _ _ 5 rfl).trans a5'
                  have hc0 := (hKX wx hB).cell 0 rfl
                  have hc1 := (hKX wx hB).cell 1 rfl
                  refine op_run (v := .agg #[.int .i64 X.top, .slice S2.bits.a S2.bits.n S2.bits.c]) (w' := wx) rfl rfl ?_ ?_
                  · clear hp hd; have ec : ∀ v, (fr [68, 69, 70, 71, 72, 73, 74, 75, 76, 77, 78, 79, 80, 81] A t).eval (.const v) = v := fun _ => rfl; generalize (fr [68, 69, 70, 71, 72, 73, 74, 75, 76, 77, 78, 79, 80, 81] A t).eval = ev at ec e5 ⊢; go_simp
                  · exact ⟨_, 0, rfl, hB, Below.refl _ _, rfl, .inl rfl⟩
                | 1, _ =>
                  have e7 : (fr [68, 69, 70, 71, 72, 73, 74, 75, 76, 77, 78, 79, 80, 81] A t).eval (.tmp 7) = .slice (some ⟨q, 0, none⟩) n c := (fr_eval_old _ _ _ 7 rfl).trans a7'
                  refine op_run (v := .slice (some ⟨q, 0, none⟩) n c) (w' := wx) rfl rfl ?_ ?_
                  · clear hp hd; have ec : ∀ v, (fr [68, 69, 70, 71, 72, 73, 74, 75, 76, 77, 78, 79, 80, 81] A t).eval (.const v) = v := fun _ => rfl; generalize (fr [68, 69, 70, 71, 72, 73, 74, 75, 76, 77, 78, 79, 80, 81] A t).eval = ev at ec e7 ⊢; go_simp
                  · exact ⟨_, 0, rfl, hB, Below.refl _ _, rfl, .inl rfl⟩
                | 2, _ =>
                  have e8 : (fr [68, 69, 70, 71, 72, 73, 74, 75, 76, 77, 78, 79, 80, 81] A t).eval (.tmp 8) = .int .i64 (k : Int) := (fr_eval_old _ _ _ 8 rfl).trans a8'
                  refine op_run (v := .int .i64 (k : Int)) (w' := wx) rfl rfl ?_ ?_
                  · clear hp hd; have ec : ∀ v, (fr [68, 69, 70, 71, 72, 73, 74, 75, 76, 77, 78, 79, 80, 81] A t).eval (.const v) = v := fun _ => rfl; generalize (fr [68, 69, 70, 71, 72, 73, 74, 75, 76, 77, 78, 79, 80, 81] A t).eval = ev at ec e8 ⊢; go_simp
                  · exact ⟨_, 0, rfl, hB, Below.refl _ _, rfl, .inl rfl⟩
                | 3, _ =>
                  have e69 : (fr [68, 69, 70, 71, 72, 73, 74, 75, 76, 77, 78, 79, 80, 81] A t).eval (.tmp 69) = .slice (some ⟨q, 0, none⟩) n c := (fr_eval _ _ _ 69 rfl (by rw [asz]; decide)).trans (hp 1 (pre_mem (by kernel_rfl)))
                  have e70 : (fr [68, 69, 70, 71, 72, 73, 74, 75, 76, 77, 78, 79, 80, 81] A t).eval (.tmp 70) = .int .i64 (k : Int) := (fr_eval _ _ _ 70 rfl (by rw [asz]; decide)).trans (hp 2 (pre_mem (by kernel_rfl)))
                  have hh := hltI
                  refine op_run (v := .pointer (some ⟨q, k, none⟩)) (w' := wx) rfl rfl ?_ ?_
                  · clear hp hd; have ec : ∀ v, (fr [68, 69, 70, 71, 72, 73, 74, 75, 76, 77, 78, 79, 80, 81] A t).eval (.const v) = v := fun _ => rfl; generalize (fr [68, 69, 70, 71, 72, 73, 74, 75, 76, 77, 78, 79, 80, 81] A t).eval = ev at ec e69 e70 ⊢; go_simp
                  · exact ⟨_, 0, rfl, hB, Below.refl _ _, rfl, .inl rfl⟩
                | 4, _ =>
                  have e71 : (fr [68, 69, 70, 71, 72, 73, 74, 75, 76, 77, 78, 79, 80, 81] A t).eval (.tmp 71) = .pointer (some ⟨q, k, none⟩) := (fr_eval _ _ _ 71 rfl (by rw [asz]; decide)).trans (hp 3 (pre_mem (by kernel_rfl)))
                  have hc := hQX wx hB
                  refine op_run (v := .int .i64 el) (w' := wx) rfl rfl ?_ ?_
                  · clear hp hd; have ec : ∀ v, (fr [68, 69, 70, 71, 72, 73, 74, 75, 76, 77, 78, 79, 80, 81] A t).eval (.const v) = v := fun _ => rfl; generalize (fr [68, 69, 70, 71, 72, 73, 74, 75, 76, 77, 78, 79, 80, 81] A t).eval = ev at ec e71 ⊢; go_simp
                  · exact ⟨_, 0, rfl, hB, Below.refl _ _, rfl, .inl rfl⟩
                | 5, _ =>
                  have e68 : (fr [68, 69, 70, 71, 72, 73, 74, 75, 76, 77, 78, 79, 80, 81] A t).eval (.tmp 68) = .agg #[.int .i64 X.top, .slice S2.bits.a S2.bits.n S2.bits.c] := (fr_eval _ _ _ 68 rfl (by rw [asz]; decide)).trans (hp 0 (pre_mem (by kernel_rfl)))
                  have e72 : (fr [68, 69, 70, 71, 72, 73, 74, 75, 76, 77, 78, 79, 80, 81] A t).eval (.tmp 72) = .int .i64 el := (fr_eval _ _ _ 72 rfl (by rw [asz]; decide)).trans (hp 4 (pre_mem (by kernel_rfl)))
                  refine op_call (f := 17) (args := #[.agg #[.int .i64 X.top, .slice S2.bits.a S2.bits.n S2.bits.c], .int .i64 el]) rfl rfl ?_ (hasI S2 X el true wx (hOX wx hB) HV2.out) ?_
                  · have ef : (fr [68, 69, 70, 71, 72, 73, 74, 75, 76, 77, 78, 79, 80, 81] A t).eval (.func 17) = .func (.func 17) #[] #[] := rfl; clear hp hd; have ec : ∀ v, (fr [68, 69, 70, 71, 72, 73, 74, 75, 76, 77, 78, 79, 80, 81] A t).eval (.const v) = v := fun _ => rfl; generalize (fr [68, 69, 70, 71, 72, 73, 74, 75, 76, 77, 78, 79, 80, 81] A t).eval = ev at ec e68 e72 ef ⊢; go_simp
                  · rintro e wy ⟨rfl, b1⟩
                    exact ⟨_, rfl, _, 0, rfl, hB.trans (b1.mono hB.size), b1, rfl, .inl rfl⟩
                | 6, _ =>
                  have e7 : (fr [68, 69, 70, 71, 72, 73, 74, 75, 76, 77, 78, 79, 80, 81] A t).eval (.tmp 7) = .slice (some ⟨q, 0, none⟩) n c := (fr_eval_old _ _ _ 7 rfl).trans a7'
                  refine op_run (v := .slice (some ⟨q, 0, none⟩) n c) (w' := wx) rfl rfl ?_ ?_
                  · clear hp hd; have ec : ∀ v, (fr [68, 69, 70, 71, 72, 73, 74, 75, 76, 77, 78, 79, 80, 81] A t).eval (.const v) = v := fun _ => rfl; generalize (fr [68, 69, 70, 71, 72, 73, 74, 75, 76, 77, 78, 79, 80, 81] A t).eval = ev at ec e7 ⊢; go_simp
                  · exact ⟨_, 0, rfl, hB, Below.refl _ _, rfl, .inl rfl⟩
                | 7, _ =>
                  have e8 : (fr [68, 69, 70, 71, 72, 73, 74, 75, 76, 77, 78, 79, 80, 81] A t).eval (.tmp 8) = .int .i64 (k : Int) := (fr_eval_old _ _ _ 8 rfl).trans a8'
                  refine op_run (v := .int .i64 (k : Int)) (w' := wx) rfl rfl ?_ ?_
                  · clear hp hd; have ec : ∀ v, (fr [68, 69, 70, 71, 72, 73, 74, 75, 76, 77, 78, 79, 80, 81] A t).eval (.const v) = v := fun _ => rfl; generalize (fr [68, 69, 70, 71, 72, 73, 74, 75, 76, 77, 78, 79, 80, 81] A t).eval = ev at ec e8 ⊢; go_simp
                  · exact ⟨_, 0, rfl, hB, Below.refl _ _, rfl, .inl rfl⟩
                | 8, _ =>
                  have e74 : (fr [68, 69, 70, 71, 72, 73, 74, 75, 76, 77, 78, 79, 80, 81] A t).eval (.tmp 74) = .slice (some ⟨q, 0, none⟩) n c := (fr_eval _ _ _ 74 rfl (by rw [asz]; decide)).trans (hp 6 (pre_mem (by kernel_rfl)))
                  have e75 : (fr [68, 69, 70, 71, 72, 73, 74, 75, 76, 77, 78, 79, 80, 81] A t).eval (.tmp 75) = .int .i64 (k : Int) := (fr_eval _ _ _ 75 rfl (by rw [asz]; decide)).trans (hp 7 (pre_mem (by kernel_rfl)))
                  have hh := hltI
                  refine op_run (v := .pointer (some ⟨q, k, none⟩)) (w' := wx) rfl rfl ?_ ?_
                  · clear hp hd; have ec : ∀ v, (fr [68, 69, 70, 71, 72, 73, 74, 75, 76, 77, 78, 79, 80, 81] A t).eval (.const v) = v := fun _ => rfl; generalize (fr [68, 69, 70, 71, 72, 73, 74, 75, 76, 77, 78, 79, 80, 81] A t).eval = ev at ec e74 e75 ⊢; go_simp
                  · exact ⟨_, 0, rfl, hB, Below.refl _ _, rfl, .inl rfl⟩
                | 9, _ =>
                  have e76 : (fr [68, 69, 70, 71, 72, 73, 74, 75, 76, 77, 78, 79, 80, 81] A t).eval (.tmp 76) = .pointer (some ⟨q, k, none⟩) := (fr_eval _ _ _ 76 rfl (by rw [asz]; decide)).trans (hp 8 (pre_mem (by kernel_rfl)))
                  have hc := hQX wx hB
                  refine op_run (v := .int .i64 el) (w' := wx) rfl rfl ?_ ?_
                  · clear hp hd; have ec : ∀ v, (fr [68, 69, 70, 71, 72, 73, 74, 75, 76, 77, 78, 79, 80, 81] A t).eval (.const v) = v := fun _ => rfl; generalize (fr [68, 69, 70, 71, 72, 73, 74, 75, 76, 77, 78, 79, 80, 81] A t).eval = ev at ec e76 ⊢; go_simp
                  · exact ⟨_, 0, rfl, hB, Below.refl _ _, rfl, .inl rfl⟩
                | 10, _ =>
                  have e5 : (fr [68, 69, 70, 71, 72, 73, 74, 75, 76, 77, 78, 79, 80, 81] A t).eval (.tmp 5) = .pointer (some ⟨gx, 0, none⟩) := (fr_eval_old _ _ _ 5 rfl).trans a5'
                  refine op_run (v := .pointer (some ⟨gx, 0, none⟩)) (w' := wx) rfl rfl ?_ ?_
                  · clear hp hd; have ec : ∀ v, (fr [68, 69, 70, 71, 72, 73, 74, 75, 76, 77, 78, 79, 80, 81] A t).eval (.const v) = v := fun _ => rfl; generalize (fr [68, 69, 70, 71, 72, 73, 74, 75, 76, 77, 78, 79, 80, 81] A t).eval = ev at ec e5 ⊢; go_simp
                  · exact ⟨_, 0, rfl, hB, Below.refl _ _, rfl, .inl rfl⟩
                | 11, _ =>
                  have e78 : (fr [68, 69, 70, 71, 72, 73, 74, 75, 76, 77, 78, 79, 80, 81] A t).eval (.tmp 78) = .pointer (some ⟨gx, 0, none⟩) := (fr_eval _ _ _ 78 rfl (by rw [asz]; decide)).trans (hp 10 (pre_mem (by kernel_rfl)))
                  have hc0 := (hKX wx hB).cell 0 rfl
                  have hc1 := (hKX wx hB).cell 1 rfl
                  refine op_run (v := .int .i64 X.top) (w' := wx) rfl rfl ?_ ?_
                  · clear hp hd; have ec : ∀ v, (fr [68, 69, 70, 71, 72, 73, 74, 75, 76, 77, 78, 79, 80, 81] A t).eval (.const v) = v := fun _ => rfl; generalize (fr [68, 69, 70, 71, 72, 73, 74, 75, 76, 77, 78, 79, 80, 81] A t).eval = ev at ec e78 ⊢; go_simp
                  · exact ⟨_, 0, rfl, hB, Below.refl _ _, rfl, .inl rfl⟩
                | 12, _ =>
                  have e79 : (fr [68, 69, 70, 71, 72, 73, 74, 75, 76, 77, 78, 79, 80, 81] A t).eval (.tmp 79) = .int .i64 X.top := (fr_eval _ _ _ 79 rfl (by rw [asz]; decide)).trans (hp 11 (pre_mem (by kernel_rfl)))
                  have hh := HTW.out
                  refine op_run (v := .int .i64 (X.top - 1024)) (w' := wx) rfl rfl ?_ ?_
                  · clear hp hd; have ec : ∀ v, (fr [68, 69, 70, 71, 72, 73, 74, 75, 76, 77, 78, 79, 80, 81] A t).eval (.const v) = v := fun _ => rfl; generalize (fr [68, 69, 70, 71, 72, 73, 74, 75, 76, 77, 78, 79, 80, 81] A t).eval = ev at ec e79 ⊢; go_simp
                  · exact ⟨_, 0, rfl, hB, Below.refl _ _, rfl, .inl rfl⟩
                | 13, _ =>
                  have e77 : (fr [68, 69, 70, 71, 72, 73, 74, 75, 76, 77, 78, 79, 80, 81] A t).eval (.tmp 77) = .int .i64 el := (fr_eval _ _ _ 77 rfl (by rw [asz]; decide)).trans (hp 9 (pre_mem (by kernel_rfl)))
                  have e80 : (fr [68, 69, 70, 71, 72, 73, 74, 75, 76, 77, 78, 79, 80, 81] A t).eval (.tmp 80) = .int .i64 (X.top - 1024) := (fr_eval _ _ _ 80 rfl (by rw [asz]; decide)).trans (hp 12 (pre_mem (by kernel_rfl)))
                  have hh := hg
                  refine op_run (v := .bool true) (w' := wx) rfl rfl ?_ ?_
                  · clear hp hd; have ec : ∀ v, (fr [68, 69, 70, 71, 72, 73, 74, 75, 76, 77, 78, 79, 80, 81] A t).eval (.const v) = v := fun _ => rfl; generalize (fr [68, 69, 70, 71, 72, 73, 74, 75, 76, 77, 78, 79, 80, 81] A t).eval = ev at ec e77 e80 ⊢; go_simp
                  · exact ⟨_, 0, rfl, hB, Below.refl _ _, rfl, .inl rfl⟩
              · intro t ρ wx hB hF hne
                have hv5 := hF 5 (by decide)
                have e73 : (fr [68, 69, 70, 71, 72, 73, 74, 75, 76, 77, 78, 79, 80, 81] A t).eval (.tmp 73) = .bool true := (fr_eval _ _ _ 73 rfl (by rw [asz]; decide)).trans hv5
                have e81 : (fr [68, 69, 70, 71, 72, 73, 74, 75, 76, 77, 78, 79, 80, 81] A t).eval (.tmp 81) = .bool true := (fr_eval _ _ _ 81 rfl (by rw [asz]; decide)).trans (hF 13 (by decide))
                clear hne
                refine op_wp rfl rfl ?_
                generalize hE : (fr [68, 69, 70, 71, 72, 73, 74, 75, 76, 77, 78, 79, 80, 81] A t).eval = ev at e73 e81
                unfold Oper.wp
                rw [hE]
                go_simp
                refine hMet _ _ (Met.intro (hRJ _ _ ⟨t 68, t 69, t 70, t 71, t 72, t 73, t 74, t 75, t 76, t 77, t 78, t 79, t 80, t 81, _, ⟨rfl, hB⟩, ?_⟩))
                rw [← hA]; rfl
            case rest =>
              obtain ⟨rfl, b⟩ := hcut
              have BZ : Hid (Below x9.heap.size x9 wc) := BR.out.trans (b.mono BR.out.size)
              clear b
              go_wp2
              go_roundw
              case rel => exact ⟨k + 1, by omega, by go_num, BZ.out⟩
              case measure => simp [intOf]; omega
          | false =>
            have HV2 : Hid (winHas X.top X.bits el = false) := by show _ = _; rw [HV1.out, hg]
            have hltI : (k : Int) < (n : Int) := by omega
            go_upto_region 15 with fail
            go_cut [82] from 68 to 81 (fun sv wx => sv = .bool false ∧ Below wr.heap.size wr wx)
            case first =>
              rename_i J K' hRJ hMet
              generalize hA : Act.mk _ _ = A
              have a5' : A.eval (.tmp 5) = .pointer (some ⟨gx, 0, none⟩) := by rw [← hA]; rfl
              have a7' : A.eval (.tmp 7) = .slice (some ⟨q, 0, none⟩) n c := by rw [← hA]; rfl
              have a8' : A.eval (.tmp 8) = .int .i64 (k : Int) := by rw [← hA]; rfl
              have asz : A.tmps.size = 83 := by rw [← hA]; rfl
              have hKX : ∀ wx, Below wr.heap.size wr wx → Blk wx gx 26 [.int .i64 X.top, .slice S2.bits.a S2.bits.n S2.bits.c] := fun wx hb => KR.out.later hb
              have hOX : ∀ wx, Below wr.heap.size wr wx → WnRd wx S2 X := fun wx hb => OR.out.later hb
              have hQX : ∀ wx, Below wr.heap.size wr wx → wx.cell? ⟨q, k, none⟩ = some (.int .i64 el) := fun wx hb => by rw [hb.cell (World.block_lt_of_cell? wr _ HC.out)]; exact HC.out
              refine region_each (by kernel_rfl) [68, 69, 70, 71, 72, 73, 74, 75, 76, 77, 78, 79, 80, 81] 14 (fun i => [68, 69, 70, 71, 72, 73, 74, 75, 76, 77, 78, 79, 80, 81].getD i 0) (fun _ => 0)
                (fun i gB v wx => match i with
                  | 0 => v = .agg #[.int .i64 X.top, .slice S2.bits.a S2.bits.n S2.bits.c]
                  | 1 => v = .slice (some ⟨q, 0, none⟩) n c
                  | 2 => v = .int .i64 (k : Int)
                  | 3 => v = .pointer (some ⟨q, k, none⟩)
                  | 4 => v = .int .i64 el
                  | 5 => v = .bool false
                  | 6 => v = .slice (some ⟨q, 0, none⟩) n c
                  | 7 => v = .int .i64 (k : Int)
                  | 8 => v = .pointer (some ⟨q, k, none⟩)
                  | 9 => v = .int .i64 el
                  | 10 => v = .pointer (some ⟨gx, 0, none⟩)
                  | 11 => v = .int .i64 X.top
                  | 12 => v = .int .i64 (X.top - 1024)
                  | 13 => v = .bool false
                  | _ => False) (fun wx => Below wr.heap.size wr wx) (by kernel_rfl) (Below.refl _ _).drew ?_ ?_ ?_
              · intro i gB v wx wy hi hF hb _
                match i, hi with
                | 0, _ => exact hF
                | 1, _ => exact hF
                | 2, _ => exact hF
                | 3, _ => exact hF
                | 4, _ => exact hF
                | 5, _ => exact hF
                | 6, _ => exact hF
                | 7, _ => exact hF
                | 8, _ => exact hF
                | 9, _ => exact hF
                | 10, _ => exact hF
                | 11, _ => exact hF
                | 12, _ => exact hF
                | 13, _ => exact hF
              · intro i hi t ρ wx hB hp hd
                match i, hi with
                | 0, _ =>
                  have e5 : (fr [68, 69, 70, 71, 72, 73, 74, 75, 76, 77, 78, 79, 80, 81] A t).eval (.tmp 5) = .pointer (some ⟨gx, 0, none⟩) := (fr_eval_old _ _ _ 5 rfl).trans a5'
                  have hc0 := (hKX wx hB).cell 0 rfl
                  have hc1 := (hKX wx hB).cell 1 rfl
                  refine op_run (v := .agg #[.int .i64 X.top, .slice S2.bits.a S2.bits.n S2.bits.c]) (w' := wx) rfl rfl ?_ ?_
                  · clear hp hd; have ec : ∀ v, (fr [68, 69, 70, 71, 72, 73, 74, 75, 76, 77, 78, 79, 80, 81] A t).eval (.const v) = v := fun _ => rfl; generalize (fr [68, 69, 70, 71, 72, 73, 74, 75, 76, 77, 78, 79, 80, 81] A t).eval = ev at ec e5 ⊢; go_simp
                  · exact ⟨_, 0, rfl, hB, Below.refl _ _, rfl, .inl rfl⟩
                | 1, _ =>
                  have e7 : (fr [68, 69, 70, 71, 72, 73, 74, 75, 76, 77, 78, 79, 80, 81] A t).eval (.tmp 7) = .slice (some ⟨q, 0, none⟩) n c := (fr_eval_old _ _ _ 7 rfl).trans a7'
                  refine op_run (v := .slice (some ⟨q, 0, none⟩) n c) (w' := wx) rfl rfl ?_ ?_
                  · clear hp hd; have ec : ∀ v, (fr [68, 69, 70, 71, 72, 73, 74, 75, 76, 77, 78, 79, 80, 81] A t).eval (.const v) = v := fun _ => rfl; generalize (fr [68, 69, 70, 71, 72, 73, 74, 75, 76, 77, 78, 79, 80, 81] A t).eval = ev at ec e7 ⊢; go_simp
                  · exact ⟨_, 0, rfl, hB, Below.refl _ _, rfl, .inl rfl⟩
                | 2, _ =>
                  have e8 : (fr [68, 69, 70, 71, 72, 73, 74, 75, 76, 77, 78, 79, 80, 81] A t).eval (.tmp 8) = .int .i64 (k : Int) := (fr_eval_old _ _ _ 8 rfl).trans a8'
                  refine op_run (v := .int .i64 (k : Int)) (w' := wx) rfl rfl ?_ ?_
                  · clear hp hd; have ec : ∀ v, (fr [68, 69, 70, 71, 72, 73, 74, 75, 76, 77, 78, 79, 80, 81] A t).eval (.const v) = v := fun _ => rfl; generalize (fr [68, 69, 70, 71, 72, 73, 74, 75, 76, 77, 78, 79, 80, 81] A t).eval = ev at ec e8 ⊢; go_simp
                  · exact ⟨_, 0, rfl, hB, Below.refl _ _, rfl, .inl rfl⟩
                | 3, _ =>
                  have e69 : (fr [68, 69, 70, 71, 72, 73, 74, 75, 76, 77, 78, 79, 80, 81] A t).eval (.tmp 69) = .slice (some ⟨q, 0, none⟩) n c := (fr_eval _ _ _ 69 rfl (by rw [asz]; decide)).trans (hp 1 (pre_mem (by kernel_rfl)))
                  have e70 : (fr [68, 69, 70, 71, 72, 73, 74, 75, 76, 77, 78, 79, 80, 81] A t).eval (.tmp 70) = .int .i64 (k : Int) := (fr_eval _ _ _ 70 rfl (by rw [asz]; decide)).trans (hp 2 (pre_mem (by kernel_rfl)))
                  have hh := hltI
                  refine op_run (v := .pointer (some ⟨q, k, none⟩)) (w' := wx) rfl rfl ?_ ?_
                  · clear hp hd; have ec : ∀ v, (fr [68, 69, 70, 71, 72, 73, 74, 75, 76, 77, 78, 79, 80, 81] A t).eval (.const v) = v := fun _ => rfl; generalize (fr [68, 69, 70, 71, 72, 73, 74, 75, 76, 77, 78, 79, 80, 81] A t).eval = ev at ec e69 e70 ⊢; go_simp
                  · exact ⟨_, 0, rfl, hB, Below.refl _ _, rfl, .inl rfl⟩
                | 4, _ =>
                  have e71 : (fr [68, 69, 70, 71, 72, 73, 74, 75, 76, 77, 78, 79, 80, 81] A t).eval (.tmp 71) = .pointer (some ⟨q, k, none⟩) := (fr_eval _ _ _ 71 rfl (by rw [asz]; decide)).trans (hp 3 (pre_mem (by kernel_rfl)))
                  have hc := hQX wx hB
                  refine op_run (v := .int .i64 el) (w' := wx) rfl rfl ?_ ?_
                  · clear hp hd; have ec : ∀ v, (fr [68, 69, 70, 71, 72, 73, 74, 75, 76, 77, 78, 79, 80, 81] A t).eval (.const v) = v := fun _ => rfl; generalize (fr [68, 69, 70, 71, 72, 73, 74, 75, 76, 77, 78, 79, 80, 81] A t).eval = ev at ec e71 ⊢; go_simp
                  · exact ⟨_, 0, rfl, hB, Below.refl _ _, rfl, .inl rfl⟩
                | 5, _ =>
                  have e68 : (fr [68, 69, 70, 71, 72, 73, 74, 75, 76, 77, 78, 79, 80, 81] A t).eval (.tmp 68) = .agg #[.int .i64 X.top, .slice S2.bits.a S2.bits.n S2.bits.c] := (fr_eval _ _ _ 68 rfl (by rw [asz]; decide)).trans (hp 0 (pre_mem (by kernel_rfl)))
                  have e72 : (fr [68, 69, 70, 71, 72, 73, 74, 75, 76, 77, 78, 79, 80, 81] A t).eval (.tmp 72) = .int .i64 el := (fr_eval _ _ _ 72 rfl (by rw [asz]; decide)).trans (hp 4 (pre_mem (by kernel_rfl)))
                  refine op_call (f := 17) (args := #[.agg #[.int .i64 X.top, .slice S2.bits.a S2.bits.n S2.bits.c], .int .i64 el]) rfl rfl ?_ (hasI S2 X el false wx (hOX wx hB) HV2.out) ?_
                  · have ef : (fr [68, 69, 70, 71, 72, 73, 74, 75, 76, 77, 78, 79, 80, 81] A t).eval (.func 17) = .func (.func 17) #[] #[] := rfl; clear hp hd; have ec : ∀ v, (fr [68, 69, 70, 71, 72, 73, 74, 75, 76, 77, 78, 79, 80, 81] A t).eval (.const v) = v := fun _ => rfl; generalize (fr [68, 69, 70, 71, 72, 73, 74, 75, 76, 77, 78, 79, 80, 81] A t).eval = ev at ec e68 e72 ef ⊢; go_simp
                  · rintro e wy ⟨rfl, b1⟩
                    exact ⟨_, rfl, _, 0, rfl, hB.trans (b1.mono hB.size), b1, rfl, .inl rfl⟩
                | 6, _ =>
                  have e7 : (fr [68, 69, 70, 71, 72, 73, 74, 75, 76, 77, 78, 79, 80, 81] A t).eval (.tmp 7) = .slice (some ⟨q, 0, none⟩) n c := (fr_eval_old _ _ _ 7 rfl).trans a7'
                  refine op_run (v := .slice (some ⟨q, 0, none⟩) n c) (w' := wx) rfl rfl ?_ ?_
                  · clear hp hd; have ec : ∀ v, (fr [68, 69, 70, 71, 72, 73, 74, 75, 76, 77, 78, 79, 80, 81] A t).eval (.const v) = v := fun _ => rfl; generalize (fr [68, 69, 70, 71, 72, 73, 74, 75, 76, 77, 78, 79, 80, 81] A t).eval = ev at ec e7 ⊢; go_simp
                  · exact ⟨_, 0, rfl, hB, Below.refl _ _, rfl, .inl rfl⟩
                | 7, _ =>
                  have e8 : (fr [68, 69, 70, 71, 72, 73, 74, 75, 76, 77, 78, 79, 80, 81] A t).eval (.tmp 8) = .int .i64 (k : Int) := (fr_eval_old _ _ _ 8 rfl).trans a8'
                  refine op_run (v := .int .i64 (k : Int)) (w' := wx) rfl rfl ?_ ?_
                  · clear hp hd; have ec : ∀ v, (fr [68, 69, 70, 71, 72, 73, 74, 75, 76, 77, 78, 79, 80, 81] A t).eval (.const v) = v := fun _ => rfl; generalize (fr [68, 69, 70, 71, 72, 73, 74, 75, 76, 77, 78, 79, 80, 81] A t).eval = ev at ec e8 ⊢; go_simp
                  · exact ⟨_, 0, rfl, hB, Below.refl _ _, rfl, .inl rfl⟩
                | 8, _ =>
                  have e74 : (fr [68, 69, 70, 71, 72, 73, 74, 75, 76, 77, 78, 79, 80, 81] A t).eval (.tmp 74) = .slice (some ⟨q, 0, none⟩) n c := (fr_eval _ _ _ 74 rfl (by rw [asz]; decide)).trans (hp 6 (pre_mem (by kernel_rfl)))
                  have e75 : (fr [68, 69, 70, 71, 72, 73, 74, 75, 76, 77, 78, 79, 80, 81] A t).eval (.tmp 75) = .int .i64 (k : Int) := (fr_eval _ _ _ 75 rfl (by rw [asz]; decide)).trans (hp 7 (pre_mem (by kernel_rfl)))
                  have hh := hltI
                  refine op_run (v := .pointer (some ⟨q, k, none⟩)) (w' := wx) rfl rfl ?_ ?_
                  · clear hp hd; have ec : ∀ v, (fr [68, 69, 70, 71, 72, 73, 74, 75, 76, 77, 78, 79, 80, 81] A t).eval (.const v) = v := fun _ => rfl; generalize (fr [68, 69, 70, 71, 72, 73, 74, 75, 76, 77, 78, 79, 80, 81] A t).eval = ev at ec e74 e75 ⊢; go_simp
                  · exact ⟨_, 0, rfl, hB, Below.refl _ _, rfl, .inl rfl⟩
                | 9, _ =>
                  have e76 : (fr [68, 69, 70, 71, 72, 73, 74, 75, 76, 77, 78, 79, 80, 81] A t).eval (.tmp 76) = .pointer (some ⟨q, k, none⟩) := (fr_eval _ _ _ 76 rfl (by rw [asz]; decide)).trans (hp 8 (pre_mem (by kernel_rfl)))
                  have hc := hQX wx hB
                  refine op_run (v := .int .i64 el) (w' := wx) rfl rfl ?_ ?_
                  · clear hp hd; have ec : ∀ v, (fr [68, 69, 70, 71, 72, 73, 74, 75, 76, 77, 78, 79, 80, 81] A t).eval (.const v) = v := fun _ => rfl; generalize (fr [68, 69, 70, 71, 72, 73, 74, 75, 76, 77, 78, 79, 80, 81] A t).eval = ev at ec e76 ⊢; go_simp
                  · exact ⟨_, 0, rfl, hB, Below.refl _ _, rfl, .inl rfl⟩
                | 10, _ =>
                  have e5 : (fr [68, 69, 70, 71, 72, 73, 74, 75, 76, 77, 78, 79, 80, 81] A t).eval (.tmp 5) = .pointer (some ⟨gx, 0, none⟩) := (fr_eval_old _ _ _ 5 rfl).trans a5'
                  refine op_run (v := .pointer (some ⟨gx, 0, none⟩)) (w' := wx) rfl rfl ?_ ?_
                  · clear hp hd; have ec : ∀ v, (fr [68, 69, 70, 71, 72, 73, 74, 75, 76, 77, 78, 79, 80, 81] A t).eval (.const v) = v := fun _ => rfl; generalize (fr [68, 69, 70, 71, 72, 73, 74, 75, 76, 77, 78, 79, 80, 81] A t).eval = ev at ec e5 ⊢; go_simp
                  · exact ⟨_, 0, rfl, hB, Below.refl _ _, rfl, .inl rfl⟩
                | 11, _ =>
                  have e78 : (fr [68, 69, 70, 71, 72, 73, 74, 75, 76, 77, 78, 79, 80, 81] A t).eval (.tmp 78) = .pointer (some ⟨gx, 0, none⟩) := (fr_eval _ _ _ 78 rfl (by rw [asz]; decide)).trans (hp 10 (pre_mem (by kernel_rfl)))
                  have hc0 := (hKX wx hB).cell 0 rfl
                  have hc1 := (hKX wx hB).cell 1 rfl
                  refine op_run (v := .int .i64 X.top) (w' := wx) rfl rfl ?_ ?_
                  · clear hp hd; have ec : ∀ v, (fr [68, 69, 70, 71, 72, 73, 74, 75, 76, 77, 78, 79, 80, 81] A t).eval (.const v) = v := fun _ => rfl; generalize (fr [68, 69, 70, 71, 72, 73, 74, 75, 76, 77, 78, 79, 80, 81] A t).eval = ev at ec e78 ⊢; go_simp
                  · exact ⟨_, 0, rfl, hB, Below.refl _ _, rfl, .inl rfl⟩
                | 12, _ =>
                  have e79 : (fr [68, 69, 70, 71, 72, 73, 74, 75, 76, 77, 78, 79, 80, 81] A t).eval (.tmp 79) = .int .i64 X.top := (fr_eval _ _ _ 79 rfl (by rw [asz]; decide)).trans (hp 11 (pre_mem (by kernel_rfl)))
                  have hh := HTW.out
                  refine op_run (v := .int .i64 (X.top - 1024)) (w' := wx) rfl rfl ?_ ?_
                  · clear hp hd; have ec : ∀ v, (fr [68, 69, 70, 71, 72, 73, 74, 75, 76, 77, 78, 79, 80, 81] A t).eval (.const v) = v := fun _ => rfl; generalize (fr [68, 69, 70, 71, 72, 73, 74, 75, 76, 77, 78, 79, 80, 81] A t).eval = ev at ec e79 ⊢; go_simp
                  · exact ⟨_, 0, rfl, hB, Below.refl _ _, rfl, .inl rfl⟩
                | 13, _ =>
                  have e77 : (fr [68, 69, 70, 71, 72, 73, 74, 75, 76, 77, 78, 79, 80, 81] A t).eval (.tmp 77) = .int .i64 el := (fr_eval _ _ _ 77 rfl (by rw [asz]; decide)).trans (hp 9 (pre_mem (by kernel_rfl)))
                  have e80 : (fr [68, 69, 70, 71, 72, 73, 74, 75, 76, 77, 78, 79, 80, 81] A t).eval (.tmp 80) = .int .i64 (X.top - 1024) := (fr_eval _ _ _ 80 rfl (by rw [asz]; decide)).trans (hp 12 (pre_mem (by kernel_rfl)))
                  have hh := hg
                  refine op_run (v := .bool false) (w' := wx) rfl rfl ?_ ?_
                  · clear hp hd; have ec : ∀ v, (fr [68, 69, 70, 71, 72, 73, 74, 75, 76, 77, 78, 79, 80, 81] A t).eval (.const v) = v := fun _ => rfl; generalize (fr [68, 69, 70, 71, 72, 73, 74, 75, 76, 77, 78, 79, 80, 81] A t).eval = ev at ec e77 e80 ⊢; go_simp
                  · exact ⟨_, 0, rfl, hB, Below.refl _ _, rfl, .inl rfl⟩
              · intro t ρ wx hB hF hne
                have hv5 := hF 5 (by decide)
                have e73 : (fr [68, 69, 70, 71, 72, 73, 74, 75, 76, 77, 78, 79, 80, 81] A t).eval (.tmp 73) = .bool false := (fr_eval _ _ _ 73 rfl (by rw [asz]; decide)).trans hv5
                have e81 : (fr [68, 69, 70, 71, 72, 73, 74, 75, 76, 77, 78, 79, 80, 81] A t).eval (.tmp 81) = .bool false := (fr_eval _ _ _ 81 rfl (by rw [asz]; decide)).trans (hF 13 (by decide))
                clear hne
                refine op_wp rfl rfl ?_
                generalize hE : (fr [68, 69, 70, 71, 72, 73, 74, 75, 76, 77, 78, 79, 80, 81] A t).eval = ev at e73 e81
                unfold Oper.wp
                rw [hE]
                go_simp
                refine hMet _ _ (Met.intro (hRJ _ _ ⟨t 68, t 69, t 70, t 71, t 72, t 73, t 74, t 75, t 76, t 77, t 78, t 79, t 80, t 81, _, ⟨rfl, hB⟩, ?_⟩))
                rw [← hA]; rfl
            case rest =>
              obtain ⟨rfl, b⟩ := hcut
              have BZ : Hid (Below x9.heap.size x9 wc) := BR.out.trans (b.mono BR.out.size)
              clear b
              go_wp2
              go_roundw
              case rel => exact ⟨k + 1, by omega, by go_num, BZ.out⟩
              case measure => simp [intOf]; omega
        · obtain rfl : k = n := by omega
          go_wp2
          go_ret
          exact ⟨rfl, B9.out.trans (BR.out.mono B9.out.size)⟩

set_option maxRecDepth 100000 in
theorem walk (a : Option Addr) (len cap : Nat) (zs : List Int) (w : World)  (h : IsRow .u8 w a len cap zs) :
    Calls Try.prog 3 #[.slice a len cap] w fun e w' => e = .returned (.bool true) ∧ Below w.heap.size w w' := by
  obtain ⟨l, h1, h2, _, h4⟩ := h.read
  by_cases hl : len ≤ 1048576
  · exact small a len cap l w  h1 h2 h4 hl
  · clear h h1 h2 h4
    go_enter Try.func3, Try.ntmps3
    go_wp2_with fail
    refine (bigYes a len cap w (by omega)).mono ?_
    rintro e w0 ⟨rfl, rfl⟩
    go_wp2
    go_ret
    exact ⟨rfl, Below.refl _ _⟩
end Go.Proofs.Ytmcflfpckpjphaa.LawWinsBent
