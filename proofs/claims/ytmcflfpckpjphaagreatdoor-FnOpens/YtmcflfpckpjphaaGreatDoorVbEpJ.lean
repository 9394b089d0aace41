/-
  What impl's codeOf, sealNext and EpSeal answer.
-/
import Derived.Test.YtmcflfpckpjphaaGreatDoorVbBas6
import Derived.Test.YtmcflfpckpjphaaGreatDoorVbSealI
import Derived.Test.YtmcflfpckpjphaaGreatDoorVbAsF
set_option maxRecDepth 100000
namespace Go.Proofs.YtmcflfpckpjphaaGreatDoor.EpJ
open Go.RowKit Mem App Blk Words Zone ZoneI Res Comp WnZ WinP WnK WnG FrZ FrL FrP FrG FrQ FrQ2 SlP SlQ Shp EpZ EpL EpP EpQ Each Copy Ops Guard SlI SealI EpI AsF

def ErrAt (w : World) : Prop := w.cell? ⟨0, 0, none⟩ = some (.iface 195 (.agg #[.pointer (some ⟨2, 97, none⟩)]))
theorem ErrAt.later {w w' : World} (h : ErrAt w) (b : Below w.heap.size w w') : ErrAt w' := by
 unfold ErrAt at *
 rw [b.cell (World.block_lt_of_cell? w _ h)]; exact h
def errV (c : Int) : Value := if c = 0 then .nilIface else .iface 145 (.agg #[.int .i64 c])
theorem errV_0 : errV 0 = .nilIface := rfl
theorem errV_c {c : Int} (h : c ≠ 0) : errV c = .iface 145 (.agg #[.int .i64 c]) := by unfold errV; rw [if_neg h]

set_option maxHeartbeats 4000000 in
theorem codeOf (c : Int) (w : World) (hE : ErrAt w) :
  Calls Tryz.prog 78 #[.iface 145 (.agg #[.int .i64 c])] w fun e w' => e = .returned (.int .i64 c) ∧ Below w.heap.size w w' := by
 have HE := hid (hE)
 clear hE
 obtain ⟨x0, hx0⟩ : ∃ x0, w.alloc (.cells #[.int .i64 0] 145) = x0 := ⟨_, rfl⟩
 have HW0 := hid (hx0)
 have B0 : Hid (Below w.heap.size w x0) := by rw [← hx0]; exact (Below.refl _ _).alloc (Nat.le_refl _) _
 have K0 : Hid (Blk x0 w.heap.size 145 [.int .i64 0]) := by rw [← hx0]; exact Blk.new w _ _
 clear hx0
 go_enter Tryz.func78, Tryz.ntmps78
 go_upto_region 2 with fail
 rw [HW0.out]
 obtain ⟨gt, hgt⟩ : ∃ g, w.heap.size = g := ⟨_, rfl⟩
 have HG : Hid (w.heap.size = gt) := hgt
 rw [hgt] at K0
 rw [hgt]
 clear hgt HW0
 go_wp2_with fail
 refine (as_hit c ⟨gt, 0, none⟩ (.int .i64 0) x0 (HE.out.later B0.out) (K0.out.cell 0 rfl) (K0.out.frozen 0)).mono ?_
 rintro e x1 ⟨rfl, hw⟩
 have K1 : Hid (Blk x1 gt 145 [.int .i64 c]) := by rw [hw]; exact ((((K0.out.alloc _).alloc _).alloc _).alloc _).set 0 _ (by simp [maxLen])
 have B1 : Hid (Below w.heap.size w x1) := by
  rw [hw]
  have l := B0.out.size
  exact ((((B0.out.alloc l _).alloc (by simp; omega) _).alloc (by simp; omega) _).alloc (by simp; omega) _).setCell (by show _ ≤ gt; have := HG.out; omega) _
 clear hw
 have c0 := K1.out.cell 0 rfl
 go_wp2
 go_ret
 exact ⟨rfl, B1.out⟩

theorem epOkV (S : EpS) (D : EpD) (v : Bool) (w : World) (h : EpRd w S D) (hv : epOk D = v) : Calls Tryz.prog 29 #[epV D S] w fun e w' => e = .returned (.bool v) ∧ Below w.heap.size w w' := by
 subst hv; exact implEpOk S D w h
theorem canSealV (k : Sl) (role : Int) (S : FrS) (D : FrD) (v : Bool) (w : World) (h : FrRd w S D) (hv : (((k.n : Int) == 32) && canTag role D) = v) : Calls Tryz.prog 56 #[.slice k.a k.n k.c, .int .i64 role, frV D S] w fun e w' => e = .returned (.bool v) ∧ Below w.heap.size w w' := by
 subst hv; exact canSeal k role S D w h
def AnsN (D : EpD) (role : Int) (l : List Int) (kind : Int) (pl : List Int) (w : World) : Ending → World → Prop := fun e w' => ∃ S0 : FrS, e = .returned (.tuple #[frV (esF D role l kind pl) S0, errV (esCode D role l kind pl)]) ∧ FrOwn w' w.heap.size w'.heap.size S0 (esF D role l kind pl) ∧ Below w.heap.size w w'
abbrev DL1 : List Nat := [15, 16, 17, 18, 19, 20, 21, 22, 23, 24, 25, 26, 27, 28, 29, 30]
set_option maxHeartbeats 8000000 in
theorem sealNext (S : EpS) (D : EpD) (s p : Sl) (l pl : List Int) (role kind : Int) (w : World) (hT : Tab w) (h : EpRd w S D) (hs : SRd w s l) (hp : SRd w p pl) :
  Calls Tryz.prog 77 #[epV D S, .int .i64 role, .slice s.a s.n s.c, .int .i64 kind, .slice p.a p.n p.c] w (AnsN D role l kind pl w) := by
 have HR := hid (h)
 have HS := hid (hs)
 have HP := hid (hp)
 have HT := hid (hT)
 have HKN : Hid (S.key.n = D.key.length) := h.key.len
 clear h hs hp hT
 obtain ⟨c, hc⟩ : ∃ c, esCode D role l kind pl = c := ⟨_, rfl⟩
 have HC : Hid (esCode D role l kind pl = c) := hc
 obtain ⟨R, hR⟩ : ∃ R, esF D role l kind pl = R := ⟨_, rfl⟩
 have HRR : Hid (esF D role l kind pl = R) := hR
 unfold AnsN
 rw [hc, hR]
 clear hc hR
 obtain ⟨x1, hx1⟩ : ∃ x1, (w.alloc (.cells #[.int .i64 D.n, .slice S.key.a S.key.n S.key.c, .int .i64 D.seq, .int .i64 D.win.top, .slice S.win.bits.a S.win.bits.n S.win.bits.c] 41)).alloc (.cells #[.int .i64 0, .int .i64 0, .slice none 0 0, .slice none 0 0, .int .i64 0, .slice none 0 0, .slice none 0 0, .int .i64 0, .int .i64 0, .slice none 0 0, .slice none 0 0] 27) = x1 := ⟨_, rfl⟩
 have HW0 := hid (hx1)
 have b1 : Below w.heap.size w x1 := by rw [← hx1]; exact ((Below.refl _ _).alloc (Nat.le_refl _) _).alloc (by simp) _
 have KNa : Blk x1 w.heap.size 41 [.int .i64 D.n, .slice S.key.a S.key.n S.key.c, .int .i64 D.seq, .int .i64 D.win.top, .slice S.win.bits.a S.win.bits.n S.win.bits.c] := by rw [← hx1]; exact (Blk.new w _ _).alloc _
 have KNo : Blk x1 (w.heap.size + 1) 27 [.int .i64 0, .int .i64 0, .slice none 0 0, .slice none 0 0, .int .i64 0, .slice none 0 0, .slice none 0 0, .int .i64 0, .int .i64 0, .slice none 0 0, .slice none 0 0] := by
  have q := Blk.new (w.alloc (.cells #[.int .i64 D.n, .slice S.key.a S.key.n S.key.c, .int .i64 D.seq, .int .i64 D.win.top, .slice S.win.bits.a S.win.bits.n S.win.bits.c] 41)) 27 [.int .i64 0, .int .i64 0, .slice none 0 0, .slice none 0 0, .int .i64 0, .slice none 0 0, .slice none 0 0, .int .i64 0, .int .i64 0, .slice none 0 0, .slice none 0 0]
  rw [World.size_alloc] at q
  rw [← hx1]; exact q
 have SZ1 : x1.heap.size = w.heap.size + 2 := by rw [← hx1]; simp
 clear hx1
 have L1 := hid (b1.size)
 have B1 := hid (b1)
 clear b1
 unfold epV
 go_enter Tryz.func77, Tryz.ntmps77
 go_upto_region 1 with fail
 rw [HW0.out]
 obtain ⟨ga, hga⟩ : ∃ g, w.heap.size = g := ⟨_, rfl⟩
 obtain ⟨go, hgo⟩ : ∃ g, w.heap.size + 1 = g := ⟨_, rfl⟩
 have Gga : Hid (w.heap.size = ga ∧ ga + 1 = go ∧ x1.heap.size = ga + 2) := ⟨hga, by omega, by omega⟩
 rw [hga] at KNa
 rw [hgo] at KNo
 rw [hgo, hga]
 clear HW0 SZ1 hga hgo
 have KA1 := hid (KNa)
 have KO1 := hid (KNo)
 clear KNa KNo
 cases h0 : epOk D with
 | false =>
  have HF : Hid (esForm D role l kind pl = false) := by show esForm _ _ _ _ _ = false; unfold esForm; rw [h0]; rfl
  obtain rfl : c = 1 := by rw [← HC.out]; exact es_1 HF.out
  obtain rfl : R = zeroF := by rw [← HRR.out]; exact esF_no (by rw [HC.out]; decide)
  go_cut [14] from 15 to 30 (fun sv wx => sv = .bool true ∧ Below x1.heap.size x1 wx)
  case first =>
   rename_i J K' hRJ hMet
   generalize hA : Act.mk _ _ = A
   have a1' : A.eval (.tmp 1) = .int .i64 role := by rw [← hA]; rfl
   have a2' : A.eval (.tmp 2) = .slice s.a s.n s.c := by rw [← hA]; rfl
   have a3' : A.eval (.tmp 3) = .int .i64 kind := by rw [← hA]; rfl
   have a4' : A.eval (.tmp 4) = .slice p.a p.n p.c := by rw [← hA]; rfl
   have a5' : A.eval (.tmp 5) = .pointer (some ⟨ga, 0, none⟩) := by rw [← hA]; rfl
   have asz : A.tmps.size = 67 := by rw [← hA]; rfl
   have hKA : ∀ wx, Below x1.heap.size x1 wx → Blk wx ga 41 [.int .i64 D.n, .slice S.key.a S.key.n S.key.c, .int .i64 D.seq, .int .i64 D.win.top, .slice S.win.bits.a S.win.bits.n S.win.bits.c] := fun wx hb => KA1.out.later hb
   have hWB : ∀ wx, Below x1.heap.size x1 wx → Below w.heap.size w wx := fun wx hb => B1.out.trans (hb.mono B1.out.size)
   refine region_each (by kernel_rfl) DL1 16 (fun i => DL1.getD i 0) (fun _ => 0)
    (fun i gB v wx => match i with
     | 0 => v = .agg #[.int .i64 D.n, .slice S.key.a S.key.n S.key.c, .int .i64 D.seq, .int .i64 D.win.top, .slice S.win.bits.a S.win.bits.n S.win.bits.c]
     | 1 => v = .bool false
     | 2 => v = .bool true
     | 3 => v = .bool true
     | 4 => v = undef
     | 5 => v = undef
     | 6 => v = undef
     | 7 => v = undef
     | 8 => v = undef
     | 9 => v = undef
     | 10 => v = undef
     | 11 => v = undef
     | 12 => v = undef
     | 13 => v = undef
     | 14 => v = undef
     | 15 => v = .bool true
     | _ => False) (fun wx => Below x1.heap.size x1 wx) (by kernel_rfl) (Below.refl _ _).drew ?_ ?_ ?_
   ·
    intro i gB v wx wy hi hF hb _
    match i, hi with
    | 0, _ => exact hF
    | 1, _ => exact hF
    | 2, _ => exact hF
    | 3, _ => exact hF
    | 4, _ => exact hF
    | 5, _ => exact hF
    | 6, _ => exact hF
    | 7, _ => exact hF
    | 8, _ => exact hF
    | 9, _ => exact hF
    | 10, _ => exact hF
    | 11, _ => exact hF
    | 12, _ => exact hF
    | 13, _ => exact hF
    | 14, _ => exact hF
    | 15, _ => exact hF
    | n + 16, hi => exact absurd hi (by omega)
   ·
    intro i hi t ρ wx hB hp hd
    match i, hi with
    | 0, _ =>
     have e5 : (fr DL1 A t).eval (.tmp 5) = .pointer (some ⟨ga, 0, none⟩) := (fr_eval_old _ _ _ 5 rfl).trans a5'
     obtain ⟨hc0, hc1, hc2, hc3, hc4⟩ := cells5 (hKA wx hB)
     refine op_run (v := .agg #[.int .i64 D.n, .slice S.key.a S.key.n S.key.c, .int .i64 D.seq, .int .i64 D.win.top, .slice S.win.bits.a S.win.bits.n S.win.bits.c]) (w' := wx) rfl rfl ?_ ?_
     ·
      clear hp hd; have ec : ∀ v, (fr DL1 A t).eval (.const v) = v := fun _ => rfl; generalize (fr DL1 A t).eval = ev at ec e5 ⊢; go_simp
     ·
      exact ⟨_, 0, rfl, hB, Below.refl _ _, rfl, .inl rfl⟩
    | 1, _ =>
     have e15 : (fr DL1 A t).eval (.tmp 15) = .agg #[.int .i64 D.n, .slice S.key.a S.key.n S.key.c, .int .i64 D.seq, .int .i64 D.win.top, .slice S.win.bits.a S.win.bits.n S.win.bits.c] := (fr_eval _ _ _ 15 rfl (by rw [asz]; decide)).trans (hp 0 (pre_mem (by kernel_rfl)))
     refine op_call (f := 29) (args := #[.agg #[.int .i64 D.n, .slice S.key.a S.key.n S.key.c, .int .i64 D.seq, .int .i64 D.win.top, .slice S.win.bits.a S.win.bits.n S.win.bits.c]]) rfl rfl ?_ (epOkV S D false wx (HR.out.later (hWB wx hB)) h0) ?_
     ·
      have ef : (fr DL1 A t).eval (.func 29) = .func (.func 29) #[] #[] := rfl; clear hp hd; have ec : ∀ v, (fr DL1 A t).eval (.const v) = v := fun _ => rfl; generalize (fr DL1 A t).eval = ev at ec e15 ef ⊢; go_simp
     ·
      rintro e wy ⟨rfl, b1⟩
      exact ⟨_, rfl, _, 0, rfl, hB.trans (b1.mono hB.size), b1, rfl, .inl rfl⟩
    | 2, _ =>
     have hv1 := hp 1 (pre_mem (by kernel_rfl))
     have e16 : (fr DL1 A t).eval (.tmp 16) = .bool false := (fr_eval _ _ _ 16 rfl (by rw [asz]; decide)).trans hv1
     refine op_run (v := .bool true) (w' := wx) rfl rfl ?_ ?_
     ·
      clear hp hd; have ec : ∀ v, (fr DL1 A t).eval (.const v) = v := fun _ => rfl; generalize (fr DL1 A t).eval = ev at ec e16 ⊢; go_simp
     ·
      exact ⟨_, 0, rfl, hB, Below.refl _ _, rfl, .inl rfl⟩
    | 3, _ =>
     have e17 : (fr DL1 A t).eval (.tmp 17) = .bool true := (fr_eval _ _ _ 17 rfl (by rw [asz]; decide)).trans (hp 2 (pre_mem (by kernel_rfl)))
     refine op_run (v := .bool true) (w' := wx) rfl rfl ?_ ?_
     ·
      clear hp hd; have ec : ∀ v, (fr DL1 A t).eval (.const v) = v := fun _ => rfl; generalize (fr DL1 A t).eval = ev at ec e17 ⊢; go_simp
     ·
      exact ⟨_, 0, rfl, hB, Below.refl _ _, rfl, .inl rfl⟩
    | 4, _ =>
     have e18 : (fr DL1 A t).eval (.tmp 18) = .bool true := (fr_eval _ _ _ 18 rfl (by rw [asz]; decide)).trans (hp 3 (pre_mem (by kernel_rfl)))
     refine op_skip rfl (wanted_false rfl rfl e18 rfl) ?_
     exact ⟨_, 0, rfl, hB, Below.refl _ _, rfl, .inl rfl⟩
    | 5, _ =>
     have e18 : (fr DL1 A t).eval (.tmp 18) = .bool true := (fr_eval _ _ _ 18 rfl (by rw [asz]; decide)).trans (hp 3 (pre_mem (by kernel_rfl)))
     refine op_skip rfl (wanted_false rfl rfl e18 rfl) ?_
     exact ⟨_, 0, rfl, hB, Below.refl _ _, rfl, .inl rfl⟩
    | 6, _ =>
     have e18 : (fr DL1 A t).eval (.tmp 18) = .bool true := (fr_eval _ _ _ 18 rfl (by rw [asz]; decide)).trans (hp 3 (pre_mem (by kernel_rfl)))
     refine op_skip rfl (wanted_false rfl rfl e18 rfl) ?_
     exact ⟨_, 0, rfl, hB, Below.refl _ _, rfl, .inl rfl⟩
    | 7, _ =>
     have e18 : (fr DL1 A t).eval (.tmp 18) = .bool true := (fr_eval _ _ _ 18 rfl (by rw [asz]; decide)).trans (hp 3 (pre_mem (by kernel_rfl)))
     refine op_skip rfl (wanted_false rfl rfl e18 rfl) ?_
     exact ⟨_, 0, rfl, hB, Below.refl _ _, rfl, .inl rfl⟩
    | 8, _ =>
     have e18 : (fr DL1 A t).eval (.tmp 18) = .bool true := (fr_eval _ _ _ 18 rfl (by rw [asz]; decide)).trans (hp 3 (pre_mem (by kernel_rfl)))
     refine op_skip rfl (wanted_false rfl rfl e18 rfl) ?_
     exact ⟨_, 0, rfl, hB, Below.refl _ _, rfl, .inl rfl⟩
    | 9, _ =>
     have e18 : (fr DL1 A t).eval (.tmp 18) = .bool true := (fr_eval _ _ _ 18 rfl (by rw [asz]; decide)).trans (hp 3 (pre_mem (by kernel_rfl)))
     refine op_skip rfl (wanted_false rfl rfl e18 rfl) ?_
     exact ⟨_, 0, rfl, hB, Below.refl _ _, rfl, .inl rfl⟩
    | 10, _ =>
     have e18 : (fr DL1 A t).eval (.tmp 18) = .bool true := (fr_eval _ _ _ 18 rfl (by rw [asz]; decide)).trans (hp 3 (pre_mem (by kernel_rfl)))
     refine op_skip rfl (wanted_false rfl rfl e18 rfl) ?_
     exact ⟨_, 0, rfl, hB, Below.refl _ _, rfl, .inl rfl⟩
    | 11, _ =>
     have e18 : (fr DL1 A t).eval (.tmp 18) = .bool true := (fr_eval _ _ _ 18 rfl (by rw [asz]; decide)).trans (hp 3 (pre_mem (by kernel_rfl)))
     refine op_skip rfl (wanted_false rfl rfl e18 rfl) ?_
     exact ⟨_, 0, rfl, hB, Below.refl _ _, rfl, .inl rfl⟩
    | 12, _ =>
     have e18 : (fr DL1 A t).eval (.tmp 18) = .bool true := (fr_eval _ _ _ 18 rfl (by rw [asz]; decide)).trans (hp 3 (pre_mem (by kernel_rfl)))
     refine op_skip rfl (wanted_false rfl rfl e18 rfl) ?_
     exact ⟨_, 0, rfl, hB, Below.refl _ _, rfl, .inl rfl⟩
    | 13, _ =>
     have e18 : (fr DL1 A t).eval (.tmp 18) = .bool true := (fr_eval _ _ _ 18 rfl (by rw [asz]; decide)).trans (hp 3 (pre_mem (by kernel_rfl)))
     refine op_skip rfl (wanted_false rfl rfl e18 rfl) ?_
     exact ⟨_, 0, rfl, hB, Below.refl _ _, rfl, .inl rfl⟩
    | 14, _ =>
     have e18 : (fr DL1 A t).eval (.tmp 18) = .bool true := (fr_eval _ _ _ 18 rfl (by rw [asz]; decide)).trans (hp 3 (pre_mem (by kernel_rfl)))
     refine op_skip rfl (wanted_false rfl rfl e18 rfl) ?_
     exact ⟨_, 0, rfl, hB, Below.refl _ _, rfl, .inl rfl⟩
    | 15, _ =>
     have e18 : (fr DL1 A t).eval (.tmp 18) = .bool true := (fr_eval _ _ _ 18 rfl (by rw [asz]; decide)).trans (hp 3 (pre_mem (by kernel_rfl)))
     have e29 : (fr DL1 A t).eval (.tmp 29) = undef := (fr_eval _ _ _ 29 rfl (by rw [asz]; decide)).trans (hp 14 (pre_mem (by kernel_rfl)))
     refine op_run (v := .bool true) (w' := wx) rfl rfl ?_ ?_
     ·
      clear hp hd; have ec : ∀ v, (fr DL1 A t).eval (.const v) = v := fun _ => rfl; generalize (fr DL1 A t).eval = ev at ec e18 e29 ⊢; go_simp
     ·
      exact ⟨_, 0, rfl, hB, Below.refl _ _, rfl, .inl rfl⟩
    | n + 16, hi => exact absurd hi (by omega)
   ·
    intro t ρ wx hB hF hne
    have e30 : (fr DL1 A t).eval (.tmp 30) = .bool true := (fr_eval _ _ _ 30 rfl (by rw [asz]; decide)).trans (hF 15 (by decide))
    clear hne
    refine op_wp rfl rfl ?_
    generalize hE : (fr DL1 A t).eval = ev at e30
    unfold Oper.wp
    rw [hE]
    go_simp
    refine hMet _ _ (Met.intro (hRJ _ _ ⟨_, t 15, t 16, t 17, t 18, t 19, t 20, t 21, t 22, t 23, t 24, t 25, t 26, t 27, t 28, t 29, t 30, ⟨rfl, hB⟩, ?_⟩))
    rw [← hA]; rfl
  case rest =>
   obtain ⟨xc, hxc⟩ : ∃ xc, xc = wc := ⟨_, rfl⟩
   subst hxc
   obtain ⟨rfl, bc⟩ := hcut
   have BC := hid (B1.out.trans (bc.mono B1.out.size))
   have KOC := hid (KO1.out.later bc)
   have KAC := hid (KA1.out.later bc)
   have SZC : Hid (go + 1 ≤ xc.heap.size) := KOC.out.lt
   clear bc
   obtain ⟨co0, co1, co2, co3, co4, co5, co6, co7, co8, co9, co10⟩ := cells11 KOC.out
   obtain ⟨fo0, fo1, fo2, fo3, fo4, fo5, fo6, fo7, fo8, fo9, fo10⟩ := froz11 KOC.out
   go_wp2
   obtain ⟨k1, k2, k3⟩ := fr_stored (D := zeroF) (S := (⟨⟨none, 0, 0⟩, ⟨none, 0, 0⟩, ⟨none, 0, 0⟩, ⟨none, 0, 0⟩, ⟨none, 0, 0⟩, ⟨none, 0, 0⟩⟩ : FrS)) KOC.out (own_nil xc xc.heap.size xc.heap.size) (.inl (by have := SZC.out; omega))
   exact bodyPost_ret (v := .tuple #[frV zeroF (⟨⟨none, 0, 0⟩, ⟨none, 0, 0⟩, ⟨none, 0, 0⟩, ⟨none, 0, 0⟩, ⟨none, 0, 0⟩, ⟨none, 0, 0⟩⟩ : FrS), .iface 145 (.agg #[.int .i64 1])]) (res2 rfl (is_cell rfl k1 aggFr) (is_tmp rfl)) rfl ⟨(⟨⟨none, 0, 0⟩, ⟨none, 0, 0⟩, ⟨none, 0, 0⟩, ⟨none, 0, 0⟩, ⟨none, 0, 0⟩, ⟨none, 0, 0⟩⟩ : FrS), rfl, own_nil _ _ _, k3 _ _ (by have := Gga.out; omega) BC.out⟩
 | true =>
  obtain ⟨vv, hvv⟩ : ∃ vv, esForm D role l kind pl = vv := ⟨_, rfl⟩
  have HV : Hid (esForm D role l kind pl = vv) := hvv
  clear hvv
  have HSV : Hid ((((S.key.n : Int) == 32) && canTag role (draftD l D.n 0 kind pl (List.replicate 16 0))) = vv) := by
   have q := (epOk_parts h0).2.1
   have q2 := HKN.out
   show _ = _
   rw [← HV.out, draft_can _ _ _ _ _ _ _ (by simp), q2, q]
   unfold esForm; rw [h0]; rfl
  go_cut [14] from 15 to 30 (fun sv wx => sv = .bool (!vv) ∧ Below x1.heap.size x1 wx)
  case first =>
   rename_i J K' hRJ hMet
   generalize hA : Act.mk _ _ = A
   have a1' : A.eval (.tmp 1) = .int .i64 role := by rw [← hA]; rfl
   have a2' : A.eval (.tmp 2) = .slice s.a s.n s.c := by rw [← hA]; rfl
   have a3' : A.eval (.tmp 3) = .int .i64 kind := by rw [← hA]; rfl
   have a4' : A.eval (.tmp 4) = .slice p.a p.n p.c := by rw [← hA]; rfl
   have a5' : A.eval (.tmp 5) = .pointer (some ⟨ga, 0, none⟩) := by rw [← hA]; rfl
   have asz : A.tmps.size = 67 := by rw [← hA]; rfl
   have hKA : ∀ wx, Below x1.heap.size x1 wx → Blk wx ga 41 [.int .i64 D.n, .slice S.key.a S.key.n S.key.c, .int .i64 D.seq, .int .i64 D.win.top, .slice S.win.bits.a S.win.bits.n S.win.bits.c] := fun wx hb => KA1.out.later hb
   have hWB : ∀ wx, Below x1.heap.size x1 wx → Below w.heap.size w wx := fun wx hb => B1.out.trans (hb.mono B1.out.size)
   refine region_each (by kernel_rfl) DL1 16 (fun i => DL1.getD i 0) (fun _ => 0)
    (fun i gB v wx => match i with
     | 0 => v = .agg #[.int .i64 D.n, .slice S.key.a S.key.n S.key.c, .int .i64 D.seq, .int .i64 D.win.top, .slice S.win.bits.a S.win.bits.n S.win.bits.c]
     | 1 => v = .bool true
     | 2 => v = .bool false
     | 3 => v = .bool false
     | 4 => v = .pointer (some ⟨ga, 1, none⟩)
     | 5 => v = .slice S.key.a S.key.n S.key.c
     | 6 => v = .int .i64 role
     | 7 => v = .slice s.a s.n s.c
     | 8 => v = .pointer (some ⟨ga, 0, none⟩)
     | 9 => v = .int .i64 D.n
     | 10 => v = .int .i64 kind
     | 11 => v = .slice p.a p.n p.c
     | 12 => ∃ g2, v = frV (draftD l D.n 0 kind pl (List.replicate 16 0)) (draftS s p ⟨some ⟨g2, 0, none⟩, 16, 16⟩) ∧ FrRd wx (draftS s p ⟨some ⟨g2, 0, none⟩, 16, 16⟩) (draftD l D.n 0 kind pl (List.replicate 16 0))
     | 13 => v = .bool vv
     | 14 => v = .bool (!vv)
     | 15 => v = .bool (!vv)
     | _ => False) (fun wx => Below x1.heap.size x1 wx) (by kernel_rfl) (Below.refl _ _).drew ?_ ?_ ?_
   ·
    intro i gB v wx wy hi hF hb _
    match i, hi with
    | 0, _ => exact hF
    | 1, _ => exact hF
    | 2, _ => exact hF
    | 3, _ => exact hF
    | 4, _ => exact hF
    | 5, _ => exact hF
    | 6, _ => exact hF
    | 7, _ => exact hF
    | 8, _ => exact hF
    | 9, _ => exact hF
    | 10, _ => exact hF
    | 11, _ => exact hF
    | 12, _ => obtain ⟨g2, h0, h1⟩ := hF; exact ⟨g2, h0, h1.later hb⟩
    | 13, _ => exact hF
    | 14, _ => exact hF
    | 15, _ => exact hF
    | n + 16, hi => exact absurd hi (by omega)
   ·
    intro i hi t ρ wx hB hp hd
    match i, hi with
    | 0, _ =>
     have e5 : (fr DL1 A t).eval (.tmp 5) = .pointer (some ⟨ga, 0, none⟩) := (fr_eval_old _ _ _ 5 rfl).trans a5'
     obtain ⟨hc0, hc1, hc2, hc3, hc4⟩ := cells5 (hKA wx hB)
     refine op_run (v := .agg #[.int .i64 D.n, .slice S.key.a S.key.n S.key.c, .int .i64 D.seq, .int .i64 D.win.top, .slice S.win.bits.a S.win.bits.n S.win.bits.c]) (w' := wx) rfl rfl ?_ ?_
     ·
      clear hp hd; have ec : ∀ v, (fr DL1 A t).eval (.const v) = v := fun _ => rfl; generalize (fr DL1 A t).eval = ev at ec e5 ⊢; go_simp
     ·
      exact ⟨_, 0, rfl, hB, Below.refl _ _, rfl, .inl rfl⟩
    | 1, _ =>
     have e15 : (fr DL1 A t).eval (.tmp 15) = .agg #[.int .i64 D.n, .slice S.key.a S.key.n S.key.c, .int .i64 D.seq, .int .i64 D.win.top, .slice S.win.bits.a S.win.bits.n S.win.bits.c] := (fr_eval _ _ _ 15 rfl (by rw [asz]; decide)).trans (hp 0 (pre_mem (by kernel_rfl)))
     refine op_call (f := 29) (args := #[.agg #[.int .i64 D.n, .slice S.key.a S.key.n S.key.c, .int .i64 D.seq, .int .i64 D.win.top, .slice S.win.bits.a S.win.bits.n S.win.bits.c]]) rfl rfl ?_ (epOkV S D true wx (HR.out.later (hWB wx hB)) h0) ?_
     ·
      have ef : (fr DL1 A t).eval (.func 29) = .func (.func 29) #[] #[] := rfl; clear hp hd; have ec : ∀ v, (fr DL1 A t).eval (.const v) = v := fun _ => rfl; generalize (fr DL1 A t).eval = ev at ec e15 ef ⊢; go_simp
     ·
      rintro e wy ⟨rfl, b1⟩
      exact ⟨_, rfl, _, 0, rfl, hB.trans (b1.mono hB.size), b1, rfl, .inl rfl⟩
    | 2, _ =>
     have hv1 := hp 1 (pre_mem (by kernel_rfl))
     have e16 : (fr DL1 A t).eval (.tmp 16) = .bool true := (fr_eval _ _ _ 16 rfl (by rw [asz]; decide)).trans hv1
     refine op_run (v := .bool false) (w' := wx) rfl rfl ?_ ?_
     ·
      clear hp hd; have ec : ∀ v, (fr DL1 A t).eval (.const v) = v := fun _ => rfl; generalize (fr DL1 A t).eval = ev at ec e16 ⊢; go_simp
     ·
      exact ⟨_, 0, rfl, hB, Below.refl _ _, rfl, .inl rfl⟩
    | 3, _ =>
     have e17 : (fr DL1 A t).eval (.tmp 17) = .bool false := (fr_eval _ _ _ 17 rfl (by rw [asz]; decide)).trans (hp 2 (pre_mem (by kernel_rfl)))
     refine op_run (v := .bool false) (w' := wx) rfl rfl ?_ ?_
     ·
      clear hp hd; have ec : ∀ v, (fr DL1 A t).eval (.const v) = v := fun _ => rfl; generalize (fr DL1 A t).eval = ev at ec e17 ⊢; go_simp
     ·
      exact ⟨_, 0, rfl, hB, Below.refl _ _, rfl, .inl rfl⟩
    | 4, _ =>
     have e5 : (fr DL1 A t).eval (.tmp 5) = .pointer (some ⟨ga, 0, none⟩) := (fr_eval_old _ _ _ 5 rfl).trans a5'
     have e18 : (fr DL1 A t).eval (.tmp 18) = .bool false := (fr_eval _ _ _ 18 rfl (by rw [asz]; decide)).trans (hp 3 (pre_mem (by kernel_rfl)))
     refine op_run_g (v := .pointer (some ⟨ga, 1, none⟩)) (w' := wx) rfl (wanted_true rfl rfl e18) ?_ ?_
     ·
      clear hp hd; have ec : ∀ v, (fr DL1 A t).eval (.const v) = v := fun _ => rfl; generalize (fr DL1 A t).eval = ev at ec e5 e18 ⊢; go_simp
     ·
      exact ⟨_, 0, rfl, hB, Below.refl _ _, rfl, .inl rfl⟩
    | 5, _ =>
     have e19 : (fr DL1 A t).eval (.tmp 19) = .pointer (some ⟨ga, 1, none⟩) := (fr_eval _ _ _ 19 rfl (by rw [asz]; decide)).trans (hp 4 (pre_mem (by kernel_rfl)))
     have e18 : (fr DL1 A t).eval (.tmp 18) = .bool false := (fr_eval _ _ _ 18 rfl (by rw [asz]; decide)).trans (hp 3 (pre_mem (by kernel_rfl)))
     obtain ⟨hc0, hc1, hc2, hc3, hc4⟩ := cells5 (hKA wx hB)
     refine op_run_g (v := .slice S.key.a S.key.n S.key.c) (w' := wx) rfl (wanted_true rfl rfl e18) ?_ ?_
     ·
      clear hp hd; have ec : ∀ v, (fr DL1 A t).eval (.const v) = v := fun _ => rfl; generalize (fr DL1 A t).eval = ev at ec e19 e18 ⊢; go_simp
     ·
      exact ⟨_, 0, rfl, hB, Below.refl _ _, rfl, .inl rfl⟩
    | 6, _ =>
     have e1 : (fr DL1 A t).eval (.tmp 1) = .int .i64 role := (fr_eval_old _ _ _ 1 rfl).trans a1'
     have e18 : (fr DL1 A t).eval (.tmp 18) = .bool false := (fr_eval _ _ _ 18 rfl (by rw [asz]; decide)).trans (hp 3 (pre_mem (by kernel_rfl)))
     refine op_run_g (v := .int .i64 role) (w' := wx) rfl (wanted_true rfl rfl e18) ?_ ?_
     ·
      clear hp hd; have ec : ∀ v, (fr DL1 A t).eval (.const v) = v := fun _ => rfl; generalize (fr DL1 A t).eval = ev at ec e1 e18 ⊢; go_simp
     ·
      exact ⟨_, 0, rfl, hB, Below.refl _ _, rfl, .inl rfl⟩
    | 7, _ =>
     have e2 : (fr DL1 A t).eval (.tmp 2) = .slice s.a s.n s.c := (fr_eval_old _ _ _ 2 rfl).trans a2'
     have e18 : (fr DL1 A t).eval (.tmp 18) = .bool false := (fr_eval _ _ _ 18 rfl (by rw [asz]; decide)).trans (hp 3 (pre_mem (by kernel_rfl)))
     refine op_run_g (v := .slice s.a s.n s.c) (w' := wx) rfl (wanted_true rfl rfl e18) ?_ ?_
     ·
      clear hp hd; have ec : ∀ v, (fr DL1 A t).eval (.const v) = v := fun _ => rfl; generalize (fr DL1 A t).eval = ev at ec e2 e18 ⊢; go_simp
     ·
      exact ⟨_, 0, rfl, hB, Below.refl _ _, rfl, .inl rfl⟩
    | 8, _ =>
     have e5 : (fr DL1 A t).eval (.tmp 5) = .pointer (some ⟨ga, 0, none⟩) := (fr_eval_old _ _ _ 5 rfl).trans a5'
     have e18 : (fr DL1 A t).eval (.tmp 18) = .bool false := (fr_eval _ _ _ 18 rfl (by rw [asz]; decide)).trans (hp 3 (pre_mem (by kernel_rfl)))
     refine op_run_g (v := .pointer (some ⟨ga, 0, none⟩)) (w' := wx) rfl (wanted_true rfl rfl e18) ?_ ?_
     ·
      clear hp hd; have ec : ∀ v, (fr DL1 A t).eval (.const v) = v := fun _ => rfl; generalize (fr DL1 A t).eval = ev at ec e5 e18 ⊢; go_simp
     ·
      exact ⟨_, 0, rfl, hB, Below.refl _ _, rfl, .inl rfl⟩
    | 9, _ =>
     have e23 : (fr DL1 A t).eval (.tmp 23) = .pointer (some ⟨ga, 0, none⟩) := (fr_eval _ _ _ 23 rfl (by rw [asz]; decide)).trans (hp 8 (pre_mem (by kernel_rfl)))
     have e18 : (fr DL1 A t).eval (.tmp 18) = .bool false := (fr_eval _ _ _ 18 rfl (by rw [asz]; decide)).trans (hp 3 (pre_mem (by kernel_rfl)))
     obtain ⟨hc0, hc1, hc2, hc3, hc4⟩ := cells5 (hKA wx hB)
     refine op_run_g (v := .int .i64 D.n) (w' := wx) rfl (wanted_true rfl rfl e18) ?_ ?_
     ·
      clear hp hd; have ec : ∀ v, (fr DL1 A t).eval (.const v) = v := fun _ => rfl; generalize (fr DL1 A t).eval = ev at ec e23 e18 ⊢; go_simp
     ·
      exact ⟨_, 0, rfl, hB, Below.refl _ _, rfl, .inl rfl⟩
    | 10, _ =>
     have e3 : (fr DL1 A t).eval (.tmp 3) = .int .i64 kind := (fr_eval_old _ _ _ 3 rfl).trans a3'
     have e18 : (fr DL1 A t).eval (.tmp 18) = .bool false := (fr_eval _ _ _ 18 rfl (by rw [asz]; decide)).trans (hp 3 (pre_mem (by kernel_rfl)))
     refine op_run_g (v := .int .i64 kind) (w' := wx) rfl (wanted_true rfl rfl e18) ?_ ?_
     ·
      clear hp hd; have ec : ∀ v, (fr DL1 A t).eval (.const v) = v := fun _ => rfl; generalize (fr DL1 A t).eval = ev at ec e3 e18 ⊢; go_simp
     ·
      exact ⟨_, 0, rfl, hB, Below.refl _ _, rfl, .inl rfl⟩
    | 11, _ =>
     have e4 : (fr DL1 A t).eval (.tmp 4) = .slice p.a p.n p.c := (fr_eval_old _ _ _ 4 rfl).trans a4'
     have e18 : (fr DL1 A t).eval (.tmp 18) = .bool false := (fr_eval _ _ _ 18 rfl (by rw [asz]; decide)).trans (hp 3 (pre_mem (by kernel_rfl)))
     refine op_run_g (v := .slice p.a p.n p.c) (w' := wx) rfl (wanted_true rfl rfl e18) ?_ ?_
     ·
      clear hp hd; have ec : ∀ v, (fr DL1 A t).eval (.const v) = v := fun _ => rfl; generalize (fr DL1 A t).eval = ev at ec e4 e18 ⊢; go_simp
     ·
      exact ⟨_, 0, rfl, hB, Below.refl _ _, rfl, .inl rfl⟩
    | 12, _ =>
     have e22 : (fr DL1 A t).eval (.tmp 22) = .slice s.a s.n s.c := (fr_eval _ _ _ 22 rfl (by rw [asz]; decide)).trans (hp 7 (pre_mem (by kernel_rfl)))
     have e24 : (fr DL1 A t).eval (.tmp 24) = .int .i64 D.n := (fr_eval _ _ _ 24 rfl (by rw [asz]; decide)).trans (hp 9 (pre_mem (by kernel_rfl)))
     have e25 : (fr DL1 A t).eval (.tmp 25) = .int .i64 kind := (fr_eval _ _ _ 25 rfl (by rw [asz]; decide)).trans (hp 10 (pre_mem (by kernel_rfl)))
     have e26 : (fr DL1 A t).eval (.tmp 26) = .slice p.a p.n p.c := (fr_eval _ _ _ 26 rfl (by rw [asz]; decide)).trans (hp 11 (pre_mem (by kernel_rfl)))
     have e18 : (fr DL1 A t).eval (.tmp 18) = .bool false := (fr_eval _ _ _ 18 rfl (by rw [asz]; decide)).trans (hp 3 (pre_mem (by kernel_rfl)))
     refine op_call_g (f := 55) (args := #[.slice s.a s.n s.c, .int .i64 D.n, .int .i64 0, .int .i64 kind, .slice p.a p.n p.c]) rfl (wanted_true rfl rfl e18) ?_ (draftFrame s p l pl D.n 0 kind wx) ?_
     ·
      have ef : (fr DL1 A t).eval (.func 55) = .func (.func 55) #[] #[] := rfl; clear hp hd; have ec : ∀ v, (fr DL1 A t).eval (.const v) = v := fun _ => rfl; generalize (fr DL1 A t).eval = ev at ec e22 e24 e25 e26 e18 ef ⊢; go_simp
     ·
      rintro e wy ⟨g2, rfl, kg, rr, b1⟩
      exact ⟨_, rfl, _, 0, rfl, hB.trans (b1.mono hB.size), b1, ⟨g2, rfl, draft_rd ((HS.out.later (hWB wx hB)).later b1) ((HP.out.later (hWB wx hB)).later b1) (SOwn.row (lo := 0) (hi := wy.heap.size) rr (by simp) (zeros_bytes 16) (Nat.zero_le _) rr.lt).rd⟩, .inl rfl⟩
    | 13, _ =>
     have e20 : (fr DL1 A t).eval (.tmp 20) = .slice S.key.a S.key.n S.key.c := (fr_eval _ _ _ 20 rfl (by rw [asz]; decide)).trans (hp 5 (pre_mem (by kernel_rfl)))
     have e21 : (fr DL1 A t).eval (.tmp 21) = .int .i64 role := (fr_eval _ _ _ 21 rfl (by rw [asz]; decide)).trans (hp 6 (pre_mem (by kernel_rfl)))
     obtain ⟨g212, hv12, q12_0⟩ := hp 12 (pre_mem (by kernel_rfl))
     have e27 : (fr DL1 A t).eval (.tmp 27) = frV (draftD l D.n 0 kind pl (List.replicate 16 0)) (draftS s p ⟨some ⟨g212, 0, none⟩, 16, 16⟩) := (fr_eval _ _ _ 27 rfl (by rw [asz]; decide)).trans hv12
     have e18 : (fr DL1 A t).eval (.tmp 18) = .bool false := (fr_eval _ _ _ 18 rfl (by rw [asz]; decide)).trans (hp 3 (pre_mem (by kernel_rfl)))
     refine op_call_g (f := 56) (args := #[.slice S.key.a S.key.n S.key.c, .int .i64 role, frV (draftD l D.n 0 kind pl (List.replicate 16 0)) (draftS s p ⟨some ⟨g212, 0, none⟩, 16, 16⟩)]) rfl (wanted_true rfl rfl e18) ?_ (canSealV S.key role (draftS s p ⟨some ⟨g212, 0, none⟩, 16, 16⟩) (draftD l D.n 0 kind pl (List.replicate 16 0)) vv wx q12_0 HSV.out) ?_
     ·
      have ef : (fr DL1 A t).eval (.func 56) = .func (.func 56) #[] #[] := rfl; clear hp hd q12_0; have ec : ∀ v, (fr DL1 A t).eval (.const v) = v := fun _ => rfl; generalize (fr DL1 A t).eval = ev at ec e20 e21 e27 e18 ef ⊢; go_simp
     ·
      rintro e wy ⟨rfl, b1⟩
      exact ⟨_, rfl, _, 0, rfl, hB.trans (b1.mono hB.size), b1, rfl, .inl rfl⟩
    | 14, _ =>
     have hv13 := hp 13 (pre_mem (by kernel_rfl))
     have e28 : (fr DL1 A t).eval (.tmp 28) = .bool vv := (fr_eval _ _ _ 28 rfl (by rw [asz]; decide)).trans hv13
     have e18 : (fr DL1 A t).eval (.tmp 18) = .bool false := (fr_eval _ _ _ 18 rfl (by rw [asz]; decide)).trans (hp 3 (pre_mem (by kernel_rfl)))
     refine op_run_g (v := .bool (!vv)) (w' := wx) rfl (wanted_true rfl rfl e18) ?_ ?_
     ·
      clear hp hd; have ec : ∀ v, (fr DL1 A t).eval (.const v) = v := fun _ => rfl; generalize (fr DL1 A t).eval = ev at ec e28 e18 ⊢; go_simp
     ·
      exact ⟨_, 0, rfl, hB, Below.refl _ _, rfl, .inl rfl⟩
    | 15, _ =>
     have e18 : (fr DL1 A t).eval (.tmp 18) = .bool false := (fr_eval _ _ _ 18 rfl (by rw [asz]; decide)).trans (hp 3 (pre_mem (by kernel_rfl)))
     have e29 : (fr DL1 A t).eval (.tmp 29) = .bool (!vv) := (fr_eval _ _ _ 29 rfl (by rw [asz]; decide)).trans (hp 14 (pre_mem (by kernel_rfl)))
     refine op_run (v := .bool (!vv)) (w' := wx) rfl rfl ?_ ?_
     ·
      clear hp hd; have ec : ∀ v, (fr DL1 A t).eval (.const v) = v := fun _ => rfl; generalize (fr DL1 A t).eval = ev at ec e18 e29 ⊢; go_simp
     ·
      exact ⟨_, 0, rfl, hB, Below.refl _ _, rfl, .inl rfl⟩
    | n + 16, hi => exact absurd hi (by omega)
   ·
    intro t ρ wx hB hF hne
    have e30 : (fr DL1 A t).eval (.tmp 30) = .bool (!vv) := (fr_eval _ _ _ 30 rfl (by rw [asz]; decide)).trans (hF 15 (by decide))
    clear hne
    refine op_wp rfl rfl ?_
    generalize hE : (fr DL1 A t).eval = ev at e30
    unfold Oper.wp
    rw [hE]
    go_simp
    refine hMet _ _ (Met.intro (hRJ _ _ ⟨_, t 15, t 16, t 17, t 18, t 19, t 20, t 21, t 22, t 23, t 24, t 25, t 26, t 27, t 28, t 29, t 30, ⟨rfl, hB⟩, ?_⟩))
    rw [← hA]; rfl
  case rest =>
   obtain ⟨xc, hxc⟩ : ∃ xc, xc = wc := ⟨_, rfl⟩
   subst hxc
   obtain ⟨rfl, bc⟩ := hcut
   have BC := hid (B1.out.trans (bc.mono B1.out.size))
   have KOC := hid (KO1.out.later bc)
   have KAC := hid (KA1.out.later bc)
   have SZC : Hid (go + 1 ≤ xc.heap.size) := KOC.out.lt
   clear bc
   cases vv with
   | false =>
    obtain rfl : c = 1 := by rw [← HC.out]; exact es_1 HV.out
    obtain rfl : R = zeroF := by rw [← HRR.out]; exact esF_no (by rw [HC.out]; decide)
    obtain ⟨co0, co1, co2, co3, co4, co5, co6, co7, co8, co9, co10⟩ := cells11 KOC.out
    obtain ⟨fo0, fo1, fo2, fo3, fo4, fo5, fo6, fo7, fo8, fo9, fo10⟩ := froz11 KOC.out
    go_wp2
    obtain ⟨k1, k2, k3⟩ := fr_stored (D := zeroF) (S := (⟨⟨none, 0, 0⟩, ⟨none, 0, 0⟩, ⟨none, 0, 0⟩, ⟨none, 0, 0⟩, ⟨none, 0, 0⟩, ⟨none, 0, 0⟩⟩ : FrS)) KOC.out (own_nil xc xc.heap.size xc.heap.size) (.inl (by have := SZC.out; omega))
    exact bodyPost_ret (v := .tuple #[frV zeroF (⟨⟨none, 0, 0⟩, ⟨none, 0, 0⟩, ⟨none, 0, 0⟩, ⟨none, 0, 0⟩, ⟨none, 0, 0⟩, ⟨none, 0, 0⟩⟩ : FrS), .iface 145 (.agg #[.int .i64 1])]) (res2 rfl (is_cell rfl k1 aggFr) (is_tmp rfl)) rfl ⟨(⟨⟨none, 0, 0⟩, ⟨none, 0, 0⟩, ⟨none, 0, 0⟩, ⟨none, 0, 0⟩, ⟨none, 0, 0⟩, ⟨none, 0, 0⟩⟩ : FrS), rfl, own_nil _ _ _, k3 _ _ (by have := Gga.out; omega) BC.out⟩
   | true =>
    have d0 := KAC.out.cell 0 rfl
    have d1 := KAC.out.cell 1 rfl
    have d2 := KAC.out.cell 2 rfl
    have HQ : Hid (0 ≤ D.seq ∧ D.seq ≤ 281474976710656) := seq_wrap HV.out
    cases h4 : (kind == 4) with
    | true =>
     by_cases hq : D.seq ≥ 281474976709656
     ·
      have H4 : Hid (((kind == 4) && decide (D.seq ≥ 281474976709656)) = true) := by show _ = true; rw [h4, decide_eq_true hq]; rfl
      obtain rfl : c = 4 := by rw [← HC.out]; exact es_4 HV.out H4.out
      obtain rfl : R = zeroF := by rw [← HRR.out]; exact esF_no (by rw [HC.out]; decide)
      obtain ⟨co0, co1, co2, co3, co4, co5, co6, co7, co8, co9, co10⟩ := cells11 KOC.out
      obtain ⟨fo0, fo1, fo2, fo3, fo4, fo5, fo6, fo7, fo8, fo9, fo10⟩ := froz11 KOC.out
      go_wp2
      obtain ⟨k1, k2, k3⟩ := fr_stored (D := zeroF) (S := (⟨⟨none, 0, 0⟩, ⟨none, 0, 0⟩, ⟨none, 0, 0⟩, ⟨none, 0, 0⟩, ⟨none, 0, 0⟩, ⟨none, 0, 0⟩⟩ : FrS)) KOC.out (own_nil xc xc.heap.size xc.heap.size) (.inl (by have := SZC.out; omega))
      exact bodyPost_ret (v := .tuple #[frV zeroF (⟨⟨none, 0, 0⟩, ⟨none, 0, 0⟩, ⟨none, 0, 0⟩, ⟨none, 0, 0⟩, ⟨none, 0, 0⟩, ⟨none, 0, 0⟩⟩ : FrS), .iface 145 (.agg #[.int .i64 4])]) (res2 rfl (is_cell rfl k1 aggFr) (is_tmp rfl)) rfl ⟨(⟨⟨none, 0, 0⟩, ⟨none, 0, 0⟩, ⟨none, 0, 0⟩, ⟨none, 0, 0⟩, ⟨none, 0, 0⟩, ⟨none, 0, 0⟩⟩ : FrS), rfl, own_nil _ _ _, k3 _ _ (by have := Gga.out; omega) BC.out⟩
     ·
      have hq2 : ¬ (D.seq ≥ 281474976709656) := hq
      have H4 : Hid (((kind == 4) && decide (D.seq ≥ 281474976709656)) = false) := by show _ = false; rw [decide_eq_false hq2]; simp
      cases h5 : (D.seq == 281474976710656) with
      | true =>
       obtain rfl : c = 5 := by rw [← HC.out]; exact es_5 HV.out H4.out h5
       obtain rfl : R = zeroF := by rw [← HRR.out]; exact esF_no (by rw [HC.out]; decide)
       obtain ⟨co0, co1, co2, co3, co4, co5, co6, co7, co8, co9, co10⟩ := cells11 KOC.out
       obtain ⟨fo0, fo1, fo2, fo3, fo4, fo5, fo6, fo7, fo8, fo9, fo10⟩ := froz11 KOC.out
       go_wp2
       obtain ⟨k1, k2, k3⟩ := fr_stored (D := zeroF) (S := (⟨⟨none, 0, 0⟩, ⟨none, 0, 0⟩, ⟨none, 0, 0⟩, ⟨none, 0, 0⟩, ⟨none, 0, 0⟩, ⟨none, 0, 0⟩⟩ : FrS)) KOC.out (own_nil xc xc.heap.size xc.heap.size) (.inl (by have := SZC.out; omega))
       exact bodyPost_ret (v := .tuple #[frV zeroF (⟨⟨none, 0, 0⟩, ⟨none, 0, 0⟩, ⟨none, 0, 0⟩, ⟨none, 0, 0⟩, ⟨none, 0, 0⟩, ⟨none, 0, 0⟩⟩ : FrS), .iface 145 (.agg #[.int .i64 5])]) (res2 rfl (is_cell rfl k1 aggFr) (is_tmp rfl)) rfl ⟨(⟨⟨none, 0, 0⟩, ⟨none, 0, 0⟩, ⟨none, 0, 0⟩, ⟨none, 0, 0⟩, ⟨none, 0, 0⟩, ⟨none, 0, 0⟩⟩ : FrS), rfl, own_nil _ _ _, k3 _ _ (by have := Gga.out; omega) BC.out⟩
      | false =>
       have HSB : Hid (sealB D.key role l D.n D.seq kind pl = true) := form_seal HV.out h5
       obtain rfl : c = 0 := by rw [← HC.out]; exact es_0 HV.out H4.out h5
       have HSR : Hid (sealD D.key role l D.n D.seq kind pl = R) := by show _ = _; rw [← HRR.out]; exact (esF_yes HC.out).symm
       go_wp2_with fail
       refine (implSeal S.key s p D.key l pl role D.n D.seq kind xc (HT.out.later BC.out) (HR.out.later BC.out).key (HS.out.later BC.out) (HP.out.later BC.out)).mono ?_
       rw [sealF_yes HSB.out, HSB.out, HSR.out]
       rintro e x2 ⟨S2, rfl, o, b⟩
       have B2 := hid (BC.out.trans (b.mono BC.out.size))
       have KO2 := hid (KOC.out.later b)
       have OS := hid (o)
       have SZ2 := hid (b.size)
       clear o b d0 d1 d2
       obtain ⟨x3, hx3⟩ : ∃ x3, x2.alloc (.cells #[.int .i64 R.kind, .int .i64 R.id, .slice S2.cn.a S2.cn.n S2.cn.c, .slice S2.sn.a S2.sn.n S2.sn.c, .int .i64 R.tick, .slice S2.cookie.a S2.cookie.n S2.cookie.c, .slice S2.proof.a S2.proof.n S2.proof.c, .int .i64 R.epoch, .int .i64 R.seq, .slice S2.body.a S2.body.n S2.body.c, .slice S2.tag.a S2.tag.n S2.tag.c] 27) = x3 := ⟨_, rfl⟩
       have HW3 := hid (hx3)
       have b3 : Below x2.heap.size x2 x3 := by rw [← hx3]; exact (Below.refl _ _).alloc (Nat.le_refl _) _
       have K3 : Hid (Blk x3 x2.heap.size 27 [.int .i64 R.kind, .int .i64 R.id, .slice S2.cn.a S2.cn.n S2.cn.c, .slice S2.sn.a S2.sn.n S2.sn.c, .int .i64 R.tick, .slice S2.cookie.a S2.cookie.n S2.cookie.c, .slice S2.proof.a S2.proof.n S2.proof.c, .int .i64 R.epoch, .int .i64 R.seq, .slice S2.body.a S2.body.n S2.body.c, .slice S2.tag.a S2.tag.n S2.tag.c]) := by rw [← hx3]; exact Blk.new x2 _ _
       have SZ3 : Hid (x3.heap.size = x2.heap.size + 1) := by rw [← hx3]; show _ = _; simp
       have B3 := hid (B2.out.trans (b3.mono B2.out.size))
       have KO3 := hid (KO2.out.later b3)
       have OS3 := hid (OS.out.later b3)
       clear hx3 b3 KO2 OS
       unfold frV
       go_upto_region 8 with fail
       rw [HW3.out]
       obtain ⟨gf, hgf⟩ : ∃ g, x2.heap.size = g := ⟨_, rfl⟩
       have HGF : Hid (x2.heap.size = gf) := hgf
       rw [hgf] at K3 ⊢
       clear hgf HW3
       have q0 := K3.out.cell 0 rfl
       have co0 := KO3.out.cell 0 rfl
       have fo0 := KO3.out.frozen 0
       have q1 := K3.out.cell 1 rfl
       have co1 := KO3.out.cell 1 rfl
       have fo1 := KO3.out.frozen 1
       have q2 := K3.out.cell 2 rfl
       have co2 := KO3.out.cell 2 rfl
       have fo2 := KO3.out.frozen 2
       have q3 := K3.out.cell 3 rfl
       have co3 := KO3.out.cell 3 rfl
       have fo3 := KO3.out.frozen 3
       have q4 := K3.out.cell 4 rfl
       have co4 := KO3.out.cell 4 rfl
       have fo4 := KO3.out.frozen 4
       have q5 := K3.out.cell 5 rfl
       have co5 := KO3.out.cell 5 rfl
       have fo5 := KO3.out.frozen 5
       have q6 := K3.out.cell 6 rfl
       have co6 := KO3.out.cell 6 rfl
       have fo6 := KO3.out.frozen 6
       have q7 := K3.out.cell 7 rfl
       have co7 := KO3.out.cell 7 rfl
       have fo7 := KO3.out.frozen 7
       have q8 := K3.out.cell 8 rfl
       have co8 := KO3.out.cell 8 rfl
       have fo8 := KO3.out.frozen 8
       have q9 := K3.out.cell 9 rfl
       have co9 := KO3.out.cell 9 rfl
       have fo9 := KO3.out.frozen 9
       have q10 := K3.out.cell 10 rfl
       have co10 := KO3.out.cell 10 rfl
       have fo10 := KO3.out.frozen 10
       go_wp2
       obtain ⟨k1, k2, k3⟩ := fr_stored (D := R) (S := S2) KO3.out OS3.out (.inl (by have := SZC.out; omega))
       refine bodyPost_ret (v := .tuple #[frV R S2, .nilIface]) (res2 rfl (is_cell rfl k1 aggFr) (is_tmp rfl)) rfl ⟨S2, rfl, ?_, k3 _ _ (by have := Gga.out; omega) B3.out⟩
       exact k2.mono BC.out.size (by rw [fr_size]; have := SZ3.out; omega)
    | false =>
     have H4 : Hid (((kind == 4) && decide (D.seq ≥ 281474976709656)) = false) := by show _ = false; rw [h4]; rfl
     cases h5 : (D.seq == 281474976710656) with
     | true =>
      obtain rfl : c = 5 := by rw [← HC.out]; exact es_5 HV.out H4.out h5
      obtain rfl : R = zeroF := by rw [← HRR.out]; exact esF_no (by rw [HC.out]; decide)
      obtain ⟨co0, co1, co2, co3, co4, co5, co6, co7, co8, co9, co10⟩ := cells11 KOC.out
      obtain ⟨fo0, fo1, fo2, fo3, fo4, fo5, fo6, fo7, fo8, fo9, fo10⟩ := froz11 KOC.out
      go_wp2
      obtain ⟨k1, k2, k3⟩ := fr_stored (D := zeroF) (S := (⟨⟨none, 0, 0⟩, ⟨none, 0, 0⟩, ⟨none, 0, 0⟩, ⟨none, 0, 0⟩, ⟨none, 0, 0⟩, ⟨none, 0, 0⟩⟩ : FrS)) KOC.out (own_nil xc xc.heap.size xc.heap.size) (.inl (by have := SZC.out; omega))
      exact bodyPost_ret (v := .tuple #[frV zeroF (⟨⟨none, 0, 0⟩, ⟨none, 0, 0⟩, ⟨none, 0, 0⟩, ⟨none, 0, 0⟩, ⟨none, 0, 0⟩, ⟨none, 0, 0⟩⟩ : FrS), .iface 145 (.agg #[.int .i64 5])]) (res2 rfl (is_cell rfl k1 aggFr) (is_tmp rfl)) rfl ⟨(⟨⟨none, 0, 0⟩, ⟨none, 0, 0⟩, ⟨none, 0, 0⟩, ⟨none, 0, 0⟩, ⟨none, 0, 0⟩, ⟨none, 0, 0⟩⟩ : FrS), rfl, own_nil _ _ _, k3 _ _ (by have := Gga.out; omega) BC.out⟩
     | false =>
      have HSB : Hid (sealB D.key role l D.n D.seq kind pl = true) := form_seal HV.out h5
      obtain rfl : c = 0 := by rw [← HC.out]; exact es_0 HV.out H4.out h5
      have HSR : Hid (sealD D.key role l D.n D.seq kind pl = R) := by show _ = _; rw [← HRR.out]; exact (esF_yes HC.out).symm
      go_wp2_with fail
      refine (implSeal S.key s p D.key l pl role D.n D.seq kind xc (HT.out.later BC.out) (HR.out.later BC.out).key (HS.out.later BC.out) (HP.out.later BC.out)).mono ?_
      rw [sealF_yes HSB.out, HSB.out, HSR.out]
      rintro e x2 ⟨S2, rfl, o, b⟩
      have B2 := hid (BC.out.trans (b.mono BC.out.size))
      have KO2 := hid (KOC.out.later b)
      have OS := hid (o)
      have SZ2 := hid (b.size)
      clear o b d0 d1 d2
      obtain ⟨x3, hx3⟩ : ∃ x3, x2.alloc (.cells #[.int .i64 R.kind, .int .i64 R.id, .slice S2.cn.a S2.cn.n S2.cn.c, .slice S2.sn.a S2.sn.n S2.sn.c, .int .i64 R.tick, .slice S2.cookie.a S2.cookie.n S2.cookie.c, .slice S2.proof.a S2.proof.n S2.proof.c, .int .i64 R.epoch, .int .i64 R.seq, .slice S2.body.a S2.body.n S2.body.c, .slice S2.tag.a S2.tag.n S2.tag.c] 27) = x3 := ⟨_, rfl⟩
      have HW3 := hid (hx3)
      have b3 : Below x2.heap.size x2 x3 := by rw [← hx3]; exact (Below.refl _ _).alloc (Nat.le_refl _) _
      have K3 : Hid (Blk x3 x2.heap.size 27 [.int .i64 R.kind, .int .i64 R.id, .slice S2.cn.a S2.cn.n S2.cn.c, .slice S2.sn.a S2.sn.n S2.sn.c, .int .i64 R.tick, .slice S2.cookie.a S2.cookie.n S2.cookie.c, .slice S2.proof.a S2.proof.n S2.proof.c, .int .i64 R.epoch, .int .i64 R.seq, .slice S2.body.a S2.body.n S2.body.c, .slice S2.tag.a S2.tag.n S2.tag.c]) := by rw [← hx3]; exact Blk.new x2 _ _
      have SZ3 : Hid (x3.heap.size = x2.heap.size + 1) := by rw [← hx3]; show _ = _; simp
      have B3 := hid (B2.out.trans (b3.mono B2.out.size))
      have KO3 := hid (KO2.out.later b3)
      have OS3 := hid (OS.out.later b3)
      clear hx3 b3 KO2 OS
      unfold frV
      go_upto_region 8 with fail
      rw [HW3.out]
      obtain ⟨gf, hgf⟩ : ∃ g, x2.heap.size = g := ⟨_, rfl⟩
      have HGF : Hid (x2.heap.size = gf) := hgf
      rw [hgf] at K3 ⊢
      clear hgf HW3
      have q0 := K3.out.cell 0 rfl
      have co0 := KO3.out.cell 0 rfl
      have fo0 := KO3.out.frozen 0
      have q1 := K3.out.cell 1 rfl
      have co1 := KO3.out.cell 1 rfl
      have fo1 := KO3.out.frozen 1
      have q2 := K3.out.cell 2 rfl
      have co2 := KO3.out.cell 2 rfl
      have fo2 := KO3.out.frozen 2
      have q3 := K3.out.cell 3 rfl
      have co3 := KO3.out.cell 3 rfl
      have fo3 := KO3.out.frozen 3
      have q4 := K3.out.cell 4 rfl
      have co4 := KO3.out.cell 4 rfl
      have fo4 := KO3.out.frozen 4
      have q5 := K3.out.cell 5 rfl
      have co5 := KO3.out.cell 5 rfl
      have fo5 := KO3.out.frozen 5
      have q6 := K3.out.cell 6 rfl
      have co6 := KO3.out.cell 6 rfl
      have fo6 := KO3.out.frozen 6
      have q7 := K3.out.cell 7 rfl
      have co7 := KO3.out.cell 7 rfl
      have fo7 := KO3.out.frozen 7
      have q8 := K3.out.cell 8 rfl
      have co8 := KO3.out.cell 8 rfl
      have fo8 := KO3.out.frozen 8
      have q9 := K3.out.cell 9 rfl
      have co9 := KO3.out.cell 9 rfl
      have fo9 := KO3.out.frozen 9
      have q10 := K3.out.cell 10 rfl
      have co10 := KO3.out.cell 10 rfl
      have fo10 := KO3.out.frozen 10
      go_wp2
      obtain ⟨k1, k2, k3⟩ := fr_stored (D := R) (S := S2) KO3.out OS3.out (.inl (by have := SZC.out; omega))
      refine bodyPost_ret (v := .tuple #[frV R S2, .nilIface]) (res2 rfl (is_cell rfl k1 aggFr) (is_tmp rfl)) rfl ⟨S2, rfl, ?_, k3 _ _ (by have := Gga.out; omega) B3.out⟩
      exact k2.mono BC.out.size (by rw [fr_size]; have := SZ3.out; omega)

end Go.Proofs.YtmcflfpckpjphaaGreatDoor.EpJ
