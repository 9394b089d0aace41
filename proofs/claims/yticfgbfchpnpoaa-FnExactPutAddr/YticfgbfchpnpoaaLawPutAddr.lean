/-
  The walk of the law FnExactPutAddr: at every slice of bytes and every address it answers true, and nothing that was there is written.
-/
import Derived.Test.YticfgbfchpnpoaaAddrL
import Derived.Test.YticfgbfchpnpoaaAddrI
namespace Go.Proofs.Yticfgbfchpnpoaa.LawPutAddr
open Go.RowKit Go.Proofs.Yticfgbfchpnpoaa.Mem Go.Proofs.Yticfgbfchpnpoaa.App Go.Proofs.Yticfgbfchpnpoaa.Blk Go.Proofs.Yticfgbfchpnpoaa.AddrP Go.Proofs.Yticfgbfchpnpoaa.AddrS Go.Proofs.Yticfgbfchpnpoaa.AddrL Go.Proofs.Yticfgbfchpnpoaa.AddrI Go.Proofs.Yticfgbfchpnpoaa.Each Go.Proofs.Yticfgbfchpnpoaa.Copy Go.Proofs.Yticfgbfchpnpoaa.Ops

theorem putA_len (l : List Int) (h p : Int) : (putA l h p).length ≤ l.length + 6 := by
  unfold putA; split
  · simp only [List.length_append, num_length]; omega
  · omega

set_option maxRecDepth 100000 in
set_option maxHeartbeats 4000000 in
theorem small (ab : Option Addr) (nb cb : Nat) (lb : List Int) (h p : Int) (w : World) (hlb : nb = lb.length) (hrb : Rd w ab lb) (hzb : nb ≤ 1048576) :
    Calls Try.prog 4 #[.slice ab nb cb, addrV h p] w fun e w' => e = .returned (.bool true) ∧ Below w.heap.size w w' := by
  have HLb : Hid (nb = lb.length) := hlb
  have HRb : Hid (Rd w ab lb) := hrb
  obtain ⟨r, hr⟩ : ∃ r, putA lb h p = r := ⟨_, rfl⟩
  have HPL : Hid (r.length ≤ 1048576 + 6) := by rw [← hr]; have := putA_len lb h p; show _ ≤ _; omega
  have HO : Hid (putA lb h p = r) := hr
  have hqb : lb.length ≤ 1048576 := by rw [← hlb]; exact hzb
  clear hr hlb hrb
  unfold addrV
  go_enter Try.func4, Try.ntmps4
  obtain ⟨x1, hx1⟩ : ∃ x1, w.alloc (.cells #[.int .i64 h, .int .i64 p] 23) = x1 := ⟨_, rfl⟩
  have HWx1 : Hid (w.alloc (.cells #[.int .i64 h, .int .i64 p] 23) = x1) := hx1
  have Nx1 : Hid (Blk x1 w.heap.size 23 [.int .i64 h, .int .i64 p]) := by rw [← hx1]; exact Blk.new w 23 [.int .i64 h, .int .i64 p]
  have bx1 : Below w.heap.size w x1 := by rw [← hx1]; exact (Below.refl _ _).alloc (Nat.le_refl _) _
  clear hx1
  go_upto_region 1 with fail
  rw [HWx1.out]
  clear HWx1
  have GEaK : Hid (w.heap.size ≤ w.heap.size) := (Nat.le_refl _)
  have Bx1 : Hid (Below w.heap.size w x1) := bx1
  clear bx1
  go_upto_region 3 with fail
  go_cut [5] from 15 to 19 (fun sv wx => ∃ g m c', sv = .slice (some ⟨g, 0, none⟩) m c' ∧ m = r.length ∧ x1.heap.size ≤ g ∧ Row wx g c' r ∧ Below x1.heap.size x1 wx)
  case first =>
    rename_i J K' hRJ hMet
    generalize hA : Act.mk _ _ = A
    have a0' : A.eval (.tmp 0) = .slice ab nb cb := by rw [← hA]; rfl
    have a3' : A.eval (.tmp 3) = .pointer (some ⟨w.heap.size, 0, none⟩) := by rw [← hA]; rfl
    have asz : A.tmps.size = 74 := by rw [← hA]; rfl
    have hK : ∀ wx, Below x1.heap.size x1 wx → Blk wx w.heap.size 23 [.int .i64 h, .int .i64 p] := fun wx hb => Nx1.out.later hb
    have hRl : ∀ wx, Below x1.heap.size x1 wx → Rd wx ab lb := fun wx hb => HRb.out.later (Bx1.out.trans (hb.mono Bx1.out.size)) (Nat.le_refl _)
    refine region_each (by kernel_rfl) [15, 16, 17, 18, 19] 5 (fun i => [15, 16, 17, 18, 19].getD i 0) (fun _ => 0)
      (fun i gB v wx => match i with
        | 0 => v = .slice ab nb cb
        | 1 => v = .slice (some ⟨gB, 0, none⟩) nb nb ∧ Row wx gB nb lb
        | 2 => v = .agg #[.int .i64 h, .int .i64 p]
        | 3 => v = addrV h p
        | 4 => ∃ m c, v = .slice (some ⟨gB, 0, none⟩) m c ∧ m = r.length ∧ Row wx gB c r ∧ x1.heap.size ≤ gB
        | _ => False) (fun wx => Below x1.heap.size x1 wx) (by kernel_rfl) (Below.refl _ _).drew ?_ ?_ ?_
    · intro i gB v wx wy hi hF hb _
      match i, hi with
      | 0, _ => exact hF
      | 1, _ => obtain ⟨h0, h1⟩ := hF; exact ⟨h0, h1.later hb⟩
      | 2, _ => exact hF
      | 3, _ => exact hF
      | 4, _ => obtain ⟨m, c, h0, h1, h2, h3⟩ := hF; exact ⟨m, c, h0, h1, h2.later hb, h3⟩
    · intro i hi t ρ wx hB hp hd
      match i, hi with
      | 0, _ =>
        have e0 : (fr [15, 16, 17, 18, 19] A t).eval (.tmp 0) = .slice ab nb cb := (fr_eval_old _ _ _ 0 rfl).trans a0'
        refine op_run (v := .slice ab nb cb) (w' := wx) rfl rfl ?_ ?_
        · clear hp hd; have ec : ∀ v, (fr [15, 16, 17, 18, 19] A t).eval (.const v) = v := fun _ => rfl; generalize (fr [15, 16, 17, 18, 19] A t).eval = ev at ec e0 ⊢; go_simp
        · exact ⟨_, 0, rfl, hB, Below.refl _ _, rfl, .inl rfl⟩
      | 1, _ =>
        have e15 : (fr [15, 16, 17, 18, 19] A t).eval (.tmp 15) = .slice ab nb cb := (fr_eval _ _ _ 15 rfl (by rw [asz]; decide)).trans (hp 0 (pre_mem (by kernel_rfl)))
        refine op_call (f := 11) (args := #[.slice ab nb cb]) rfl rfl ?_ (toByteS ab nb cb lb wx HLb.out (hRl wx hB) (by omega)) ?_
        · have ef : (fr [15, 16, 17, 18, 19] A t).eval (.func 11) = .func (.func 11) #[] #[] := rfl; clear hp hd; have ec : ∀ v, (fr [15, 16, 17, 18, 19] A t).eval (.const v) = v := fun _ => rfl; generalize (fr [15, 16, 17, 18, 19] A t).eval = ev at ec e15 ef ⊢; go_simp
        · rintro e wy ⟨rfl, r1, b1⟩
          exact ⟨_, rfl, _, wx.heap.size, rfl, hB.trans (b1.mono hB.size), b1, ⟨rfl, r1⟩, .inl rfl⟩
      | 2, _ =>
        have e3 : (fr [15, 16, 17, 18, 19] A t).eval (.tmp 3) = .pointer (some ⟨w.heap.size, 0, none⟩) := (fr_eval_old _ _ _ 3 rfl).trans a3'
        have hc0 := (hK wx hB).cell 0 rfl
        have hc1 := (hK wx hB).cell 1 rfl
        refine op_run (v := .agg #[.int .i64 h, .int .i64 p]) (w' := wx) rfl rfl ?_ ?_
        · clear hp hd; have ec : ∀ v, (fr [15, 16, 17, 18, 19] A t).eval (.const v) = v := fun _ => rfl; generalize (fr [15, 16, 17, 18, 19] A t).eval = ev at ec e3 ⊢; go_simp
        · exact ⟨_, 0, rfl, hB, Below.refl _ _, rfl, .inl rfl⟩
      | 3, _ =>
        have e17 : (fr [15, 16, 17, 18, 19] A t).eval (.tmp 17) = .agg #[.int .i64 h, .int .i64 p] := (fr_eval _ _ _ 17 rfl (by rw [asz]; decide)).trans (hp 2 (pre_mem (by kernel_rfl)))
        refine op_call (f := 8) (args := #[.agg #[.int .i64 h, .int .i64 p]]) rfl rfl ?_ (toAddr h p wx) ?_
        · have ef : (fr [15, 16, 17, 18, 19] A t).eval (.func 8) = .func (.func 8) #[] #[] := rfl; clear hp hd; have ec : ∀ v, (fr [15, 16, 17, 18, 19] A t).eval (.const v) = v := fun _ => rfl; generalize (fr [15, 16, 17, 18, 19] A t).eval = ev at ec e17 ef ⊢; go_simp
        · rintro e wy ⟨rfl, b1⟩
          exact ⟨_, rfl, _, wx.heap.size, rfl, hB.trans (b1.mono hB.size), b1, rfl, .inl rfl⟩
      | 4, _ =>
        obtain ⟨hv1, q1_0⟩ := hp 1 (pre_mem (by kernel_rfl))
        have e16 : (fr [15, 16, 17, 18, 19] A t).eval (.tmp 16) = .slice (some ⟨(ρ 1), 0, none⟩) nb nb := (fr_eval _ _ _ 16 rfl (by rw [asz]; decide)).trans hv1
        have hv3 := hp 3 (pre_mem (by kernel_rfl))
        have e18 : (fr [15, 16, 17, 18, 19] A t).eval (.tmp 18) = addrV h p := (fr_eval _ _ _ 18 rfl (by rw [asz]; decide)).trans hv3
        refine op_call (f := 10) (args := #[.slice (some ⟨(ρ 1), 0, none⟩) nb nb, addrV h p]) rfl rfl ?_ (specPutAddr (some ⟨(ρ 1), 0, none⟩) nb nb lb h p wx HLb.out q1_0.rd (by intro e; cases e) (by omega)) ?_
        · have ef : (fr [15, 16, 17, 18, 19] A t).eval (.func 10) = .func (.func 10) #[] #[] := rfl; clear hp hd q1_0; have ec : ∀ v, (fr [15, 16, 17, 18, 19] A t).eval (.const v) = v := fun _ => rfl; generalize (fr [15, 16, 17, 18, 19] A t).eval = ev at ec e16 e18 ef ⊢; go_simp
        · rintro e wy ⟨g2, m2, c2, rfl, e2, k2, r2, b2⟩
          exact ⟨_, rfl, _, g2, rfl, hB.trans (b2.mono hB.size), b2, ⟨m2, c2, rfl, by rw [e2, HO.out], HO.out ▸ r2, Nat.le_trans hB.size k2⟩, .inl rfl⟩
    · intro t ρ wx hB hF hne
      obtain ⟨m4, c4, hv4, q4_0, q4_1, q4_2⟩ := hF 4 (by decide)
      have e19 : (fr [15, 16, 17, 18, 19] A t).eval (.tmp 19) = .slice (some ⟨(ρ 4), 0, none⟩) m4 c4 := (fr_eval _ _ _ 19 rfl (by rw [asz]; decide)).trans hv4
      clear hne
      have EQ : Hid _ := q4_0
      refine op_wp rfl rfl ?_
      generalize hE : (fr [15, 16, 17, 18, 19] A t).eval = ev at e19
      unfold Oper.wp
      rw [hE]
      clear q4_0
      go_simp
      refine hMet _ _ (Met.intro (hRJ _ _ ⟨_, t 15, t 16, t 17, t 18, t 19, ⟨_, _, _, rfl, EQ.out, q4_2, q4_1, hB⟩, ?_⟩))
      rw [← hA]; rfl
  case rest =>
    obtain ⟨x2, hqx2⟩ : ∃ x2, x2 = wc := ⟨_, rfl⟩
    subst hqx2
    obtain ⟨gw, mw, cw, rfl, ex2, hx2, rx2, bx2⟩ := hcut
    have Ew : Hid (mw = r.length) := ex2
    have Nx2 : Hid (Row x2 gw cw r) := rx2
    have NEaKw : Hid (w.heap.size ≠ gw) := Nat.ne_of_lt (Nat.lt_of_lt_of_le Nx1.out.lt hx2)
    have GEw : Hid (w.heap.size ≤ gw) := Nat.le_trans Bx1.out.size hx2
    clear ex2 rx2 hx2
    have Rx2aK : Hid (Blk x2 w.heap.size 23 [.int .i64 h, .int .i64 p]) := Nx1.out.later bx2
    clear Nx1
    have Bx2 : Hid (Below w.heap.size w x2) := Bx1.out.trans (bx2.mono Bx1.out.size)
    clear Bx1
    clear bx2
    have hmw : mw ≤ 1048576 + 6 := by rw [Ew.out]; exact HPL.out
    have bxaK0 := Rx2aK.out.cell 0 rfl
    have bxaK1 := Rx2aK.out.cell 1 rfl
    go_wp2_with fail
    clear bxaK0 bxaK1
    refine (toByteS ab nb cb lb _ HLb.out (HRb.out.later Bx2.out (Nat.le_refl _)) (by omega)).mono ?_
    rintro e x3 ⟨rfl, rx3, bx3⟩
    have Nx3 : Hid (Row x3 x2.heap.size nb lb) := rx3
    clear rx3
    have NEaKxb : Hid (w.heap.size ≠ x2.heap.size) := Nat.ne_of_lt (Nat.lt_of_lt_of_le Rx2aK.out.lt (Nat.le_refl _))
    have NEwxb : Hid (gw ≠ x2.heap.size) := Nat.ne_of_lt (Nat.lt_of_lt_of_le Nx2.out.lt (Nat.le_refl _))
    have GExb : Hid (w.heap.size ≤ x2.heap.size) := Nat.le_trans Bx2.out.size (Nat.le_refl _)
    have Rx3aK : Hid (Blk x3 w.heap.size 23 [.int .i64 h, .int .i64 p]) := Rx2aK.out.later bx3
    clear Rx2aK
    have Rx3w : Hid (Row x3 gw cw r) := Nx2.out.later bx3
    clear Nx2
    have Bx3 : Hid (Below w.heap.size w x3) := Bx2.out.trans (bx3.mono Bx2.out.size)
    clear Bx2
    clear bx3
    have bxaK0 := Rx3aK.out.cell 0 rfl
    have bxaK1 := Rx3aK.out.cell 1 rfl
    go_wp2_with fail
    clear bxaK0 bxaK1
    refine (toAddr h p _).mono ?_
    rintro e x4 ⟨rfl, bx4⟩
    have Rx4aK : Hid (Blk x4 w.heap.size 23 [.int .i64 h, .int .i64 p]) := Rx3aK.out.later bx4
    clear Rx3aK
    have Rx4w : Hid (Row x4 gw cw r) := Rx3w.out.later bx4
    clear Rx3w
    have Rx4xb : Hid (Row x4 x2.heap.size nb lb) := Nx3.out.later bx4
    clear Nx3
    have Bx4 : Hid (Below w.heap.size w x4) := Bx3.out.trans (bx4.mono Bx3.out.size)
    clear Bx3
    clear bx4
    have bxaK0 := Rx4aK.out.cell 0 rfl
    have bxaK1 := Rx4aK.out.cell 1 rfl
    go_wp2_with fail
    clear bxaK0 bxaK1
    refine (implPutAddr _ nb nb lb h p _ HLb.out Rx4xb.out.rd (by intro e; cases e) (by omega)).mono ?_
    rw [HO.out]
    rintro e x5 ⟨gg, mg, cg, rfl, ex5, hx5, rx5, bx5⟩
    have Eg : Hid (mg = r.length) := ex5
    have Nx5 : Hid (Row x5 gg cg r) := rx5
    have NEaKg : Hid (w.heap.size ≠ gg) := Nat.ne_of_lt (Nat.lt_of_lt_of_le Rx4aK.out.lt hx5)
    have NEwg : Hid (gw ≠ gg) := Nat.ne_of_lt (Nat.lt_of_lt_of_le Rx4w.out.lt hx5)
    have NExbg : Hid (x2.heap.size ≠ gg) := Nat.ne_of_lt (Nat.lt_of_lt_of_le Rx4xb.out.lt hx5)
    have GEg : Hid (w.heap.size ≤ gg) := Nat.le_trans Bx4.out.size hx5
    clear ex5 rx5 hx5
    have Rx5aK : Hid (Blk x5 w.heap.size 23 [.int .i64 h, .int .i64 p]) := Rx4aK.out.later bx5
    clear Rx4aK
    have Rx5w : Hid (Row x5 gw cw r) := Rx4w.out.later bx5
    clear Rx4w
    have Rx5xb : Hid (Row x5 x2.heap.size nb lb) := Rx4xb.out.later bx5
    clear Rx4xb
    have Bx5 : Hid (Below w.heap.size w x5) := Bx4.out.trans (bx5.mono Bx4.out.size)
    clear Bx4
    clear bx5
    have hmg : mg ≤ 1048576 + 6 := by rw [Eg.out]; exact HPL.out
    have bxaK0 := Rx5aK.out.cell 0 rfl
    have bxaK1 := Rx5aK.out.cell 1 rfl
    go_wp2_with fail
    clear bxaK0 bxaK1
    refine (eqByteS _ _ mg cg mw cw r r _ Eg.out Ew.out Nx5.out.rd Rx5w.out.rd (by rw [← Eg.out]; omega) (by rw [← Ew.out]; omega)).mono ?_
    rintro e x6 ⟨rfl, mx6, dx6⟩
    have bx6 : Below x5.heap.size x5 x6 := by rw [dx6]; exact below_drewN (Below.refl _ _) _
    clear dx6
    have Rx6aK : Hid (Blk x6 w.heap.size 23 [.int .i64 h, .int .i64 p]) := Rx5aK.out.later bx6
    clear Rx5aK
    have Rx6w : Hid (Row x6 gw cw r) := Rx5w.out.later bx6
    clear Rx5w
    have Rx6xb : Hid (Row x6 x2.heap.size nb lb) := Rx5xb.out.later bx6
    clear Rx5xb
    have Rx6g : Hid (Row x6 gg cg r) := Nx5.out.later bx6
    clear Nx5
    have Bx6 : Hid (Below w.heap.size w x6) := Bx5.out.trans (bx6.mono Bx5.out.size)
    clear Bx5
    clear bx6
    have bxaK0 := Rx6aK.out.cell 0 rfl
    have bxaK1 := Rx6aK.out.cell 1 rfl
    go_wp2_with fail
    clear bxaK0 bxaK1
    refine (toByteS ab nb cb lb _ HLb.out (HRb.out.later Bx6.out (Nat.le_refl _)) (by omega)).mono ?_
    rintro e x7 ⟨rfl, rx7, bx7⟩
    have Nx7 : Hid (Row x7 x6.heap.size nb lb) := rx7
    clear rx7
    have NEaKtb : Hid (w.heap.size ≠ x6.heap.size) := Nat.ne_of_lt (Nat.lt_of_lt_of_le Rx6aK.out.lt (Nat.le_refl _))
    have NEwtb : Hid (gw ≠ x6.heap.size) := Nat.ne_of_lt (Nat.lt_of_lt_of_le Rx6w.out.lt (Nat.le_refl _))
    have NExbtb : Hid (x2.heap.size ≠ x6.heap.size) := Nat.ne_of_lt (Nat.lt_of_lt_of_le Rx6xb.out.lt (Nat.le_refl _))
    have NEgtb : Hid (gg ≠ x6.heap.size) := Nat.ne_of_lt (Nat.lt_of_lt_of_le Rx6g.out.lt (Nat.le_refl _))
    have GEtb : Hid (w.heap.size ≤ x6.heap.size) := Nat.le_trans Bx6.out.size (Nat.le_refl _)
    have Rx7aK : Hid (Blk x7 w.heap.size 23 [.int .i64 h, .int .i64 p]) := Rx6aK.out.later bx7
    clear Rx6aK
    have Rx7w : Hid (Row x7 gw cw r) := Rx6w.out.later bx7
    clear Rx6w
    have Rx7xb : Hid (Row x7 x2.heap.size nb lb) := Rx6xb.out.later bx7
    clear Rx6xb
    have Rx7g : Hid (Row x7 gg cg r) := Rx6g.out.later bx7
    clear Rx6g
    have Bx7 : Hid (Below w.heap.size w x7) := Bx6.out.trans (bx7.mono Bx6.out.size)
    clear Bx6
    clear bx7
    have bxaK0 := Rx7aK.out.cell 0 rfl
    have bxaK1 := Rx7aK.out.cell 1 rfl
    go_wp2_with fail
    clear bxaK0 bxaK1
    refine (eqByteS _ _ nb nb nb nb lb lb _ HLb.out HLb.out Rx7xb.out.rd Nx7.out.rd (by omega) (by omega)).mono ?_
    rintro e x8 ⟨rfl, mx8, dx8⟩
    have bx8 : Below x7.heap.size x7 x8 := by rw [dx8]; exact below_drewN (Below.refl _ _) _
    clear dx8
    have Rx8aK : Hid (Blk x8 w.heap.size 23 [.int .i64 h, .int .i64 p]) := Rx7aK.out.later bx8
    clear Rx7aK
    have Rx8w : Hid (Row x8 gw cw r) := Rx7w.out.later bx8
    clear Rx7w
    have Rx8xb : Hid (Row x8 x2.heap.size nb lb) := Rx7xb.out.later bx8
    clear Rx7xb
    have Rx8g : Hid (Row x8 gg cg r) := Rx7g.out.later bx8
    clear Rx7g
    have Rx8tb : Hid (Row x8 x6.heap.size nb lb) := Nx7.out.later bx8
    clear Nx7
    have Bx8 : Hid (Below w.heap.size w x8) := Bx7.out.trans (bx8.mono Bx7.out.size)
    clear Bx7
    clear bx8
    clear Rx8tb
    have bxaK0 := Rx8aK.out.cell 0 rfl
    have bxaK1 := Rx8aK.out.cell 1 rfl
    go_wp2_with fail
    clear bxaK0 bxaK1
    refine (markByteS x2.heap.size nb nb lb 1 _ HLb.out Rx8xb.out (by omega) (by omega) (by omega)).mono ?_
    rintro e x9 ⟨rfl, rx9, qx9⟩
    have Nx9 : Hid (Row x9 x2.heap.size nb (marks 1 nb)) := rx9
    clear rx9
    clear Rx8xb
    have Rx9aK : Hid (Blk x9 w.heap.size 23 [.int .i64 h, .int .i64 p]) := Rx8aK.out.keep (qx9.block _ Rx8aK.out.lt (by simp only [ne_eq, Option.some.injEq]; exact NEaKxb.out))
    clear Rx8aK
    have Rx9w : Hid (Row x9 gw cw r) := Rx8w.out.keep (qx9.block _ Rx8w.out.lt (by simp only [ne_eq, Option.some.injEq]; exact NEwxb.out))
    clear Rx8w
    have Rx9g : Hid (Row x9 gg cg r) := Rx8g.out.keep (qx9.block _ Rx8g.out.lt (by simp only [ne_eq, Option.some.injEq]; exact (Ne.symm NExbg.out)))
    clear Rx8g
    have Bx9 : Hid (Below w.heap.size w x9) := Bx8.out.grown qx9 Bx8.out.size (fun k h => by cases h; exact GExb.out)
    clear Bx8 qx9
    have bxaK0 := Rx9aK.out.cell 0 rfl
    have bxaK1 := Rx9aK.out.cell 1 rfl
    go_wp2_with fail
    clear bxaK0 bxaK1
    refine (eqByteS _ _ mg cg mw cw r r _ Eg.out Ew.out Rx9g.out.rd Rx9w.out.rd (by rw [← Eg.out]; omega) (by rw [← Ew.out]; omega)).mono ?_
    rintro e x10 ⟨rfl, mx10, dx10⟩
    have bx10 : Below x9.heap.size x9 x10 := by rw [dx10]; exact below_drewN (Below.refl _ _) _
    clear dx10
    have Rx10aK : Hid (Blk x10 w.heap.size 23 [.int .i64 h, .int .i64 p]) := Rx9aK.out.later bx10
    clear Rx9aK
    have Rx10w : Hid (Row x10 gw cw r) := Rx9w.out.later bx10
    clear Rx9w
    have Rx10g : Hid (Row x10 gg cg r) := Rx9g.out.later bx10
    clear Rx9g
    have Rx10xb : Hid (Row x10 x2.heap.size nb (marks 1 nb)) := Nx9.out.later bx10
    clear Nx9
    have Bx10 : Hid (Below w.heap.size w x10) := Bx9.out.trans (bx10.mono Bx9.out.size)
    clear Bx9
    clear bx10
    have bxaK0 := Rx10aK.out.cell 0 rfl
    have bxaK1 := Rx10aK.out.cell 1 rfl
    go_wp2_with fail
    clear bxaK0 bxaK1
    refine (markByteS gg mg cg r 1 _ Eg.out Rx10g.out (by rw [← Eg.out]; omega) (by omega) (by omega)).mono ?_
    rintro e x11 ⟨rfl, rx11, qx11⟩
    have Nx11 : Hid (Row x11 gg cg (marks 1 mg)) := rx11
    clear rx11
    clear Rx10g
    have Rx11aK : Hid (Blk x11 w.heap.size 23 [.int .i64 h, .int .i64 p]) := Rx10aK.out.keep (qx11.block _ Rx10aK.out.lt (by simp only [ne_eq, Option.some.injEq]; exact NEaKg.out))
    clear Rx10aK
    have Rx11w : Hid (Row x11 gw cw r) := Rx10w.out.keep (qx11.block _ Rx10w.out.lt (by simp only [ne_eq, Option.some.injEq]; exact NEwg.out))
    clear Rx10w
    have Rx11xb : Hid (Row x11 x2.heap.size nb (marks 1 nb)) := Rx10xb.out.keep (qx11.block _ Rx10xb.out.lt (by simp only [ne_eq, Option.some.injEq]; exact NExbg.out))
    clear Rx10xb
    have Bx11 : Hid (Below w.heap.size w x11) := Bx10.out.grown qx11 Bx10.out.size (fun k h => by cases h; exact GEg.out)
    clear Bx10 qx11
    have bxaK0 := Rx11aK.out.cell 0 rfl
    have bxaK1 := Rx11aK.out.cell 1 rfl
    go_wp2_with fail
    clear bxaK0 bxaK1
    refine (heldByteS _ cg mg 1 _ Nx11.out.rd (by omega) (by omega) (by omega)).mono ?_
    rintro e x12 ⟨rfl, rfl⟩
    clear Rx11xb
    have bxaK0 := Rx11aK.out.cell 0 rfl
    have bxaK1 := Rx11aK.out.cell 1 rfl
    go_upto_region 22 with fail
    go_cut [11] from 57 to 61 (fun sv wx => ∃ g m c', sv = .slice (some ⟨g, 0, none⟩) m c' ∧ m = r.length ∧ x11.heap.size ≤ g ∧ Row wx g c' r ∧ Below x11.heap.size x11 wx)
    case first =>
      rename_i J K' hRJ hMet
      generalize hA : Act.mk _ _ = A
      have a0' : A.eval (.tmp 0) = .slice ab nb cb := by rw [← hA]; rfl
      have a3' : A.eval (.tmp 3) = .pointer (some ⟨w.heap.size, 0, none⟩) := by rw [← hA]; rfl
      have asz : A.tmps.size = 74 := by rw [← hA]; rfl
      have hK : ∀ wx, Below x11.heap.size x11 wx → Blk wx w.heap.size 23 [.int .i64 h, .int .i64 p] := fun wx hb => Rx11aK.out.later hb
      have hRl : ∀ wx, Below x11.heap.size x11 wx → Rd wx ab lb := fun wx hb => HRb.out.later (Bx11.out.trans (hb.mono Bx11.out.size)) (Nat.le_refl _)
      refine region_each (by kernel_rfl) [57, 58, 59, 60, 61] 5 (fun i => [57, 58, 59, 60, 61].getD i 0) (fun _ => 0)
        (fun i gB v wx => match i with
          | 0 => v = .slice ab nb cb
          | 1 => v = .slice (some ⟨gB, 0, none⟩) nb nb ∧ Row wx gB nb lb
          | 2 => v = .agg #[.int .i64 h, .int .i64 p]
          | 3 => v = addrV h p
          | 4 => ∃ m c, v = .slice (some ⟨gB, 0, none⟩) m c ∧ m = r.length ∧ Row wx gB c r ∧ x11.heap.size ≤ gB
          | _ => False) (fun wx => Below x11.heap.size x11 wx) (by kernel_rfl) (Below.refl _ _).drew ?_ ?_ ?_
      · intro i gB v wx wy hi hF hb _
        match i, hi with
        | 0, _ => exact hF
        | 1, _ => obtain ⟨h0, h1⟩ := hF; exact ⟨h0, h1.later hb⟩
        | 2, _ => exact hF
        | 3, _ => exact hF
        | 4, _ => obtain ⟨m, c, h0, h1, h2, h3⟩ := hF; exact ⟨m, c, h0, h1, h2.later hb, h3⟩
      · intro i hi t ρ wx hB hp hd
        match i, hi with
        | 0, _ =>
          have e0 : (fr [57, 58, 59, 60, 61] A t).eval (.tmp 0) = .slice ab nb cb := (fr_eval_old _ _ _ 0 rfl).trans a0'
          refine op_run (v := .slice ab nb cb) (w' := wx) rfl rfl ?_ ?_
          · clear hp hd; have ec : ∀ v, (fr [57, 58, 59, 60, 61] A t).eval (.const v) = v := fun _ => rfl; generalize (fr [57, 58, 59, 60, 61] A t).eval = ev at ec e0 ⊢; go_simp
          · exact ⟨_, 0, rfl, hB, Below.refl _ _, rfl, .inl rfl⟩
        | 1, _ =>
          have e57 : (fr [57, 58, 59, 60, 61] A t).eval (.tmp 57) = .slice ab nb cb := (fr_eval _ _ _ 57 rfl (by rw [asz]; decide)).trans (hp 0 (pre_mem (by kernel_rfl)))
          refine op_call (f := 11) (args := #[.slice ab nb cb]) rfl rfl ?_ (toByteS ab nb cb lb wx HLb.out (hRl wx hB) (by omega)) ?_
          · have ef : (fr [57, 58, 59, 60, 61] A t).eval (.func 11) = .func (.func 11) #[] #[] := rfl; clear hp hd; have ec : ∀ v, (fr [57, 58, 59, 60, 61] A t).eval (.const v) = v := fun _ => rfl; generalize (fr [57, 58, 59, 60, 61] A t).eval = ev at ec e57 ef ⊢; go_simp
          · rintro e wy ⟨rfl, r1, b1⟩
            exact ⟨_, rfl, _, wx.heap.size, rfl, hB.trans (b1.mono hB.size), b1, ⟨rfl, r1⟩, .inl rfl⟩
        | 2, _ =>
          have e3 : (fr [57, 58, 59, 60, 61] A t).eval (.tmp 3) = .pointer (some ⟨w.heap.size, 0, none⟩) := (fr_eval_old _ _ _ 3 rfl).trans a3'
          have hc0 := (hK wx hB).cell 0 rfl
          have hc1 := (hK wx hB).cell 1 rfl
          refine op_run (v := .agg #[.int .i64 h, .int .i64 p]) (w' := wx) rfl rfl ?_ ?_
          · clear hp hd; have ec : ∀ v, (fr [57, 58, 59, 60, 61] A t).eval (.const v) = v := fun _ => rfl; generalize (fr [57, 58, 59, 60, 61] A t).eval = ev at ec e3 ⊢; go_simp
          · exact ⟨_, 0, rfl, hB, Below.refl _ _, rfl, .inl rfl⟩
        | 3, _ =>
          have e59 : (fr [57, 58, 59, 60, 61] A t).eval (.tmp 59) = .agg #[.int .i64 h, .int .i64 p] := (fr_eval _ _ _ 59 rfl (by rw [asz]; decide)).trans (hp 2 (pre_mem (by kernel_rfl)))
          refine op_call (f := 8) (args := #[.agg #[.int .i64 h, .int .i64 p]]) rfl rfl ?_ (toAddr h p wx) ?_
          · have ef : (fr [57, 58, 59, 60, 61] A t).eval (.func 8) = .func (.func 8) #[] #[] := rfl; clear hp hd; have ec : ∀ v, (fr [57, 58, 59, 60, 61] A t).eval (.const v) = v := fun _ => rfl; generalize (fr [57, 58, 59, 60, 61] A t).eval = ev at ec e59 ef ⊢; go_simp
          · rintro e wy ⟨rfl, b1⟩
            exact ⟨_, rfl, _, wx.heap.size, rfl, hB.trans (b1.mono hB.size), b1, rfl, .inl rfl⟩
        | 4, _ =>
          obtain ⟨hv1, q1_0⟩ := hp 1 (pre_mem (by kernel_rfl))
          have e58 : (fr [57, 58, 59, 60, 61] A t).eval (.tmp 58) = .slice (some ⟨(ρ 1), 0, none⟩) nb nb := (fr_eval _ _ _ 58 rfl (by rw [asz]; decide)).trans hv1
          have hv3 := hp 3 (pre_mem (by kernel_rfl))
          have e60 : (fr [57, 58, 59, 60, 61] A t).eval (.tmp 60) = addrV h p := (fr_eval _ _ _ 60 rfl (by rw [asz]; decide)).trans hv3
          refine op_call (f := 12) (args := #[.slice (some ⟨(ρ 1), 0, none⟩) nb nb, addrV h p]) rfl rfl ?_ (implPutAddr (some ⟨(ρ 1), 0, none⟩) nb nb lb h p wx HLb.out q1_0.rd (by intro e; cases e) (by omega)) ?_
          · have ef : (fr [57, 58, 59, 60, 61] A t).eval (.func 12) = .func (.func 12) #[] #[] := rfl; clear hp hd q1_0; have ec : ∀ v, (fr [57, 58, 59, 60, 61] A t).eval (.const v) = v := fun _ => rfl; generalize (fr [57, 58, 59, 60, 61] A t).eval = ev at ec e58 e60 ef ⊢; go_simp
          · rintro e wy ⟨g2, m2, c2, rfl, e2, k2, r2, b2⟩
            exact ⟨_, rfl, _, g2, rfl, hB.trans (b2.mono hB.size), b2, ⟨m2, c2, rfl, by rw [e2, HO.out], HO.out ▸ r2, Nat.le_trans hB.size k2⟩, .inl rfl⟩
      · intro t ρ wx hB hF hne
        obtain ⟨m4, c4, hv4, q4_0, q4_1, q4_2⟩ := hF 4 (by decide)
        have e61 : (fr [57, 58, 59, 60, 61] A t).eval (.tmp 61) = .slice (some ⟨(ρ 4), 0, none⟩) m4 c4 := (fr_eval _ _ _ 61 rfl (by rw [asz]; decide)).trans hv4
        clear hne
        have EQ : Hid _ := q4_0
        refine op_wp rfl rfl ?_
        generalize hE : (fr [57, 58, 59, 60, 61] A t).eval = ev at e61
        unfold Oper.wp
        rw [hE]
        clear q4_0
        go_simp
        refine hMet _ _ (Met.intro (hRJ _ _ ⟨_, t 57, t 58, t 59, t 60, t 61, ⟨_, _, _, rfl, EQ.out, q4_2, q4_1, hB⟩, ?_⟩))
        rw [← hA]; rfl
    case rest =>
      obtain ⟨x13, hqx13⟩ : ∃ x13, x13 = wc := ⟨_, rfl⟩
      subst hqx13
      obtain ⟨gh, mh, ch, rfl, ex13, hx13, rx13, bx13⟩ := hcut
      have Eh : Hid (mh = r.length) := ex13
      have Nx13 : Hid (Row x13 gh ch r) := rx13
      have NEaKh : Hid (w.heap.size ≠ gh) := Nat.ne_of_lt (Nat.lt_of_lt_of_le Rx11aK.out.lt hx13)
      have NEwh : Hid (gw ≠ gh) := Nat.ne_of_lt (Nat.lt_of_lt_of_le Rx11w.out.lt hx13)
      have NEgh : Hid (gg ≠ gh) := Nat.ne_of_lt (Nat.lt_of_lt_of_le Nx11.out.lt hx13)
      have GEh : Hid (w.heap.size ≤ gh) := Nat.le_trans Bx11.out.size hx13
      clear ex13 rx13 hx13
      have Rx13aK : Hid (Blk x13 w.heap.size 23 [.int .i64 h, .int .i64 p]) := Rx11aK.out.later bx13
      clear Rx11aK
      have Rx13w : Hid (Row x13 gw cw r) := Rx11w.out.later bx13
      clear Rx11w
      have Rx13g : Hid (Row x13 gg cg (marks 1 mg)) := Nx11.out.later bx13
      clear Nx11
      have Bx13 : Hid (Below w.heap.size w x13) := Bx11.out.trans (bx13.mono Bx11.out.size)
      clear Bx11
      clear bx13
      have hmh : mh ≤ 1048576 + 6 := by rw [Eh.out]; exact HPL.out
      clear Rx13aK
      go_wp2_with fail
      refine (eqByteS _ _ mh ch mw cw r r _ Eh.out Ew.out Nx13.out.rd Rx13w.out.rd (by rw [← Eh.out]; omega) (by rw [← Ew.out]; omega)).mono ?_
      rintro e x14 ⟨rfl, mx14, dx14⟩
      have bx14 : Below x13.heap.size x13 x14 := by rw [dx14]; exact below_drewN (Below.refl _ _) _
      clear dx14
      have Rx14w : Hid (Row x14 gw cw r) := Rx13w.out.later bx14
      clear Rx13w
      have Rx14g : Hid (Row x14 gg cg (marks 1 mg)) := Rx13g.out.later bx14
      clear Rx13g
      have Rx14h : Hid (Row x14 gh ch r) := Nx13.out.later bx14
      clear Nx13
      have Bx14 : Hid (Below w.heap.size w x14) := Bx13.out.trans (bx14.mono Bx13.out.size)
      clear Bx13
      clear bx14
      go_wp2_with fail
      refine (heldByteS _ cg mg 1 _ Rx14g.out.rd (by omega) (by omega) (by omega)).mono ?_
      rintro e x15 ⟨rfl, rfl⟩
      go_wp2
      go_ret
      exact ⟨rfl, Bx14.out⟩

theorem walk (ab : Option Addr) (nb cb : Nat) (zb : List Int) (h p : Int) (w : World) (hb : IsRow .u8 w ab nb cb zb) :
    Calls Try.prog 4 #[.slice ab nb cb, addrV h p] w fun e w' => e = .returned (.bool true) ∧ Below w.heap.size w w' := by
  obtain ⟨lb, hlb, hrb, _, _⟩ := hb.read
  by_cases hz : nb ≤ 1048576
  · exact small ab nb cb lb h p w hlb hrb hz
  · have hg : (1048576 : Int) < (nb : Int) := by omega
    clear hb hlb hrb hz
    unfold addrV
    go_enter Try.func4, Try.ntmps4
    go_wp2
    go_ret
    exact ⟨rfl, (Below.refl _ _).alloc (Nat.le_refl _) _⟩
end Go.Proofs.Yticfgbfchpnpoaa.LawPutAddr
