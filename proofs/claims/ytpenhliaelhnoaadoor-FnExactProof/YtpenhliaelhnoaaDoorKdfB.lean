/-
  What impl's expandedBlocks hands back, and what each call of it answers: it holds four variables of its own.
-/
import Derived.Test.YtpenhliaelhnoaaDoorMacI
import Derived.Test.YtpenhliaelhnoaaDoorKdfP
import Derived.Test.YtpenhliaelhnoaaDoorOps
namespace Go.Proofs.YtpenhliaelhnoaaDoor.KdfB
open Go.RowKit Go.Proofs.YtpenhliaelhnoaaDoor.Mem Go.Proofs.YtpenhliaelhnoaaDoor.App Go.Proofs.YtpenhliaelhnoaaDoor.Blk Go.Proofs.YtpenhliaelhnoaaDoor.ShaP Go.Proofs.YtpenhliaelhnoaaDoor.Comp Go.Proofs.YtpenhliaelhnoaaDoor.MacP Go.Proofs.YtpenhliaelhnoaaDoor.MacI Go.Proofs.YtpenhliaelhnoaaDoor.KdfP Go.Proofs.YtpenhliaelhnoaaDoor.Each Go.Proofs.YtpenhliaelhnoaaDoor.Copy Go.Proofs.YtpenhliaelhnoaaDoor.Ops

/-- The function value: the number, the key, the block ahead, info. -/
def nexter (qn qk qa qf : Nat) : Value := .func (.func 65) #[] #[.pointer (some ⟨qn, 0, none⟩), .pointer (some ⟨qk, 0, none⟩), .pointer (some ⟨qa, 0, none⟩), .pointer (some ⟨qf, 0, none⟩)]

/-- All but two blocks are as they were. -/
def KeptBut (x y : Nat) (w w' : World) : Prop := ∀ i, i < w.heap.size → i ≠ x → i ≠ y → w'.heap[i]? = w.heap[i]?

set_option maxRecDepth 100000 in
theorem new_at (w : World) (g : Nat) (t : TypeId) (cs : List Value) (h : g = w.heap.size) : Blk (w.alloc (.cells cs.toArray t)) g t cs := by subst h; exact Blk.new w t cs
set_option maxRecDepth 100000 in
theorem row_new_at (w : World) (g : Nat) (h : g = w.heap.size) : Row (w.alloc (.cells #[] 5)) g 0 [] := by subst h; exact row_new w [] (by simp)

set_option maxRecDepth 100000 in
set_option maxHeartbeats 800000 in
theorem expandedBlocks (a0 : Option Addr) (n0 c0 : Nat) (a1 : Option Addr) (n1 c1 : Nat) (w : World) :
    Calls Tryd.prog 52 #[.slice a0 n0 c0, .slice a1 n1 c1] w fun e w' =>
      ∃ qn qk qa qf ga, e = .returned (nexter qn qk qa qf) ∧ Blk w' qn 5 [.int .u8 0] ∧ Blk w' qk 22 [.slice a0 n0 c0] ∧ Blk w' qa 22 [.slice (some ⟨ga, 0, none⟩) 0 0] ∧ Blk w' qf 22 [.slice a1 n1 c1] ∧ Row w' ga 0 [] ∧
        w.heap.size ≤ qn ∧ w.heap.size ≤ qk ∧ w.heap.size ≤ qa ∧ w.heap.size ≤ qf ∧ w.heap.size ≤ ga ∧ qn ≠ qk ∧ qn ≠ qa ∧ qn ≠ qf ∧ qn ≠ ga ∧ qa ≠ qk ∧ qa ≠ qf ∧ qa ≠ ga ∧ Below w.heap.size w w' := by
  have hmf : ∀ (fn : Fn) (first cap : Array Value) (w : World), (Instr.makeFunc fn first cap).run Tryd.prog w = .ok (.func fn first cap) w := fun _ _ _ _ => rfl
  go_enter Tryd.func52, Tryd.ntmps52
  go_wp2
  go_ret
  have z (w : World) (o : Obj) : (w.alloc o).heap.size = w.heap.size + 1 := by simp
  refine ⟨w.heap.size + 1 + 1 + 1 + 1, w.heap.size, w.heap.size + 1 + 1 + 1, w.heap.size + 1, w.heap.size + 1 + 1, rfl, new_at _ _ _ _ (by simp only [z]), ((((Blk.new w _ _).alloc _).alloc _).alloc _).alloc _, (new_at _ _ _ _ (by simp only [z])).alloc _, (((new_at _ _ _ _ (by simp only [z])).alloc _).alloc _).alloc _, row_alloc (row_alloc (row_new_at _ _ (by simp only [z])) _) _, by omega, by omega, by omega, by omega, by omega, by omega, by omega, by omega, by omega, by omega, by omega, by omega, ?_⟩
  exact (((((Below.refl _ _).alloc (Nat.le_refl _) _).alloc (by simp only [z]; omega) _).alloc (by simp only [z]; omega) _).alloc (by simp only [z]; omega) _).alloc (by simp only [z]; omega) _
set_option maxRecDepth 100000 in
set_option maxHeartbeats 2000000 in
theorem nextBlock (qn qk qa qf : Nat) (a0 : Option Addr) (n0 c0 : Nat) (a1 : Option Addr) (n1 c1 : Nat) (ga ma ca : Nat) (x : Int) (k l f : List Int) (u w : World) (hT : Tab u)
    (hn : Blk w qn 5 [.int .u8 x]) (hk : Blk w qk 22 [.slice a0 n0 c0]) (ha : Blk w qa 22 [.slice (some ⟨ga, 0, none⟩) ma ca]) (hf : Blk w qf 22 [.slice a1 n1 c1]) (hg : Row w ga ca l)
    (nk : qn ≠ qk) (nna : qn ≠ qa) (nf : qn ≠ qf) (ng : qn ≠ ga) (le1 : u.heap.size ≤ qn) (le2 : u.heap.size ≤ qa) (hb : Below u.heap.size u w)
    (e0 : n0 = k.length) (e1 : n1 = f.length) (e2 : ma = l.length) (r0 : Rd u a0 k) (r1 : Rd u a1 f) (na0 : a0 = none → c0 = 0) (na1 : a1 = none → c1 = 0) (y0 : Bytes k) (y1 : Bytes f) (y2 : Bytes l) (l0 : n0 ≤ 2097152) (l1 : n1 ≤ 1000) (l2 : ma ≤ 32) (x0 : 0 ≤ x) (x1 : x ≤ 254) :
    Calls Tryd.prog 65 #[.pointer (some ⟨qn, 0, none⟩), .pointer (some ⟨qk, 0, none⟩), .pointer (some ⟨qa, 0, none⟩), .pointer (some ⟨qf, 0, none⟩)] w fun e w' =>
      ∃ g m c, e = .returned (.slice (some ⟨g, 0, none⟩) m c) ∧ m = (hmacI k (l ++ f ++ [x + 1])).length ∧ w.heap.size ≤ g ∧ Row w' g c (hmacI k (l ++ f ++ [x + 1])) ∧ Blk w' qn 5 [.int .u8 (x + 1)] ∧ Blk w' qa 22 [.slice (some ⟨g, 0, none⟩) m c] ∧ KeptBut qn qa w w' ∧ Below u.heap.size u w' := by
  have hw : IntKind.u8.wrap (x + 1) = x + 1 := by rw [IntKind.wrap_u8']; omega
  have E0 : Hid (n0 = k.length) := e0
  have E1 : Hid (n1 = f.length) := e1
  have E2 : Hid (ma = l.length) := e2
  have R0 : Hid (Rd u a0 k) := r0
  have R1 : Hid (Rd u a1 f) := r1
  have Y0 : Hid (Bytes k) := y0
  have Y1 : Hid (Bytes f) := y1
  have Y2 : Hid (Bytes l) := y2
  have HT : Hid (Tab u) := hT
  obtain ⟨w0, hw0⟩ : ∃ w0, w.setCell ⟨qn, 0, none⟩ (.int .u8 (x + 1)) = w0 := ⟨_, rfl⟩
  have HW0 : Hid (w.setCell ⟨qn, 0, none⟩ (.int .u8 (x + 1)) = w0) := hw0
  have SZ : Hid (w0.heap.size = w.heap.size) := by rw [← hw0]; show _ = _; simp
  have KN : Hid (Blk w0 qn 5 [.int .u8 (x + 1)]) := by rw [← hw0]; exact hn.set 0 _ (by simp [maxLen])
  have KK : Hid (Blk w0 qk 22 [.slice a0 n0 c0]) := by rw [← hw0]; exact hk.other (Ne.symm nk) _
  have KA : Hid (Blk w0 qa 22 [.slice (some ⟨ga, 0, none⟩) ma ca]) := by rw [← hw0]; exact ha.other (Ne.symm nna) _
  have KF : Hid (Blk w0 qf 22 [.slice a1 n1 c1]) := by rw [← hw0]; exact hf.other (Ne.symm nf) _
  have RG : Hid (Row w0 ga ca l) := by rw [← hw0]; exact hg.keep (Below.heap_setCell _ _ _ ga (Ne.symm ng))
  have BU : Hid (Below u.heap.size u w0) := by rw [← hw0]; exact hb.setCell le1 _
  have KB : Hid (KeptBut qn qa w w0) := by rw [← hw0]; exact fun i _ h1 _ => Below.heap_setCell _ _ _ i h1
  have c0' := hn.cell 0 rfl
  have f0' := hn.frozen 0
  clear hn hk ha hf hg e0 e1 e2 r0 r1 y0 y1 y2 hT hw0 hb
  go_enter Tryd.func65, Tryd.ntmps65
  go_upto_region 2 with fail
  rw [HW0.out]
  clear c0' f0'
  go_cut [14] from 7 to 13 (fun s14 wx => ∃ g m c, s14 = .slice (some ⟨g, 0, none⟩) m c ∧ m = (hmacI k (l ++ f ++ [x + 1])).length ∧ w.heap.size ≤ g ∧ Row wx g c (hmacI k (l ++ f ++ [x + 1])) ∧ Blk wx qn 5 [.int .u8 (x + 1)] ∧ Blk wx qa 22 [.slice (some ⟨g, 0, none⟩) m c] ∧ KeptBut qn qa w wx ∧ Below u.heap.size u wx)
  case first =>
    rename_i J K' hRJ hMet
    generalize hA : Act.mk _ _ = A
    have a0' : A.eval (.tmp 0) = .pointer (some ⟨qn, 0, none⟩) := by rw [← hA]; rfl
    have a1' : A.eval (.tmp 1) = .pointer (some ⟨qk, 0, none⟩) := by rw [← hA]; rfl
    have a2' : A.eval (.tmp 2) = .pointer (some ⟨qa, 0, none⟩) := by rw [← hA]; rfl
    have a3' : A.eval (.tmp 3) = .pointer (some ⟨qf, 0, none⟩) := by rw [← hA]; rfl
    have asz : A.tmps.size = 16 := by rw [← hA]; rfl
    have hKN : ∀ wx, Below w0.heap.size w0 wx → Blk wx qn 5 [.int .u8 (x + 1)] := fun wx hb => KN.out.later hb
    have hKK : ∀ wx, Below w0.heap.size w0 wx → Blk wx qk 22 [.slice a0 n0 c0] := fun wx hb => KK.out.later hb
    have hKA : ∀ wx, Below w0.heap.size w0 wx → Blk wx qa 22 [.slice (some ⟨ga, 0, none⟩) ma ca] := fun wx hb => KA.out.later hb
    have hKF : ∀ wx, Below w0.heap.size w0 wx → Blk wx qf 22 [.slice a1 n1 c1] := fun wx hb => KF.out.later hb
    have hBU : ∀ wx, Below w0.heap.size w0 wx → Below u.heap.size u wx := fun wx hb => BU.out.trans (hb.mono BU.out.size)
    refine region_each (by kernel_rfl) [7, 8, 9, 10, 11, 12, 13, 14] 8 (fun i => [7, 8, 9, 10, 11, 12, 13, 14].getD i 0) (fun i => 0)
      (fun i g v wx => match i with
        | 0 => v = .slice a0 n0 c0
        | 1 => v = .slice (some ⟨ga, 0, none⟩) ma ca
        | 2 => v = .slice a1 n1 c1
        | 3 => v = .slice (some ⟨g, 0, none⟩) (ma + n1) (ma + n1) ∧ Row wx g (ma + n1) (l ++ f)
        | 4 => v = .int .u8 (x + 1)
        | 5 => v = .slice (some ⟨g, 0, none⟩) 1 1 ∧ Rd wx (some ⟨g, 0, none⟩) [x + 1]
        | 6 => v = .slice (some ⟨g, 0, none⟩) (ma + n1 + 1) (ma + n1 + 1) ∧ Row wx g (ma + n1 + 1) (l ++ f ++ [x + 1])
        | 7 => ∃ m c, v = .slice (some ⟨g, 0, none⟩) m c ∧ m = (hmacI k (l ++ f ++ [x + 1])).length ∧ Row wx g c (hmacI k (l ++ f ++ [x + 1])) ∧ w0.heap.size ≤ g
        | _ => False) (fun wx => Below w0.heap.size w0 wx) (by kernel_rfl) (Below.refl _ _).drew ?_ ?_ ?_
    · intro i g v wx wy hi hF hb _
      match i, hi with
      | 0, _ => exact hF
      | 1, _ => exact hF
      | 2, _ => exact hF
      | 3, _ => exact ⟨hF.1, hF.2.later hb⟩
      | 4, _ => exact hF
      | 5, _ => exact ⟨hF.1, hF.2.later hb (Nat.le_refl _)⟩
      | 6, _ => exact ⟨hF.1, hF.2.later hb⟩
      | 7, _ => obtain ⟨m, c, h1, h2, h3, h4⟩ := hF; exact ⟨m, c, h1, h2, h3.later hb, h4⟩
    · intro i hi t ρ wx hB hp hd
      match i, hi with
      | 0, _ =>
        have e1 : (fr [7, 8, 9, 10, 11, 12, 13, 14] A t).eval (.tmp 1) = .pointer (some ⟨qk, 0, none⟩) := (fr_eval_old _ _ _ 1 rfl).trans a1'
        have hc := (hKK wx hB).cell 0 rfl
        refine op_run (v := .slice a0 n0 c0) (w' := wx) rfl rfl ?_ ?_
        · clear hp hd; generalize (fr [7, 8, 9, 10, 11, 12, 13, 14] A t).eval = ev at e1 ⊢; go_simp
        · exact ⟨_, 0, rfl, hB, Below.refl _ _, rfl, .inl rfl⟩
      | 1, _ =>
        have e2 : (fr [7, 8, 9, 10, 11, 12, 13, 14] A t).eval (.tmp 2) = .pointer (some ⟨qa, 0, none⟩) := (fr_eval_old _ _ _ 2 rfl).trans a2'
        have hc := (hKA wx hB).cell 0 rfl
        refine op_run (v := .slice (some ⟨ga, 0, none⟩) ma ca) (w' := wx) rfl rfl ?_ ?_
        · clear hp hd; generalize (fr [7, 8, 9, 10, 11, 12, 13, 14] A t).eval = ev at e2 ⊢; go_simp
        · exact ⟨_, 0, rfl, hB, Below.refl _ _, rfl, .inl rfl⟩
      | 2, _ =>
        have e3 : (fr [7, 8, 9, 10, 11, 12, 13, 14] A t).eval (.tmp 3) = .pointer (some ⟨qf, 0, none⟩) := (fr_eval_old _ _ _ 3 rfl).trans a3'
        have hc := (hKF wx hB).cell 0 rfl
        refine op_run (v := .slice a1 n1 c1) (w' := wx) rfl rfl ?_ ?_
        · clear hp hd; generalize (fr [7, 8, 9, 10, 11, 12, 13, 14] A t).eval = ev at e3 ⊢; go_simp
        · exact ⟨_, 0, rfl, hB, Below.refl _ _, rfl, .inl rfl⟩
      | 3, _ =>
        have e8 : (fr [7, 8, 9, 10, 11, 12, 13, 14] A t).eval (.tmp 8) = .slice (some ⟨ga, 0, none⟩) ma ca := (fr_eval _ _ _ 8 rfl (by rw [asz]; decide)).trans (hp 1 (pre_mem (by kernel_rfl)))
        have e9 : (fr [7, 8, 9, 10, 11, 12, 13, 14] A t).eval (.tmp 9) = .slice a1 n1 c1 := (fr_eval _ _ _ 9 rfl (by rw [asz]; decide)).trans (hp 2 (pre_mem (by kernel_rfl)))
        refine op_call (f := 48) (args := #[.slice (some ⟨ga, 0, none⟩) ma ca, .slice a1 n1 c1]) rfl rfl ?_ (putBytes (some ⟨ga, 0, none⟩) a1 ma ca n1 c1 l f wx E2.out E1.out (RG.out.later hB).rd (R1.out.later (hBU wx hB) (Nat.le_refl _)) (by intro e; cases e) na1 (by rw [← E2.out]; omega) (by rw [← E1.out]; omega)) ?_
        · clear hp hd; have ef : (fr [7, 8, 9, 10, 11, 12, 13, 14] A t).eval (.func 48) = .func (.func 48) #[] #[] := rfl; generalize (fr [7, 8, 9, 10, 11, 12, 13, 14] A t).eval = ev at e8 e9 ef ⊢; go_simp
        · rintro e wy ⟨rfl, ry, by1⟩
          exact ⟨_, rfl, _, wx.heap.size, rfl, hB.trans (by1.mono hB.size), by1, ⟨rfl, ry⟩, .inl rfl⟩
      | 4, _ =>
        have e0 : (fr [7, 8, 9, 10, 11, 12, 13, 14] A t).eval (.tmp 0) = .pointer (some ⟨qn, 0, none⟩) := (fr_eval_old _ _ _ 0 rfl).trans a0'
        have hc := (hKN wx hB).cell 0 rfl
        refine op_run (v := .int .u8 (x + 1)) (w' := wx) rfl rfl ?_ ?_
        · clear hp hd; generalize (fr [7, 8, 9, 10, 11, 12, 13, 14] A t).eval = ev at e0 ⊢; go_simp
        · exact ⟨_, 0, rfl, hB, Below.refl _ _, rfl, .inl rfl⟩
      | 5, _ =>
        have e11 : (fr [7, 8, 9, 10, 11, 12, 13, 14] A t).eval (.tmp 11) = .int .u8 (x + 1) := (fr_eval _ _ _ 11 rfl (by rw [asz]; decide)).trans (hp 4 (pre_mem (by kernel_rfl)))
        refine op_run (v := .slice (some ⟨wx.heap.size, 0, none⟩) 1 1) (w' := wx.alloc (.cells #[.int .u8 (x + 1)] 5)) rfl rfl ?_ ?_
        · clear hp hd; generalize (fr [7, 8, 9, 10, 11, 12, 13, 14] A t).eval = ev at e11 ⊢; go_simp
        · exact ⟨_, wx.heap.size, rfl, hB.alloc hB.size _, (Below.refl _ _).alloc (Nat.le_refl _) _, ⟨rfl, rd_one wx (x + 1)⟩, .inl rfl⟩
      | 6, _ =>
        have h3 := hp 3 (pre_mem (by kernel_rfl))
        have h5 := hp 5 (pre_mem (by kernel_rfl))
        have e10 : (fr [7, 8, 9, 10, 11, 12, 13, 14] A t).eval (.tmp 10) = .slice (some ⟨ρ 3, 0, none⟩) (ma + n1) (ma + n1) := (fr_eval _ _ _ 10 rfl (by rw [asz]; decide)).trans h3.1
        have e12 : (fr [7, 8, 9, 10, 11, 12, 13, 14] A t).eval (.tmp 12) = .slice (some ⟨ρ 5, 0, none⟩) 1 1 := (fr_eval _ _ _ 12 rfl (by rw [asz]; decide)).trans h5.1
        have L3 : Hid (ma + n1 = (l ++ f).length) := by show _ = _; rw [List.length_append, ← E2.out, ← E1.out]
        refine op_call (f := 48) (args := #[.slice (some ⟨ρ 3, 0, none⟩) (ma + n1) (ma + n1), .slice (some ⟨ρ 5, 0, none⟩) 1 1]) rfl rfl ?_ (putBytes (some ⟨ρ 3, 0, none⟩) (some ⟨ρ 5, 0, none⟩) (ma + n1) (ma + n1) 1 1 (l ++ f) [x + 1] wx L3.out rfl h3.2.rd h5.2 (by intro e; cases e) (by intro e; cases e) (by rw [← L3.out]; omega) (by simp)) ?_
        · clear hp hd h3 h5; have ef : (fr [7, 8, 9, 10, 11, 12, 13, 14] A t).eval (.func 48) = .func (.func 48) #[] #[] := rfl; generalize (fr [7, 8, 9, 10, 11, 12, 13, 14] A t).eval = ev at e10 e12 ef ⊢; go_simp
        · rintro e wy ⟨rfl, ry, by1⟩
          exact ⟨_, rfl, _, wx.heap.size, rfl, hB.trans (by1.mono hB.size), by1, ⟨rfl, ry⟩, .inl rfl⟩
      | 7, _ =>
        have h6 := hp 6 (pre_mem (by kernel_rfl))
        have e7 : (fr [7, 8, 9, 10, 11, 12, 13, 14] A t).eval (.tmp 7) = .slice a0 n0 c0 := (fr_eval _ _ _ 7 rfl (by rw [asz]; decide)).trans (hp 0 (pre_mem (by kernel_rfl)))
        have e13 : (fr [7, 8, 9, 10, 11, 12, 13, 14] A t).eval (.tmp 13) = .slice (some ⟨ρ 6, 0, none⟩) (ma + n1 + 1) (ma + n1 + 1) := (fr_eval _ _ _ 13 rfl (by rw [asz]; decide)).trans h6.1
        have L3 : Hid (ma + n1 + 1 = (l ++ f ++ [x + 1]).length) := by show _ = _; rw [List.length_append, List.length_append, ← E2.out, ← E1.out]; rfl
        have Y3 : Hid (Bytes (l ++ f ++ [x + 1])) := bytes_append (bytes_append Y2.out Y1.out) (fun z hz => by simp at hz; omega)
        refine op_call (f := 50) (args := #[.slice a0 n0 c0, .slice (some ⟨ρ 6, 0, none⟩) (ma + n1 + 1) (ma + n1 + 1)]) rfl rfl ?_ (implHmac a0 n0 c0 (some ⟨ρ 6, 0, none⟩) (ma + n1 + 1) (ma + n1 + 1) k (l ++ f ++ [x + 1]) wx (HT.out.later (hBU wx hB)) E0.out L3.out (R0.out.later (hBU wx hB) (Nat.le_refl _)) h6.2.rd na0 (by intro e; cases e) Y0.out Y3.out l0 (by omega)) ?_
        · clear hp hd h6; have ef : (fr [7, 8, 9, 10, 11, 12, 13, 14] A t).eval (.func 50) = .func (.func 50) #[] #[] := rfl; generalize (fr [7, 8, 9, 10, 11, 12, 13, 14] A t).eval = ev at e7 e13 ef ⊢; go_simp
        · rintro e wy ⟨g, m, c, rfl, em, kg, ry, by1⟩
          exact ⟨_, rfl, _, g, rfl, hB.trans (by1.mono hB.size), by1, ⟨m, c, rfl, em, ry, Nat.le_trans hB.size kg⟩, .inl rfl⟩
    · intro t ρ wx hB hF hne
      obtain ⟨m, c, h14, em, rg, lg⟩ := hF 7 (by decide)
      clear hF hne
      have e14 : (fr [7, 8, 9, 10, 11, 12, 13, 14] A t).eval (.tmp 14) = .slice (some ⟨ρ 7, 0, none⟩) m c := (fr_eval _ _ _ 14 rfl (by rw [asz]; decide)).trans h14
      have e2 : (fr [7, 8, 9, 10, 11, 12, 13, 14] A t).eval (.tmp 2) = .pointer (some ⟨qa, 0, none⟩) := (fr_eval_old _ _ _ 2 rfl).trans a2'
      have kA : Hid (Blk wx qa 22 [.slice (some ⟨ga, 0, none⟩) ma ca]) := hKA wx hB
      have kN : Hid (Blk wx qn 5 [.int .u8 (x + 1)]) := hKN wx hB
      have bU : Hid (Below u.heap.size u wx) := hBU wx hB
      have q0 := kA.out.cell 0 rfl
      have f0 := kA.out.frozen 0
      refine op_wp rfl rfl ?_
      generalize ρ 7 = g at *
      generalize hE : (fr [7, 8, 9, 10, 11, 12, 13, 14] A t).eval = ev at e2 e14
      unfold Oper.wp
      rw [hE]
      have HM : Hid (m = (hmacI k (l ++ f ++ [x + 1])).length) := em
      clear em
      go_simp
      have gqa : g ≠ qa := Nat.ne_of_gt (Nat.lt_of_lt_of_le KA.out.lt lg)
      refine hMet _ _ (Met.intro (hRJ _ _ ⟨t 7, t 8, t 9, t 10, t 11, t 12, t 13, t 14, ⟨g, m, c, h14, HM.out, by have := SZ.out; omega, rg.keep (Below.heap_setCell _ _ _ g gqa), kN.out.other nna _, kA.out.set 0 _ (by simp [maxLen]), ?_, bU.out.setCell le2 _⟩, ?_⟩))
      · intro i h1 h2 h3
        rw [Below.heap_setCell _ _ _ i h3, hB.block i (by have := SZ.out; omega)]
        exact KB.out i h1 h2 h3
      · rw [← hA]; rfl
  case rest =>
    obtain ⟨g, m, c, rfl, em, kg, rg, kN, kA, kB, bU⟩ := hcut
    have HM : Hid (m = (hmacI k (l ++ f ++ [x + 1])).length) := em
    have RGc : Hid (Row wc g c (hmacI k (l ++ f ++ [x + 1]))) := rg
    have KNc : Hid (Blk wc qn 5 [.int .u8 (x + 1)]) := kN
    have KAc : Hid (Blk wc qa 22 [.slice (some ⟨g, 0, none⟩) m c]) := kA
    have KBc : Hid (KeptBut qn qa w wc) := kB
    have BUc : Hid (Below u.heap.size u wc) := bU
    have q0 := kA.cell 0 rfl
    clear em rg kN kA kB bU
    go_wp2
    go_ret
    exact ⟨g, m, c, rfl, HM.out, kg, RGc.out, KNc.out, KAc.out, KBc.out, BUc.out⟩

end Go.Proofs.YtpenhliaelhnoaaDoor.KdfB
