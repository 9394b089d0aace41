/-
  What impl's expandedBlocks hands back, and what each call of it answers: it holds four variables of its own.
  What impl's Extract, Expand, Derive and Chain answer, where the table of round words holds what the program's text lays into it.
  What impl's JarNew and Mint answer.
  What impl's putWord answers, kind by kind.
-/
import Derived.Test.YtpgapjdejelajaaGreatDoorVaGr13
import Derived.Test.YtpgapjdejelajaaGreatDoorVaGr7
import Derived.Test.YtpgapjdejelajaaGreatDoorVaGr4
import Derived.Test.YtpgapjdejelajaaGreatDoorVaGr1
import Derived.Test.YtpgapjdejelajaaGreatDoorVaGr8
import Derived.Test.YtpgapjdejelajaaGreatDoorVaGr12
import Derived.Test.YtpgapjdejelajaaGreatDoorVaGr10
import Derived.Test.YtpgapjdejelajaaGreatDoorVaGr5
import Derived.Test.YtpgapjdejelajaaGreatDoorVaGr11
set_option linter.unusedVariables false
set_option maxRecDepth 100000
namespace Go.Proofs.YtpgapjdejelajaaGreatDoor.KdfB
open Go.RowKit Mem App Blk ShaP Comp MacP MacI KdfP Each Copy Ops

def nexter (qn qk qa qf : Nat) : Value := .func (.func 112) #[] #[.pointer (some ⟨qn, 0, none⟩), .pointer (some ⟨qk, 0, none⟩), .pointer (some ⟨qa, 0, none⟩), .pointer (some ⟨qf, 0, none⟩)]

def KeptBut (x y : Nat) (w w' : World) : Prop := ∀ i, i < w.heap.size → i ≠ x → i ≠ y → w'.heap[i]? = w.heap[i]?

theorem new_at (w : World) (g : Nat) (t : TypeId) (cs : List Value) (h : g = w.heap.size) : Blk (w.alloc (.cells cs.toArray t)) g t cs := by subst h; exact Blk.new w t cs
theorem row_new_at (w : World) (g : Nat) (h : g = w.heap.size) : Row (w.alloc (.cells #[] 5)) g 0 [] := by subst h; exact row_new w [] (by simp)

set_option maxHeartbeats 800000 in
theorem expandedBlocks (a0 : Option Addr) (n0 c0 : Nat) (a1 : Option Addr) (n1 c1 : Nat) (w : World) :
  Calls Tryz.prog 98 #[.slice a0 n0 c0, .slice a1 n1 c1] w fun e w' =>
   ∃ qn qk qa qf ga, e = .returned (nexter qn qk qa qf) ∧ Blk w' qn 5 [.int .u8 0] ∧ Blk w' qk 22 [.slice a0 n0 c0] ∧ Blk w' qa 22 [.slice (some ⟨ga, 0, none⟩) 0 0] ∧ Blk w' qf 22 [.slice a1 n1 c1] ∧ Row w' ga 0 [] ∧
    w.heap.size ≤ qn ∧ w.heap.size ≤ qk ∧ w.heap.size ≤ qa ∧ w.heap.size ≤ qf ∧ w.heap.size ≤ ga ∧ qn ≠ qk ∧ qn ≠ qa ∧ qn ≠ qf ∧ qn ≠ ga ∧ qa ≠ qk ∧ qa ≠ qf ∧ qa ≠ ga ∧ Below w.heap.size w w' := by
 have hmf : ∀ (fn : Fn) (first cap : Array Value) (w : World), (Instr.makeFunc fn first cap).run Tryz.prog w = .ok (.func fn first cap) w := fun _ _ _ _ => rfl
 go_enter Tryz.func98, Tryz.ntmps98
 go_wp2
 go_ret
 have z (w : World) (o : Obj) : (w.alloc o).heap.size = w.heap.size + 1 := by simp
 refine ⟨w.heap.size + 1 + 1 + 1 + 1, w.heap.size, w.heap.size + 1 + 1 + 1, w.heap.size + 1, w.heap.size + 1 + 1, rfl, new_at _ _ _ _ (by simp only [z]), ((((Blk.new w _ _).alloc _).alloc _).alloc _).alloc _, (new_at _ _ _ _ (by simp only [z])).alloc _, (((new_at _ _ _ _ (by simp only [z])).alloc _).alloc _).alloc _, row_alloc (row_alloc (row_new_at _ _ (by simp only [z])) _) _, by omega, by omega, by omega, by omega, by omega, by omega, by omega, by omega, by omega, by omega, by omega, by omega, ?_⟩
 exact (((((Below.refl _ _).alloc (Nat.le_refl _) _).alloc (by simp only [z]; omega) _).alloc (by simp only [z]; omega) _).alloc (by simp only [z]; omega) _).alloc (by simp only [z]; omega) _
abbrev DL1 : List Nat := [7, 8, 9, 10, 11, 12, 13, 14]
set_option maxHeartbeats 2000000 in
theorem nextBlock (qn qk qa qf : Nat) (a0 : Option Addr) (n0 c0 : Nat) (a1 : Option Addr) (n1 c1 : Nat) (ga ma ca : Nat) (x : Int) (k l f : List Int) (u w : World) (hT : Tab u)
  (hn : Blk w qn 5 [.int .u8 x]) (hk : Blk w qk 22 [.slice a0 n0 c0]) (ha : Blk w qa 22 [.slice (some ⟨ga, 0, none⟩) ma ca]) (hf : Blk w qf 22 [.slice a1 n1 c1]) (hg : Row w ga ca l)
  (nk : qn ≠ qk) (nna : qn ≠ qa) (nf : qn ≠ qf) (ng : qn ≠ ga) (le1 : u.heap.size ≤ qn) (le2 : u.heap.size ≤ qa) (hb : Below u.heap.size u w)
  (e0 : n0 = k.length) (e1 : n1 = f.length) (e2 : ma = l.length) (r0 : Rd u a0 k) (r1 : Rd u a1 f) (na0 : a0 = none → c0 = 0) (na1 : a1 = none → c1 = 0) (y0 : Bytes k) (y1 : Bytes f) (y2 : Bytes l) (l0 : n0 ≤ 2097152) (l1 : n1 ≤ 1000) (l2 : ma ≤ 32) (x0 : 0 ≤ x) (x1 : x ≤ 254) :
  Calls Tryz.prog 112 #[.pointer (some ⟨qn, 0, none⟩), .pointer (some ⟨qk, 0, none⟩), .pointer (some ⟨qa, 0, none⟩), .pointer (some ⟨qf, 0, none⟩)] w fun e w' =>
   ∃ g m c, e = .returned (.slice (some ⟨g, 0, none⟩) m c) ∧ m = (hmacI k (l ++ f ++ [x + 1])).length ∧ w.heap.size ≤ g ∧ Row w' g c (hmacI k (l ++ f ++ [x + 1])) ∧ Blk w' qn 5 [.int .u8 (x + 1)] ∧ Blk w' qa 22 [.slice (some ⟨g, 0, none⟩) m c] ∧ KeptBut qn qa w w' ∧ Below u.heap.size u w' := by
 have hw : IntKind.u8.wrap (x + 1) = x + 1 := by rw [IntKind.wrap_u8']; omega
 have E0 : Hid (n0 = k.length) := e0
 have E1 : Hid (n1 = f.length) := e1
 have E2 : Hid (ma = l.length) := e2
 have R0 := hid (r0)
 have R1 := hid (r1)
 have Y0 := hid (y0)
 have Y1 := hid (y1)
 have Y2 := hid (y2)
 have HT := hid (hT)
 obtain ⟨w0, hw0⟩ : ∃ w0, w.setCell ⟨qn, 0, none⟩ (.int .u8 (x + 1)) = w0 := ⟨_, rfl⟩
 have HW0 := hid (hw0)
 have SZ : Hid (w0.heap.size = w.heap.size) := by rw [← hw0]; show _ = _; simp
 have KN : Hid (Blk w0 qn 5 [.int .u8 (x + 1)]) := by rw [← hw0]; exact hn.set 0 _ (by simp [maxLen])
 have KK : Hid (Blk w0 qk 22 [.slice a0 n0 c0]) := by rw [← hw0]; exact hk.other (Ne.symm nk) _
 have KA : Hid (Blk w0 qa 22 [.slice (some ⟨ga, 0, none⟩) ma ca]) := by rw [← hw0]; exact ha.other (Ne.symm nna) _
 have KF : Hid (Blk w0 qf 22 [.slice a1 n1 c1]) := by rw [← hw0]; exact hf.other (Ne.symm nf) _
 have RG : Hid (Row w0 ga ca l) := by rw [← hw0]; exact hg.keep (Below.heap_setCell _ _ _ ga (Ne.symm ng))
 have BU : Hid (Below u.heap.size u w0) := by rw [← hw0]; exact hb.setCell le1 _
 have KB : Hid (KeptBut qn qa w w0) := by rw [← hw0]; exact fun i _ h1 _ => Below.heap_setCell _ _ _ i h1
 have c0' := hn.cell 0 rfl
 have f0' := hn.frozen 0
 clear hn hk ha hf hg e0 e1 e2 r0 r1 y0 y1 y2 hT hw0 hb
 go_enter Tryz.func112, Tryz.ntmps112
 go_upto_region 2 with fail
 rw [HW0.out]
 clear c0' f0'
 go_cut [14] from 7 to 13 (fun s14 wx => ∃ g m c, s14 = .slice (some ⟨g, 0, none⟩) m c ∧ m = (hmacI k (l ++ f ++ [x + 1])).length ∧ w.heap.size ≤ g ∧ Row wx g c (hmacI k (l ++ f ++ [x + 1])) ∧ Blk wx qn 5 [.int .u8 (x + 1)] ∧ Blk wx qa 22 [.slice (some ⟨g, 0, none⟩) m c] ∧ KeptBut qn qa w wx ∧ Below u.heap.size u wx)
 case first =>
  rename_i J K' hRJ hMet
  generalize hA : Act.mk _ _ = A
  have a0' : A.eval (.tmp 0) = .pointer (some ⟨qn, 0, none⟩) := by rw [← hA]; rfl
  have a1' : A.eval (.tmp 1) = .pointer (some ⟨qk, 0, none⟩) := by rw [← hA]; rfl
  have a2' : A.eval (.tmp 2) = .pointer (some ⟨qa, 0, none⟩) := by rw [← hA]; rfl
  have a3' : A.eval (.tmp 3) = .pointer (some ⟨qf, 0, none⟩) := by rw [← hA]; rfl
  have asz : A.tmps.size = 16 := by rw [← hA]; rfl
  have hKN : ∀ wx, Below w0.heap.size w0 wx → Blk wx qn 5 [.int .u8 (x + 1)] := fun wx hb => KN.out.later hb
  have hKK : ∀ wx, Below w0.heap.size w0 wx → Blk wx qk 22 [.slice a0 n0 c0] := fun wx hb => KK.out.later hb
  have hKA : ∀ wx, Below w0.heap.size w0 wx → Blk wx qa 22 [.slice (some ⟨ga, 0, none⟩) ma ca] := fun wx hb => KA.out.later hb
  have hKF : ∀ wx, Below w0.heap.size w0 wx → Blk wx qf 22 [.slice a1 n1 c1] := fun wx hb => KF.out.later hb
  have hBU : ∀ wx, Below w0.heap.size w0 wx → Below u.heap.size u wx := fun wx hb => BU.out.trans (hb.mono BU.out.size)
  refine region_each (by kernel_rfl) DL1 8 (fun i => DL1.getD i 0) (fun i => 0)
   (fun i g v wx => match i with
    | 0 => v = .slice a0 n0 c0
    | 1 => v = .slice (some ⟨ga, 0, none⟩) ma ca
    | 2 => v = .slice a1 n1 c1
    | 3 => v = .slice (some ⟨g, 0, none⟩) (ma + n1) (ma + n1) ∧ Row wx g (ma + n1) (l ++ f)
    | 4 => v = .int .u8 (x + 1)
    | 5 => v = .slice (some ⟨g, 0, none⟩) 1 1 ∧ Rd wx (some ⟨g, 0, none⟩) [x + 1]
    | 6 => v = .slice (some ⟨g, 0, none⟩) (ma + n1 + 1) (ma + n1 + 1) ∧ Row wx g (ma + n1 + 1) (l ++ f ++ [x + 1])
    | 7 => ∃ m c, v = .slice (some ⟨g, 0, none⟩) m c ∧ m = (hmacI k (l ++ f ++ [x + 1])).length ∧ Row wx g c (hmacI k (l ++ f ++ [x + 1])) ∧ w0.heap.size ≤ g
    | _ => False) (fun wx => Below w0.heap.size w0 wx) (by kernel_rfl) (Below.refl _ _).drew ?_ ?_ ?_
  ·
   intro i g v wx wy hi hF hb _
   match i, hi with
   | 0, _ => exact hF
   | 1, _ => exact hF
   | 2, _ => exact hF
   | 3, _ => exact ⟨hF.1, hF.2.later hb⟩
   | 4, _ => exact hF
   | 5, _ => exact ⟨hF.1, hF.2.later hb (Nat.le_refl _)⟩
   | 6, _ => exact ⟨hF.1, hF.2.later hb⟩
   | 7, _ => obtain ⟨m, c, h1, h2, h3, h4⟩ := hF; exact ⟨m, c, h1, h2, h3.later hb, h4⟩
  ·
   intro i hi t ρ wx hB hp hd
   match i, hi with
   | 0, _ =>
    have e1 : (fr DL1 A t).eval (.tmp 1) = .pointer (some ⟨qk, 0, none⟩) := (fr_eval_old _ _ _ 1 rfl).trans a1'
    have hc := (hKK wx hB).cell 0 rfl
    refine op_run (v := .slice a0 n0 c0) (w' := wx) rfl rfl ?_ ?_
    ·
     clear hp hd; generalize (fr DL1 A t).eval = ev at e1 ⊢; go_simp
    ·
     exact ⟨_, 0, rfl, hB, Below.refl _ _, rfl, .inl rfl⟩
   | 1, _ =>
    have e2 : (fr DL1 A t).eval (.tmp 2) = .pointer (some ⟨qa, 0, none⟩) := (fr_eval_old _ _ _ 2 rfl).trans a2'
    have hc := (hKA wx hB).cell 0 rfl
    refine op_run (v := .slice (some ⟨ga, 0, none⟩) ma ca) (w' := wx) rfl rfl ?_ ?_
    ·
     clear hp hd; generalize (fr DL1 A t).eval = ev at e2 ⊢; go_simp
    ·
     exact ⟨_, 0, rfl, hB, Below.refl _ _, rfl, .inl rfl⟩
   | 2, _ =>
    have e3 : (fr DL1 A t).eval (.tmp 3) = .pointer (some ⟨qf, 0, none⟩) := (fr_eval_old _ _ _ 3 rfl).trans a3'
    have hc := (hKF wx hB).cell 0 rfl
    refine op_run (v := .slice a1 n1 c1) (w' := wx) rfl rfl ?_ ?_
    ·
     clear hp hd; generalize (fr DL1 A t).eval = ev at e3 ⊢; go_simp
    ·
     exact ⟨_, 0, rfl, hB, Below.refl _ _, rfl, .inl rfl⟩
   | 3, _ =>
    have e8 : (fr DL1 A t).eval (.tmp 8) = .slice (some ⟨ga, 0, none⟩) ma ca := (fr_eval _ _ _ 8 rfl (by rw [asz]; decide)).trans (hp 1 (pre_mem (by kernel_rfl)))
    have e9 : (fr DL1 A t).eval (.tmp 9) = .slice a1 n1 c1 := (fr_eval _ _ _ 9 rfl (by rw [asz]; decide)).trans (hp 2 (pre_mem (by kernel_rfl)))
    refine op_call (f := 75) (args := #[.slice (some ⟨ga, 0, none⟩) ma ca, .slice a1 n1 c1]) rfl rfl ?_ (putBytes (some ⟨ga, 0, none⟩) a1 ma ca n1 c1 l f wx E2.out E1.out (RG.out.later hB).rd (R1.out.later (hBU wx hB) (Nat.le_refl _)) (by intro e; cases e) na1 (by rw [← E2.out]; omega) (by rw [← E1.out]; omega)) ?_
    ·
     clear hp hd; have ef : (fr DL1 A t).eval (.func 75) = .func (.func 75) #[] #[] := rfl; generalize (fr DL1 A t).eval = ev at e8 e9 ef ⊢; go_simp
    ·
     rintro e wy ⟨rfl, ry, by1⟩
     exact ⟨_, rfl, _, wx.heap.size, rfl, hB.trans (by1.mono hB.size), by1, ⟨rfl, ry⟩, .inl rfl⟩
   | 4, _ =>
    have e0 : (fr DL1 A t).eval (.tmp 0) = .pointer (some ⟨qn, 0, none⟩) := (fr_eval_old _ _ _ 0 rfl).trans a0'
    have hc := (hKN wx hB).cell 0 rfl
    refine op_run (v := .int .u8 (x + 1)) (w' := wx) rfl rfl ?_ ?_
    ·
     clear hp hd; generalize (fr DL1 A t).eval = ev at e0 ⊢; go_simp
    ·
     exact ⟨_, 0, rfl, hB, Below.refl _ _, rfl, .inl rfl⟩
   | 5, _ =>
    have e11 : (fr DL1 A t).eval (.tmp 11) = .int .u8 (x + 1) := (fr_eval _ _ _ 11 rfl (by rw [asz]; decide)).trans (hp 4 (pre_mem (by kernel_rfl)))
    refine op_run (v := .slice (some ⟨wx.heap.size, 0, none⟩) 1 1) (w' := wx.alloc (.cells #[.int .u8 (x + 1)] 5)) rfl rfl ?_ ?_
    ·
     clear hp hd; generalize (fr DL1 A t).eval = ev at e11 ⊢; go_simp
    ·
     exact ⟨_, wx.heap.size, rfl, hB.alloc hB.size _, (Below.refl _ _).alloc (Nat.le_refl _) _, ⟨rfl, rd_one wx (x + 1)⟩, .inl rfl⟩
   | 6, _ =>
    have h3 := hp 3 (pre_mem (by kernel_rfl))
    have h5 := hp 5 (pre_mem (by kernel_rfl))
    have e10 : (fr DL1 A t).eval (.tmp 10) = .slice (some ⟨ρ 3, 0, none⟩) (ma + n1) (ma + n1) := (fr_eval _ _ _ 10 rfl (by rw [asz]; decide)).trans h3.1
    have e12 : (fr DL1 A t).eval (.tmp 12) = .slice (some ⟨ρ 5, 0, none⟩) 1 1 := (fr_eval _ _ _ 12 rfl (by rw [asz]; decide)).trans h5.1
    have L3 : Hid (ma + n1 = (l ++ f).length) := by show _ = _; rw [List.length_append, ← E2.out, ← E1.out]
    refine op_call (f := 75) (args := #[.slice (some ⟨ρ 3, 0, none⟩) (ma + n1) (ma + n1), .slice (some ⟨ρ 5, 0, none⟩) 1 1]) rfl rfl ?_ (putBytes (some ⟨ρ 3, 0, none⟩) (some ⟨ρ 5, 0, none⟩) (ma + n1) (ma + n1) 1 1 (l ++ f) [x + 1] wx L3.out rfl h3.2.rd h5.2 (by intro e; cases e) (by intro e; cases e) (by rw [← L3.out]; omega) (by simp)) ?_
    ·
     clear hp hd h3 h5; have ef : (fr DL1 A t).eval (.func 75) = .func (.func 75) #[] #[] := rfl; generalize (fr DL1 A t).eval = ev at e10 e12 ef ⊢; go_simp
    ·
     rintro e wy ⟨rfl, ry, by1⟩
     exact ⟨_, rfl, _, wx.heap.size, rfl, hB.trans (by1.mono hB.size), by1, ⟨rfl, ry⟩, .inl rfl⟩
   | 7, _ =>
    have h6 := hp 6 (pre_mem (by kernel_rfl))
    have e7 : (fr DL1 A t).eval (.tmp 7) = .slice a0 n0 c0 := (fr_eval _ _ _ 7 rfl (by rw [asz]; decide)).trans (hp 0 (pre_mem (by kernel_rfl)))
    have e13 : (fr DL1 A t).eval (.tmp 13) = .slice (some ⟨ρ 6, 0, none⟩) (ma + n1 + 1) (ma + n1 + 1) := (fr_eval _ _ _ 13 rfl (by rw [asz]; decide)).trans h6.1
    have L3 : Hid (ma + n1 + 1 = (l ++ f ++ [x + 1]).length) := by show _ = _; rw [List.length_append, List.length_append, ← E2.out, ← E1.out]; rfl
    have Y3 : Hid (Bytes (l ++ f ++ [x + 1])) := bytes_append (bytes_append Y2.out Y1.out) (fun z hz => by simp at hz; omega)
    refine op_call (f := 68) (args := #[.slice a0 n0 c0, .slice (some ⟨ρ 6, 0, none⟩) (ma + n1 + 1) (ma + n1 + 1)]) rfl rfl ?_ (implHmac a0 n0 c0 (some ⟨ρ 6, 0, none⟩) (ma + n1 + 1) (ma + n1 + 1) k (l ++ f ++ [x + 1]) wx (HT.out.later (hBU wx hB)) E0.out L3.out (R0.out.later (hBU wx hB) (Nat.le_refl _)) h6.2.rd na0 (by intro e; cases e) Y0.out Y3.out l0 (by omega)) ?_
    ·
     clear hp hd h6; have ef : (fr DL1 A t).eval (.func 68) = .func (.func 68) #[] #[] := rfl; generalize (fr DL1 A t).eval = ev at e7 e13 ef ⊢; go_simp
    ·
     rintro e wy ⟨g, m, c, rfl, em, kg, ry, by1⟩
     exact ⟨_, rfl, _, g, rfl, hB.trans (by1.mono hB.size), by1, ⟨m, c, rfl, em, ry, Nat.le_trans hB.size kg⟩, .inl rfl⟩
  ·
   intro t ρ wx hB hF hne
   obtain ⟨m, c, h14, em, rg, lg⟩ := hF 7 (by decide)
   clear hF hne
   have e14 : (fr DL1 A t).eval (.tmp 14) = .slice (some ⟨ρ 7, 0, none⟩) m c := (fr_eval _ _ _ 14 rfl (by rw [asz]; decide)).trans h14
   have e2 : (fr DL1 A t).eval (.tmp 2) = .pointer (some ⟨qa, 0, none⟩) := (fr_eval_old _ _ _ 2 rfl).trans a2'
   have kA : Hid (Blk wx qa 22 [.slice (some ⟨ga, 0, none⟩) ma ca]) := hKA wx hB
   have kN : Hid (Blk wx qn 5 [.int .u8 (x + 1)]) := hKN wx hB
   have bU : Hid (Below u.heap.size u wx) := hBU wx hB
   have q0 := kA.out.cell 0 rfl
   have f0 := kA.out.frozen 0
   refine op_wp rfl rfl ?_
   generalize ρ 7 = g at *
   generalize hE : (fr DL1 A t).eval = ev at e2 e14
   unfold Oper.wp
   rw [hE]
   have HM : Hid (m = (hmacI k (l ++ f ++ [x + 1])).length) := em
   clear em
   go_simp
   have gqa : g ≠ qa := Nat.ne_of_gt (Nat.lt_of_lt_of_le KA.out.lt lg)
   refine hMet _ _ (Met.intro (hRJ _ _ ⟨t 7, t 8, t 9, t 10, t 11, t 12, t 13, t 14, ⟨g, m, c, h14, HM.out, by have := SZ.out; omega, rg.keep (Below.heap_setCell _ _ _ g gqa), kN.out.other nna _, kA.out.set 0 _ (by simp [maxLen]), ?_, bU.out.setCell le2 _⟩, ?_⟩))
   ·
    intro i h1 h2 h3
    rw [Below.heap_setCell _ _ _ i h3, hB.block i (by have := SZ.out; omega)]
    exact KB.out i h1 h2 h3
   ·
    rw [← hA]; rfl
 case rest =>
  obtain ⟨g, m, c, rfl, em, kg, rg, kN, kA, kB, bU⟩ := hcut
  have HM : Hid (m = (hmacI k (l ++ f ++ [x + 1])).length) := em
  have RGc := hid (rg)
  have KNc := hid (kN)
  have KAc := hid (kA)
  have KBc : Hid (KeptBut qn qa w wc) := kB
  have BUc := hid (bU)
  have q0 := kA.cell 0 rfl
  clear em rg kN kA kB bU
  go_wp2
  go_ret
  exact ⟨g, m, c, rfl, HM.out, kg, RGc.out, KNc.out, KAc.out, KBc.out, BUc.out⟩

end Go.Proofs.YtpgapjdejelajaaGreatDoor.KdfB

namespace Go.Proofs.YtpgapjdejelajaaGreatDoor.KdfI
open Go.RowKit Mem App Blk Pads ShaP Comp MacP MacI KdfP KdfB Str

theorem canExpand (a0 : Option Addr) (n0 c0 : Nat) (a1 : Option Addr) (n1 c1 : Nat) (k f : List Int) (n : Int) (w : World) (e0 : n0 = k.length) (e1 : n1 = f.length) :
  Calls Tryz.prog 97 #[.slice a0 n0 c0, .slice a1 n1 c1, .int .i64 n] w fun e w' => e = .returned (.bool (mayExp k f n)) ∧ w = w' := by
 by_cases h1 : 0 ≤ n
 ·
  by_cases h2 : n ≤ 8160
  ·
   by_cases h3 : n1 ≤ 100
   ·
    have h3I : (n1 : Int) ≤ 100 := by omega
    have H : Hid (mayExp k f n = isLen (n0 : Int)) := by
     show _ = _
     unfold mayExp isLen
     rw [← e0, ← e1]
     apply decide_eq_decide.2
     omega
    clear e0 e1
    go_enter Tryz.func97, Tryz.ntmps97
    go_wp2_with fail
    refine (isShaLength _ _).mono ?_
    rintro e w1 ⟨rfl, rfl⟩
    go_wp2
    go_ret
    exact ⟨by rw [H.out]; simp, rfl⟩
   ·
    have h3I : ¬ ((n1 : Int) ≤ 100) := by omega
    have H : Hid (mayExp k f n = false) := by
     show _ = _
     unfold mayExp
     rw [← e1]
     exact decide_eq_false (by omega)
    clear e0 e1
    go_enter Tryz.func97, Tryz.ntmps97
    go_wp2
    go_ret
    exact ⟨by rw [H.out]; simp, rfl⟩
  ·
   have H : Hid (mayExp k f n = false) := by
    show _ = _
    unfold mayExp
    exact decide_eq_false (by omega)
   clear e0 e1
   go_enter Tryz.func97, Tryz.ntmps97
   go_wp2
   go_ret
   exact ⟨by rw [H.out]; simp, rfl⟩
 ·
  have H : Hid (mayExp k f n = false) := by
   show _ = _
   unfold mayExp
   exact decide_eq_false (by omega)
  clear e0 e1
  go_enter Tryz.func97, Tryz.ntmps97
  go_wp2
  go_ret
  exact ⟨by rw [H.out]; simp, rfl⟩

theorem keyI_full (k : List Int) (h : k.length = 64) : keyI k = k := by
 have hs : short k = k := by unfold short; rw [if_pos (by omega)]
 unfold keyI; rw [if_pos (by omega), hs, h]; simp
theorem hmacI_key (k b : List Int) (h : k.length ≤ 1048576) : hmacI (keyI k) b = hmacI k b := by
 have e := keyI_full _ (keyI_len k h)
 have e2 := keyI_len k h
 unfold hmacI
 by_cases hb : b.length ≤ 1048512
 ·
  rw [if_pos ⟨by omega, hb⟩, if_pos ⟨h, hb⟩, e]
 ·
  rw [if_neg (fun x => hb x.2), if_neg (fun x => hb x.2)]
def lenOf : Value → Nat
 | .slice _ n _ => n
 | _ => 0

set_option maxHeartbeats 4000000 in
theorem implExpand (a0 : Option Addr) (n0 c0 : Nat) (a1 : Option Addr) (n1 c1 : Nat) (k f : List Int) (n : Int) (w : World) (hT : Tab w) (e0 : n0 = k.length) (e1 : n1 = f.length) (r0 : Rd w a0 k) (r1 : Rd w a1 f) (na0 : a0 = none → c0 = 0) (na1 : a1 = none → c1 = 0) (hb0 : Bytes k) (hb1 : Bytes f) (l0 : n0 ≤ 2097152) (_l1 : n1 ≤ 2097152) :
  Calls Tryz.prog 84 #[.slice a0 n0 c0, .slice a1 n1 c1, .int .i64 n] w fun e w' =>
   ∃ g m c, e = .returned (.tuple #[.slice (some ⟨g, 0, none⟩) m c, .bool (mayExp k f n)]) ∧ m = (expI k f n).length ∧ w.heap.size ≤ g ∧ Row w' g c (expI k f n) ∧ Below w.heap.size w w' := by
 have HT := hid (hT)
 have HN0 : Hid (n0 = k.length) := e0
 have HN1 : Hid (n1 = f.length) := e1
 have HR0 := hid (r0)
 have HR1 := hid (r1)
 have HB0 := hid (hb0)
 have HB1 := hid (hb1)
 have HC : Hid (Calls Tryz.prog 97 #[.slice a0 n0 c0, .slice a1 n1 c1, .int .i64 n] w fun e w' => e = .returned (.bool (mayExp k f n)) ∧ w = w') := canExpand a0 n0 c0 a1 n1 c1 k f n w e0 e1
 clear hT e0 e1 r0 r1 hb0 hb1
 cases hm : mayExp k f n with
 | false =>
  have HE : Hid (expI k f n = []) := expI_no k f n hm
  have A0 : Hid (Below w.heap.size w (w.alloc (.cells #[] 5))) := (Below.refl _ _).alloc (Nat.le_refl _) _
  have R0 : Hid (Row (w.alloc (.cells #[] 5)) w.heap.size 0 []) := row_new w [] (by simp)
  rw [hm] at HC
  clear hm
  go_enter Tryz.func84, Tryz.ntmps84
  go_wp2_with fail
  refine HC.out.mono ?_
  rintro e w1 ⟨rfl, rfl⟩
  go_wp2
  go_ret2
  exact ⟨w.heap.size, 0, 0, by simp, by rw [HE.out]; rfl, Nat.le_refl _, by rw [HE.out]; exact R0.out, A0.out⟩
 | true =>
  obtain ⟨h0, h1, h2, h3⟩ := (mayExp_iff k f n).1 hm
  obtain ⟨N, rfl⟩ := Int.eq_ofNat_of_zero_le h0
  obtain ⟨i0, hi, hz0, hz1, hz2⟩ := info_parts info8
  have HE : Hid (expI k f (N : Int) = (blks k f ((N + 31) / 32)).take N) := by show _ = _; rw [expI_yes k f _ hm, Int.toNat_natCast]
  have HEL : Hid (N = (expI k f (N : Int)).length) := (expI_len k f N hm).symm
  have HK3 : Hid (k.length ≤ 1048576) := h3
  have HF2 : Hid (f.length ≤ 100) := h2
  have hN : N ≤ 8160 := by omega
  have hn1 : n1 ≤ 1000 := by rw [HN1.out]; omega
  have HKL : Hid ((keyI k).length = 64) := keyI_len k h3
  have HKB : Hid (Bytes (keyI k)) := keyI_bytes k HB0.out
  rw [hm] at HC
  clear hm h0 h1 h2 h3
  go_enter Tryz.func84, Tryz.ntmps84
  go_wp2_with fail
  refine HC.out.mono ?_
  rintro e w1 ⟨rfl, rfl⟩
  go_wp2_with fail
  refine (implBlockKey a0 n0 c0 k w HT.out HN0.out HR0.out na0 HB0.out l0).mono ?_
  rintro e w1 ⟨gk, mk, ck, rfl, em, k1, r1, b1⟩
  obtain rfl : 64 = mk := by rw [em, HKL.out]
  have RK1 := hid (r1.rd)
  have B1 := hid (b1)
  have HT1 := hid (HT.out.later b1)
  have RF1 := hid (HR1.out.later b1 (Nat.le_refl _))
  clear em k1 r1 b1
  go_wp2_with fail
  refine (expandedBlocks (some ⟨gk, 0, none⟩) 64 ck a1 n1 c1 w1).mono ?_
  rintro e w2 ⟨qn, qk, qa, qf, ga, rfl, kn, kk, ka, kf, rg, s1, s2, s3, s4, s5, d1, d2, d3, d4, d5, d6, d7, b2⟩
  have KN := hid (kn)
  have KK := hid (kk)
  have KA := hid (ka)
  have KF := hid (kf)
  have RG := hid (rg)
  have B2 := hid (b2)
  have D1 : Hid (qn ≠ qk ∧ qn ≠ qa ∧ qn ≠ qf ∧ qn ≠ ga ∧ qa ≠ qk ∧ qa ≠ qf ∧ qa ≠ ga) := ⟨d1, d2, d3, d4, d5, d6, d7⟩
  have S1 : Hid (w1.heap.size ≤ qn ∧ w1.heap.size ≤ qa) := ⟨s1, s3⟩
  clear kn kk ka kf rg b2 d1 d2 d3 d4 d5 d6 d7 s1 s2 s3 s4 s5
  unfold nexter
  go_wp2_with (at_make; refine wpList_make_own _ rfl _ _ 22 rfl w1.heap.size 5 i0 (.int .u8 0) 1 Tryz.underlying22 hi hz0 hz1 _ _ _ N rfl rfl (by omega) (by rw [hz2]; omega) (by unfold maxLen; omega) B2.out.size ?_; intro w3 hown hgr; have B3 : Hid (Below w2.heap.size w2 w3) := (Below.refl _ _).grown hgr (Nat.le_refl _) (fun k h => by cases h); have R3 : Hid (Row w3 w2.heap.size N []) := (Row.of (l := []) hown).1; clear hown hgr)
  have B13 := hid (B2.out.trans (B3.out.mono B2.out.size))
  have O2 := hid (B2.out.size)
  have NQ : Hid (qn < w2.heap.size ∧ qk < w2.heap.size ∧ qa < w2.heap.size ∧ qf < w2.heap.size) := ⟨KN.out.lt, KK.out.lt, KA.out.lt, KF.out.lt⟩
  obtain ⟨go, hgo⟩ : ∃ go, w2.heap.size = go := ⟨_, rfl⟩
  rw [hgo]
  rw [hgo] at R3 O2 NQ
  have G3 : Hid (go < w3.heap.size) := R3.out.lt
  go_loopw [9, 10] (fun v _ wr => ∃ q gb mb cb no : Nat, q ≤ 255 ∧ no = min (32 * q) N ∧ 32 * q < N + 32 ∧ v = .slice (some ⟨go, 0, none⟩) no N ∧ mb = (blk k f q).length ∧ qn ≠ gb ∧ qa ≠ gb ∧ go ≠ gb ∧ go < wr.heap.size ∧ Row wr go N ((blks k f q).take N) ∧ Row wr gb cb (blk k f q) ∧ Blk wr qn 5 [.int .u8 (q : Int)] ∧ Blk wr qk 22 [.slice (some ⟨gk, 0, none⟩) 64 ck] ∧ Blk wr qa 22 [.slice (some ⟨gb, 0, none⟩) mb cb] ∧ Blk wr qf 22 [.slice a1 n1 c1] ∧ Below w1.heap.size w1 wr)
   (fun v _ _ => N - lenOf v)
  case atStart => exact ⟨0, ga, 0, 0, 0, by omega, by omega, by omega, rfl, rfl, D1.out.2.2.2.1, D1.out.2.2.2.2.2.2, Nat.ne_of_gt (hgo ▸ RG.out.lt), G3.out, (by show Row _ _ _ (List.take N []); rw [List.take_nil]; exact R3.out), RG.out.later B3.out, KN.out.later B3.out, KK.out.later B3.out, KA.out.later B3.out, KF.out.later B3.out, B13.out⟩
  case round =>
   obtain ⟨q, gb, mb, cb, no, hq, eno, hqN, rfl, emb, x1, x2, x3, x4, y1, y2, y3, y4, y5, y6, y7⟩ := hrel
   have RO := hid (y1)
   have RB := hid (y2)
   have KNr := hid (y3)
   have KKr := hid (y4)
   have KAr := hid (y5)
   have KFr := hid (y6)
   have Br := hid (y7)
   have EMB : Hid (mb = (blk k f q).length) := emb
   have ENO : Hid (no = min (32 * q) N) := eno
   have XS : Hid (qn ≠ gb ∧ qa ≠ gb ∧ go ≠ gb) := ⟨x1, x2, x3⟩
   have hmb : mb ≤ 32 := by rw [emb]; exact blk_le k f q
   have hnoN : no ≤ N := by omega
   clear y1 y2 y3 y4 y5 y6 y7 emb x1 x2 x3 R3 B3 B13 G3 KN KK KA KF RG
   by_cases hlt : no < N
   ·
    have hltI : (no : Int) < (N : Int) := by omega
    have hno : 32 * q = no := by omega
    have HNO : Hid (32 * q = no) := hno
    have hq' : q ≤ 254 := by omega
    have HBK : Hid (blk k f (q + 1) = hmacI (keyI k) (blk k f q ++ f ++ [(q : Int) + 1])) := by
     show _ = _
     rw [hmacI_key k _ HK3.out]
     show hmacI k (blk k f q ++ f ++ [((q + 1 : Nat) : Int) % 256]) = _
     rw [show ((q + 1 : Nat) : Int) % 256 = (q : Int) + 1 by omega]
    have H32 : Hid ((blk k f (q + 1)).length = 32) := blk_len k f HK3.out HF2.out q
    have HBL : Hid ((blks k f q).length = no) := by show _ = _; rw [blks_len k f HK3.out HF2.out q, hno]
    have HO1 : Hid ((blks k f q).take N = blks k f q) := by show _ = _; rw [List.take_of_length_le (by rw [HBL.out]; omega)]
    obtain ⟨r, hr⟩ : ∃ r, N - no = r := ⟨_, rfl⟩
    obtain ⟨p, hp⟩ : ∃ p, min 32 r = p := ⟨_, rfl⟩
    have HP : Hid ((blks k f (q + 1)).take N = blks k f q ++ (blk k f (q + 1)).take p) := by
     show (blks k f q ++ blk k f (q + 1)).take N = _
     rw [List.take_append, HBL.out, List.take_of_length_le (by rw [HBL.out]; omega)]
     congr 1
     rw [hr]
     by_cases h : r ≤ 32
     ·
      rw [show p = r by omega]
     ·
      rw [List.take_of_length_le (by rw [H32.out]; omega), List.take_of_length_le (by rw [H32.out]; omega)]
    have hpI : (if (N : Int) - (no : Int) < 32 then (N : Int) - (no : Int) else 32) = (p : Int) := by split <;> omega
    have hwr : IntKind.i64.wrap ((N : Int) - (no : Int)) = (N : Int) - (no : Int) := by rw [IntKind.wrap_i64]; omega
    have HPL : Hid (p = ((blk k f (q + 1)).take p).length) := by show _ = _; rw [List.length_take, H32.out]; omega
    have hp32 : p ≤ 32 := by omega
    have hp0 : 0 < p := by omega
    have hpN : no + p ≤ N := by omega
    have HPN : Hid (no + p = min (32 * (q + 1)) N) := by show _ = _; omega
    have HQ1 : Hid (32 * (q + 1) < N + 32) := by show _ < _; omega
    clear hno eno hqN hr hp
    go_wp2_with fail
    refine (nextBlock qn qk qa qf (some ⟨gk, 0, none⟩) 64 ck a1 n1 c1 gb mb cb (q : Int) (keyI k) (blk k f q) f w1 wr HT1.out KNr.out KKr.out KAr.out KFr.out RB.out D1.out.1 D1.out.2.1 D1.out.2.2.1 XS.out.1 S1.out.1 S1.out.2 Br.out HKL.out.symm HN1.out EMB.out RK1.out RF1.out (by intro e; cases e) na1 HKB.out HB1.out (blk_bytes k f q) (by omega) hn1 hmb (by omega) (by omega)).mono ?_
    rw [← HBK.out]
    rintro e w4 ⟨g4, m4, c4, rfl, e4, k4, r4, kn4, ka4, kb4, b4⟩
    obtain rfl : 32 = m4 := by rw [e4, H32.out]
    have hc4 : 32 ≤ c4 := by have := r4.1; rw [H32.out] at this; exact this
    have i1 : (p : Int) ≤ (c4 : Int) := by omega
    have i0 : (0 : Int) ≤ (p : Int) := by omega
    have RO4 : Hid (Row w4 go N (blks k f q)) := by show Row _ _ _ _; rw [← HO1.out]; exact RO.out.keep (kb4 go x4 (Nat.ne_of_gt NQ.out.1) (Nat.ne_of_gt NQ.out.2.2.1))
    have RB4 := hid (r4)
    have KN4 := hid (kn4)
    have KK4 := hid (KKr.out.keep (kb4 qk KKr.out.lt (Ne.symm D1.out.1) (Ne.symm D1.out.2.2.2.2.1)))
    have KA4 := hid (ka4)
    have KF4 := hid (KFr.out.keep (kb4 qf KFr.out.lt (Ne.symm D1.out.2.2.1) (Ne.symm D1.out.2.2.2.2.2.1)))
    have B4 := hid (b4)
    have N4 : Hid (go ≠ g4) := Nat.ne_of_lt (Nat.lt_of_lt_of_le x4 k4)
    have N4n : Hid (qn ≠ g4) := Nat.ne_of_lt (Nat.lt_of_lt_of_le KNr.out.lt k4)
    have N4a : Hid (qa ≠ g4) := Nat.ne_of_lt (Nat.lt_of_lt_of_le KAr.out.lt k4)
    have RT4 : Hid (Rd w4 (some ⟨g4, 0, none⟩) ((blk k f (q + 1)).take p)) := by
     have h1 := r4.rd
     intro i hi
     rw [List.length_take] at hi
     obtain ⟨b', off, e, hb', hh⟩ := h1 i (by omega)
     refine ⟨b', off, e, hb', ?_⟩
     rw [hh]
     have : i < p := by omega
     simp [List.getD, this]
    have GK : Hid (w1.heap.size ≤ go) := O2.out
    clear e4 k4 r4 kn4 ka4 kb4 b4 x4 RO RB KNr KKr KAr KFr Br XS EMB ENO
    go_wp2_with (at_builtin; refine wpList_fit _ rfl (.tmp 29) (.tmp 38) rfl go no N (blks k f q) ((blk k f (q + 1)).take p) rfl HBL.out.symm RO4.out (some ⟨g4, 0, none⟩) p c4 rfl HPL.out RT4.out (by intro e; cases e) (by rw [HBL.out, ← HPL.out]; omega) ?_; intro w5 r5 gr5; have R5 : Hid (Row w5 go N ((blks k f (q + 1)).take N)) := HP.out ▸ r5; have kp5 : Hid (∀ i, i < w4.heap.size → go ≠ i → w5.heap[i]? = w4.heap[i]?) := (fun i h1 h2 => gr5.block i h1 (by simp only [ne_eq, Option.some.injEq]; exact Ne.symm h2)); have B5 : Hid (Below w1.heap.size w1 w5) := B4.out.grown gr5 B4.out.size (fun k h => by cases h; exact GK.out); clear r5 gr5)
    go_roundw
    case rel => exact ⟨q + 1, g4, 32, c4, no + p, by omega, HPN.out, HQ1.out, rfl, H32.out.symm, N4n.out, N4a.out, N4.out, R5.out.lt, R5.out, RB4.out.keep (kp5.out g4 RB4.out.lt N4.out), KN4.out.keep (kp5.out qn KN4.out.lt (Nat.ne_of_gt NQ.out.1)), KK4.out.keep (kp5.out qk KK4.out.lt (Nat.ne_of_gt NQ.out.2.1)), KA4.out.keep (kp5.out qa KA4.out.lt (Nat.ne_of_gt NQ.out.2.2.1)), KF4.out.keep (kp5.out qf KF4.out.lt (Nat.ne_of_gt NQ.out.2.2.2)), B5.out⟩
    case measure => simp [lenOf]; omega
   ·
    obtain rfl : N = no := by omega
    have HQ : Hid ((N + 31) / 32 = q) := by show _ = _; omega
    have HLT : ¬ ((N : Int) < (N : Int)) := by omega
    clear eno hqN ENO
    go_wp2
    go_ret2
    exact ⟨go, N, N, rfl, HEL.out, Nat.le_trans B1.out.size O2.out, by rw [HE.out, HQ.out]; exact RO.out, B1.out.trans (Br.out.mono B1.out.size)⟩

set_option maxHeartbeats 800000 in
theorem implDerive (a0 : Option Addr) (n0 c0 : Nat) (k : List Int) (t : ByteArray) (w : World) (hT : Tab w) (e0 : n0 = k.length) (r0 : Rd w a0 k) (na0 : a0 = none → c0 = 0) (hb0 : Bytes k) (l0 : n0 ≤ 2097152) (l1 : t.size ≤ 2097152) :
  Calls Tryz.prog 60 #[.slice a0 n0 c0, .string t] w fun e w' =>
   ∃ g m c, e = .returned (.slice (some ⟨g, 0, none⟩) m c) ∧ m = (derI k (bs t)).length ∧ w.heap.size ≤ g ∧ Row w' g c (derI k (bs t)) ∧ Below w.heap.size w w' := by
 have HN0 : Hid (n0 = k.length) := e0
 have HR0 := hid (r0)
 have HB0 := hid (hb0)
 have HT := hid (hT)
 clear e0 r0 hb0 hT
 obtain ⟨W, cB, hrun, rdW, beW⟩ := bytes_made w t
 have RW := hid (rdW)
 have BW := hid (beW)
 clear rdW beW
 go_enter Tryz.func60, Tryz.ntmps60
 go_wp2_with fail
 refine (implExpand a0 n0 c0 (some ⟨w.heap.size, 0, none⟩) t.size cB k (bs t) 32 W (HT.out.later BW.out) HN0.out (bs_length t).symm (HR0.out.later BW.out (Nat.le_refl _)) RW.out na0 (by intro e; cases e) HB0.out (bs_bytes t) l0 l1).mono ?_
 rintro e w1 ⟨g, m, c, rfl, em, k1, r1, b1⟩
 have EM : Hid (m = (derI k (bs t)).length) := em
 have K1 : Hid (w.heap.size ≤ g) := Nat.le_trans BW.out.size k1
 have R1 := hid (r1)
 have B1 := hid (BW.out.trans (b1.mono BW.out.size))
 clear em k1 r1 b1
 go_wp2
 go_ret
 exact ⟨g, m, c, rfl, EM.out, K1.out, R1.out, B1.out⟩

end Go.Proofs.YtpgapjdejelajaaGreatDoor.KdfI

namespace Go.Proofs.YtpgapjdejelajaaGreatDoor.CkJ
open Go.RowKit Mem App Blk Words Zone Res AddrP AddrS JaZ JaL CkP Shp CkQ MacP KdfP Str MacI Comp CkL

theorem nil_ans {w x : World} (b : Below w.heap.size w x) : AnsB [] w (.returned (.slice (some ⟨x.heap.size, 0, none⟩) 0 0)) (x.alloc (.cells #[] 5)) :=
 ⟨⟨some ⟨x.heap.size, 0, none⟩, 0, 0⟩, rfl, SOwn.row (row_new x [] (by simp)) rfl (fun z hz => by cases hz) b.size (by rw [World.size_alloc]; exact Nat.lt_succ_self _), b.alloc b.size _⟩

def AnsJ (D : JaD) (w : World) : Ending → World → Prop := fun e w' => ∃ S0 : JaS, e = .returned (jaV D S0) ∧ JaOwn w' w.heap.size w'.heap.size S0 D ∧ Below w.heap.size w w'
theorem nil_own (w : World) (lo hi : Nat) : JaOwn w lo hi ⟨⟨none, 0, 0⟩⟩ ⟨[]⟩ := ⟨SOwn.nil _ _ _, ⟨⟩⟩
theorem tagN (k t : Sl) (lk l : List Int) (w : World) (hT : Tab w) (hk : SRd w k lk) (h : SRd w t l) (h1 : lk.length ≤ 2000000) (h2 : l.length ≤ 2000000) :
  Calls Tryz.prog 35 #[.slice k.a k.n k.c, .slice t.a t.n t.c] w (AnsB (tagI lk l) w) := (implTag k.a k.n k.c t.a t.n t.c lk l w hT hk.len h.len hk.rd h.rd hk.nil h.nil hk.bytes h.bytes (by rw [hk.len]; omega) (by rw [h.len]; omega)).mono fun _ _ h' => AnsB.of (tagI_bytes _ _) h'

set_option maxHeartbeats 8000000 in
theorem implJarNew (s : Sl) (l : List Int) (w : World) (hT : Tab w) (h : SRd w s l) :
  Calls Tryz.prog 22 #[.slice s.a s.n s.c] w (AnsJ (newJ l) w) := by
 have HR := hid (h)
 have HN : Hid (((s.n : Int) == 12) = ((l.length : Int) == 12)) := by show _ = _; rw [h.len]
 have HZ : Hid (s.n = l.length) := h.len
 obtain ⟨R, hR⟩ : ∃ R, newJ l = R := ⟨_, rfl⟩
 have HRD : Hid (newJ l = R) := hR
 rw [hR]
 clear h hR
 have HT := hid (hT)
 clear hT
 go_enter Tryz.func22, Tryz.ntmps22
 obtain ⟨x1, hx1⟩ : ∃ x1, w.alloc (.cells #[.slice none 0 0] 25) = x1 := ⟨_, rfl⟩
 have HW1 := hid (hx1)
 have b1 : Below w.heap.size w x1 := by rw [← hx1]; exact (Below.refl _ _).alloc (Nat.le_refl _) _
 have KN : Blk x1 w.heap.size 25 [.slice none 0 0] := by rw [← hx1]; exact Blk.new w _ _
 have HSZ1 : Hid (x1.heap.size = w.heap.size + 1) := by rw [← hx1]; show _ = _; simp
 clear hx1
 have L1 := hid (b1.size)
 have B1 := hid (b1)
 clear b1
 go_upto_region 1 with fail
 rw [HW1.out]
 obtain ⟨go, hgo⟩ : ∃ g, w.heap.size = g := ⟨_, rfl⟩
 have Ggo : Hid (w.heap.size = go ∧ x1.heap.size = go + 1) := ⟨hgo, by rw [← hgo]; exact HSZ1.out⟩
 rw [hgo] at KN ⊢
 clear HW1 HSZ1 hgo
 have KO1 := hid (KN)
 clear KN
 go_wp2_with fail
 refine (FrW.isNonce s.a s.n s.c x1).mono ?_
 rintro e y ⟨rfl, rfl⟩
 cases h0 : ((s.n : Int) == 12) with
 | false =>
  have hne : ((s.n : Int) != 12) = true := by simpa using h0
  obtain rfl : R = ⟨[]⟩ := by rw [← HRD.out]; exact newJ_no (by rw [← HN.out]; exact h0)
  have c0 := KO1.out.cell 0 rfl
  have f0 := KO1.out.frozen 0
  go_wp2
  obtain ⟨k1, k2, k3⟩ := ja_stored (D := ⟨[]⟩) (S := ⟨⟨none, 0, 0⟩⟩) KO1.out (nil_own x1 x1.heap.size x1.heap.size) (.inl (by have := hid2 L1 Ggo; omega))
  exact bodyPost_ret (v := jaV ⟨[]⟩ ⟨⟨none, 0, 0⟩⟩) (res1 rfl (is_cell rfl k1 aggJa)) rfl ⟨⟨⟨none, 0, 0⟩⟩, rfl, nil_own _ _ _, k3 _ _ (by have := hid2 L1 Ggo; omega) B1.out⟩
 | true =>
  have hne : ((s.n : Int) != 12) = false := by simpa using h0
  have hne : ((s.n : Int) != 12) = false := by simpa using h0
  have HL : Hid (s.n = 12) := by show _ = _; simp at h0; omega
  obtain rfl : R = ⟨derI l (bs jarB)⟩ := by rw [← HRD.out]; exact newJ_yes (by rw [← HN.out]; exact h0)
  go_wp2_with fail
  refine (KdfI.implDerive s.a s.n s.c l jarB x1 (HT.out.later B1.out) HZ.out (HR.out.later B1.out).rd HR.out.nil HR.out.bytes (by have := HL.out; omega) (by decide)).mono ?_
  rintro e x2 ⟨g1, m1, c1, rfl, em, kg, rr, b⟩
  have oN : SOwn x2 x1.heap.size x2.heap.size ⟨some ⟨g1, 0, none⟩, m1, c1⟩ (derI l (bs jarB)) := SOwn.row rr em (derI_bytes _ _) kg rr.lt
  clear em kg rr
  have L2 := hid (b.size)
  have B2 := hid (B1.out.trans (b.mono B1.out.size))
  have KO2 := hid (KO1.out.later b)
  clear b B1 KO1
  have O12 := hid (oN)
  clear oN
  have c0 := KO2.out.cell 0 rfl
  have f0 := KO2.out.frozen 0
  go_wp2
  have oJ : JaOwn x2 x1.heap.size x2.heap.size ⟨⟨some ⟨g1, 0, none⟩, m1, c1⟩⟩ ⟨derI l (bs jarB)⟩ := ⟨O12.out, ⟨⟩⟩
  obtain ⟨k1, k2, k3⟩ := ja_stored (D := ⟨derI l (bs jarB)⟩) (S := ⟨⟨some ⟨g1, 0, none⟩, m1, c1⟩⟩) KO2.out oJ (.inl (by have := hid3 L1 Ggo L2; omega))
  exact bodyPost_ret (v := jaV ⟨derI l (bs jarB)⟩ ⟨⟨some ⟨g1, 0, none⟩, m1, c1⟩⟩) (res1 rfl (is_cell rfl k1 aggJa)) rfl ⟨⟨⟨some ⟨g1, 0, none⟩, m1, c1⟩⟩, rfl, k2.mono (by have := hid3 L1 Ggo L2; omega) (by rw [ja_size]; exact Nat.le_refl _), k3 _ _ (by have := hid3 L1 Ggo L2; omega) B2.out⟩

set_option maxHeartbeats 8000000 in
theorem implMint (S : JaS) (D : JaD) (h p id : Int) (c s : Sl) (cn sn : List Int) (tick : Int) (w : World) (hT : Tab w) (hj : JaRd w S D) (hc : SRd w c cn) (hs : SRd w s sn) :
  Calls Tryz.prog 8 #[jaV D S, addrV h p, .int .i64 id, .slice c.a c.n c.c, .slice s.a s.n s.c, .int .i64 tick] w (AnsB (mint D h p id cn sn tick) w) := by
 have HJ : Hid (JaRd w S D) := hj
 have HC := hid (hc)
 have HS := hid (hs)
 obtain ⟨R, hR⟩ : ∃ R, mint D h p id cn sn tick = R := ⟨_, rfl⟩
 have HRD : Hid (mint D h p id cn sn tick = R) := hR
 obtain ⟨M, hM⟩ : ∃ M, mintL h p id cn sn tick = M := ⟨_, rfl⟩
 have HM : Hid (mintL h p id cn sn tick = M) := hM
 rw [hR]
 clear hj hc hs hR hM
 have HT := hid (hT)
 clear hT
 obtain ⟨x1, hx1⟩ : ∃ zz, (w.alloc (.cells #[.slice S.secret.a S.secret.n S.secret.c] 25)).alloc (.cells #[.int .i64 h, .int .i64 p] 27) = zz := ⟨_, rfl⟩
 have HWA := hid (hx1)
 have b1 : Below w.heap.size w x1 := by rw [← hx1]; exact (((Below.refl _ _).alloc (Nat.le_refl _) _).alloc (by simp) _)
 have KJN : Blk x1 (w.heap.size) 25 [.slice S.secret.a S.secret.n S.secret.c] := by
  have q := (Blk.new (w) 25 [.slice S.secret.a S.secret.n S.secret.c])
  skip
  rw [← hx1]; exact q.alloc _
 have KAN : Blk x1 (w.heap.size + 1) 27 [.int .i64 h, .int .i64 p] := by
  have q := (Blk.new ((w.alloc (.cells #[.slice S.secret.a S.secret.n S.secret.c] 25))) 27 [.int .i64 h, .int .i64 p])
  rw [World.size_alloc] at q
  rw [← hx1]; exact q
 have SZA : x1.heap.size = w.heap.size + 2 := by rw [← hx1]; simp
 clear hx1
 have L1 := hid (b1.size)
 have B1 := hid (b1)
 clear b1
 unfold jaV addrV
 go_enter Tryz.func8, Tryz.ntmps8
 go_upto_region 1 with fail
 rw [HWA.out]
 obtain ⟨gj, hgj⟩ : ∃ g, w.heap.size = g := ⟨_, rfl⟩
 obtain ⟨ga, hga⟩ : ∃ g, w.heap.size + 1 = g := ⟨_, rfl⟩
 have GA : Hid (w.heap.size = gj ∧ gj + 1 = ga ∧ x1.heap.size = gj + 2) := ⟨hgj, by omega, by omega⟩
 rw [hgj] at KJN
 rw [hga] at KAN
 rw [hga, hgj]
 clear HWA SZA hgj hga
 have KJ1 := hid (KJN)
 have KA1 := hid (KAN)
 clear KJN KAN
 have d0 := KA1.out.cell 0 rfl
 have d1 := KA1.out.cell 1 rfl
 go_wp2_with fail
 refine (CkI.implMintBody h p id c s cn sn tick x1 (HC.out.later B1.out) (HS.out.later B1.out)).mono ?_
 unfold AnsL
 rw [HM.out]
 rintro e x2 ⟨T, rfl, o, b⟩
 clear d0 d1
 have L2 := hid (b.size)
 have B2 := hid (B1.out.trans (b.mono B1.out.size))
 have KJ2 := hid (KJ1.out.later b)
 have KA2 := hid (KA1.out.later b)
 clear b B1 KJ1 KA1
 have OT2 : Hid (LOwn x2 x1.heap.size x2.heap.size T M) := o
 clear o
 clear KA2
 have d0 := KJ2.out.cell 0 rfl
 go_wp2_with fail
 refine (CkI.implJarOk S D x2 (HJ.out.later B2.out)).mono ?_
 rintro e x3 ⟨rfl, b⟩
 have L3 := hid (b.size)
 have B3 := hid (B2.out.trans (b.mono B2.out.size))
 have KJ3 := hid (KJ2.out.later b)
 have OT3 := hid (OT2.out.later b)
 clear b B2 KJ2 OT2
 clear d0
 cases h0 : jarOk D with
 | false =>
  obtain rfl : R = [] := by rw [← HRD.out]; exact mint_no (by unfold mintB; rw [h0]; rfl)
  go_wp2
  go_ret
  exact nil_ans B3.out
 | true =>
  cases h1 : mintF h p id cn.length sn.length tick with
  | false =>
   obtain rfl : R = [] := by rw [← HRD.out]; exact mint_no (by unfold mintB; rw [h0, h1]; rfl)
   have hz : ((T.n : Int) == 0) = true := by have q := OT3.out.len; rw [← HM.out, mintL_no h1] at q; simp at q; simp [q]
   go_wp2
   go_ret
   exact nil_ans B3.out
  | true =>
   have HTL : Hid (T.n = 36) := by have q := OT3.out.len; rw [← HM.out, mintL_len h1] at q; exact q
   have hz : ((T.n : Int) == 0) = false := by have := HTL.out; simp; omega
   have HK : Hid (D.secret.length = 32) := jarOk_iff.1 h0
   have HQ : Hid (tagI D.secret M = R) := by show _ = _; rw [← HRD.out, ← HM.out]; exact (mint_yes (by unfold mintB; rw [h0, h1]; rfl)).symm
   have HML : Hid (M.length = 36) := by rw [← HM.out]; exact mintL_len h1
   have d0 := KJ3.out.cell 0 rfl
   go_wp2_with fail
   refine (tagN S.secret T D.secret M x3 (HT.out.later B3.out) (HJ.out.later B3.out).secret OT3.out.rd (by have := HK.out; omega) (by have := HML.out; omega)).mono ?_
   unfold AnsB
   rw [HQ.out]
   rintro e x4 ⟨U, rfl, o, b⟩
   clear d0
   have LO := hid (B3.out.size)
   have L4 := hid (b.size)
   have B4 := hid (B3.out.trans (b.mono B3.out.size))
   have KJ4 := hid (KJ3.out.later b)
   have OT4 := hid (OT3.out.later b)
   clear b B3 KJ3 OT3
   go_wp2
   go_ret
   exact ⟨U, rfl, o.mono LO.out (Nat.le_refl _), B4.out⟩
end Go.Proofs.YtpgapjdejelajaaGreatDoor.CkJ

