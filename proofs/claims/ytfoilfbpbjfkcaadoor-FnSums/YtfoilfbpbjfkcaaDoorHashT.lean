/-
  What spec's HashAdd answers at every hash and every slice of bytes whose lists are of at most 1,048,576.
-/
import Derived.Test.YtfoilfbpbjfkcaaDoorHashC
import Derived.Test.YtfoilfbpbjfkcaaDoorCopy
import Derived.Deep.CutBlock
import Derived.Deep.RegionHeld3
namespace Go.Proofs.YtfoilfbpbjfkcaaDoor.HashT
open Go.RowKit Go.Proofs.YtfoilfbpbjfkcaaDoor.Mem Go.Proofs.YtfoilfbpbjfkcaaDoor.MemI Go.Proofs.YtfoilfbpbjfkcaaDoor.Blk Go.Proofs.YtfoilfbpbjfkcaaDoor.App Go.Proofs.YtfoilfbpbjfkcaaDoor.Get Go.Proofs.YtfoilfbpbjfkcaaDoor.ShaP Go.Proofs.YtfoilfbpbjfkcaaDoor.Sched Go.Proofs.YtfoilfbpbjfkcaaDoor.SchedS Go.Proofs.YtfoilfbpbjfkcaaDoor.Words Go.Proofs.YtfoilfbpbjfkcaaDoor.WordsOf Go.Proofs.YtfoilfbpbjfkcaaDoor.Start Go.Proofs.YtfoilfbpbjfkcaaDoor.Comp Go.Proofs.YtfoilfbpbjfkcaaDoor.CompS Go.Proofs.YtfoilfbpbjfkcaaDoor.Cuts Go.Proofs.YtfoilfbpbjfkcaaDoor.Hashs Go.Proofs.YtfoilfbpbjfkcaaDoor.HashH Go.Proofs.YtfoilfbpbjfkcaaDoor.HashO Go.Proofs.YtfoilfbpbjfkcaaDoor.HashS Go.Proofs.YtfoilfbpbjfkcaaDoor.HashE Go.Proofs.YtfoilfbpbjfkcaaDoor.HashD Go.Proofs.YtfoilfbpbjfkcaaDoor.HashC Go.Proofs.YtfoilfbpbjfkcaaDoor.Pads Go.Proofs.YtfoilfbpbjfkcaaDoor.Adds Go.Proofs.YtfoilfbpbjfkcaaDoor.Ends Go.Proofs.YtfoilfbpbjfkcaaDoor.ShaS Go.Proofs.YtfoilfbpbjfkcaaDoor.Each Go.Proofs.YtfoilfbpbjfkcaaDoor.Copy

theorem ne_iO {w : World} {g c O : Nat} {l : List Int} {cs : List Value} (h : IRow w g c l) (k : Blk w O 27 cs) : O ≠ g := by
  rintro rfl
  obtain ⟨_, _, cur, h3, _⟩ := h
  have := h3.symm.trans k
  simp at this
theorem ne_bO {w : World} {g c O : Nat} {l : List Int} {cs : List Value} (h : Row w g c l) (k : Blk w O 27 cs) : O ≠ g := by
  rintro rfl
  obtain ⟨_, _, cur, h3, _⟩ := h
  have := h3.symm.trans k
  simp at this
theorem ne_ib {w : World} {g c g2 c2 : Nat} {l l2 : List Int} (h : IRow w g c l) (k : Row w g2 c2 l2) : g2 ≠ g := by
  rintro rfl
  obtain ⟨_, _, cur, h3, _⟩ := h
  obtain ⟨_, _, cur2, k3, _⟩ := k
  have := h3.symm.trans k3
  simp at this

theorem set3_block {w : World} {P O : Nat} {v0 v1 v2 : Value} (ne : P ≠ O) : (((w.setCell ⟨O, 0, none⟩ v0).setCell ⟨O, 1, none⟩ v1).setCell ⟨O, 2, none⟩ v2).heap[P]? = w.heap[P]? := by
  rw [Below.heap_setCell _ _ _ P ne, Below.heap_setCell _ _ _ P ne, Below.heap_setCell _ _ _ P ne]
theorem set3_new {w : World} {O : Nat} {t : TypeId} {x0 x1 x2 v0 v1 v2 : Value} (h : Blk w O t [x0, x1, x2]) : Blk (((w.setCell ⟨O, 0, none⟩ v0).setCell ⟨O, 1, none⟩ v1).setCell ⟨O, 2, none⟩ v2) O t [v0, v1, v2] :=
  ((h.set 0 v0 (by simp [maxLen])).set 1 v1 (by simp [maxLen])).set 2 v2 (by simp [maxLen])
theorem set3_below {w a : World} {O B : Nat} {v0 v1 v2 : Value} (h : Below B w a) (hO : B ≤ O) : Below B w (((a.setCell ⟨O, 0, none⟩ v0).setCell ⟨O, 1, none⟩ v1).setCell ⟨O, 2, none⟩ v2) :=
  ((h.setCell hO _).setCell hO _).setCell hO _

set_option maxRecDepth 100000 in
set_option maxHeartbeats 4000000 in
theorem specHashAdd (a0 : Option Addr) (n0 c0 : Nat) (a1 : Option Addr) (n1 c1 : Nat) (N : Int) (h held : List Int) (ab : Option Addr) (nb cb : Nat) (b : List Int) (w : World) (e0 : n0 = h.length) (e1 : n1 = held.length) (r0 : IRd w a0 h) (r1 : Rd w a1 held) (hb : Bytes held) (l0 : n0 ≤ 1048576) (l1 : n1 ≤ 1048576) (na0 : a0 = none → c0 = 0) (na1 : a1 = none → c1 = 0)
    (eb : nb = b.length) (rb : Rd w ab b) (nab : ab = none → cb = 0) (hbb : Bytes b) (lb : nb ≤ 1048576) :
    Calls Tryd.prog 33 #[hashV a0 n0 c0 a1 n1 c1 N, .slice ab nb cb] w (NewHash w (addW h held N b) (addB h held N b) (addN h held N b)) := by
  have E0 : Hid (n0 = h.length) := e0
  have E1 : Hid (n1 = held.length) := e1
  have R0 : Hid (IRd w a0 h) := r0
  have R1 : Hid (Rd w a1 held) := r1
  have HB : Hid (Bytes held) := hb
  have EB : Hid (nb = b.length) := eb
  have RBb : Hid (Rd w ab b) := rb
  have HBB : Hid (Bytes b) := hbb
  obtain ⟨w0, hw0⟩ : ∃ w0, (w.alloc (.cells #[.slice a0 n0 c0, .slice a1 n1 c1, .int .i64 N] 27)).alloc (.cells #[.slice none 0 0, .slice none 0 0, .int .i64 0] 27) = w0 := ⟨_, rfl⟩
  have HW0 : Hid ((w.alloc (.cells #[.slice a0 n0 c0, .slice a1 n1 c1, .int .i64 N] 27)).alloc (.cells #[.slice none 0 0, .slice none 0 0, .int .i64 0] 27) = w0) := hw0
  have HWS : Hid (w.heap.size ≤ w0.heap.size) := by rw [← hw0]; show _ ≤ _; simp; omega
  have HSZ : Hid (w0.heap.size = w.heap.size + 1 + 1) := by rw [← hw0]; show _ = _; simp
  have BL : Hid (Below w.heap.size w w0) := by rw [← hw0]; exact ((Below.refl _ _).alloc (Nat.le_refl _) _).alloc (by simp) _
  have KP : Hid (Blk w0 w.heap.size 27 [.slice a0 n0 c0, .slice a1 n1 c1, .int .i64 N]) := by rw [← hw0]; exact ((Blk.new w 27 [.slice a0 n0 c0, .slice a1 n1 c1, .int .i64 N]).alloc _)
  have K1 : Hid (Blk w0 (w.heap.size + 1) 27 [.slice none 0 0, .slice none 0 0, .int .i64 0]) := by
    rw [← hw0]
    have := Blk.new (w.alloc (.cells #[.slice a0 n0 c0, .slice a1 n1 c1, .int .i64 N] 27)) 27 [.slice none 0 0, .slice none 0 0, .int .i64 0]
    rw [alloc_size] at this
    exact this
  have s0 : w0.cell? ⟨w.heap.size, 0, none⟩ = some (.slice a0 n0 c0) := KP.out.cell 0 rfl
  have s1 : w0.cell? ⟨w.heap.size, 1, none⟩ = some (.slice a1 n1 c1) := KP.out.cell 1 rfl
  have s2 : w0.cell? ⟨w.heap.size, 2, none⟩ = some (.int .i64 N) := KP.out.cell 2 rfl
  clear e0 e1 r0 r1 hb eb rb hbb hw0
  unfold hashV
  go_enter Tryd.func33, Tryd.ntmps33
  go_upto_region 1 with fail
  rw [HW0.out]
  go_cut [5] from 8 to 18 (fun s5 wx => ∃ O gh ch gb cb, s5 = .pointer (some ⟨O, 0, none⟩) ∧ w0.heap.size ≤ O ∧ w0.heap.size ≤ gh ∧ w0.heap.size ≤ gb ∧ Blk wx O 27 [.slice (some ⟨gh, 0, none⟩) n0 ch, .slice (some ⟨gb, 0, none⟩) n1 cb, .int .i64 N] ∧ IRow wx gh ch h ∧ Row wx gb cb held ∧ Below w0.heap.size w0 wx)
  case first =>
    rename_i J K' hRJ hMet
    generalize hA : Act.mk _ _ = A
    rename_i hold
    clear hold
    have a2 : A.eval (.tmp 2) = .pointer (some ⟨w.heap.size, 0, none⟩) := by rw [← hA]; rfl
    have asz : A.tmps.size = 64 := by rw [← hA]; rfl
    have hKP : ∀ wx, Below w0.heap.size w0 wx → Blk wx w.heap.size 27 [.slice a0 n0 c0, .slice a1 n1 c1, .int .i64 N] := fun wx hb => KP.out.later hb
    refine region_each (by kernel_rfl) [5, 8, 9, 10, 11, 12, 13, 14, 15, 16, 17, 18] 12 (fun i => [8, 9, 10, 11, 12, 13, 14, 15, 16, 17, 18, 5].getD i 0) (fun i => [1, 0, 0, 1, 2, 0, 0, 2, 0, 0, 0, 3].getD i 0)
      (fun i g v wx => match i with
        | 0 => v = .slice (some ⟨g, 0, none⟩) 0 0 ∧ IRow wx g 0 [] ∧ w0.heap.size ≤ g
        | 1 => v = .pointer (some ⟨w.heap.size, 0, none⟩)
        | 2 => v = .slice a0 n0 c0
        | 3 => ∃ c, v = .slice (some ⟨g, 0, none⟩) n0 c ∧ IRow wx g c h ∧ w0.heap.size ≤ g
        | 4 => v = .slice (some ⟨g, 0, none⟩) 0 0 ∧ Row wx g 0 [] ∧ w0.heap.size ≤ g
        | 5 => v = .pointer (some ⟨w.heap.size, 1, none⟩)
        | 6 => v = .slice a1 n1 c1
        | 7 => ∃ c, v = .slice (some ⟨g, 0, none⟩) n1 c ∧ Row wx g c held ∧ w0.heap.size ≤ g
        | 8 => v = .pointer (some ⟨w.heap.size, 2, none⟩)
        | 9 => v = .int .i64 N
        | 10 => ∃ gh ch gb cb, v = .agg #[.slice (some ⟨gh, 0, none⟩) n0 ch, .slice (some ⟨gb, 0, none⟩) n1 cb, .int .i64 N] ∧ IRow wx gh ch h ∧ Row wx gb cb held ∧ w0.heap.size ≤ gh ∧ w0.heap.size ≤ gb
        | 11 => v = .pointer (some ⟨g, 0, none⟩) ∧ Blk wx g 27 [.slice none 0 0, .slice none 0 0, .int .i64 0] ∧ w0.heap.size ≤ g
        | _ => False) (fun wx => Below w0.heap.size w0 wx) (by kernel_rfl) (Below.refl _ _).drew ?_ ?_ ?_
    · intro i g v wx wy hi hF hb _
      match i, hi with
      | 0, _ => exact ⟨hF.1, hF.2.1.later hb, hF.2.2⟩
      | 1, _ => exact hF
      | 2, _ => exact hF
      | 3, _ => obtain ⟨c, h1, h2, h3⟩ := hF; exact ⟨c, h1, h2.later hb, h3⟩
      | 4, _ => exact ⟨hF.1, hF.2.1.later hb, hF.2.2⟩
      | 5, _ => exact hF
      | 6, _ => exact hF
      | 7, _ => obtain ⟨c, h1, h2, h3⟩ := hF; exact ⟨c, h1, h2.later hb, h3⟩
      | 8, _ => exact hF
      | 9, _ => exact hF
      | 10, _ => obtain ⟨gh, ch, gb, cb, h1, h2, h3, h4, h5⟩ := hF; exact ⟨gh, ch, gb, cb, h1, h2.later hb, h3.later hb, h4, h5⟩
      | 11, _ => exact ⟨hF.1, hF.2.1.later hb, hF.2.2⟩
    · intro i hi t ρ wx hB hp hd
      match i, hi with
      | 0, _ => 
        refine op_run (v := .slice (some ⟨wx.heap.size, 0, none⟩) 0 0) (w' := wx.alloc (.cells #[] 3)) rfl rfl ?_ ?_
        · go_simp
        · exact ⟨_, wx.heap.size, rfl, hB.alloc hB.size _, (Below.refl _ _).alloc (Nat.le_refl _) _, ⟨rfl, irow_new wx [] (by simp), hB.size⟩, .inr ⟨by simp, .inl (Nat.le_refl _)⟩⟩
      | 1, _ =>
        have e2 : (fr [5, 8, 9, 10, 11, 12, 13, 14, 15, 16, 17, 18] A t).eval (.tmp 2) = .pointer (some ⟨w.heap.size, 0, none⟩) := (fr_eval_old _ _ _ 2 rfl).trans a2
        refine op_run (v := .pointer (some ⟨w.heap.size, 0, none⟩)) (w' := wx) rfl rfl ?_ ?_
        · clear hp hd; generalize (fr [5, 8, 9, 10, 11, 12, 13, 14, 15, 16, 17, 18] A t).eval = ev at e2 ⊢; go_simp
        · exact ⟨_, 0, rfl, hB, Below.refl _ _, rfl, .inl rfl⟩
      | 2, _ =>
        have e9 : (fr [5, 8, 9, 10, 11, 12, 13, 14, 15, 16, 17, 18] A t).eval (.tmp 9) = .pointer (some ⟨w.heap.size, 0, none⟩) := (fr_eval _ _ _ 9 rfl (by rw [asz]; decide)).trans (hp 1 (pre_mem (by kernel_rfl)))
        have hc := (hKP wx hB).cell 0 rfl
        refine op_run (v := .slice a0 n0 c0) (w' := wx) rfl rfl ?_ ?_
        · clear hp hd; generalize (fr [5, 8, 9, 10, 11, 12, 13, 14, 15, 16, 17, 18] A t).eval = ev at e9 ⊢; go_simp
        · exact ⟨_, 0, rfl, hB, Below.refl _ _, rfl, .inl rfl⟩
      | 3, _ =>
        have h0 := hp 0 (pre_mem (by kernel_rfl))
        have e10 : (fr [5, 8, 9, 10, 11, 12, 13, 14, 15, 16, 17, 18] A t).eval (.tmp 10) = .slice a0 n0 c0 := (fr_eval _ _ _ 10 rfl (by rw [asz]; decide)).trans (hp 2 (pre_mem (by kernel_rfl)))
        have e8 : (fr [5, 8, 9, 10, 11, 12, 13, 14, 15, 16, 17, 18] A t).eval (.tmp 8) = .slice (some ⟨ρ 0, 0, none⟩) 0 0 := (fr_eval _ _ _ 8 rfl (by rw [asz]; decide)).trans h0.1
        refine op_icopy rfl rfl (.tmp 8) (.tmp 10) rfl (ρ 0) e8 h0.2.1 a0 n0 c0 h e10 E0.out (R0.out.later (BL.out.trans (hB.mono BL.out.size)) (Nat.le_refl _)) na0 (by rw [← E0.out]; omega) ?_
        intro g c wy r1 r2 r3 r4
        exact ⟨_, g, rfl, hB.trans (r4.mono hB.size), r4, ⟨c, rfl, r1, by rcases r3 with r3 | r3; exact Nat.le_trans hB.size r3; rw [r3]; exact h0.2.2⟩, .inr ⟨r2, r3.imp (fun h => h) (fun h => ⟨0, pre_mem (by kernel_rfl), rfl, h⟩)⟩⟩
      | 4, _ => 
        refine op_run (v := .slice (some ⟨wx.heap.size, 0, none⟩) 0 0) (w' := wx.alloc (.cells #[] 5)) rfl rfl ?_ ?_
        · clear hp hd; go_simp
        · exact ⟨_, wx.heap.size, rfl, hB.alloc hB.size _, (Below.refl _ _).alloc (Nat.le_refl _) _, ⟨rfl, row_new wx [] (by simp), hB.size⟩, .inr ⟨by simp, .inl (Nat.le_refl _)⟩⟩
      | 5, _ =>
        have e2 : (fr [5, 8, 9, 10, 11, 12, 13, 14, 15, 16, 17, 18] A t).eval (.tmp 2) = .pointer (some ⟨w.heap.size, 0, none⟩) := (fr_eval_old _ _ _ 2 rfl).trans a2
        refine op_run (v := .pointer (some ⟨w.heap.size, 1, none⟩)) (w' := wx) rfl rfl ?_ ?_
        · clear hp hd; generalize (fr [5, 8, 9, 10, 11, 12, 13, 14, 15, 16, 17, 18] A t).eval = ev at e2 ⊢; go_simp
        · exact ⟨_, 0, rfl, hB, Below.refl _ _, rfl, .inl rfl⟩
      | 6, _ =>
        have e13 : (fr [5, 8, 9, 10, 11, 12, 13, 14, 15, 16, 17, 18] A t).eval (.tmp 13) = .pointer (some ⟨w.heap.size, 1, none⟩) := (fr_eval _ _ _ 13 rfl (by rw [asz]; decide)).trans (hp 5 (pre_mem (by kernel_rfl)))
        have hc := (hKP wx hB).cell 1 rfl
        refine op_run (v := .slice a1 n1 c1) (w' := wx) rfl rfl ?_ ?_
        · clear hp hd; generalize (fr [5, 8, 9, 10, 11, 12, 13, 14, 15, 16, 17, 18] A t).eval = ev at e13 ⊢; go_simp
        · exact ⟨_, 0, rfl, hB, Below.refl _ _, rfl, .inl rfl⟩
      | 7, _ =>
        have h0 := hp 4 (pre_mem (by kernel_rfl))
        have e14 : (fr [5, 8, 9, 10, 11, 12, 13, 14, 15, 16, 17, 18] A t).eval (.tmp 14) = .slice a1 n1 c1 := (fr_eval _ _ _ 14 rfl (by rw [asz]; decide)).trans (hp 6 (pre_mem (by kernel_rfl)))
        have e12 : (fr [5, 8, 9, 10, 11, 12, 13, 14, 15, 16, 17, 18] A t).eval (.tmp 12) = .slice (some ⟨ρ 4, 0, none⟩) 0 0 := (fr_eval _ _ _ 12 rfl (by rw [asz]; decide)).trans h0.1
        refine op_copy rfl rfl (.tmp 12) (.tmp 14) rfl (ρ 4) e12 h0.2.1 a1 n1 c1 held e14 E1.out (R1.out.later (BL.out.trans (hB.mono BL.out.size)) (Nat.le_refl _)) na1 (by rw [← E1.out]; omega) ?_
        intro g c wy r1 r2 r3 r4
        exact ⟨_, g, rfl, hB.trans (r4.mono hB.size), r4, ⟨c, rfl, r1, by rcases r3 with r3 | r3; exact Nat.le_trans hB.size r3; rw [r3]; exact h0.2.2⟩, .inr ⟨r2, r3.imp (fun h => h) (fun h => ⟨4, pre_mem (by kernel_rfl), rfl, h⟩)⟩⟩
      | 8, _ =>
        have e2 : (fr [5, 8, 9, 10, 11, 12, 13, 14, 15, 16, 17, 18] A t).eval (.tmp 2) = .pointer (some ⟨w.heap.size, 0, none⟩) := (fr_eval_old _ _ _ 2 rfl).trans a2
        refine op_run (v := .pointer (some ⟨w.heap.size, 2, none⟩)) (w' := wx) rfl rfl ?_ ?_
        · clear hp hd; generalize (fr [5, 8, 9, 10, 11, 12, 13, 14, 15, 16, 17, 18] A t).eval = ev at e2 ⊢; go_simp
        · exact ⟨_, 0, rfl, hB, Below.refl _ _, rfl, .inl rfl⟩
      | 9, _ =>
        have e16 : (fr [5, 8, 9, 10, 11, 12, 13, 14, 15, 16, 17, 18] A t).eval (.tmp 16) = .pointer (some ⟨w.heap.size, 2, none⟩) := (fr_eval _ _ _ 16 rfl (by rw [asz]; decide)).trans (hp 8 (pre_mem (by kernel_rfl)))
        have hc := (hKP wx hB).cell 2 rfl
        refine op_run (v := .int .i64 N) (w' := wx) rfl rfl ?_ ?_
        · clear hp hd; generalize (fr [5, 8, 9, 10, 11, 12, 13, 14, 15, 16, 17, 18] A t).eval = ev at e16 ⊢; go_simp
        · exact ⟨_, 0, rfl, hB, Below.refl _ _, rfl, .inl rfl⟩
      | 10, _ =>
        obtain ⟨ch, h11, rh, lh⟩ := hp 3 (pre_mem (by kernel_rfl))
        obtain ⟨cb, h15, rb, lb⟩ := hp 7 (pre_mem (by kernel_rfl))
        have e11 : (fr [5, 8, 9, 10, 11, 12, 13, 14, 15, 16, 17, 18] A t).eval (.tmp 11) = .slice (some ⟨ρ 3, 0, none⟩) n0 ch := (fr_eval _ _ _ 11 rfl (by rw [asz]; decide)).trans h11
        have e15 : (fr [5, 8, 9, 10, 11, 12, 13, 14, 15, 16, 17, 18] A t).eval (.tmp 15) = .slice (some ⟨ρ 7, 0, none⟩) n1 cb := (fr_eval _ _ _ 15 rfl (by rw [asz]; decide)).trans h15
        have e17 : (fr [5, 8, 9, 10, 11, 12, 13, 14, 15, 16, 17, 18] A t).eval (.tmp 17) = .int .i64 N := (fr_eval _ _ _ 17 rfl (by rw [asz]; decide)).trans (hp 9 (pre_mem (by kernel_rfl)))
        refine op_run (v := .agg #[.slice (some ⟨ρ 3, 0, none⟩) n0 ch, .slice (some ⟨ρ 7, 0, none⟩) n1 cb, .int .i64 N]) (w' := wx) rfl rfl ?_ ?_
        · clear hp hd rh rb; generalize (fr [5, 8, 9, 10, 11, 12, 13, 14, 15, 16, 17, 18] A t).eval = ev at e11 e15 e17 ⊢; go_simp
        · exact ⟨_, 0, rfl, hB, Below.refl _ _, ⟨ρ 3, ch, ρ 7, cb, rfl, rh, rb, lh, lb⟩, .inl rfl⟩
      | 11, _ =>
        refine op_run (v := .pointer (some ⟨wx.heap.size, 0, none⟩)) (w' := wx.alloc (.cells #[.slice none 0 0, .slice none 0 0, .int .i64 0] 27)) rfl rfl ?_ ?_
        · clear hp hd; go_simp
        · exact ⟨_, wx.heap.size, rfl, hB.alloc hB.size _, (Below.refl _ _).alloc (Nat.le_refl _) _, ⟨rfl, Blk.new wx _ _, hB.size⟩, .inr ⟨by simp, .inl (Nat.le_refl _)⟩⟩
    · intro t ρ wx hB hF hne
      obtain ⟨gh, ch, gb, cb, h18, rh, rb, lh, lgb⟩ := hF 10 (by decide)
      obtain ⟨h5, kO, lO⟩ := hF 11 (by decide)
      clear hF hne
      have e18 : (fr [5, 8, 9, 10, 11, 12, 13, 14, 15, 16, 17, 18] A t).eval (.tmp 18) = .agg #[.slice (some ⟨gh, 0, none⟩) n0 ch, .slice (some ⟨gb, 0, none⟩) n1 cb, .int .i64 N] := (fr_eval _ _ _ 18 rfl (by rw [asz]; decide)).trans h18
      have e5 : (fr [5, 8, 9, 10, 11, 12, 13, 14, 15, 16, 17, 18] A t).eval (.tmp 5) = .pointer (some ⟨ρ 11, 0, none⟩) := (fr_eval _ _ _ 5 rfl (by rw [asz]; decide)).trans h5
      have q0 := kO.cell 0 rfl
      have q1 := kO.cell 1 rfl
      have q2 := kO.cell 2 rfl
      have f0 := kO.frozen 0
      have f1 := kO.frozen 1
      have f2 := kO.frozen 2
      have kO' : Hid (Blk wx (ρ 11) 27 [.slice none 0 0, .slice none 0 0, .int .i64 0]) := kO
      refine op_wp rfl rfl ?_
      generalize ρ 11 = O at *
      generalize hE : (fr [5, 8, 9, 10, 11, 12, 13, 14, 15, 16, 17, 18] A t).eval = ev at e5 e18
      unfold Oper.wp
      rw [hE]
      clear kO
      go_simp
      refine hMet _ _ (Met.intro (hRJ _ _ ⟨t 5, t 8, t 9, t 10, t 11, t 12, t 13, t 14, t 15, t 16, t 17, t 18, ⟨O, gh, ch, gb, cb, h5, lO, lh, lgb, set3_new kO'.out, rh.keep (set3_block (Ne.symm (ne_iO rh kO'.out))), rb.keep (set3_block (Ne.symm (ne_bO rb kO'.out))), set3_below hB lO⟩, ?_⟩))
      rw [← hA]; rfl
  case rest =>
    obtain ⟨O, gh, ch, gb, cb', rfl, lO, lgh, lgb, kO, rh, rb, bw⟩ := hcut
    have KO : Hid (Blk wc O 27 [.slice (some ⟨gh, 0, none⟩) n0 ch, .slice (some ⟨gb, 0, none⟩) n1 cb', .int .i64 N]) := kO
    have RH : Hid (IRow wc gh ch h) := rh
    have RB : Hid (Row wc gb cb' held) := rb
    have KPc : Hid (Blk wc w.heap.size 27 [.slice a0 n0 c0, .slice a1 n1 c1, .int .i64 N]) := KP.out.later bw
    have KRc : Hid (Blk wc (w.heap.size + 1) 27 [.slice none 0 0, .slice none 0 0, .int .i64 0]) := K1.out.later bw
    have BC : Hid (Below w.heap.size w wc) := BL.out.trans (bw.mono BL.out.size)
    have BWc : Hid (Below w0.heap.size w0 wc) := bw
    have p0 := KPc.out.cell 0 rfl
    have p1 := KPc.out.cell 1 rfl
    have p2 := KPc.out.cell 2 rfl
    clear kO rh rb bw s0 s1 s2
    go_wp2_with fail
    refine (specHashOk a0 n0 c0 a1 n1 c1 N h wc E0.out (R0.out.later BC.out (Nat.le_refl _)) (by omega) (by omega)).mono ?_
    rintro e w2 ⟨rfl, b2⟩
    have KO2 : Hid (Blk w2 O 27 [.slice (some ⟨gh, 0, none⟩) n0 ch, .slice (some ⟨gb, 0, none⟩) n1 cb', .int .i64 N]) := KO.out.later b2
    have RH2 : Hid (IRow w2 gh ch h) := RH.out.later b2
    have RB2 : Hid (Row w2 gb cb' held) := RB.out.later b2
    have KP2 : Hid (Blk w2 w.heap.size 27 [.slice a0 n0 c0, .slice a1 n1 c1, .int .i64 N]) := KPc.out.later b2
    have KR2 : Hid (Blk w2 (w.heap.size + 1) 27 [.slice none 0 0, .slice none 0 0, .int .i64 0]) := KRc.out.later b2
    have B2 : Hid (Below w.heap.size w w2) := BC.out.trans (b2.mono BC.out.size)
    have BW2 : Hid (Below w0.heap.size w0 w2) := BWc.out.trans (b2.mono BWc.out.size)
    have LO : Hid (w0.heap.size ≤ O) := lO
    have LH : Hid (w0.heap.size ≤ gh) := lgh
    have LB : Hid (w0.heap.size ≤ gb) := lgb
    have NOR : Hid (O ≠ w.heap.size + 1) := by show _ ≠ _; have := HSZ.out; omega
    have NHR : Hid (gh ≠ w.heap.size + 1) := by show _ ≠ _; have := HSZ.out; omega
    have NBR : Hid (gb ≠ w.heap.size + 1) := by show _ ≠ _; have := HSZ.out; omega
    have GH : Hid (w.heap.size ≤ gh) := Nat.le_trans HWS.out lgh
    have GB : Hid (w.heap.size ≤ gb) := Nat.le_trans HWS.out lgb
    have GO : Hid (w.heap.size ≤ O) := Nat.le_trans HWS.out lO
    clear b2 KO RH RB KPc KRc BC BWc p0 p1 p2 lO lgh lgb
    have p2 := KP2.out.cell 2 rfl
    have o0 := KO2.out.cell 0 rfl
    have o1 := KO2.out.cell 1 rfl
    have o2 := KO2.out.cell 2 rfl
    have q0 := KR2.out.cell 0 rfl
    have q1 := KR2.out.cell 1 rfl
    have q2 := KR2.out.cell 2 rfl
    have z0 := KR2.out.frozen 0
    have z1 := KR2.out.frozen 1
    have z2 := KR2.out.frozen 2
    by_cases hm : mayAdd h held N b = true
    · obtain ⟨hk, hle⟩ : okH h n1 N = true ∧ (b.length : Int) ≤ 1048576 - N := by
        unfold mayAdd at hm
        rw [Bool.and_eq_true, decide_eq_true_eq, ← E1.out] at hm
        exact hm
      rw [← EB.out] at hle
      have HEW : Hid (addW h held N b = run h (held ++ b) ((held ++ b).length / 64)) := by show _ = _; unfold addW; rw [if_pos hm]
      have HEB : Hid (addB h held N b = (held ++ b).drop (64 * ((held ++ b).length / 64))) := by show _ = _; unfold addB; rw [if_pos hm]
      have HEN : Hid (addN h held N b = N + b.length) := by show _ = _; unfold addN; rw [if_pos hm]
      obtain ⟨p1, p2', p3⟩ := okH_parts hk
      obtain ⟨M, rfl⟩ := Int.eq_ofNat_of_zero_le p2'.1
      have hM : M ≤ 1048576 := by omega
      have hn64 : n1 < 64 := by omega
      have HH8 : Hid (h.length = 8) := ((okw_iff h).1 p1).1
      have HHW : Hid (Wds h) := ((okw_iff h).1 p1).2
      clear p1 p2' p3 hm
      obtain ⟨w3, hw3⟩ : ∃ w3, w2.setCell ⟨O, 2, none⟩ (.int .i64 ((M : Int) + (nb : Int))) = w3 := ⟨_, rfl⟩
      have HW3 : Hid (w2.setCell ⟨O, 2, none⟩ (.int .i64 ((M : Int) + (nb : Int))) = w3) := hw3
      have KO3 : Hid (Blk w3 O 27 [.slice (some ⟨gh, 0, none⟩) n0 ch, .slice (some ⟨gb, 0, none⟩) n1 cb', .int .i64 ((M : Int) + (nb : Int))]) := by rw [← hw3]; exact KO2.out.set 2 _ (by simp [maxLen])
      have RH3 : Hid (IRow w3 gh ch h) := by rw [← hw3]; exact RH2.out.keep (Below.heap_setCell _ _ _ gh (Ne.symm (ne_iO RH2.out KO2.out)))
      have RB3 : Hid (Row w3 gb cb' held) := by rw [← hw3]; exact RB2.out.keep (Below.heap_setCell _ _ _ gb (Ne.symm (ne_bO RB2.out KO2.out)))
      have KR3 : Hid (Blk w3 (w.heap.size + 1) 27 [.slice none 0 0, .slice none 0 0, .int .i64 0]) := by rw [← hw3]; exact KR2.out.other (Ne.symm NOR.out) _
      have BW3 : Hid (Below w0.heap.size w0 w3) := by rw [← hw3]; exact BW2.out.setCell LO.out _
      have f2 := KO2.out.frozen 2
      go_upto_region 5 with fail
      clear hw3 HW3 KO2 RH2 RB2 KR2 BW2 KP2 p2 o0 o1 o2 q0 q1 q2 z0 z1 z2 f2 KP K1 HW0
      have o1 := KO3.out.cell 1 rfl
      have BB3 : Hid (Below w.heap.size w w3) := BL.out.trans (BW3.out.mono BL.out.size)
      go_wp2_with (at_builtin; refine wpList_app _ rfl (.tmp 38) (.tmp 39) rfl w0.heap.size gb n1 cb' held b rfl E1.out RB3.out LB.out ab nb cb rfl EB.out (RBb.out.later BB3.out (Nat.le_refl _)) nab (by rw [← E1.out, ← EB.out]; omega) ?_; intro g5 c5 w5 r5 k5 l5 gr5; have RX : Hid (Row w5 g5 c5 (held ++ b)) := r5; have LX : Hid (w0.heap.size ≤ g5) := k5; have KO5 : Hid (Blk w5 O 27 [.slice (some ⟨gh, 0, none⟩) n0 ch, .slice (some ⟨gb, 0, none⟩) n1 cb', .int .i64 ((M : Int) + (nb : Int))]) := KO3.out.keep (gr5.block O KO3.out.lt (by simp only [ne_eq, Option.some.injEq]; exact ne_bO RB3.out KO3.out)); have RH5 : Hid (IRow w5 gh ch (run h (held ++ b) 0)) := RH3.out.keep (gr5.block gh RH3.out.lt (by simp only [ne_eq, Option.some.injEq]; exact Ne.symm (ne_ib RH3.out RB3.out))); have KR5 : Hid (Blk w5 (w.heap.size + 1) 27 [.slice none 0 0, .slice none 0 0, .int .i64 0]) := KR3.out.keep (gr5.block _ KR3.out.lt (by simp only [ne_eq, Option.some.injEq]; exact Ne.symm NBR.out)); have BW5 : Hid (Below w0.heap.size w0 w5) := BW3.out.grown gr5 BW3.out.size (fun k h => by cases h; exact LB.out); clear r5 k5 l5 gr5)
      clear o1 RB3 RH3 KR3 KO3 BW3 BB3
      obtain ⟨x, hx⟩ : ∃ x, held ++ b = x := ⟨_, rfl⟩
      rw [hx] at RX RH5 HEW HEB
      obtain ⟨L, hL⟩ : ∃ L, n1 + nb = L := ⟨_, rfl⟩
      have HL : Hid (x.length = L) := by show _ = _; rw [← hx, ← hL, List.length_append, ← E1.out, ← EB.out]
      have HXB : Hid (Bytes x) := by
        rw [← hx]
        exact fun z hz => (List.mem_append.1 hz).elim (HB.out z) (HBB.out z)
      have hLm : L ≤ 2097152 := by omega
      rw [hL]
      have HLL : Hid (n1 + nb = L) := hL
      clear hL hx
      obtain ⟨Q, hQ⟩ : ∃ Q, L / 64 = Q := ⟨_, rfl⟩
      have HQ : Hid (L / 64 = Q) := hQ
      have hQ1 : 64 * Q ≤ L := by omega
      have hQ2 : L < 64 * Q + 64 := by omega
      clear hQ
      obtain rfl : n0 = 8 := by rw [E0.out, HH8.out]
      go_loopw [7] (fun i wr => ∃ q gq cq : Nat, q ≤ Q ∧ i = .int .i64 (64 * (q : Int)) ∧ w0.heap.size ≤ gq ∧ Blk wr O 27 [.slice (some ⟨gq, 0, none⟩) 8 cq, .slice (some ⟨gb, 0, none⟩) n1 cb', .int .i64 ((M : Int) + (nb : Int))] ∧ IRow wr gq cq (run h x q) ∧ Row wr g5 c5 x ∧ Blk wr (w.heap.size + 1) 27 [.slice none 0 0, .slice none 0 0, .int .i64 0] ∧ Below w0.heap.size w0 wr)
        (fun i _ => 64 * Q + 64 - (intOf i).toNat)
      case atStart => exact ⟨0, gh, ch, Nat.zero_le _, rfl, LH.out, KO5.out, RH5.out, RX.out, KR5.out, BW5.out⟩
      case round =>
        obtain ⟨q, gq, cq, hq, rfl, hgq, hO, hH, hX, hR, hbe⟩ := hrel
        have HO : Hid (Blk wr O 27 [.slice (some ⟨gq, 0, none⟩) 8 cq, .slice (some ⟨gb, 0, none⟩) n1 cb', .int .i64 ((M : Int) + (nb : Int))]) := hO
        have HHq : Hid (IRow wr gq cq (run h x q)) := hH
        have HX : Hid (Row wr g5 c5 x) := hX
        have HRR : Hid (Blk wr (w.heap.size + 1) 27 [.slice none 0 0, .slice none 0 0, .int .i64 0]) := hR
        have HBe : Hid (Below w0.heap.size w0 wr) := hbe
        have HRL : Hid ((run h x q).length = 8) := run_length h x q HH8.out
        have HRW : Hid (Wds (run h x q)) := run_wds h x q HHW.out
        have hc5 : L ≤ c5 := by have := hX.1; rw [HL.out] at this; exact this
        have o0 := HO.out.cell 0 rfl
        have f0 := HO.out.frozen 0
        clear hO hH hX hR hbe KO5 RH5 RX KR5 BW5
        by_cases hlt : q < Q
        · have HPL2 : Hid ((piece x (64 * q) 64).length = 64) := piece_length x (64 * q) 64 (by rw [HL.out]; omega)
          have HP : Hid (Rd wr (some ⟨g5, 64 * q, none⟩) (piece x (64 * q) 64)) := by
            have := rd_piece HX.out.rd (64 * q) 64 (by rw [HL.out]; omega)
            rwa [Nat.zero_add] at this
          have HPB : Hid (Bytes (piece x (64 * q) 64)) := piece_bytes HXB.out _ _
          have HCI : Hid (compI (run h x q) (piece x (64 * q) 64) = run h x (q + 1)) := compI_ok _ _ HRL.out HRW.out HPL2.out
          obtain ⟨p, hp⟩ : ∃ p, 64 * q = p := ⟨_, rfl⟩
          obtain ⟨r, hr⟩ : ∃ r, p + 64 = r := ⟨_, rfl⟩
          rw [show (64 * (q : Int)) = (p : Int) by omega]
          rw [hp] at HP HPL2 HPB HCI
          have HPQ : Hid (64 * q = p) := hp
          have HPR : Hid (p + 64 = r) := hr
          have hw : IntKind.i64.wrap ((p : Int) + 64) = (r : Int) := by rw [IntKind.wrap_i64]; omega
          have i0 : (0 : Int) ≤ (p : Int) := by omega
          have i1 : (p : Int) ≤ (r : Int) := by omega
          have i2 : (r : Int) ≤ (L : Int) := by omega
          have i3 : (r : Int) ≤ (c5 : Int) := by omega
          have i4 : r - p = 64 := by omega
          have i5 : ¬ (c5 = p) := by omega
          clear hp hr
          go_wp2_with fail
          have d0 : wr.drew.cell? ⟨O, 0, none⟩ = some (.slice (some ⟨gq, 0, none⟩) 8 cq) := o0
          go_region_with (go_at_call 57; refine (specCompress (some ⟨gq, 0, none⟩) 8 cq (run h x q) (some ⟨g5, p, none⟩) _ _ (piece x p 64) wr.drew HRL.out.symm (IRow.rd (w := wr.drew) HHq.out) (by intro e; cases e) (by omega) (by rw [HPL2.out]) (Rd.drewN HP.out 1) HPB.out (by omega)).mono ?_; rintro e w6 ⟨g6, m6, c6, rfl, e6, k6, r6, b6⟩; have oc := (Blk.later (w := wr.drew) HO.out b6).cell 0 rfl; have fc := (Blk.later (w := wr.drew) HO.out b6).frozen 0)
          rw [HCI.out, run_length h x (q + 1) HH8.out]
          rw [HCI.out] at r6
          obtain ⟨w7, hw7⟩ : ∃ w7, w6.setCell ⟨O, 0, none⟩ (.slice (some ⟨g6, 0, none⟩) 8 c6) = w7 := ⟨_, rfl⟩
          have hO6 : Blk w6 O 27 [.slice (some ⟨gq, 0, none⟩) 8 cq, .slice (some ⟨gb, 0, none⟩) n1 cb', .int .i64 ((M : Int) + (nb : Int))] := Blk.later (w := wr.drew) HO.out b6
          have KO7 : Hid (Blk w7 O 27 [.slice (some ⟨g6, 0, none⟩) 8 c6, .slice (some ⟨gb, 0, none⟩) n1 cb', .int .i64 ((M : Int) + (nb : Int))]) := by rw [← hw7]; exact hO6.set 0 _ (by simp [maxLen])
          have RH7 : Hid (IRow w7 g6 c6 (run h x (q + 1))) := by rw [← hw7]; exact r6.keep (Below.heap_setCell _ _ _ g6 (Ne.symm (ne_iO r6 hO6)))
          have hX6 : Row w6 g5 c5 x := Row.later (w := wr.drew) HX.out b6
          have RX7 : Hid (Row w7 g5 c5 x) := by rw [← hw7]; exact hX6.keep (Below.heap_setCell _ _ _ g5 (Ne.symm (ne_bO hX6 hO6)))
          have KR7 : Hid (Blk w7 (w.heap.size + 1) 27 [.slice none 0 0, .slice none 0 0, .int .i64 0]) := by rw [← hw7]; exact (Blk.later (w := wr.drew) HRR.out b6).other (Ne.symm NOR.out) _
          have BW7 : Hid (Below w0.heap.size w0 w7) := by rw [← hw7]; exact (HBe.out.drew.trans (b6.mono HBe.out.size)).setCell LO.out _
          have G7 : Hid (w0.heap.size ≤ g6) := Nat.le_trans HBe.out.size k6
          rw [hw7]
          clear hw7 hO6 hX6 e6 k6 r6 b6 oc fc d0 o0 f0
          go_wp2
          go_roundw
          case rel => exact ⟨q + 1, g6, c6, by omega, by (congr 1; have := HPQ.out; have := HPR.out; omega), G7.out, KO7.out, RH7.out, RX7.out, KR7.out, BW7.out⟩
          case measure => simp [intOf]; have := HPQ.out; have := HPR.out; omega
        · obtain rfl : q = Q := by omega
          obtain ⟨p, hp⟩ : ∃ p, 64 * q = p := ⟨_, rfl⟩
          rw [show (64 * (q : Int)) = (p : Int) by omega]
          have HPQ : Hid (64 * q = p) := hp
          have HWN : Hid (run h x (x.length / 64) = run h x q) := by show _ = _; rw [HL.out, HQ.out]
          have HDN : Hid (x.drop (64 * (x.length / 64)) = x.drop p) := by show _ = _; rw [HL.out, HQ.out, hp]
          have i1 : ¬ ((p : Int) + 64 ≤ (L : Int)) := by omega
          have i2 : (p : Int) ≤ (L : Int) := by omega
          have i3 : (0 : Int) ≤ (p : Int) := by omega
          have HDL : Hid (L - p = (x.drop p).length) := by show _ = _; rw [List.length_drop, HL.out]
          have HDR : Hid (Rd wr (if c5 = p then some ⟨g5, 0, none⟩ else some ⟨g5, p, none⟩) (x.drop p)) := by
            show Rd _ _ _
            split
            · intro i hi; rw [List.length_drop, HL.out] at hi; omega
            · have := rd_piece HX.out.rd p (L - p) (by rw [HL.out]; omega)
              rw [Nat.zero_add] at this
              have e : piece x p (L - p) = x.drop p := by unfold piece; rw [List.take_of_length_le (by rw [List.length_drop, HL.out]; omega)]
              rwa [e] at this
          have HBS : Hid (Below w.heap.size w wr) := BL.out.trans (HBe.out.mono BL.out.size)
          have y0 := HRR.out.cell 0 rfl
          have y1 := HRR.out.cell 1 rfl
          have y2 := HRR.out.cell 2 rfl
          have fy0 := HRR.out.frozen 0
          have fy1 := HRR.out.frozen 1
          have fy2 := HRR.out.frozen 2
          clear hp o0 f0
          obtain ⟨A, hif⟩ : ∃ A, (if c5 = p then some (⟨g5, 0, none⟩ : Addr) else some ⟨g5, p, none⟩) = A := ⟨_, rfl⟩
          rw [hif] at HDR
          have HAN : Hid (A = none → c5 - p = 0) := by
            intro e; rw [e] at hif; split at hif <;> cases hif
          have A3 : Hid (Below w0.heap.size w0 (wr.alloc (.cells #[] 5))) := HBe.out.alloc HBe.out.size _
          have N3 : Hid (Row (wr.alloc (.cells #[] 5)) wr.heap.size 0 []) := row_new wr [] (by simp)
          have X3 : Hid (Rd (wr.alloc (.cells #[] 5)) A (x.drop p)) := rd_alloc HDR.out _
          go_upto_region 11 with (at_builtin; refine wpList_app _ rfl (.tmp 57) (.tmp 60) rfl w0.heap.size wr.heap.size 0 0 [] (x.drop p) rfl rfl N3.out HBe.out.size A (L - p) (c5 - p) rfl HDL.out X3.out HAN.out (by rw [← HDL.out]; simp; omega) ?_; intro g8 c8 w8 r8 k8 l8 gr8; have RB8 : Hid (Row w8 g8 c8 (x.drop p)) := (List.nil_append (x.drop p)) ▸ r8; have G8 : Hid (w0.heap.size ≤ g8) := k8; have KO8 : Hid (Blk w8 O 27 [.slice (some ⟨gq, 0, none⟩) 8 cq, .slice (some ⟨gb, 0, none⟩) n1 cb', .int .i64 ((M : Int) + (nb : Int))]) := (HO.out.alloc _).keep (gr8.block O (HO.out.alloc _).lt (by simp only [ne_eq, Option.some.injEq]; exact Nat.ne_of_lt HO.out.lt)); have RH8 : Hid (IRow w8 gq cq (run h x q)) := (irow_alloc HHq.out _).keep (gr8.block gq (irow_alloc HHq.out _).lt (by simp only [ne_eq, Option.some.injEq]; exact Nat.ne_of_lt HHq.out.lt)); have KR8 : Hid (Blk w8 (w.heap.size + 1) 27 [.slice none 0 0, .slice none 0 0, .int .i64 0]) := (HRR.out.alloc _).keep (gr8.block _ (HRR.out.alloc _).lt (by simp only [ne_eq, Option.some.injEq]; exact Nat.ne_of_lt HRR.out.lt)); have BW8 : Hid (Below w0.heap.size w0 w8) := A3.out.grown gr8 A3.out.size (fun k h => by cases h; exact HBe.out.size); have oo1 := KO8.out.cell 1 rfl; have ff1 := KO8.out.frozen 1; clear r8 k8 l8 gr8)
          obtain ⟨w9, hw9⟩ : ∃ w9, w8.setCell ⟨O, 1, none⟩ (.slice (some ⟨g8, 0, none⟩) (L - p) c8) = w9 := ⟨_, rfl⟩
          have KO9 : Hid (Blk w9 O 27 [.slice (some ⟨gq, 0, none⟩) 8 cq, .slice (some ⟨g8, 0, none⟩) (L - p) c8, .int .i64 ((M : Int) + (nb : Int))]) := by rw [← hw9]; exact KO8.out.set 1 _ (by simp [maxLen])
          have RH9 : Hid (IRow w9 gq cq (run h x q)) := by rw [← hw9]; exact RH8.out.keep (Below.heap_setCell _ _ _ gq (Ne.symm (ne_iO RH8.out KO8.out)))
          have RB9 : Hid (Row w9 g8 c8 (x.drop p)) := by rw [← hw9]; exact RB8.out.keep (Below.heap_setCell _ _ _ g8 (Ne.symm (ne_bO RB8.out KO8.out)))
          have KR9 : Hid (Blk w9 (w.heap.size + 1) 27 [.slice none 0 0, .slice none 0 0, .int .i64 0]) := by rw [← hw9]; exact KR8.out.other (Ne.symm NOR.out) _
          have BW9 : Hid (Below w0.heap.size w0 w9) := by rw [← hw9]; exact BW8.out.setCell LO.out _
          have B9 : Hid (Below w.heap.size w w9) := BL.out.trans (BW9.out.mono BL.out.size)
          try rw [Nat.zero_add]
          rw [hw9]
          clear hw9 KO8 RH8 RB8 KR8 BW8 oo1 ff1 y0 y1 y2 fy0 fy1 fy2 hif
          have L3 := laid3 (w := w) KR9.out RH9.out RB9.out (by have := HSZ.out; omega) (by have := HSZ.out; have := G8.out; omega) B9.out (by omega) (.slice (some ⟨gq, 0, none⟩) 8 cq) (.slice (some ⟨g8, 0, none⟩) (L - p) c8) (.int .i64 ((M : Int) + (nb : Int)))
          have HL3 : Hid _ := L3
          have NE : Hid (gq ≠ g8) := Ne.symm (ne_ib RH9.out RB9.out)
          have o0 := KO9.out.cell 0 rfl
          have o1 := KO9.out.cell 1 rfl
          have o2 := KO9.out.cell 2 rfl
          have y0 := KR9.out.cell 0 rfl
          have y1 := KR9.out.cell 1 rfl
          have y2 := KR9.out.cell 2 rfl
          have fy0 := KR9.out.frozen 0
          have fy1 := KR9.out.frozen 1
          have fy2 := KR9.out.frozen 2
          have HNN : Hid ((M : Int) + (nb : Int) = addN h held (M : Int) b) := by show _ = _; rw [HEN.out, EB.out]
          clear L3
          go_wp2
          exact bodyPost_ret (v := hashV (some ⟨gq, 0, none⟩) 8 cq (some ⟨g8, 0, none⟩) (L - p) c8 ((M : Int) + (nb : Int))) (results_cell_row rfl _ _ (w.heap.size + 1) 27 _ (0, 0) _ rfl HL3.out.1 Tryd.underlying27 rfl infoHash) rfl (by rw [HEW.out, HEB.out, ← HNN.out, HWN.out, HDN.out]; exact ⟨gq, 8, cq, g8, L - p, c8, rfl, HRL.out.symm, HDL.out, Nat.le_trans HWS.out hgq, Nat.le_trans HWS.out G8.out, NE.out, HL3.out.2.1, HL3.out.2.2.1, HL3.out.2.2.2⟩)
    · have HEW : Hid (addW h held N b = h) := by show _ = _; unfold addW; rw [if_neg hm]
      have HEB : Hid (addB h held N b = held) := by show _ = _; unfold addB; rw [if_neg hm]
      have HEN : Hid (addN h held N b = N) := by show _ = _; unfold addN; rw [if_neg hm]
      cases hk : okH h n1 N with
      | false =>
        clear hk hm
        have L3 := laid3 (w := w) KR2.out RH2.out RB2.out NHR.out NBR.out B2.out (by omega) (.slice (some ⟨gh, 0, none⟩) n0 ch) (.slice (some ⟨gb, 0, none⟩) n1 cb') (.int .i64 N)
        have HL3 : Hid _ := L3
        have NE : Hid (gh ≠ gb) := Ne.symm (ne_ib RH2.out RB2.out)
        clear L3
        go_wp2
        exact bodyPost_ret (v := hashV (some ⟨gh, 0, none⟩) n0 ch (some ⟨gb, 0, none⟩) n1 cb' N) (results_cell_row rfl _ _ (w.heap.size + 1) 27 _ (0, 0) _ rfl HL3.out.1 Tryd.underlying27 rfl infoHash) rfl (by rw [HEW.out, HEB.out, HEN.out]; exact ⟨gh, n0, ch, gb, n1, cb', rfl, E0.out, E1.out, GH.out, GB.out, NE.out, HL3.out.2.1, HL3.out.2.2.1, HL3.out.2.2.2⟩)
      | true =>
        have hgt : ¬ ((nb : Int) ≤ 1048576 - N) := by
          intro hle
          apply hm
          unfold mayAdd
          rw [Bool.and_eq_true, decide_eq_true_eq, ← E1.out, ← EB.out]
          exact ⟨hk, hle⟩
        obtain ⟨_, p2', _⟩ := okH_parts hk
        obtain ⟨M, rfl⟩ := Int.eq_ofNat_of_zero_le p2'.1
        have hM : M ≤ 1048576 := by omega
        have hgt' : (nb : Int) > 1048576 - (M : Int) := by omega
        clear hk hm p2'
        have L3 := laid3 (w := w) KR2.out RH2.out RB2.out NHR.out NBR.out B2.out (by omega) (.slice (some ⟨gh, 0, none⟩) n0 ch) (.slice (some ⟨gb, 0, none⟩) n1 cb') (.int .i64 (M : Int))
        have HL3 : Hid _ := L3
        have NE : Hid (gh ≠ gb) := Ne.symm (ne_ib RH2.out RB2.out)
        clear L3
        go_wp2
        exact bodyPost_ret (v := hashV (some ⟨gh, 0, none⟩) n0 ch (some ⟨gb, 0, none⟩) n1 cb' (M : Int)) (results_cell_row rfl _ _ (w.heap.size + 1) 27 _ (0, 0) _ rfl HL3.out.1 Tryd.underlying27 rfl infoHash) rfl (by rw [HEW.out, HEB.out, HEN.out]; exact ⟨gh, n0, ch, gb, n1, cb', rfl, E0.out, E1.out, GH.out, GB.out, NE.out, HL3.out.2.1, HL3.out.2.2.1, HL3.out.2.2.2⟩)
end Go.Proofs.YtfoilfbpbjfkcaaDoor.HashT
