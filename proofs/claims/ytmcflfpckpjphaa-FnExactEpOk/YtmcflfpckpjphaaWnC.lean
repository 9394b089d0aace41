/-
  A window's copy: spec.l8Copy, impl.copyWin: the same window, in memory of its own.
-/
import Derived.Test.YtmcflfpckpjphaaWnZ
import Derived.Test.YtmcflfpckpjphaaOps
namespace Go.Proofs.Ytmcflfpckpjphaa.WnC
open Go.RowKit Go.Proofs.Ytmcflfpckpjphaa.Mem Go.Proofs.Ytmcflfpckpjphaa.MemI Go.Proofs.Ytmcflfpckpjphaa.Blk Go.Proofs.Ytmcflfpckpjphaa.Zone Go.Proofs.Ytmcflfpckpjphaa.ZoneI Go.Proofs.Ytmcflfpckpjphaa.WnZ Go.Proofs.Ytmcflfpckpjphaa.Res Go.Proofs.Ytmcflfpckpjphaa.Each Go.Proofs.Ytmcflfpckpjphaa.Copy Go.Proofs.Ytmcflfpckpjphaa.Ops
/-- What a copy has left. -/
def Copied (w wx : World) (q c n : Nat) (D : WnD) : Prop := Blk wx (w.heap.size + 1) 26 [.int .i64 D.top, .slice (some ⟨q, 0, none⟩) n c] ∧ IRow wx q c D.bits ∧ w.heap.size + 2 ≤ q ∧ Below w.heap.size w wx
theorem copied {w x0 wx : World} {q c n : Nat} {D : WnD} (k : Blk wx (w.heap.size + 1) 26 [.int .i64 0, .slice none 0 0]) (r : IRow wx q c D.bits) (l : w.heap.size + 2 ≤ q) (b0 : Below w.heap.size w x0) (b : Below x0.heap.size x0 wx) :
    Copied w ((wx.setCell ⟨w.heap.size + 1, 0, none⟩ (.int .i64 D.top)).setCell ⟨w.heap.size + 1, 1, none⟩ (.slice (some ⟨q, 0, none⟩) n c)) q c n D :=
  ⟨(k.set 0 _ (by simp [maxLen])).set 1 _ (by simp [maxLen]), (r.keep (Below.heap_setCell _ _ _ _ (by show q ≠ w.heap.size + 1; omega))).keep (Below.heap_setCell _ _ _ _ (by show q ≠ w.heap.size + 1; omega)), l, ((b0.trans (b.mono b0.size)).setCell (by show w.heap.size ≤ w.heap.size + 1; omega) _).setCell (by show w.heap.size ≤ w.heap.size + 1; omega) _⟩

set_option maxRecDepth 100000 in
set_option maxHeartbeats 4000000 in
theorem specCopy (S : WnS) (D : WnD) (w : World) (h : WnRd w S D) (hl : D.bits.length ≤ 4194304) :
    Calls Try.prog 121 #[wnV D S] w fun e w' => ∃ S', e = .returned (wnV D S') ∧ WnOwn w' w.heap.size w'.heap.size S' D ∧ Below w.heap.size w w' := by
  have HR : Hid (WnRd w S D) := h
  have HLen : Hid (S.bits.n = D.bits.length) := h.bits.len
  obtain ⟨x0, hx0⟩ : ∃ x0, (w.alloc (.cells #[.int .i64 D.top, .slice S.bits.a S.bits.n S.bits.c] 26)).alloc (.cells #[.int .i64 0, .slice none 0 0] 26) = x0 := ⟨_, rfl⟩
  have HW0 : Hid (_ = x0) := hx0
  have B0 : Hid (Below w.heap.size w x0) := by rw [← hx0]; exact ((Below.refl _ _).alloc (Nat.le_refl _) _).alloc (by simp) _
  have KA : Hid (Blk x0 w.heap.size 26 [.int .i64 D.top, .slice S.bits.a S.bits.n S.bits.c]) := by rw [← hx0]; exact (Blk.new w _ _).alloc _
  have KO : Hid (Blk x0 (w.heap.size + 1) 26 [.int .i64 0, .slice none 0 0]) := by
    have := Blk.new (w.alloc (.cells #[.int .i64 D.top, .slice S.bits.a S.bits.n S.bits.c] 26)) 26 [.int .i64 0, .slice none 0 0]
    rw [World.size_alloc] at this
    rw [← hx0]; exact this
  have HSZ : Hid (w.heap.size + 2 ≤ x0.heap.size) := by rw [← hx0]; show _ ≤ _; simp
  clear h hx0
  unfold wnV
  go_enter Try.func121, Try.ntmps121
  go_upto_region 1 with fail
  rw [HW0.out]
  clear HW0
  go_cut [9] from 3 to 8 (fun s9 wx => ∃ q c, s9 = .agg #[.int .i64 D.top, .slice (some ⟨q, 0, none⟩) S.bits.n c] ∧ Copied w wx q c S.bits.n D)
  case first =>
    rename_i J K' hRJ hMet
    generalize hA : Act.mk _ _ = A
    have a1' : A.eval (.tmp 1) = .pointer (some ⟨w.heap.size, 0, none⟩) := by rw [← hA]; rfl
    have a2' : A.eval (.tmp 2) = .pointer (some ⟨w.heap.size + 1, 0, none⟩) := by rw [← hA]; rfl
    have asz : A.tmps.size = 10 := by rw [← hA]; rfl
    have hKA : ∀ wx, Below x0.heap.size x0 wx → Blk wx w.heap.size 26 [.int .i64 D.top, .slice S.bits.a S.bits.n S.bits.c] := fun wx hb => KA.out.later hb
    have hKO : ∀ wx, Below x0.heap.size x0 wx → Blk wx (w.heap.size + 1) 26 [.int .i64 0, .slice none 0 0] := fun wx hb => KO.out.later hb
    have hRS : ∀ wx, Below x0.heap.size x0 wx → ISRd wx S.bits D.bits := fun wx hb => HR.out.bits.later (B0.out.trans (hb.mono B0.out.size))
    refine region_each (by kernel_rfl) [3, 4, 5, 6, 7, 8, 9] 7 (fun i => [3, 4, 5, 6, 7, 8, 9].getD i 0) (fun _ => 0)
      (fun i gB v wx => match i with
        | 0 => v = .pointer (some ⟨w.heap.size, 0, none⟩)
        | 1 => v = .int .i64 D.top
        | 2 => v = .slice (some ⟨gB, 0, none⟩) 0 0 ∧ IRow wx gB 0 [] ∧ x0.heap.size ≤ gB
        | 3 => v = .pointer (some ⟨w.heap.size, 1, none⟩)
        | 4 => v = .slice S.bits.a S.bits.n S.bits.c
        | 5 => ∃ c, v = .slice (some ⟨gB, 0, none⟩) S.bits.n c ∧ IRow wx gB c (D.bits) ∧ x0.heap.size ≤ gB
        | 6 => ∃ G c, v = .agg #[.int .i64 D.top, .slice (some ⟨G, 0, none⟩) S.bits.n c] ∧ IRow wx G c D.bits ∧ x0.heap.size ≤ G
        | _ => False) (fun wx => Below x0.heap.size x0 wx) (by kernel_rfl) (Below.refl _ _).drew ?_ ?_ ?_
    · intro i gB v wx wy hi hF hb _
      match i, hi with
      | 0, _ => exact hF
      | 1, _ => exact hF
      | 2, _ => obtain ⟨h0, h1, h2⟩ := hF; exact ⟨h0, h1.later hb, h2⟩
      | 3, _ => exact hF
      | 4, _ => exact hF
      | 5, _ => obtain ⟨c, h0, h1, h2⟩ := hF; exact ⟨c, h0, h1.later hb, h2⟩
      | 6, _ => obtain ⟨G, c, h0, h1, h2⟩ := hF; exact ⟨G, c, h0, h1.later hb, h2⟩
    · intro i hi t ρ wx hB hp hd
      match i, hi with
      | 0, _ =>
        have e1 : (fr [3, 4, 5, 6, 7, 8, 9] A t).eval (.tmp 1) = .pointer (some ⟨w.heap.size, 0, none⟩) := (fr_eval_old _ _ _ 1 rfl).trans a1'
        refine op_run (v := .pointer (some ⟨w.heap.size, 0, none⟩)) (w' := wx) rfl rfl ?_ ?_
        · clear hp hd; have ec : ∀ v, (fr [3, 4, 5, 6, 7, 8, 9] A t).eval (.const v) = v := fun _ => rfl; generalize (fr [3, 4, 5, 6, 7, 8, 9] A t).eval = ev at ec e1 ⊢; go_simp
        · exact ⟨_, 0, rfl, hB, Below.refl _ _, rfl, .inl rfl⟩
      | 1, _ =>
        have e3 : (fr [3, 4, 5, 6, 7, 8, 9] A t).eval (.tmp 3) = .pointer (some ⟨w.heap.size, 0, none⟩) := (fr_eval _ _ _ 3 rfl (by rw [asz]; decide)).trans (hp 0 (pre_mem (by kernel_rfl)))
        have hc := (hKA wx hB).cell 0 rfl
        refine op_run (v := .int .i64 D.top) (w' := wx) rfl rfl ?_ ?_
        · clear hp hd; have ec : ∀ v, (fr [3, 4, 5, 6, 7, 8, 9] A t).eval (.const v) = v := fun _ => rfl; generalize (fr [3, 4, 5, 6, 7, 8, 9] A t).eval = ev at ec e3 ⊢; go_simp
        · exact ⟨_, 0, rfl, hB, Below.refl _ _, rfl, .inl rfl⟩
      | 2, _ =>
        refine op_run (v := .slice (some ⟨wx.heap.size, 0, none⟩) 0 0) (w' := wx.alloc (.cells #[] 3)) rfl rfl ?_ ?_
        · clear hp hd; have ec : ∀ v, (fr [3, 4, 5, 6, 7, 8, 9] A t).eval (.const v) = v := fun _ => rfl; generalize (fr [3, 4, 5, 6, 7, 8, 9] A t).eval = ev at ec  ⊢; go_simp
        · exact ⟨_, wx.heap.size, rfl, hB.alloc hB.size _, (Below.refl _ _).alloc (Nat.le_refl _) _, ⟨rfl, irow_new wx [] (by simp), hB.size⟩, .inl rfl⟩
      | 3, _ =>
        have e1 : (fr [3, 4, 5, 6, 7, 8, 9] A t).eval (.tmp 1) = .pointer (some ⟨w.heap.size, 0, none⟩) := (fr_eval_old _ _ _ 1 rfl).trans a1'
        refine op_run (v := .pointer (some ⟨w.heap.size, 1, none⟩)) (w' := wx) rfl rfl ?_ ?_
        · clear hp hd; have ec : ∀ v, (fr [3, 4, 5, 6, 7, 8, 9] A t).eval (.const v) = v := fun _ => rfl; generalize (fr [3, 4, 5, 6, 7, 8, 9] A t).eval = ev at ec e1 ⊢; go_simp
        · exact ⟨_, 0, rfl, hB, Below.refl _ _, rfl, .inl rfl⟩
      | 4, _ =>
        have e6 : (fr [3, 4, 5, 6, 7, 8, 9] A t).eval (.tmp 6) = .pointer (some ⟨w.heap.size, 1, none⟩) := (fr_eval _ _ _ 6 rfl (by rw [asz]; decide)).trans (hp 3 (pre_mem (by kernel_rfl)))
        have hc := (hKA wx hB).cell 1 rfl
        refine op_run (v := .slice S.bits.a S.bits.n S.bits.c) (w' := wx) rfl rfl ?_ ?_
        · clear hp hd; have ec : ∀ v, (fr [3, 4, 5, 6, 7, 8, 9] A t).eval (.const v) = v := fun _ => rfl; generalize (fr [3, 4, 5, 6, 7, 8, 9] A t).eval = ev at ec e6 ⊢; go_simp
        · exact ⟨_, 0, rfl, hB, Below.refl _ _, rfl, .inl rfl⟩
      | 5, _ =>
        obtain ⟨hv2, q2_0, q2_1⟩ := hp 2 (pre_mem (by kernel_rfl))
        have e5 : (fr [3, 4, 5, 6, 7, 8, 9] A t).eval (.tmp 5) = .slice (some ⟨(ρ 2), 0, none⟩) 0 0 := (fr_eval _ _ _ 5 rfl (by rw [asz]; decide)).trans hv2
        have e7 : (fr [3, 4, 5, 6, 7, 8, 9] A t).eval (.tmp 7) = .slice S.bits.a S.bits.n S.bits.c := (fr_eval _ _ _ 7 rfl (by rw [asz]; decide)).trans (hp 4 (pre_mem (by kernel_rfl)))
        refine op_icopy rfl rfl (.tmp 5) (.tmp 7) rfl ((ρ 2)) e5 (q2_0) (S.bits.a) S.bits.n S.bits.c (D.bits) e7 ((hRS wx hB).len) ((hRS wx hB).rd) ((hRS wx hB).nil) (by omega) ?_
        intro g2 c2 wy r2 l2 d2 b2
        exact ⟨_, g2, rfl, hB.trans (b2.mono hB.size), b2, ⟨c2, rfl, r2, by rcases d2 with d2 | d2; (· exact Nat.le_trans hB.size d2); (· rw [d2]; exact q2_1)⟩, .inl rfl⟩
      | 6, _ =>
        have e4 : (fr [3, 4, 5, 6, 7, 8, 9] A t).eval (.tmp 4) = .int .i64 D.top := (fr_eval _ _ _ 4 rfl (by rw [asz]; decide)).trans (hp 1 (pre_mem (by kernel_rfl)))
        obtain ⟨c5, hv5, q5_0, q5_1⟩ := hp 5 (pre_mem (by kernel_rfl))
        have e8 : (fr [3, 4, 5, 6, 7, 8, 9] A t).eval (.tmp 8) = .slice (some ⟨(ρ 5), 0, none⟩) S.bits.n c5 := (fr_eval _ _ _ 8 rfl (by rw [asz]; decide)).trans hv5
        refine op_run (v := .agg #[.int .i64 D.top, .slice (some ⟨(ρ 5), 0, none⟩) S.bits.n c5]) (w' := wx) rfl rfl ?_ ?_
        · clear hp hd q5_0 q5_1; have ec : ∀ v, (fr [3, 4, 5, 6, 7, 8, 9] A t).eval (.const v) = v := fun _ => rfl; generalize (fr [3, 4, 5, 6, 7, 8, 9] A t).eval = ev at ec e4 e8 ⊢; go_simp
        · exact ⟨_, 0, rfl, hB, Below.refl _ _, ⟨_, _, rfl, q5_0, q5_1⟩, .inl rfl⟩
    · intro t ρ wx hB hF hne
      obtain ⟨G6, c6, hv6, q6_0, q6_1⟩ := hF 6 (by decide)
      have e9 : (fr [3, 4, 5, 6, 7, 8, 9] A t).eval (.tmp 9) = .agg #[.int .i64 D.top, .slice (some ⟨G6, 0, none⟩) S.bits.n c6] := (fr_eval _ _ _ 9 rfl (by rw [asz]; decide)).trans hv6
      have e2 : (fr [3, 4, 5, 6, 7, 8, 9] A t).eval (.tmp 2) = .pointer (some ⟨w.heap.size + 1, 0, none⟩) := (fr_eval_old _ _ _ 2 rfl).trans a2'
      clear hne
      have q0 := (hKO wx hB).cell 0 rfl
      have q1 := (hKO wx hB).cell 1 rfl
      have f0 := (hKO wx hB).frozen 0
      have f1 := (hKO wx hB).frozen 1
      have kO : Hid (Blk wx (w.heap.size + 1) 26 [.int .i64 0, .slice none 0 0]) := hKO wx hB
      have rC : Hid (IRow wx G6 c6 D.bits) := q6_0
      have lC : Hid (x0.heap.size ≤ G6) := q6_1
      refine op_wp rfl rfl ?_
      clear hF q6_0 q6_1
      generalize hE : (fr [3, 4, 5, 6, 7, 8, 9] A t).eval = ev at e9 e2
      unfold Oper.wp
      rw [hE]
      go_simp
      refine hMet _ _ (Met.intro (hRJ _ _ ⟨t 3, t 4, t 5, t 6, t 7, t 8, t 9, ⟨G6, c6, hv6, copied kO.out rC.out (Nat.le_trans HSZ.out lC.out) B0.out hB⟩, ?_⟩))
      rw [← hA]; rfl
  case rest =>
    obtain ⟨q, c, rfl, hcp⟩ := hcut
    have HC : Hid (Copied w wc q c S.bits.n D) := hcp
    clear hcp
    go_wp2
    obtain ⟨k1, r1, l1, b1⟩ := HC.out
    exact bodyPost_ret (v := wnV D ⟨⟨some ⟨q, 0, none⟩, S.bits.n, c⟩⟩) (res1 rfl (is_cell rfl k1 aggWn)) rfl ⟨⟨⟨some ⟨q, 0, none⟩, S.bits.n, c⟩⟩, rfl, ⟨ISOwn.row r1 HLen.out (by omega) r1.lt, ⟨⟩⟩, b1⟩
set_option maxRecDepth 100000 in
set_option maxHeartbeats 4000000 in
theorem implCopy (S : WnS) (D : WnD) (w : World) (h : WnRd w S D) (hl : D.bits.length ≤ 4194304) :
    Calls Try.prog 50 #[wnV D S] w fun e w' => ∃ S', e = .returned (wnV D S') ∧ WnOwn w' w.heap.size w'.heap.size S' D ∧ Below w.heap.size w w' := by
  have HR : Hid (WnRd w S D) := h
  have HLen : Hid (S.bits.n = D.bits.length) := h.bits.len
  obtain ⟨x0, hx0⟩ : ∃ x0, (w.alloc (.cells #[.int .i64 D.top, .slice S.bits.a S.bits.n S.bits.c] 26)).alloc (.cells #[.int .i64 0, .slice none 0 0] 26) = x0 := ⟨_, rfl⟩
  have HW0 : Hid (_ = x0) := hx0
  have B0 : Hid (Below w.heap.size w x0) := by rw [← hx0]; exact ((Below.refl _ _).alloc (Nat.le_refl _) _).alloc (by simp) _
  have KA : Hid (Blk x0 w.heap.size 26 [.int .i64 D.top, .slice S.bits.a S.bits.n S.bits.c]) := by rw [← hx0]; exact (Blk.new w _ _).alloc _
  have KO : Hid (Blk x0 (w.heap.size + 1) 26 [.int .i64 0, .slice none 0 0]) := by
    have := Blk.new (w.alloc (.cells #[.int .i64 D.top, .slice S.bits.a S.bits.n S.bits.c] 26)) 26 [.int .i64 0, .slice none 0 0]
    rw [World.size_alloc] at this
    rw [← hx0]; exact this
  have HSZ : Hid (w.heap.size + 2 ≤ x0.heap.size) := by rw [← hx0]; show _ ≤ _; simp
  clear h hx0
  unfold wnV
  go_enter Try.func50, Try.ntmps50
  go_upto_region 1 with fail
  rw [HW0.out]
  clear HW0
  go_cut [9] from 3 to 8 (fun s9 wx => ∃ q c, s9 = .agg #[.int .i64 D.top, .slice (some ⟨q, 0, none⟩) S.bits.n c] ∧ Copied w wx q c S.bits.n D)
  case first =>
    rename_i J K' hRJ hMet
    generalize hA : Act.mk _ _ = A
    have a1' : A.eval (.tmp 1) = .pointer (some ⟨w.heap.size, 0, none⟩) := by rw [← hA]; rfl
    have a2' : A.eval (.tmp 2) = .pointer (some ⟨w.heap.size + 1, 0, none⟩) := by rw [← hA]; rfl
    have asz : A.tmps.size = 10 := by rw [← hA]; rfl
    have hKA : ∀ wx, Below x0.heap.size x0 wx → Blk wx w.heap.size 26 [.int .i64 D.top, .slice S.bits.a S.bits.n S.bits.c] := fun wx hb => KA.out.later hb
    have hKO : ∀ wx, Below x0.heap.size x0 wx → Blk wx (w.heap.size + 1) 26 [.int .i64 0, .slice none 0 0] := fun wx hb => KO.out.later hb
    have hRS : ∀ wx, Below x0.heap.size x0 wx → ISRd wx S.bits D.bits := fun wx hb => HR.out.bits.later (B0.out.trans (hb.mono B0.out.size))
    refine region_each (by kernel_rfl) [3, 4, 5, 6, 7, 8, 9] 7 (fun i => [3, 4, 5, 6, 7, 8, 9].getD i 0) (fun _ => 0)
      (fun i gB v wx => match i with
        | 0 => v = .pointer (some ⟨w.heap.size, 0, none⟩)
        | 1 => v = .int .i64 D.top
        | 2 => v = .slice (some ⟨gB, 0, none⟩) 0 0 ∧ IRow wx gB 0 [] ∧ x0.heap.size ≤ gB
        | 3 => v = .pointer (some ⟨w.heap.size, 1, none⟩)
        | 4 => v = .slice S.bits.a S.bits.n S.bits.c
        | 5 => ∃ c, v = .slice (some ⟨gB, 0, none⟩) S.bits.n c ∧ IRow wx gB c (D.bits) ∧ x0.heap.size ≤ gB
        | 6 => ∃ G c, v = .agg #[.int .i64 D.top, .slice (some ⟨G, 0, none⟩) S.bits.n c] ∧ IRow wx G c D.bits ∧ x0.heap.size ≤ G
        | _ => False) (fun wx => Below x0.heap.size x0 wx) (by kernel_rfl) (Below.refl _ _).drew ?_ ?_ ?_
    · intro i gB v wx wy hi hF hb _
      match i, hi with
      | 0, _ => exact hF
      | 1, _ => exact hF
      | 2, _ => obtain ⟨h0, h1, h2⟩ := hF; exact ⟨h0, h1.later hb, h2⟩
      | 3, _ => exact hF
      | 4, _ => exact hF
      | 5, _ => obtain ⟨c, h0, h1, h2⟩ := hF; exact ⟨c, h0, h1.later hb, h2⟩
      | 6, _ => obtain ⟨G, c, h0, h1, h2⟩ := hF; exact ⟨G, c, h0, h1.later hb, h2⟩
    · intro i hi t ρ wx hB hp hd
      match i, hi with
      | 0, _ =>
        have e1 : (fr [3, 4, 5, 6, 7, 8, 9] A t).eval (.tmp 1) = .pointer (some ⟨w.heap.size, 0, none⟩) := (fr_eval_old _ _ _ 1 rfl).trans a1'
        refine op_run (v := .pointer (some ⟨w.heap.size, 0, none⟩)) (w' := wx) rfl rfl ?_ ?_
        · clear hp hd; have ec : ∀ v, (fr [3, 4, 5, 6, 7, 8, 9] A t).eval (.const v) = v := fun _ => rfl; generalize (fr [3, 4, 5, 6, 7, 8, 9] A t).eval = ev at ec e1 ⊢; go_simp
        · exact ⟨_, 0, rfl, hB, Below.refl _ _, rfl, .inl rfl⟩
      | 1, _ =>
        have e3 : (fr [3, 4, 5, 6, 7, 8, 9] A t).eval (.tmp 3) = .pointer (some ⟨w.heap.size, 0, none⟩) := (fr_eval _ _ _ 3 rfl (by rw [asz]; decide)).trans (hp 0 (pre_mem (by kernel_rfl)))
        have hc := (hKA wx hB).cell 0 rfl
        refine op_run (v := .int .i64 D.top) (w' := wx) rfl rfl ?_ ?_
        · clear hp hd; have ec : ∀ v, (fr [3, 4, 5, 6, 7, 8, 9] A t).eval (.const v) = v := fun _ => rfl; generalize (fr [3, 4, 5, 6, 7, 8, 9] A t).eval = ev at ec e3 ⊢; go_simp
        · exact ⟨_, 0, rfl, hB, Below.refl _ _, rfl, .inl rfl⟩
      | 2, _ =>
        refine op_run (v := .slice (some ⟨wx.heap.size, 0, none⟩) 0 0) (w' := wx.alloc (.cells #[] 3)) rfl rfl ?_ ?_
        · clear hp hd; have ec : ∀ v, (fr [3, 4, 5, 6, 7, 8, 9] A t).eval (.const v) = v := fun _ => rfl; generalize (fr [3, 4, 5, 6, 7, 8, 9] A t).eval = ev at ec  ⊢; go_simp
        · exact ⟨_, wx.heap.size, rfl, hB.alloc hB.size _, (Below.refl _ _).alloc (Nat.le_refl _) _, ⟨rfl, irow_new wx [] (by simp), hB.size⟩, .inl rfl⟩
      | 3, _ =>
        have e1 : (fr [3, 4, 5, 6, 7, 8, 9] A t).eval (.tmp 1) = .pointer (some ⟨w.heap.size, 0, none⟩) := (fr_eval_old _ _ _ 1 rfl).trans a1'
        refine op_run (v := .pointer (some ⟨w.heap.size, 1, none⟩)) (w' := wx) rfl rfl ?_ ?_
        · clear hp hd; have ec : ∀ v, (fr [3, 4, 5, 6, 7, 8, 9] A t).eval (.const v) = v := fun _ => rfl; generalize (fr [3, 4, 5, 6, 7, 8, 9] A t).eval = ev at ec e1 ⊢; go_simp
        · exact ⟨_, 0, rfl, hB, Below.refl _ _, rfl, .inl rfl⟩
      | 4, _ =>
        have e6 : (fr [3, 4, 5, 6, 7, 8, 9] A t).eval (.tmp 6) = .pointer (some ⟨w.heap.size, 1, none⟩) := (fr_eval _ _ _ 6 rfl (by rw [asz]; decide)).trans (hp 3 (pre_mem (by kernel_rfl)))
        have hc := (hKA wx hB).cell 1 rfl
        refine op_run (v := .slice S.bits.a S.bits.n S.bits.c) (w' := wx) rfl rfl ?_ ?_
        · clear hp hd; have ec : ∀ v, (fr [3, 4, 5, 6, 7, 8, 9] A t).eval (.const v) = v := fun _ => rfl; generalize (fr [3, 4, 5, 6, 7, 8, 9] A t).eval = ev at ec e6 ⊢; go_simp
        · exact ⟨_, 0, rfl, hB, Below.refl _ _, rfl, .inl rfl⟩
      | 5, _ =>
        obtain ⟨hv2, q2_0, q2_1⟩ := hp 2 (pre_mem (by kernel_rfl))
        have e5 : (fr [3, 4, 5, 6, 7, 8, 9] A t).eval (.tmp 5) = .slice (some ⟨(ρ 2), 0, none⟩) 0 0 := (fr_eval _ _ _ 5 rfl (by rw [asz]; decide)).trans hv2
        have e7 : (fr [3, 4, 5, 6, 7, 8, 9] A t).eval (.tmp 7) = .slice S.bits.a S.bits.n S.bits.c := (fr_eval _ _ _ 7 rfl (by rw [asz]; decide)).trans (hp 4 (pre_mem (by kernel_rfl)))
        refine op_icopy rfl rfl (.tmp 5) (.tmp 7) rfl ((ρ 2)) e5 (q2_0) (S.bits.a) S.bits.n S.bits.c (D.bits) e7 ((hRS wx hB).len) ((hRS wx hB).rd) ((hRS wx hB).nil) (by omega) ?_
        intro g2 c2 wy r2 l2 d2 b2
        exact ⟨_, g2, rfl, hB.trans (b2.mono hB.size), b2, ⟨c2, rfl, r2, by rcases d2 with d2 | d2; (· exact Nat.le_trans hB.size d2); (· rw [d2]; exact q2_1)⟩, .inl rfl⟩
      | 6, _ =>
        have e4 : (fr [3, 4, 5, 6, 7, 8, 9] A t).eval (.tmp 4) = .int .i64 D.top := (fr_eval _ _ _ 4 rfl (by rw [asz]; decide)).trans (hp 1 (pre_mem (by kernel_rfl)))
        obtain ⟨c5, hv5, q5_0, q5_1⟩ := hp 5 (pre_mem (by kernel_rfl))
        have e8 : (fr [3, 4, 5, 6, 7, 8, 9] A t).eval (.tmp 8) = .slice (some ⟨(ρ 5), 0, none⟩) S.bits.n c5 := (fr_eval _ _ _ 8 rfl (by rw [asz]; decide)).trans hv5
        refine op_run (v := .agg #[.int .i64 D.top, .slice (some ⟨(ρ 5), 0, none⟩) S.bits.n c5]) (w' := wx) rfl rfl ?_ ?_
        · clear hp hd q5_0 q5_1; have ec : ∀ v, (fr [3, 4, 5, 6, 7, 8, 9] A t).eval (.const v) = v := fun _ => rfl; generalize (fr [3, 4, 5, 6, 7, 8, 9] A t).eval = ev at ec e4 e8 ⊢; go_simp
        · exact ⟨_, 0, rfl, hB, Below.refl _ _, ⟨_, _, rfl, q5_0, q5_1⟩, .inl rfl⟩
    · intro t ρ wx hB hF hne
      obtain ⟨G6, c6, hv6, q6_0, q6_1⟩ := hF 6 (by decide)
      have e9 : (fr [3, 4, 5, 6, 7, 8, 9] A t).eval (.tmp 9) = .agg #[.int .i64 D.top, .slice (some ⟨G6, 0, none⟩) S.bits.n c6] := (fr_eval _ _ _ 9 rfl (by rw [asz]; decide)).trans hv6
      have e2 : (fr [3, 4, 5, 6, 7, 8, 9] A t).eval (.tmp 2) = .pointer (some ⟨w.heap.size + 1, 0, none⟩) := (fr_eval_old _ _ _ 2 rfl).trans a2'
      clear hne
      have q0 := (hKO wx hB).cell 0 rfl
      have q1 := (hKO wx hB).cell 1 rfl
      have f0 := (hKO wx hB).frozen 0
      have f1 := (hKO wx hB).frozen 1
      have kO : Hid (Blk wx (w.heap.size + 1) 26 [.int .i64 0, .slice none 0 0]) := hKO wx hB
      have rC : Hid (IRow wx G6 c6 D.bits) := q6_0
      have lC : Hid (x0.heap.size ≤ G6) := q6_1
      refine op_wp rfl rfl ?_
      clear hF q6_0 q6_1
      generalize hE : (fr [3, 4, 5, 6, 7, 8, 9] A t).eval = ev at e9 e2
      unfold Oper.wp
      rw [hE]
      go_simp
      refine hMet _ _ (Met.intro (hRJ _ _ ⟨t 3, t 4, t 5, t 6, t 7, t 8, t 9, ⟨G6, c6, hv6, copied kO.out rC.out (Nat.le_trans HSZ.out lC.out) B0.out hB⟩, ?_⟩))
      rw [← hA]; rfl
  case rest =>
    obtain ⟨q, c, rfl, hcp⟩ := hcut
    have HC : Hid (Copied w wc q c S.bits.n D) := hcp
    clear hcp
    go_wp2
    obtain ⟨k1, r1, l1, b1⟩ := HC.out
    exact bodyPost_ret (v := wnV D ⟨⟨some ⟨q, 0, none⟩, S.bits.n, c⟩⟩) (res1 rfl (is_cell rfl k1 aggWn)) rfl ⟨⟨⟨some ⟨q, 0, none⟩, S.bits.n, c⟩⟩, rfl, ⟨ISOwn.row r1 HLen.out (by omega) r1.lt, ⟨⟩⟩, b1⟩
end Go.Proofs.Ytmcflfpckpjphaa.WnC
