/-
  What spec's DiceOk, l10Copy and Wind answer.
-/
import Derived.Test.YtcodonnknepkeaaDoorDig1
import Derived.Test.YtcodonnknepkeaaDoorApp
import Derived.Test.YtcodonnknepkeaaDoorDig2
namespace Go.Proofs.YtcodonnknepkeaaDoor.DiS
open Go.RowKit Go.Proofs.YtcodonnknepkeaaDoor.Mem Go.Proofs.YtcodonnknepkeaaDoor.App Go.Proofs.YtcodonnknepkeaaDoor.Blk Go.Proofs.YtcodonnknepkeaaDoor.Words Go.Proofs.YtcodonnknepkeaaDoor.Zone Go.Proofs.YtcodonnknepkeaaDoor.Res Go.Proofs.YtcodonnknepkeaaDoor.DiZ Go.Proofs.YtcodonnknepkeaaDoor.DiL Go.Proofs.YtcodonnknepkeaaDoor.DiP Go.Proofs.YtcodonnknepkeaaDoor.Each Go.Proofs.YtcodonnknepkeaaDoor.Copy Go.Proofs.YtcodonnknepkeaaDoor.Ops

/-- What a copy has left. -/
def Copied (w wx : World) (q c n : Nat) (D : DiD) : Prop := Blk wx (w.heap.size + 1) 25 [.slice (some ⟨q, 0, none⟩) n c, .int .i64 D.num] ∧ Row wx q c D.seed ∧ w.heap.size + 2 ≤ q ∧ Below w.heap.size w wx
set_option maxRecDepth 100000 in
theorem copied {w x0 wx : World} {q c n : Nat} {D : DiD} (k : Blk wx (w.heap.size + 1) 25 [.slice none 0 0, .int .i64 0]) (r : Row wx q c D.seed) (l : w.heap.size + 2 ≤ q) (b0 : Below w.heap.size w x0) (b : Below x0.heap.size x0 wx) :
    Copied w ((wx.setCell ⟨w.heap.size + 1, 0, none⟩ (.slice (some ⟨q, 0, none⟩) n c)).setCell ⟨w.heap.size + 1, 1, none⟩ (.int .i64 D.num)) q c n D :=
  ⟨(k.set 0 _ (by simp [maxLen])).set 1 _ (by simp [maxLen]), (r.keep (Below.heap_setCell _ _ _ _ (by show q ≠ w.heap.size + 1; omega))).keep (Below.heap_setCell _ _ _ _ (by show q ≠ w.heap.size + 1; omega)), l, ((b0.trans (b.mono b0.size)).setCell (by show w.heap.size ≤ w.heap.size + 1; omega) _).setCell (by show w.heap.size ≤ w.heap.size + 1; omega) _⟩
set_option maxRecDepth 100000 in
set_option maxHeartbeats 4000000 in
theorem specDiceOk (S : DiS) (D : DiD) (w : World) (h : DiRd w S D) :
    Calls Tryd.prog 10 #[diV D S] w fun e w' => e = .returned (.bool (diOk D)) ∧ Below w.heap.size w w' := by
  obtain ⟨v, hv⟩ : ∃ v, diOk D = v := ⟨_, rfl⟩
  have HV : Hid (diOk D = v) := hv
  have HN : Hid (S.seed.n = D.seed.length) := h.seed.len
  rw [hv]
  obtain ⟨x0, hx0⟩ : ∃ x0, w.alloc (.cells #[.slice S.seed.a S.seed.n S.seed.c, .int .i64 D.num] 25) = x0 := ⟨_, rfl⟩
  have HW0 : Hid (w.alloc (.cells #[.slice S.seed.a S.seed.n S.seed.c, .int .i64 D.num] 25) = x0) := hx0
  have B0 : Hid (Below w.heap.size w x0) := by rw [← hx0]; exact (Below.refl _ _).alloc (Nat.le_refl _) _
  have K0 : Hid (Blk x0 w.heap.size 25 [.slice S.seed.a S.seed.n S.seed.c, .int .i64 D.num]) := by rw [← hx0]; exact Blk.new w _ _
  clear h hv hx0
  unfold diV
  go_enter Tryd.func10, Tryd.ntmps10
  go_upto_region 1 with fail
  rw [HW0.out]
  obtain ⟨ga, hga⟩ : ∃ ga, w.heap.size = ga := ⟨_, rfl⟩
  rw [hga] at K0
  rw [hga]
  clear hga HW0
  have d0 := K0.out.cell 0 rfl
  have d1 := K0.out.cell 1 rfl
  go_wp2_with fail
  refine (Words.l1In (S.seed.n : Int) 1 32 x0).mono ?_
  rintro e y ⟨rfl, rfl⟩
  cases h0 : seedOk S.seed.n with
  | false =>
    obtain rfl : v = false := by rw [← HV.out]; unfold diOk; rw [← HN.out, h0]; rfl
    have h0' : isIn (S.seed.n : Int) 1 32 = false := h0
    go_wp2
    go_ret
    exact ⟨rfl, B0.out⟩
  | true =>
    obtain rfl : v = rollOk D.num := by rw [← HV.out]; unfold diOk; rw [← HN.out, h0]; rfl
    have h0' : isIn (S.seed.n : Int) 1 32 = true := h0
    go_wp2_with fail
    refine (Words.l1In D.num 0 10000 x0).mono ?_
    rintro e y ⟨rfl, rfl⟩
    go_wp2
    go_ret
    exact ⟨rfl, B0.out⟩

set_option maxRecDepth 100000 in
set_option maxHeartbeats 4000000 in
theorem specCopy (S : DiS) (D : DiD) (w : World) (h : DiRd w S D) (hl : D.seed.length ≤ 4194304) :
    Calls Tryd.prog 38 #[diV D S] w (AnsD D w) := by
  have HR : Hid (DiRd w S D) := h
  have HLen : Hid (S.seed.n = D.seed.length) := h.seed.len
  obtain ⟨x0, hx0⟩ : ∃ x0, (w.alloc (.cells #[.slice S.seed.a S.seed.n S.seed.c, .int .i64 D.num] 25)).alloc (.cells #[.slice none 0 0, .int .i64 0] 25) = x0 := ⟨_, rfl⟩
  have HW0 : Hid ((w.alloc (.cells #[.slice S.seed.a S.seed.n S.seed.c, .int .i64 D.num] 25)).alloc (.cells #[.slice none 0 0, .int .i64 0] 25) = x0) := hx0
  have B0 : Hid (Below w.heap.size w x0) := by rw [← hx0]; exact ((Below.refl _ _).alloc (Nat.le_refl _) _).alloc (by simp) _
  have KA : Hid (Blk x0 w.heap.size 25 [.slice S.seed.a S.seed.n S.seed.c, .int .i64 D.num]) := by rw [← hx0]; exact (Blk.new w _ _).alloc _
  have KO : Hid (Blk x0 (w.heap.size + 1) 25 [.slice none 0 0, .int .i64 0]) := by
    have := Blk.new (w.alloc (.cells #[.slice S.seed.a S.seed.n S.seed.c, .int .i64 D.num] 25)) 25 [.slice none 0 0, .int .i64 0]
    rw [World.size_alloc] at this
    rw [← hx0]; exact this
  have HSZ : Hid (w.heap.size + 2 ≤ x0.heap.size) := by rw [← hx0]; show _ ≤ _; simp
  clear h hx0
  unfold diV
  go_enter Tryd.func38, Tryd.ntmps38
  go_upto_region 1 with fail
  rw [HW0.out]
  clear HW0
  go_cut [9] from 3 to 8 (fun s9 wx => ∃ q c, s9 = .agg #[.slice (some ⟨q, 0, none⟩) S.seed.n c, .int .i64 D.num] ∧ Copied w wx q c S.seed.n D)
  case first =>
    rename_i J K' hRJ hMet
    generalize hA : Act.mk _ _ = A
    have a1' : A.eval (.tmp 1) = .pointer (some ⟨w.heap.size, 0, none⟩) := by rw [← hA]; rfl
    have a2' : A.eval (.tmp 2) = .pointer (some ⟨w.heap.size + 1, 0, none⟩) := by rw [← hA]; rfl
    have asz : A.tmps.size = 10 := by rw [← hA]; rfl
    have hKA : ∀ wx, Below x0.heap.size x0 wx → Blk wx w.heap.size 25 [.slice S.seed.a S.seed.n S.seed.c, .int .i64 D.num] := fun wx hb => KA.out.later hb
    have hKO : ∀ wx, Below x0.heap.size x0 wx → Blk wx (w.heap.size + 1) 25 [.slice none 0 0, .int .i64 0] := fun wx hb => KO.out.later hb
    have hRS : ∀ wx, Below x0.heap.size x0 wx → SRd wx S.seed D.seed := fun wx hb => HR.out.seed.later (B0.out.trans (hb.mono B0.out.size))
    refine region_each (by kernel_rfl) [3, 4, 5, 6, 7, 8, 9] 7 (fun i => [3, 4, 5, 6, 7, 8, 9].getD i 0) (fun _ => 0)
      (fun i gB v wx => match i with
        | 0 => v = .slice (some ⟨gB, 0, none⟩) 0 0 ∧ Row wx gB 0 [] ∧ x0.heap.size ≤ gB
        | 1 => v = .pointer (some ⟨w.heap.size, 0, none⟩)
        | 2 => v = .slice S.seed.a S.seed.n S.seed.c
        | 3 => ∃ c, v = .slice (some ⟨gB, 0, none⟩) S.seed.n c ∧ Row wx gB c (D.seed) ∧ x0.heap.size ≤ gB
        | 4 => v = .pointer (some ⟨w.heap.size, 1, none⟩)
        | 5 => v = .int .i64 D.num
        | 6 => ∃ G c, v = .agg #[.slice (some ⟨G, 0, none⟩) S.seed.n c, .int .i64 D.num] ∧ Row wx G c D.seed ∧ x0.heap.size ≤ G
        | _ => False) (fun wx => Below x0.heap.size x0 wx) (by kernel_rfl) (Below.refl _ _).drew ?_ ?_ ?_
    · intro i gB v wx wy hi hF hb _
      match i, hi with
      | 0, _ => obtain ⟨h0, h1, h2⟩ := hF; exact ⟨h0, h1.later hb, h2⟩
      | 1, _ => exact hF
      | 2, _ => exact hF
      | 3, _ => obtain ⟨c, h0, h1, h2⟩ := hF; exact ⟨c, h0, h1.later hb, h2⟩
      | 4, _ => exact hF
      | 5, _ => exact hF
      | 6, _ => obtain ⟨G, c, h0, h1, h2⟩ := hF; exact ⟨G, c, h0, h1.later hb, h2⟩
    · intro i hi t ρ wx hB hp hd
      match i, hi with
      | 0, _ =>
        refine op_run (v := .slice (some ⟨wx.heap.size, 0, none⟩) 0 0) (w' := wx.alloc (.cells #[] 5)) rfl rfl ?_ ?_
        · clear hp hd; have ec : ∀ v, (fr [3, 4, 5, 6, 7, 8, 9] A t).eval (.const v) = v := fun _ => rfl; generalize (fr [3, 4, 5, 6, 7, 8, 9] A t).eval = ev at ec  ⊢; go_simp
        · exact ⟨_, wx.heap.size, rfl, hB.alloc hB.size _, (Below.refl _ _).alloc (Nat.le_refl _) _, ⟨rfl, row_new wx [] (by simp), hB.size⟩, .inl rfl⟩
      | 1, _ =>
        have e1 : (fr [3, 4, 5, 6, 7, 8, 9] A t).eval (.tmp 1) = .pointer (some ⟨w.heap.size, 0, none⟩) := (fr_eval_old _ _ _ 1 rfl).trans a1'
        refine op_run (v := .pointer (some ⟨w.heap.size, 0, none⟩)) (w' := wx) rfl rfl ?_ ?_
        · clear hp hd; have ec : ∀ v, (fr [3, 4, 5, 6, 7, 8, 9] A t).eval (.const v) = v := fun _ => rfl; generalize (fr [3, 4, 5, 6, 7, 8, 9] A t).eval = ev at ec e1 ⊢; go_simp
        · exact ⟨_, 0, rfl, hB, Below.refl _ _, rfl, .inl rfl⟩
      | 2, _ =>
        have e4 : (fr [3, 4, 5, 6, 7, 8, 9] A t).eval (.tmp 4) = .pointer (some ⟨w.heap.size, 0, none⟩) := (fr_eval _ _ _ 4 rfl (by rw [asz]; decide)).trans (hp 1 (pre_mem (by kernel_rfl)))
        have hc := (hKA wx hB).cell 0 rfl
        refine op_run (v := .slice S.seed.a S.seed.n S.seed.c) (w' := wx) rfl rfl ?_ ?_
        · clear hp hd; have ec : ∀ v, (fr [3, 4, 5, 6, 7, 8, 9] A t).eval (.const v) = v := fun _ => rfl; generalize (fr [3, 4, 5, 6, 7, 8, 9] A t).eval = ev at ec e4 ⊢; go_simp
        · exact ⟨_, 0, rfl, hB, Below.refl _ _, rfl, .inl rfl⟩
      | 3, _ =>
        obtain ⟨hv0, q0_0, q0_1⟩ := hp 0 (pre_mem (by kernel_rfl))
        have e3 : (fr [3, 4, 5, 6, 7, 8, 9] A t).eval (.tmp 3) = .slice (some ⟨(ρ 0), 0, none⟩) 0 0 := (fr_eval _ _ _ 3 rfl (by rw [asz]; decide)).trans hv0
        have e5 : (fr [3, 4, 5, 6, 7, 8, 9] A t).eval (.tmp 5) = .slice S.seed.a S.seed.n S.seed.c := (fr_eval _ _ _ 5 rfl (by rw [asz]; decide)).trans (hp 2 (pre_mem (by kernel_rfl)))
        refine op_copy rfl rfl (.tmp 3) (.tmp 5) rfl ((ρ 0)) e3 (q0_0) (S.seed.a) S.seed.n S.seed.c (D.seed) e5 ((hRS wx hB).len) ((hRS wx hB).rd) ((hRS wx hB).nil) (by omega) ?_
        intro g2 c2 wy r2 l2 d2 b2
        exact ⟨_, g2, rfl, hB.trans (b2.mono hB.size), b2, ⟨c2, rfl, r2, by rcases d2 with d2 | d2; (· exact Nat.le_trans hB.size d2); (· rw [d2]; exact q0_1)⟩, .inl rfl⟩
      | 4, _ =>
        have e1 : (fr [3, 4, 5, 6, 7, 8, 9] A t).eval (.tmp 1) = .pointer (some ⟨w.heap.size, 0, none⟩) := (fr_eval_old _ _ _ 1 rfl).trans a1'
        refine op_run (v := .pointer (some ⟨w.heap.size, 1, none⟩)) (w' := wx) rfl rfl ?_ ?_
        · clear hp hd; have ec : ∀ v, (fr [3, 4, 5, 6, 7, 8, 9] A t).eval (.const v) = v := fun _ => rfl; generalize (fr [3, 4, 5, 6, 7, 8, 9] A t).eval = ev at ec e1 ⊢; go_simp
        · exact ⟨_, 0, rfl, hB, Below.refl _ _, rfl, .inl rfl⟩
      | 5, _ =>
        have e7 : (fr [3, 4, 5, 6, 7, 8, 9] A t).eval (.tmp 7) = .pointer (some ⟨w.heap.size, 1, none⟩) := (fr_eval _ _ _ 7 rfl (by rw [asz]; decide)).trans (hp 4 (pre_mem (by kernel_rfl)))
        have hc := (hKA wx hB).cell 1 rfl
        refine op_run (v := .int .i64 D.num) (w' := wx) rfl rfl ?_ ?_
        · clear hp hd; have ec : ∀ v, (fr [3, 4, 5, 6, 7, 8, 9] A t).eval (.const v) = v := fun _ => rfl; generalize (fr [3, 4, 5, 6, 7, 8, 9] A t).eval = ev at ec e7 ⊢; go_simp
        · exact ⟨_, 0, rfl, hB, Below.refl _ _, rfl, .inl rfl⟩
      | 6, _ =>
        obtain ⟨c3, hv3, q3_0, q3_1⟩ := hp 3 (pre_mem (by kernel_rfl))
        have e6 : (fr [3, 4, 5, 6, 7, 8, 9] A t).eval (.tmp 6) = .slice (some ⟨(ρ 3), 0, none⟩) S.seed.n c3 := (fr_eval _ _ _ 6 rfl (by rw [asz]; decide)).trans hv3
        have e8 : (fr [3, 4, 5, 6, 7, 8, 9] A t).eval (.tmp 8) = .int .i64 D.num := (fr_eval _ _ _ 8 rfl (by rw [asz]; decide)).trans (hp 5 (pre_mem (by kernel_rfl)))
        refine op_run (v := .agg #[.slice (some ⟨(ρ 3), 0, none⟩) S.seed.n c3, .int .i64 D.num]) (w' := wx) rfl rfl ?_ ?_
        · clear hp hd q3_0 q3_1; have ec : ∀ v, (fr [3, 4, 5, 6, 7, 8, 9] A t).eval (.const v) = v := fun _ => rfl; generalize (fr [3, 4, 5, 6, 7, 8, 9] A t).eval = ev at ec e6 e8 ⊢; go_simp
        · exact ⟨_, 0, rfl, hB, Below.refl _ _, ⟨_, _, rfl, q3_0, q3_1⟩, .inl rfl⟩
    · intro t ρ wx hB hF hne
      obtain ⟨G6, c6, hv6, q6_0, q6_1⟩ := hF 6 (by decide)
      have e9 : (fr [3, 4, 5, 6, 7, 8, 9] A t).eval (.tmp 9) = .agg #[.slice (some ⟨G6, 0, none⟩) S.seed.n c6, .int .i64 D.num] := (fr_eval _ _ _ 9 rfl (by rw [asz]; decide)).trans hv6
      have e2 : (fr [3, 4, 5, 6, 7, 8, 9] A t).eval (.tmp 2) = .pointer (some ⟨w.heap.size + 1, 0, none⟩) := (fr_eval_old _ _ _ 2 rfl).trans a2'
      clear hne
      have q0 := (hKO wx hB).cell 0 rfl
      have q1 := (hKO wx hB).cell 1 rfl
      have f0 := (hKO wx hB).frozen 0
      have f1 := (hKO wx hB).frozen 1
      have kO : Hid (Blk wx (w.heap.size + 1) 25 [.slice none 0 0, .int .i64 0]) := hKO wx hB
      have rC : Hid (Row wx G6 c6 D.seed) := q6_0
      have lC : Hid (x0.heap.size ≤ G6) := q6_1
      refine op_wp rfl rfl ?_
      clear hF q6_0 q6_1
      generalize hE : (fr [3, 4, 5, 6, 7, 8, 9] A t).eval = ev at e9 e2
      unfold Oper.wp
      rw [hE]
      go_simp
      refine hMet _ _ (Met.intro (hRJ _ _ ⟨t 3, t 4, t 5, t 6, t 7, t 8, t 9, ⟨G6, c6, hv6, copied kO.out rC.out (Nat.le_trans HSZ.out lC.out) B0.out hB⟩, ?_⟩))
      rw [← hA]; rfl
  case rest =>
    obtain ⟨q, c, rfl, hcp⟩ := hcut
    have HC : Hid (Copied w wc q c S.seed.n D) := hcp
    clear hcp
    go_wp2
    obtain ⟨k1, r1, l1, b1⟩ := HC.out
    exact bodyPost_ret (v := diV D ⟨⟨some ⟨q, 0, none⟩, S.seed.n, c⟩⟩) (res1 rfl (is_cell rfl k1 aggDi)) rfl ⟨⟨⟨some ⟨q, 0, none⟩, S.seed.n, c⟩⟩, rfl, ⟨SOwn.row r1 HLen.out HR.out.seed.bytes (by omega) r1.lt, ⟨⟩⟩, b1⟩

end Go.Proofs.YtcodonnknepkeaaDoor.DiS
