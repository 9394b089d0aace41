/-
  What impl's isSeed, isRoll, DiceOk, copyDice and Wind answer.
-/
import Derived.Test.YtcodonnknepkeaaDoorDig1
import Derived.Test.YtcodonnknepkeaaDoorApp
import Derived.Test.YtcodonnknepkeaaDoorDig2
namespace Go.Proofs.YtcodonnknepkeaaDoor.DiI
open Go.RowKit Go.Proofs.YtcodonnknepkeaaDoor.Mem Go.Proofs.YtcodonnknepkeaaDoor.App Go.Proofs.YtcodonnknepkeaaDoor.Blk Go.Proofs.YtcodonnknepkeaaDoor.Words Go.Proofs.YtcodonnknepkeaaDoor.Zone Go.Proofs.YtcodonnknepkeaaDoor.Res Go.Proofs.YtcodonnknepkeaaDoor.DiZ Go.Proofs.YtcodonnknepkeaaDoor.DiL Go.Proofs.YtcodonnknepkeaaDoor.DiP Go.Proofs.YtcodonnknepkeaaDoor.Each Go.Proofs.YtcodonnknepkeaaDoor.Copy Go.Proofs.YtcodonnknepkeaaDoor.Ops

/-- What a copy has left. -/
def Copied (w wx : World) (q c n : Nat) (D : DiD) : Prop := Blk wx (w.heap.size + 1) 25 [.slice (some ⟨q, 0, none⟩) n c, .int .i64 D.num] ∧ Row wx q c D.seed ∧ w.heap.size + 2 ≤ q ∧ Below w.heap.size w wx
set_option maxRecDepth 100000 in
theorem copied {w x0 wx : World} {q c n : Nat} {D : DiD} (k : Blk wx (w.heap.size + 1) 25 [.slice none 0 0, .int .i64 0]) (r : Row wx q c D.seed) (l : w.heap.size + 2 ≤ q) (b0 : Below w.heap.size w x0) (b : Below x0.heap.size x0 wx) :
    Copied w ((wx.setCell ⟨w.heap.size + 1, 0, none⟩ (.slice (some ⟨q, 0, none⟩) n c)).setCell ⟨w.heap.size + 1, 1, none⟩ (.int .i64 D.num)) q c n D :=
  ⟨(k.set 0 _ (by simp [maxLen])).set 1 _ (by simp [maxLen]), (r.keep (Below.heap_setCell _ _ _ _ (by show q ≠ w.heap.size + 1; omega))).keep (Below.heap_setCell _ _ _ _ (by show q ≠ w.heap.size + 1; omega)), l, ((b0.trans (b.mono b0.size)).setCell (by show w.heap.size ≤ w.heap.size + 1; omega) _).setCell (by show w.heap.size ≤ w.heap.size + 1; omega) _⟩
set_option maxRecDepth 100000 in
theorem isSeed (a : Option Addr) (n c : Nat) (w : World) :
    Calls Tryd.prog 29 #[.slice a n c] w fun e w' => e = .returned (.bool (seedOk n)) ∧ w = w' := by
  by_cases h1 : (n : Int) ≥ 1
  · by_cases h2 : (n : Int) ≤ 32
    · have H : Hid (seedOk n = true) := isIn_yes ⟨h1, h2⟩
      go_enter Tryd.func29, Tryd.ntmps29
      go_wp2
      go_ret
      exact ⟨by rw [H.out]; rfl, rfl⟩
    · have H : Hid (seedOk n = false) := isIn_no (fun h => h2 h.2)
      go_enter Tryd.func29, Tryd.ntmps29
      go_wp2
      go_ret
      exact ⟨by rw [H.out]; rfl, rfl⟩
  · have H : Hid (seedOk n = false) := isIn_no (fun h => h1 h.1)
    go_enter Tryd.func29, Tryd.ntmps29
    go_wp2
    go_ret
    exact ⟨by rw [H.out]; rfl, rfl⟩
set_option maxRecDepth 100000 in
theorem isRoll (n : Int) (w : World) :
    Calls Tryd.prog 30 #[.int .i64 n] w fun e w' => e = .returned (.bool (rollOk n)) ∧ w = w' := by
  by_cases h1 : n ≥ 0
  · by_cases h2 : n ≤ 10000
    · have H : Hid (rollOk n = true) := isIn_yes ⟨h1, h2⟩
      go_enter Tryd.func30, Tryd.ntmps30
      go_wp2
      go_ret
      exact ⟨by rw [H.out]; rfl, rfl⟩
    · have H : Hid (rollOk n = false) := isIn_no (fun h => h2 h.2)
      go_enter Tryd.func30, Tryd.ntmps30
      go_wp2
      go_ret
      exact ⟨by rw [H.out]; rfl, rfl⟩
  · have H : Hid (rollOk n = false) := isIn_no (fun h => h1 h.1)
    go_enter Tryd.func30, Tryd.ntmps30
    go_wp2
    go_ret
    exact ⟨by rw [H.out]; rfl, rfl⟩

set_option maxRecDepth 100000 in
set_option maxHeartbeats 4000000 in
theorem implDiceOk (S : DiS) (D : DiD) (w : World) (h : DiRd w S D) :
    Calls Tryd.prog 9 #[diV D S] w fun e w' => e = .returned (.bool (diOk D)) ∧ Below w.heap.size w w' := by
  obtain ⟨v, hv⟩ : ∃ v, diOk D = v := ⟨_, rfl⟩
  have HV : Hid (diOk D = v) := hv
  have HN : Hid (S.seed.n = D.seed.length) := h.seed.len
  rw [hv]
  obtain ⟨x0, hx0⟩ : ∃ x0, w.alloc (.cells #[.slice S.seed.a S.seed.n S.seed.c, .int .i64 D.num] 25) = x0 := ⟨_, rfl⟩
  have HW0 : Hid (w.alloc (.cells #[.slice S.seed.a S.seed.n S.seed.c, .int .i64 D.num] 25) = x0) := hx0
  have B0 : Hid (Below w.heap.size w x0) := by rw [← hx0]; exact (Below.refl _ _).alloc (Nat.le_refl _) _
  have K0 : Hid (Blk x0 w.heap.size 25 [.slice S.seed.a S.seed.n S.seed.c, .int .i64 D.num]) := by rw [← hx0]; exact Blk.new w _ _
  clear h hv hx0
  unfold diV
  go_enter Tryd.func9, Tryd.ntmps9
  go_upto_region 1 with fail
  rw [HW0.out]
  obtain ⟨ga, hga⟩ : ∃ ga, w.heap.size = ga := ⟨_, rfl⟩
  rw [hga] at K0
  rw [hga]
  clear hga HW0
  have d0 := K0.out.cell 0 rfl
  have d1 := K0.out.cell 1 rfl
  go_wp2_with fail
  refine (isSeed S.seed.a S.seed.n S.seed.c x0).mono ?_
  rintro e y ⟨rfl, rfl⟩
  cases h0 : seedOk S.seed.n with
  | false =>
    obtain rfl : v = false := by rw [← HV.out]; unfold diOk; rw [← HN.out, h0]; rfl
    have h0' : isIn (S.seed.n : Int) 1 32 = false := h0
    go_wp2
    go_ret
    exact ⟨rfl, B0.out⟩
  | true =>
    obtain rfl : v = rollOk D.num := by rw [← HV.out]; unfold diOk; rw [← HN.out, h0]; rfl
    have h0' : isIn (S.seed.n : Int) 1 32 = true := h0
    go_wp2_with fail
    refine (isRoll D.num x0).mono ?_
    rintro e y ⟨rfl, rfl⟩
    go_wp2
    go_ret
    exact ⟨rfl, B0.out⟩

set_option maxRecDepth 100000 in
set_option maxHeartbeats 4000000 in
theorem implCopy (S : DiS) (D : DiD) (w : World) (h : DiRd w S D) (hl : D.seed.length ≤ 4194304) :
    Calls Tryd.prog 27 #[diV D S] w (AnsD D w) := by
  have HR : Hid (DiRd w S D) := h
  have HLen : Hid (S.seed.n = D.seed.length) := h.seed.len
  obtain ⟨x0, hx0⟩ : ∃ x0, (w.alloc (.cells #[.slice S.seed.a S.seed.n S.seed.c, .int .i64 D.num] 25)).alloc (.cells #[.slice none 0 0, .int .i64 0] 25) = x0 := ⟨_, rfl⟩
  have HW0 : Hid ((w.alloc (.cells #[.slice S.seed.a S.seed.n S.seed.c, .int .i64 D.num] 25)).alloc (.cells #[.slice none 0 0, .int .i64 0] 25) = x0) := hx0
  have B0 : Hid (Below w.heap.size w x0) := by rw [← hx0]; exact ((Below.refl _ _).alloc (Nat.le_refl _) _).alloc (by simp) _
  have KA : Hid (Blk x0 w.heap.size 25 [.slice S.seed.a S.seed.n S.seed.c, .int .i64 D.num]) := by rw [← hx0]; exact (Blk.new w _ _).alloc _
  have KO : Hid (Blk x0 (w.heap.size + 1) 25 [.slice none 0 0, .int .i64 0]) := by
    have := Blk.new (w.alloc (.cells #[.slice S.seed.a S.seed.n S.seed.c, .int .i64 D.num] 25)) 25 [.slice none 0 0, .int .i64 0]
    rw [World.size_alloc] at this
    rw [← hx0]; exact this
  have HSZ : Hid (w.heap.size + 2 ≤ x0.heap.size) := by rw [← hx0]; show _ ≤ _; simp
  clear h hx0
  unfold diV
  go_enter Tryd.func27, Tryd.ntmps27
  go_upto_region 1 with fail
  rw [HW0.out]
  clear HW0
  go_cut [8] from 3 to 7 (fun s9 wx => ∃ q c, s9 = .agg #[.slice (some ⟨q, 0, none⟩) S.seed.n c, .int .i64 D.num] ∧ Copied w wx q c S.seed.n D)
  case first =>
    rename_i J K' hRJ hMet
    generalize hA : Act.mk _ _ = A
    have a1' : A.eval (.tmp 1) = .pointer (some ⟨w.heap.size, 0, none⟩) := by rw [← hA]; rfl
    have a2' : A.eval (.tmp 2) = .pointer (some ⟨w.heap.size + 1, 0, none⟩) := by rw [← hA]; rfl
    have asz : A.tmps.size = 9 := by rw [← hA]; rfl
    have hKA : ∀ wx, Below x0.heap.size x0 wx → Blk wx w.heap.size 25 [.slice S.seed.a S.seed.n S.seed.c, .int .i64 D.num] := fun wx hb => KA.out.later hb
    have hKO : ∀ wx, Below x0.heap.size x0 wx → Blk wx (w.heap.size + 1) 25 [.slice none 0 0, .int .i64 0] := fun wx hb => KO.out.later hb
    have hRS : ∀ wx, Below x0.heap.size x0 wx → SRd wx S.seed D.seed := fun wx hb => HR.out.seed.later (B0.out.trans (hb.mono B0.out.size))
    refine region_each (by kernel_rfl) [3, 4, 5, 6, 7, 8] 6 (fun i => [3, 4, 5, 6, 7, 8].getD i 0) (fun _ => 0)
      (fun i gB v wx => match i with
        | 0 => v = .pointer (some ⟨w.heap.size, 0, none⟩)
        | 1 => v = .slice S.seed.a S.seed.n S.seed.c
        | 2 => ∃ c, v = .slice (some ⟨gB, 0, none⟩) S.seed.n c ∧ Row wx gB c D.seed ∧ x0.heap.size ≤ gB
        | 3 => v = .pointer (some ⟨w.heap.size, 1, none⟩)
        | 4 => v = .int .i64 D.num
        | 5 => ∃ G c, v = .agg #[.slice (some ⟨G, 0, none⟩) S.seed.n c, .int .i64 D.num] ∧ Row wx G c D.seed ∧ x0.heap.size ≤ G
        | _ => False) (fun wx => Below x0.heap.size x0 wx) (by kernel_rfl) (Below.refl _ _).drew ?_ ?_ ?_
    · intro i gB v wx wy hi hF hb _
      match i, hi with
      | 0, _ => exact hF
      | 1, _ => exact hF
      | 2, _ => obtain ⟨c, h0, h1, h2⟩ := hF; exact ⟨c, h0, h1.later hb, h2⟩
      | 3, _ => exact hF
      | 4, _ => exact hF
      | 5, _ => obtain ⟨G, c, h0, h1, h2⟩ := hF; exact ⟨G, c, h0, h1.later hb, h2⟩
    · intro i hi t ρ wx hB hp hd
      match i, hi with
      | 0, _ =>
        have e1 : (fr [3, 4, 5, 6, 7, 8] A t).eval (.tmp 1) = .pointer (some ⟨w.heap.size, 0, none⟩) := (fr_eval_old _ _ _ 1 rfl).trans a1'
        refine op_run (v := .pointer (some ⟨w.heap.size, 0, none⟩)) (w' := wx) rfl rfl ?_ ?_
        · clear hp hd; have ec : ∀ v, (fr [3, 4, 5, 6, 7, 8] A t).eval (.const v) = v := fun _ => rfl; generalize (fr [3, 4, 5, 6, 7, 8] A t).eval = ev at ec e1 ⊢; go_simp
        · exact ⟨_, 0, rfl, hB, Below.refl _ _, rfl, .inl rfl⟩
      | 1, _ =>
        have e3 : (fr [3, 4, 5, 6, 7, 8] A t).eval (.tmp 3) = .pointer (some ⟨w.heap.size, 0, none⟩) := (fr_eval _ _ _ 3 rfl (by rw [asz]; decide)).trans (hp 0 (pre_mem (by kernel_rfl)))
        have hc := (hKA wx hB).cell 0 rfl
        refine op_run (v := .slice S.seed.a S.seed.n S.seed.c) (w' := wx) rfl rfl ?_ ?_
        · clear hp hd; have ec : ∀ v, (fr [3, 4, 5, 6, 7, 8] A t).eval (.const v) = v := fun _ => rfl; generalize (fr [3, 4, 5, 6, 7, 8] A t).eval = ev at ec e3 ⊢; go_simp
        · exact ⟨_, 0, rfl, hB, Below.refl _ _, rfl, .inl rfl⟩
      | 2, _ =>
        have e4 : (fr [3, 4, 5, 6, 7, 8] A t).eval (.tmp 4) = .slice S.seed.a S.seed.n S.seed.c := (fr_eval _ _ _ 4 rfl (by rw [asz]; decide)).trans (hp 1 (pre_mem (by kernel_rfl)))
        refine op_call (f := 34) (args := #[.slice S.seed.a S.seed.n S.seed.c, .slice none 0 0]) rfl rfl ?_ (putBytes S.seed.a none S.seed.n S.seed.c 0 0 D.seed [] wx (hRS wx hB).len rfl (hRS wx hB).rd (fun i hi => by cases hi) (hRS wx hB).nil (fun _ => rfl) hl (by simp)) ?_
        · have ef : (fr [3, 4, 5, 6, 7, 8] A t).eval (.func 34) = .func (.func 34) #[] #[] := rfl; clear hp hd; have ec : ∀ v, (fr [3, 4, 5, 6, 7, 8] A t).eval (.const v) = v := fun _ => rfl; generalize (fr [3, 4, 5, 6, 7, 8] A t).eval = ev at ec e4 ef ⊢; go_simp
        · rintro e wy ⟨rfl, r1, b1⟩
          exact ⟨_, rfl, _, wx.heap.size, rfl, hB.trans (b1.mono hB.size), b1, ⟨_, rfl, (List.append_nil D.seed) ▸ r1, hB.size⟩, .inl rfl⟩
      | 3, _ =>
        have e1 : (fr [3, 4, 5, 6, 7, 8] A t).eval (.tmp 1) = .pointer (some ⟨w.heap.size, 0, none⟩) := (fr_eval_old _ _ _ 1 rfl).trans a1'
        refine op_run (v := .pointer (some ⟨w.heap.size, 1, none⟩)) (w' := wx) rfl rfl ?_ ?_
        · clear hp hd; have ec : ∀ v, (fr [3, 4, 5, 6, 7, 8] A t).eval (.const v) = v := fun _ => rfl; generalize (fr [3, 4, 5, 6, 7, 8] A t).eval = ev at ec e1 ⊢; go_simp
        · exact ⟨_, 0, rfl, hB, Below.refl _ _, rfl, .inl rfl⟩
      | 4, _ =>
        have e6 : (fr [3, 4, 5, 6, 7, 8] A t).eval (.tmp 6) = .pointer (some ⟨w.heap.size, 1, none⟩) := (fr_eval _ _ _ 6 rfl (by rw [asz]; decide)).trans (hp 3 (pre_mem (by kernel_rfl)))
        have hc := (hKA wx hB).cell 1 rfl
        refine op_run (v := .int .i64 D.num) (w' := wx) rfl rfl ?_ ?_
        · clear hp hd; have ec : ∀ v, (fr [3, 4, 5, 6, 7, 8] A t).eval (.const v) = v := fun _ => rfl; generalize (fr [3, 4, 5, 6, 7, 8] A t).eval = ev at ec e6 ⊢; go_simp
        · exact ⟨_, 0, rfl, hB, Below.refl _ _, rfl, .inl rfl⟩
      | 5, _ =>
        obtain ⟨c2, hv2, q2_0, q2_1⟩ := hp 2 (pre_mem (by kernel_rfl))
        have e5 : (fr [3, 4, 5, 6, 7, 8] A t).eval (.tmp 5) = .slice (some ⟨(ρ 2), 0, none⟩) S.seed.n c2 := (fr_eval _ _ _ 5 rfl (by rw [asz]; decide)).trans hv2
        have e7 : (fr [3, 4, 5, 6, 7, 8] A t).eval (.tmp 7) = .int .i64 D.num := (fr_eval _ _ _ 7 rfl (by rw [asz]; decide)).trans (hp 4 (pre_mem (by kernel_rfl)))
        refine op_run (v := .agg #[.slice (some ⟨(ρ 2), 0, none⟩) S.seed.n c2, .int .i64 D.num]) (w' := wx) rfl rfl ?_ ?_
        · clear hp hd q2_0 q2_1; have ec : ∀ v, (fr [3, 4, 5, 6, 7, 8] A t).eval (.const v) = v := fun _ => rfl; generalize (fr [3, 4, 5, 6, 7, 8] A t).eval = ev at ec e5 e7 ⊢; go_simp
        · exact ⟨_, 0, rfl, hB, Below.refl _ _, ⟨_, _, rfl, q2_0, q2_1⟩, .inl rfl⟩
    · intro t ρ wx hB hF hne
      obtain ⟨G5, c5, hv5, q5_0, q5_1⟩ := hF 5 (by decide)
      have e8 : (fr [3, 4, 5, 6, 7, 8] A t).eval (.tmp 8) = .agg #[.slice (some ⟨G5, 0, none⟩) S.seed.n c5, .int .i64 D.num] := (fr_eval _ _ _ 8 rfl (by rw [asz]; decide)).trans hv5
      have e2 : (fr [3, 4, 5, 6, 7, 8] A t).eval (.tmp 2) = .pointer (some ⟨w.heap.size + 1, 0, none⟩) := (fr_eval_old _ _ _ 2 rfl).trans a2'
      clear hne
      have q0 := (hKO wx hB).cell 0 rfl
      have q1 := (hKO wx hB).cell 1 rfl
      have f0 := (hKO wx hB).frozen 0
      have f1 := (hKO wx hB).frozen 1
      have kO : Hid (Blk wx (w.heap.size + 1) 25 [.slice none 0 0, .int .i64 0]) := hKO wx hB
      have rC : Hid (Row wx G5 c5 D.seed) := q5_0
      have lC : Hid (x0.heap.size ≤ G5) := q5_1
      refine op_wp rfl rfl ?_
      clear hF q5_0 q5_1
      generalize hE : (fr [3, 4, 5, 6, 7, 8] A t).eval = ev at e8 e2
      unfold Oper.wp
      rw [hE]
      go_simp
      refine hMet _ _ (Met.intro (hRJ _ _ ⟨t 3, t 4, t 5, t 6, t 7, t 8, ⟨G5, c5, hv5, copied kO.out rC.out (Nat.le_trans HSZ.out lC.out) B0.out hB⟩, ?_⟩))
      rw [← hA]; rfl
  case rest =>
    obtain ⟨q, c, rfl, hcp⟩ := hcut
    have HC : Hid (Copied w wc q c S.seed.n D) := hcp
    clear hcp
    go_wp2
    obtain ⟨k1, r1, l1, b1⟩ := HC.out
    exact bodyPost_ret (v := diV D ⟨⟨some ⟨q, 0, none⟩, S.seed.n, c⟩⟩) (res1 rfl (is_cell rfl k1 aggDi)) rfl ⟨⟨⟨some ⟨q, 0, none⟩, S.seed.n, c⟩⟩, rfl, ⟨SOwn.row r1 HLen.out HR.out.seed.bytes (by omega) r1.lt, ⟨⟩⟩, b1⟩

set_option maxRecDepth 100000 in
set_option maxHeartbeats 8000000 in
theorem implWind (S : DiS) (D : DiD) (n : Int) (w : World) (h : DiRd w S D) (hl : D.seed.length ≤ 4194304) :
    Calls Tryd.prog 12 #[diV D S, .int .i64 n] w (AnsD (windD D n) w) := by
  have HR : Hid (DiRd w S D) := h
  obtain ⟨R, hR⟩ : ∃ R, windD D n = R := ⟨_, rfl⟩
  have HRD : Hid (windD D n = R) := hR
  rw [hR]
  obtain ⟨x0, hx0⟩ : ∃ x0, (w.alloc (.cells #[.slice S.seed.a S.seed.n S.seed.c, .int .i64 D.num] 25)).alloc (.cells #[.slice none 0 0, .int .i64 0] 25) = x0 := ⟨_, rfl⟩
  have HW0 : Hid ((w.alloc (.cells #[.slice S.seed.a S.seed.n S.seed.c, .int .i64 D.num] 25)).alloc (.cells #[.slice none 0 0, .int .i64 0] 25) = x0) := hx0
  have B0 : Hid (Below w.heap.size w x0) := by rw [← hx0]; exact ((Below.refl _ _).alloc (Nat.le_refl _) _).alloc (by simp) _
  have KA : Hid (Blk x0 w.heap.size 25 [.slice S.seed.a S.seed.n S.seed.c, .int .i64 D.num]) := by rw [← hx0]; exact (Blk.new w _ _).alloc _
  have KO : Hid (Blk x0 (w.heap.size + 1) 25 [.slice none 0 0, .int .i64 0]) := by
    have := Blk.new (w.alloc (.cells #[.slice S.seed.a S.seed.n S.seed.c, .int .i64 D.num] 25)) 25 [.slice none 0 0, .int .i64 0]
    rw [World.size_alloc] at this
    rw [← hx0]; exact this
  have HSZ : Hid (w.heap.size + 2 ≤ x0.heap.size) := by rw [← hx0]; show _ ≤ _; simp
  clear h hR hx0
  unfold diV
  go_enter Tryd.func12, Tryd.ntmps12
  go_upto_region 1 with fail
  rw [HW0.out]
  obtain ⟨ga, hga⟩ : ∃ g, w.heap.size = g := ⟨_, rfl⟩
  obtain ⟨go, hgo⟩ : ∃ g, w.heap.size + 1 = g := ⟨_, rfl⟩
  have HG : Hid (w.heap.size = ga ∧ ga + 1 = go ∧ go < x0.heap.size) := ⟨hga, by omega, by have := HSZ.out; omega⟩
  rw [hga] at KA
  rw [hgo] at KO
  rw [hgo, hga]
  clear hga hgo HW0
  have d0 := KA.out.cell 0 rfl
  have d1 := KA.out.cell 1 rfl
  go_wp2_with fail
  refine (implCopy S D x0 (HR.out.later B0.out) hl).mono ?_
  rintro e x1 ⟨S1, rfl, o, b⟩
  have O1 : Hid (DiOwn x1 x0.heap.size x1.heap.size S1 D) := o
  have B1 : Hid (Below w.heap.size w x1) := B0.out.trans (b.mono B0.out.size)
  have KA1 : Hid (Blk x1 ga 25 [.slice S.seed.a S.seed.n S.seed.c, .int .i64 D.num]) := KA.out.later b
  have KO1 : Hid (Blk x1 go 25 [.slice none 0 0, .int .i64 0]) := KO.out.later b
  have L1 : Hid (x0.heap.size ≤ x1.heap.size) := b.size
  obtain ⟨x2, hx2⟩ : ∃ x2, x1.alloc (.cells #[.slice S1.seed.a S1.seed.n S1.seed.c, .int .i64 D.num] 25) = x2 := ⟨_, rfl⟩
  have HW2 : Hid (x1.alloc (.cells #[.slice S1.seed.a S1.seed.n S1.seed.c, .int .i64 D.num] 25) = x2) := hx2
  have b2 : Below x1.heap.size x1 x2 := by rw [← hx2]; exact (Below.refl _ _).alloc (Nat.le_refl _) _
  have KN : Hid (Blk x2 x1.heap.size 25 [.slice S1.seed.a S1.seed.n S1.seed.c, .int .i64 D.num]) := by rw [← hx2]; exact Blk.new x1 _ _
  have O2 : Hid (DiOwn x2 x0.heap.size x1.heap.size S1 D) := O1.out.later b2
  have B2 : Hid (Below w.heap.size w x2) := B1.out.trans (b2.mono B1.out.size)
  have KA2 : Hid (Blk x2 ga 25 [.slice S.seed.a S.seed.n S.seed.c, .int .i64 D.num]) := KA1.out.later b2
  have KO2 : Hid (Blk x2 go 25 [.slice none 0 0, .int .i64 0]) := KO1.out.later b2
  have L2 : Hid (x2.heap.size = x1.heap.size + 1) := by rw [← hx2]; show _ = _; simp
  clear o b hx2 b2 d0 d1
  unfold diV
  go_upto_region 2 with fail
  rw [HW2.out]
  obtain ⟨gn, hgn⟩ : ∃ g, x1.heap.size = g := ⟨_, rfl⟩
  have HGN : Hid (x1.heap.size = gn) := hgn
  rw [hgn] at KN ⊢
  clear hgn HW2
  have d0 := KA2.out.cell 0 rfl
  have d1 := KA2.out.cell 1 rfl
  go_wp2_with fail
  refine (implDiceOk S D x2 (HR.out.later B2.out)).mono ?_
  rintro e x3 ⟨rfl, b⟩
  have O3 : Hid (DiOwn x3 x0.heap.size gn S1 D) := by show DiOwn _ _ _ _ _; rw [← HGN.out]; exact O2.out.later b
  have B3 : Hid (Below w.heap.size w x3) := B2.out.trans (b.mono B2.out.size)
  have KO3 : Hid (Blk x3 go 25 [.slice none 0 0, .int .i64 0]) := KO2.out.later b
  have KN3 : Hid (Blk x3 gn 25 [.slice S1.seed.a S1.seed.n S1.seed.c, .int .i64 D.num]) := KN.out.later b
  have L3 : Hid (x2.heap.size ≤ x3.heap.size) := b.size
  clear b d0 d1
  have q0 := KO3.out.cell 0 rfl
  have q1 := KO3.out.cell 1 rfl
  have f0 := KO3.out.frozen 0
  have f1 := KO3.out.frozen 1
  have n0 := KN3.out.cell 0 rfl
  have n1 := KN3.out.cell 1 rfl
  have m1 := KN3.out.frozen 1
  cases h0 : diOk D with
  | false =>
    obtain rfl : R = D := by rw [← HRD.out]; exact wind_no (by rw [h0]; rfl)
    go_wp2
    obtain ⟨k1, k2, k3⟩ := di_stored (D := R) (S := S1) KO3.out O3.out (.inl (by have := HG.out; omega))
    exact bodyPost_ret (v := diV R S1) (res1 rfl (is_cell rfl k1 aggDi)) rfl ⟨S1, rfl, k2.mono B0.out.size (by rw [di_size]; have := HGN.out; have := L2.out; have := L3.out; omega), k3 _ _ (by have := HG.out; omega) B3.out⟩
  | true =>
    go_wp2_with fail
    refine (isRoll n x3).mono ?_
    rintro e y ⟨rfl, rfl⟩
    cases h1 : rollOk n with
    | false =>
      obtain rfl : R = D := by rw [← HRD.out]; exact wind_no (by rw [h0, h1]; rfl)
      have h1' : isIn n 0 10000 = false := h1
      go_wp2
      obtain ⟨k1, k2, k3⟩ := di_stored (D := R) (S := S1) KO3.out O3.out (.inl (by have := HG.out; omega))
      exact bodyPost_ret (v := diV R S1) (res1 rfl (is_cell rfl k1 aggDi)) rfl ⟨S1, rfl, k2.mono B0.out.size (by rw [di_size]; have := HGN.out; have := L2.out; have := L3.out; omega), k3 _ _ (by have := HG.out; omega) B3.out⟩
    | true =>
      obtain rfl : R = ⟨D.seed, n⟩ := by rw [← HRD.out]; exact wind_yes (by rw [h0, h1]; rfl)
      have h1' : isIn n 0 10000 = true := h1
      obtain ⟨x4, hx4⟩ : ∃ x4, x3.setCell ⟨gn, 1, none⟩ (.int .i64 n) = x4 := ⟨_, rfl⟩
      have HW4 : Hid (x3.setCell ⟨gn, 1, none⟩ (.int .i64 n) = x4) := hx4
      have KN4 : Hid (Blk x4 gn 25 [.slice S1.seed.a S1.seed.n S1.seed.c, .int .i64 n]) := by rw [← hx4]; exact KN3.out.set 1 _ (by simp [maxLen])
      have KO4 : Hid (Blk x4 go 25 [.slice none 0 0, .int .i64 0]) := by rw [← hx4]; exact KO3.out.other (by show go ≠ gn; have := HG.out; have := L1.out; have := HGN.out; omega) _
      have O4 : Hid (DiOwn x4 x0.heap.size gn S1 ⟨D.seed, n⟩) := by
        rw [← hx4]
        have q := O3.out.carry (Kept.setCell x3 gn 1 (.int .i64 n)) (.inl (Nat.le_refl _))
        exact ⟨q.seed, q.apart⟩
      have B4 : Hid (Below w.heap.size w x4) := by rw [← hx4]; exact B3.out.setCell (by show _ ≤ gn; have := HG.out; have := L1.out; have := HGN.out; omega) _
      have L4 : Hid (x4.heap.size = x3.heap.size) := by rw [← hx4]; show _ = _; simp
      clear hx4 q0 q1 f0 f1
      go_upto_region 4 with fail
      rw [HW4.out]
      clear HW4 n0 n1 m1
      have n0 := KN4.out.cell 0 rfl
      have n1 := KN4.out.cell 1 rfl
      have q0 := KO4.out.cell 0 rfl
      have q1 := KO4.out.cell 1 rfl
      have f0 := KO4.out.frozen 0
      have f1 := KO4.out.frozen 1
      go_wp2
      obtain ⟨k1, k2, k3⟩ := di_stored (D := ⟨D.seed, n⟩) (S := S1) KO4.out O4.out (.inl (by have := HG.out; omega))
      exact bodyPost_ret (v := diV ⟨D.seed, n⟩ S1) (res1 rfl (is_cell rfl k1 aggDi)) rfl ⟨S1, rfl, k2.mono B0.out.size (by rw [di_size]; have := HGN.out; have := L2.out; have := L3.out; have := L4.out; omega), k3 _ _ (by have := HG.out; omega) B4.out⟩
end Go.Proofs.YtcodonnknepkeaaDoor.DiI
