/-
  impl's windows while they are worked on: a struct of a number and 32 words, behind a pointer.
  impl's windows: what room a word has, whether a window is right, reading one from what it tells, telling it, listing it.
  impl's windows: a new one, one read from what it tells, telling it, listing it.
  The specification's windows: whether one is right, has a number, may take one.
-/
import Derived.Test.YtmcflfpckpjphaaWb2
set_option linter.unusedVariables false
namespace Go.Proofs.Ytmcflfpckpjphaa.WnI
open Go.RowKit Go.Proofs.Ytmcflfpckpjphaa.Mem Go.Proofs.Ytmcflfpckpjphaa.MemI Go.Proofs.Ytmcflfpckpjphaa.Blk Go.Proofs.Ytmcflfpckpjphaa.Zone Go.Proofs.Ytmcflfpckpjphaa.ZoneI Go.Proofs.Ytmcflfpckpjphaa.WnZ Go.Proofs.Ytmcflfpckpjphaa.Res Go.Proofs.Ytmcflfpckpjphaa.Each Go.Proofs.Ytmcflfpckpjphaa.Copy Go.Proofs.Ytmcflfpckpjphaa.Ops Go.Proofs.Ytmcflfpckpjphaa.WinP Go.Proofs.Ytmcflfpckpjphaa.WinB Go.Proofs.Ytmcflfpckpjphaa.Bits

/-- The struct in a block. -/
def Wnd (w : World) (g : Nat) (top : Int) (l : List Int) : Prop := l.length = 32 ∧ Words l ∧ Blk w g 101 (.int .i64 top :: l.map (Value.int .u32))
set_option maxRecDepth 100000 in
theorem Wnd.later {w w' : World} {g : Nat} {top : Int} {l : List Int} (h : Wnd w g top l) (b : Below w.heap.size w w') : Wnd w' g top l := ⟨h.1, h.2.1, h.2.2.later b⟩
set_option maxRecDepth 100000 in
theorem Wnd.lt {w : World} {g : Nat} {top : Int} {l : List Int} (h : Wnd w g top l) : g < w.heap.size := h.2.2.lt
set_option maxRecDepth 100000 in
theorem Wnd.topCell {w : World} {g : Nat} {top : Int} {l : List Int} (h : Wnd w g top l) : w.cell? ⟨g, 0, none⟩ = some (.int .i64 top) := h.2.2.cell 0 rfl
set_option maxRecDepth 100000 in
theorem Wnd.word {w : World} {g : Nat} {top : Int} {l : List Int} (h : Wnd w g top l) (i : Nat) (hi : i < 32) : w.cell? ⟨g, 1 + i, none⟩ = some (.int .u32 (l.getD i 0)) :=
  h.2.2.cell (1 + i) (by have := h.1; rw [Nat.add_comm 1 i]; simp [List.getD, this, hi])
set_option maxRecDepth 100000 in
theorem Wnd.froz {w : World} {g : Nat} {top : Int} {l : List Int} (h : Wnd w g top l) (i : Nat) : w.frozen? ⟨g, i, none⟩ = false := h.2.2.frozen i
set_option maxRecDepth 100000 in
theorem Wnd.setTop {w : World} {g : Nat} {top : Int} {l : List Int} (h : Wnd w g top l) (t : Int) : Wnd (w.setCell ⟨g, 0, none⟩ (.int .i64 t)) g t l :=
  ⟨h.1, h.2.1, by have := h.2.2.set 0 (.int .i64 t) (by have := h.1; simp [maxLen]; omega); simpa using this⟩
set_option maxRecDepth 100000 in
theorem Wnd.setWord {w : World} {g : Nat} {top : Int} {l : List Int} (h : Wnd w g top l) (i : Nat) (x : Int) (hx : 0 ≤ x ∧ x ≤ 4294967295) : Wnd (w.setCell ⟨g, 1 + i, none⟩ (.int .u32 x)) g top (l.set i x) :=
  ⟨by rw [List.length_set]; exact h.1, h.2.1.set i x hx, by have := h.2.2.set (1 + i) (.int .u32 x) (by have := h.1; simp [maxLen]; omega); rw [Nat.add_comm 1 i] at this ⊢; simpa [List.map_set] using this⟩

set_option maxRecDepth 100000 in
set_option maxHeartbeats 400000 in
theorem isSeq (n : Int) (w : World) : Calls Try.prog 64 #[.int .i64 n] w fun e w' => e = .returned (.bool (decide (0 ≤ n ∧ n ≤ 281474976710655))) ∧ w = w' := by
  by_cases h0 : n ≥ 0
  · by_cases h1 : n < 281474976710656
    · rw [decide_eq_true ⟨h0, by omega⟩]
      go_enter Try.func64, Try.ntmps64
      go_wp2
      go_ret
      exact ⟨rfl, rfl⟩
    · rw [decide_eq_false (fun h => h1 (by omega))]
      go_enter Try.func64, Try.ntmps64
      go_wp2
      go_ret
      exact ⟨rfl, rfl⟩
  · rw [decide_eq_false (fun h => h0 h.1)]
    go_enter Try.func64, Try.ntmps64
    go_wp2
    go_ret
    exact ⟨rfl, rfl⟩
set_option maxRecDepth 100000 in
set_option maxHeartbeats 800000 in
theorem placeOf (n : Nat) (w : World) (hn : n ≤ 562949953421312) : Calls Try.prog 89 #[.int .i64 n] w fun e w' => e = .returned (.tuple #[.int .i64 ((n % 1024 / 32 : Nat) : Int), .int .u32 ((2 ^ (n % 32) : Nat) : Int)]) ∧ ∃ m, w' = w.drewN m := by
  go_enter Try.func89, Try.ntmps89
  go_wp2
  go_quiet (fail)
  go_wp2
  refine bodyPost_ret (v := .tuple #[.int .i64 ((n : Int) % 1024 / 32), .int .u32 (2 ^ (n % 32) % 4294967296)]) (res2 rfl (is_tmp rfl) (is_tmp rfl)) rfl ⟨?_, nq, rfl⟩
  have hlt := pow_lt (n % 32) (by omega)
  have e : (2 : Int) ^ (n % 32) % 4294967296 = ((2 ^ (n % 32) : Nat) : Int) := by
    obtain ⟨M, hM⟩ : ∃ M : Nat, 2 ^ (n % 32) = M := ⟨_, rfl⟩
    have e2 : (2 : Int) ^ (n % 32) = (M : Int) := by rw [← hM]; simp
    rw [hM] at hlt ⊢
    rw [e2]
    omega
  rw [e, show ((n : Int) % 1024 / 32) = ((n % 1024 / 32 : Nat) : Int) by omega]

set_option maxRecDepth 100000 in
set_option maxHeartbeats 4000000 in
theorem drop (g : Nat) (top : Int) (l : List Int) (n : Nat) (w : World) (h : Wnd w g top l) (hn : n ≤ 562949953421312) :
    Calls Try.prog 108 #[.pointer (some ⟨g, 0, none⟩), .int .i64 n] w fun e w' => e = .returned (.tuple #[]) ∧ Wnd w' g top (clrL l (n % 1024)) ∧ Kept g (g + 1) w w' := by
  have H0 : Hid (Wnd w g top l) := h
  have HN : Hid (n ≤ 562949953421312) := hn
  obtain ⟨p, hpe⟩ : ∃ p, n % 1024 / 32 = p := ⟨_, rfl⟩
  obtain ⟨k, hke⟩ : ∃ k, n % 32 = k := ⟨_, rfl⟩
  have HPE : Hid (n % 1024 / 32 = p) := hpe
  have HKE : Hid (n % 32 = k) := hke
  have hpl : p < 32 := by omega
  have hk : k < 32 := by omega
  have hpI : (p : Int) < 32 := by omega
  have HC : clrL l (n % 1024) = l.set p (clrN (l.getD p 0).toNat k : Nat) := by
    unfold clrL
    rw [hpe, show n % 1024 % 32 = k by omega]
  rw [HC]
  clear hpe hke HC hn
  obtain ⟨x, hx⟩ : ∃ x, l.getD p 0 = x := ⟨_, rfl⟩
  have HX : Hid (l.getD p 0 = x) := hx
  have hx2 := h.2.1.at p
  rw [hx] at hx2 ⊢
  clear h hx
  obtain ⟨X, rfl⟩ := Int.eq_ofNat_of_zero_le hx2.1
  have hxl : X < 4294967296 := by omega
  obtain ⟨M, hM⟩ : ∃ M : Int, ((2 ^ k : Nat) : Int) = M := ⟨_, rfl⟩
  have HM : Hid (((2 ^ k : Nat) : Int) = M) := hM
  obtain ⟨Y, hY⟩ : ∃ Y : Int, ((clrN X k : Nat) : Int) = Y := ⟨_, rfl⟩
  have HY : Hid (bits .andNot .u32 (X : Int) M = Y) := by rw [← hM, ← hY]; exact clr_u32 X k hxl hk
  have HYb : Hid (0 ≤ Y ∧ Y ≤ 4294967295) := by have := clrN_lt X k hxl; rw [← hY]; show _ ∧ _; omega
  rw [Int.toNat_natCast, hY]
  clear hx2 hxl hM hY hk
  generalize (X : Int) = x at *
  go_enter Try.func108, Try.ntmps108
  go_wp2_with fail
  refine (placeOf n w HN.out).mono ?_
  rw [HPE.out, HKE.out, HM.out]
  rintro e w1 ⟨rfl, m, hw1⟩
  have B1 : Hid (Below w.heap.size w w1) := by rw [hw1]; exact below_drewN (Below.refl _ _) _
  have H1 : Hid (Wnd w1 g top l) := H0.out.later B1.out
  clear hw1 H0
  go_upto_region 1 with fail
  generalize hA : Act.mk _ _ = A
  have a0' : A.eval (.tmp 0) = .pointer (some ⟨g, 0, none⟩) := by rw [← hA]; rfl
  have a4' : A.eval (.tmp 4) = .int .i64 (p : Int) := by rw [← hA]; rfl
  have a5' : A.eval (.tmp 5) = .int .u32 M := by rw [← hA]; rfl
  have asz : A.tmps.size = 22 := by rw [← hA]; rfl
  have hW : ∀ wx, Below w1.heap.size w1 wx → Wnd wx g top l := fun wx hb => H1.out.later hb
  refine region_each (by kernel_rfl) [11, 12, 13, 14, 15, 16, 17, 18, 19, 20, 21] 11 (fun i => [11, 12, 13, 14, 15, 16, 17, 18, 19, 20, 21].getD i 0) (fun _ => 0)
    (fun i gB v wx => match i with
      | 0 => v = .pointer (some ⟨g, 0, none⟩)
      | 1 => v = .int .i64 (p : Int)
      | 2 => v = .pointer (some ⟨g, 0, none⟩)
      | 3 => v = .pointer (some ⟨g, 1, none⟩)
      | 4 => v = .pointer (some ⟨g, 1 + p, none⟩)
      | 5 => v = .int .u32 x
      | 6 => v = .int .u32 M
      | 7 => v = .int .u32 (bits .andNot .u32 x M)
      | 8 => v = .pointer (some ⟨g, 0, none⟩)
      | 9 => v = .pointer (some ⟨g, 1, none⟩)
      | 10 => v = .pointer (some ⟨g, 1 + p, none⟩)
      | _ => False) (fun wx => Below w1.heap.size w1 wx) (by kernel_rfl) (Below.refl _ _).drew ?_ ?_ ?_
  · intro i gB v wx wy hi hF hb _
    match i, hi with
    | 0, _ => exact hF
    | 1, _ => exact hF
    | 2, _ => exact hF
    | 3, _ => exact hF
    | 4, _ => exact hF
    | 5, _ => exact hF
    | 6, _ => exact hF
    | 7, _ => exact hF
    | 8, _ => exact hF
    | 9, _ => exact hF
    | 10, _ => exact hF
  · intro i hi t ρ wx hB hp hd
    match i, hi with
    | 0, _ =>
      have e0 : (fr [11, 12, 13, 14, 15, 16, 17, 18, 19, 20, 21] A t).eval (.tmp 0) = .pointer (some ⟨g, 0, none⟩) := (fr_eval_old _ _ _ 0 rfl).trans a0'
      refine op_run (v := .pointer (some ⟨g, 0, none⟩)) (w' := wx) rfl rfl ?_ ?_
      · clear hp hd; have ec : ∀ v, (fr [11, 12, 13, 14, 15, 16, 17, 18, 19, 20, 21] A t).eval (.const v) = v := fun _ => rfl; generalize (fr [11, 12, 13, 14, 15, 16, 17, 18, 19, 20, 21] A t).eval = ev at ec e0 ⊢; go_simp
      · exact ⟨_, 0, rfl, hB, Below.refl _ _, rfl, .inl rfl⟩
    | 1, _ =>
      have e4 : (fr [11, 12, 13, 14, 15, 16, 17, 18, 19, 20, 21] A t).eval (.tmp 4) = .int .i64 (p : Int) := (fr_eval_old _ _ _ 4 rfl).trans a4'
      refine op_run (v := .int .i64 (p : Int)) (w' := wx) rfl rfl ?_ ?_
      · clear hp hd; have ec : ∀ v, (fr [11, 12, 13, 14, 15, 16, 17, 18, 19, 20, 21] A t).eval (.const v) = v := fun _ => rfl; generalize (fr [11, 12, 13, 14, 15, 16, 17, 18, 19, 20, 21] A t).eval = ev at ec e4 ⊢; go_simp
      · exact ⟨_, 0, rfl, hB, Below.refl _ _, rfl, .inl rfl⟩
    | 2, _ =>
      have e11 : (fr [11, 12, 13, 14, 15, 16, 17, 18, 19, 20, 21] A t).eval (.tmp 11) = .pointer (some ⟨g, 0, none⟩) := (fr_eval _ _ _ 11 rfl (by rw [asz]; decide)).trans (hp 0 (pre_mem (by kernel_rfl)))
      refine op_run (v := .pointer (some ⟨g, 0, none⟩)) (w' := wx) rfl rfl ?_ ?_
      · clear hp hd; have ec : ∀ v, (fr [11, 12, 13, 14, 15, 16, 17, 18, 19, 20, 21] A t).eval (.const v) = v := fun _ => rfl; generalize (fr [11, 12, 13, 14, 15, 16, 17, 18, 19, 20, 21] A t).eval = ev at ec e11 ⊢; go_simp
      · exact ⟨_, 0, rfl, hB, Below.refl _ _, rfl, .inl rfl⟩
    | 3, _ =>
      have e13 : (fr [11, 12, 13, 14, 15, 16, 17, 18, 19, 20, 21] A t).eval (.tmp 13) = .pointer (some ⟨g, 0, none⟩) := (fr_eval _ _ _ 13 rfl (by rw [asz]; decide)).trans (hp 2 (pre_mem (by kernel_rfl)))
      refine op_run (v := .pointer (some ⟨g, 1, none⟩)) (w' := wx) rfl rfl ?_ ?_
      · clear hp hd; have ec : ∀ v, (fr [11, 12, 13, 14, 15, 16, 17, 18, 19, 20, 21] A t).eval (.const v) = v := fun _ => rfl; generalize (fr [11, 12, 13, 14, 15, 16, 17, 18, 19, 20, 21] A t).eval = ev at ec e13 ⊢; go_simp
      · exact ⟨_, 0, rfl, hB, Below.refl _ _, rfl, .inl rfl⟩
    | 4, _ =>
      have e14 : (fr [11, 12, 13, 14, 15, 16, 17, 18, 19, 20, 21] A t).eval (.tmp 14) = .pointer (some ⟨g, 1, none⟩) := (fr_eval _ _ _ 14 rfl (by rw [asz]; decide)).trans (hp 3 (pre_mem (by kernel_rfl)))
      have e12 : (fr [11, 12, 13, 14, 15, 16, 17, 18, 19, 20, 21] A t).eval (.tmp 12) = .int .i64 (p : Int) := (fr_eval _ _ _ 12 rfl (by rw [asz]; decide)).trans (hp 1 (pre_mem (by kernel_rfl)))
      refine op_run (v := .pointer (some ⟨g, 1 + p, none⟩)) (w' := wx) rfl rfl ?_ ?_
      · clear hp hd; have ec : ∀ v, (fr [11, 12, 13, 14, 15, 16, 17, 18, 19, 20, 21] A t).eval (.const v) = v := fun _ => rfl; generalize (fr [11, 12, 13, 14, 15, 16, 17, 18, 19, 20, 21] A t).eval = ev at ec e14 e12 ⊢; go_simp
      · exact ⟨_, 0, rfl, hB, Below.refl _ _, rfl, .inl rfl⟩
    | 5, _ =>
      have e15 : (fr [11, 12, 13, 14, 15, 16, 17, 18, 19, 20, 21] A t).eval (.tmp 15) = .pointer (some ⟨g, 1 + p, none⟩) := (fr_eval _ _ _ 15 rfl (by rw [asz]; decide)).trans (hp 4 (pre_mem (by kernel_rfl)))
      have hc : wx.cell? ⟨g, 1 + p, none⟩ = some (.int .u32 x) := by rw [(hW wx hB).word p hpl, HX.out]
      refine op_run (v := .int .u32 x) (w' := wx) rfl rfl ?_ ?_
      · clear hp hd; have ec : ∀ v, (fr [11, 12, 13, 14, 15, 16, 17, 18, 19, 20, 21] A t).eval (.const v) = v := fun _ => rfl; generalize (fr [11, 12, 13, 14, 15, 16, 17, 18, 19, 20, 21] A t).eval = ev at ec e15 ⊢; go_simp
      · exact ⟨_, 0, rfl, hB, Below.refl _ _, rfl, .inl rfl⟩
    | 6, _ =>
      have e5 : (fr [11, 12, 13, 14, 15, 16, 17, 18, 19, 20, 21] A t).eval (.tmp 5) = .int .u32 M := (fr_eval_old _ _ _ 5 rfl).trans a5'
      refine op_run (v := .int .u32 M) (w' := wx) rfl rfl ?_ ?_
      · clear hp hd; have ec : ∀ v, (fr [11, 12, 13, 14, 15, 16, 17, 18, 19, 20, 21] A t).eval (.const v) = v := fun _ => rfl; generalize (fr [11, 12, 13, 14, 15, 16, 17, 18, 19, 20, 21] A t).eval = ev at ec e5 ⊢; go_simp
      · exact ⟨_, 0, rfl, hB, Below.refl _ _, rfl, .inl rfl⟩
    | 7, _ =>
      have e16 : (fr [11, 12, 13, 14, 15, 16, 17, 18, 19, 20, 21] A t).eval (.tmp 16) = .int .u32 x := (fr_eval _ _ _ 16 rfl (by rw [asz]; decide)).trans (hp 5 (pre_mem (by kernel_rfl)))
      have e17 : (fr [11, 12, 13, 14, 15, 16, 17, 18, 19, 20, 21] A t).eval (.tmp 17) = .int .u32 M := (fr_eval _ _ _ 17 rfl (by rw [asz]; decide)).trans (hp 6 (pre_mem (by kernel_rfl)))
      refine op_run (v := .int .u32 (bits .andNot .u32 x M)) (w' := wx) rfl rfl ?_ ?_
      · clear hp hd; have ec : ∀ v, (fr [11, 12, 13, 14, 15, 16, 17, 18, 19, 20, 21] A t).eval (.const v) = v := fun _ => rfl; generalize (fr [11, 12, 13, 14, 15, 16, 17, 18, 19, 20, 21] A t).eval = ev at ec e16 e17 ⊢; go_simp
      · exact ⟨_, 0, rfl, hB, Below.refl _ _, rfl, .inl rfl⟩
    | 8, _ =>
      have e11 : (fr [11, 12, 13, 14, 15, 16, 17, 18, 19, 20, 21] A t).eval (.tmp 11) = .pointer (some ⟨g, 0, none⟩) := (fr_eval _ _ _ 11 rfl (by rw [asz]; decide)).trans (hp 0 (pre_mem (by kernel_rfl)))
      refine op_run (v := .pointer (some ⟨g, 0, none⟩)) (w' := wx) rfl rfl ?_ ?_
      · clear hp hd; have ec : ∀ v, (fr [11, 12, 13, 14, 15, 16, 17, 18, 19, 20, 21] A t).eval (.const v) = v := fun _ => rfl; generalize (fr [11, 12, 13, 14, 15, 16, 17, 18, 19, 20, 21] A t).eval = ev at ec e11 ⊢; go_simp
      · exact ⟨_, 0, rfl, hB, Below.refl _ _, rfl, .inl rfl⟩
    | 9, _ =>
      have e19 : (fr [11, 12, 13, 14, 15, 16, 17, 18, 19, 20, 21] A t).eval (.tmp 19) = .pointer (some ⟨g, 0, none⟩) := (fr_eval _ _ _ 19 rfl (by rw [asz]; decide)).trans (hp 8 (pre_mem (by kernel_rfl)))
      refine op_run (v := .pointer (some ⟨g, 1, none⟩)) (w' := wx) rfl rfl ?_ ?_
      · clear hp hd; have ec : ∀ v, (fr [11, 12, 13, 14, 15, 16, 17, 18, 19, 20, 21] A t).eval (.const v) = v := fun _ => rfl; generalize (fr [11, 12, 13, 14, 15, 16, 17, 18, 19, 20, 21] A t).eval = ev at ec e19 ⊢; go_simp
      · exact ⟨_, 0, rfl, hB, Below.refl _ _, rfl, .inl rfl⟩
    | 10, _ =>
      have e20 : (fr [11, 12, 13, 14, 15, 16, 17, 18, 19, 20, 21] A t).eval (.tmp 20) = .pointer (some ⟨g, 1, none⟩) := (fr_eval _ _ _ 20 rfl (by rw [asz]; decide)).trans (hp 9 (pre_mem (by kernel_rfl)))
      have e12 : (fr [11, 12, 13, 14, 15, 16, 17, 18, 19, 20, 21] A t).eval (.tmp 12) = .int .i64 (p : Int) := (fr_eval _ _ _ 12 rfl (by rw [asz]; decide)).trans (hp 1 (pre_mem (by kernel_rfl)))
      refine op_run (v := .pointer (some ⟨g, 1 + p, none⟩)) (w' := wx) rfl rfl ?_ ?_
      · clear hp hd; have ec : ∀ v, (fr [11, 12, 13, 14, 15, 16, 17, 18, 19, 20, 21] A t).eval (.const v) = v := fun _ => rfl; generalize (fr [11, 12, 13, 14, 15, 16, 17, 18, 19, 20, 21] A t).eval = ev at ec e20 e12 ⊢; go_simp
      · exact ⟨_, 0, rfl, hB, Below.refl _ _, rfl, .inl rfl⟩
  · intro t ρ wx hB hF hne
    have e21 : (fr [11, 12, 13, 14, 15, 16, 17, 18, 19, 20, 21] A t).eval (.tmp 21) = .pointer (some ⟨g, 1 + p, none⟩) := (fr_eval _ _ _ 21 rfl (by rw [asz]; decide)).trans (hF 10 (by decide))
    have e18 : (fr [11, 12, 13, 14, 15, 16, 17, 18, 19, 20, 21] A t).eval (.tmp 18) = .int .u32 (bits .andNot .u32 x M) := (fr_eval _ _ _ 18 rfl (by rw [asz]; decide)).trans (hF 7 (by decide))
    clear hne
    have q0 : ∃ v, wx.cell? ⟨g, 1 + p, none⟩ = some v := ⟨_, (hW wx hB).word p hpl⟩
    obtain ⟨v0, q0⟩ := q0
    have f0 := (hW wx hB).froz (1 + p)
    have kW : Hid (Wnd wx g top l) := hW wx hB
    refine op_wp rfl rfl ?_
    clear hF hW
    generalize hE : (fr [11, 12, 13, 14, 15, 16, 17, 18, 19, 20, 21] A t).eval = ev at e21 e18
    unfold Oper.wp
    rw [hE]
    go_simp
    rw [← hA]
    go_end0
    exact ⟨rfl, by have := kW.out.setWord p Y HYb.out; rw [HY.out]; exact this, (Kept.of_below B1.out 0).any.trans ((Kept.of_below hB 0).any.trans (Kept.setCell _ _ _ _))⟩
set_option maxRecDepth 100000 in
theorem dropI (g : Nat) (top : Int) (l : List Int) (z : Int) (w : World) (h : Wnd w g top l) (h0 : 0 ≤ z) (hn : z ≤ 562949953421312) :
    Calls Try.prog 108 #[.pointer (some ⟨g, 0, none⟩), .int .i64 z] w fun e w' => e = .returned (.tuple #[]) ∧ Wnd w' g top (clrL l (z.toNat % 1024)) ∧ Kept g (g + 1) w w' := by
  obtain ⟨n, rfl⟩ := Int.eq_ofNat_of_zero_le h0
  exact drop g top l n w h (by omega)

set_option maxRecDepth 100000 in
set_option maxHeartbeats 4000000 in
theorem climb (g : Nat) (top : Int) (l : List Int) (n : Nat) (w : World) (h : Wnd w g top l) (lo : -1 ≤ top) (ht : top < n) (hn : n ≤ 281474976710655) :
    Calls Try.prog 88 #[.pointer (some ⟨g, 0, none⟩), .int .i64 n] w fun e w' => e = .returned (.tuple #[]) ∧ Wnd w' g n (clrs l (top + 1).toNat (min ((n : Int) - top).toNat 1024)) ∧ Kept g (g + 1) w w' := by
  have H0 : Hid (Wnd w g top l) := h
  obtain ⟨C, hC⟩ : ∃ C : Nat, min ((n : Int) - top) 1024 = (C : Int) := ⟨(min ((n : Int) - top) 1024).toNat, by omega⟩
  have HC : Hid (min ((n : Int) - top) 1024 = (C : Int)) := hC
  have hC1 : (C : Int) ≤ (n : Int) - top := by omega
  have hC2 : C ≤ 1024 := by omega
  have HD : clrs l (top + 1).toNat (min ((n : Int) - top).toNat 1024) = down l n C := by
    have e := down_clrs l (top + 1).toNat n h.1 h.2.1 (by omega)
    rw [show min (n + 1 - (top + 1).toNat) 1024 = C by omega] at e
    rw [show min ((n : Int) - top).toNat 1024 = C by omega, ← e]
  rw [HD]
  clear HD h
  by_cases hb : 1024 < (n : Int) - top
  · have hCe : (1024 : Int) = (C : Int) := by omega
    have c0 := H0.out.topCell
    go_enter Try.func88, Try.ntmps88
    go_wp2
    clear c0 hC hb hCe HC
    go_loopw [12] (fun i wr => ∃ k : Nat, k ≤ C ∧ i = .int .i64 k ∧ Wnd wr g top (down l n k) ∧ Kept g (g + 1) w wr) (fun i _ => C - (intOf i).toNat)
    case atStart => exact ⟨0, Nat.zero_le _, rfl, H0.out, Kept.refl _ _ _⟩
    case round =>
      obtain ⟨k, hk, rfl, hW, hK⟩ := hrel
      have HW : Hid (Wnd wr g top (down l n k)) := hW
      have HK : Hid (Kept g (g + 1) w wr) := hK
      clear hW hK H0
      by_cases hlt : k < C
      · go_wp2_with fail
        refine (dropI g top (down l n k) ((n : Int) - k) wr HW.out (by omega) (by omega)).mono ?_
        have HE : Hid (clrL (down l n k) (((n : Int) - k).toNat % 1024) = down l n (k + 1)) := by
          show _ = _
          rw [show ((n : Int) - k).toNat = n - k by omega]; rfl
        rw [HE.out]
        rintro e w2 ⟨rfl, h2, k2⟩
        have HW2 : Hid (Wnd w2 g top (down l n (k + 1))) := h2
        have HK2 : Hid (Kept g (g + 1) w w2) := HK.out.trans k2
        clear h2 k2 HE
        go_wp2
        go_roundw
        case rel => exact ⟨k + 1, by omega, by go_num, HW2.out, HK2.out⟩
        case measure => simp [intOf]; omega
      · obtain rfl : k = C := by omega
        have c0 := HW.out.topCell
        have f0 := HW.out.froz 0
        go_wp2
        go_end0
        exact ⟨rfl, HW.out.setTop n, HK.out.trans (Kept.setCell _ _ _ _)⟩
  · have hCe : (n : Int) - top = (C : Int) := by omega
    have c0 := H0.out.topCell
    go_enter Try.func88, Try.ntmps88
    go_wp2
    clear c0 hC hb hCe HC
    go_loopw [12] (fun i wr => ∃ k : Nat, k ≤ C ∧ i = .int .i64 k ∧ Wnd wr g top (down l n k) ∧ Kept g (g + 1) w wr) (fun i _ => C - (intOf i).toNat)
    case atStart => exact ⟨0, Nat.zero_le _, rfl, H0.out, Kept.refl _ _ _⟩
    case round =>
      obtain ⟨k, hk, rfl, hW, hK⟩ := hrel
      have HW : Hid (Wnd wr g top (down l n k)) := hW
      have HK : Hid (Kept g (g + 1) w wr) := hK
      clear hW hK H0
      by_cases hlt : k < C
      · go_wp2_with fail
        refine (dropI g top (down l n k) ((n : Int) - k) wr HW.out (by omega) (by omega)).mono ?_
        have HE : Hid (clrL (down l n k) (((n : Int) - k).toNat % 1024) = down l n (k + 1)) := by
          show _ = _
          rw [show ((n : Int) - k).toNat = n - k by omega]; rfl
        rw [HE.out]
        rintro e w2 ⟨rfl, h2, k2⟩
        have HW2 : Hid (Wnd w2 g top (down l n (k + 1))) := h2
        have HK2 : Hid (Kept g (g + 1) w w2) := HK.out.trans k2
        clear h2 k2 HE
        go_wp2
        go_roundw
        case rel => exact ⟨k + 1, by omega, by go_num, HW2.out, HK2.out⟩
        case measure => simp [intOf]; omega
      · obtain rfl : k = C := by omega
        have c0 := HW.out.topCell
        have f0 := HW.out.froz 0
        go_wp2
        go_end0
        exact ⟨rfl, HW.out.setTop n, HK.out.trans (Kept.setCell _ _ _ _)⟩

set_option maxRecDepth 100000 in
theorem has_no {top : Int} {l : List Int} {n : Int} (h : ¬ (0 ≤ n ∧ n ≤ top ∧ top - 1024 < n)) : WinP.has top l n = false := by unfold WinP.has; rw [decide_eq_false h, Bool.false_and]
set_option maxRecDepth 100000 in
theorem has_yes {top : Int} {l : List Int} {n : Int} (h : 0 ≤ n ∧ n ≤ top ∧ top - 1024 < n) : WinP.has top l n = bit l n.toNat := by unfold WinP.has; rw [decide_eq_true h, Bool.true_and]
set_option maxRecDepth 100000 in
set_option maxHeartbeats 4000000 in
theorem has (g : Nat) (top : Int) (l : List Int) (n : Int) (w : World) (h : Wnd w g top l) (lo : -1 ≤ top) (hi : top ≤ 281474976710655) :
    Calls Try.prog 57 #[.pointer (some ⟨g, 0, none⟩), .int .i64 n] w fun e w' => e = .returned (.bool (WinP.has top l n)) ∧ Below w.heap.size w w' := by
  have H0 : Hid (Wnd w g top l) := h
  obtain ⟨v, hv⟩ : ∃ v, WinP.has top l n = v := ⟨_, rfl⟩
  have HV : Hid (WinP.has top l n = v) := hv
  rw [hv]
  have c0 := h.topCell
  clear hv h
  by_cases h1 : n < 0
  · have HF : Hid (v = false) := by show v = false; rw [← HV.out]; exact has_no (by omega)
    go_enter Try.func57, Try.ntmps57
    go_wp2
    go_ret
    exact ⟨by rw [HF.out]; rfl, Below.refl _ _⟩
  by_cases h2 : n ≤ top - 1024
  · have HF : Hid (v = false) := by show v = false; rw [← HV.out]; exact has_no (by omega)
    go_enter Try.func57, Try.ntmps57
    go_wp2
    go_ret
    exact ⟨by rw [HF.out]; rfl, Below.refl _ _⟩
  by_cases h3 : n > top
  · have HF : Hid (v = false) := by show v = false; rw [← HV.out]; exact has_no (by omega)
    go_enter Try.func57, Try.ntmps57
    go_wp2
    go_ret
    exact ⟨by rw [HF.out]; rfl, Below.refl _ _⟩
  obtain ⟨n, rfl⟩ := Int.eq_ofNat_of_zero_le (show 0 ≤ n by omega)
  obtain ⟨p, hpe⟩ : ∃ p, n % 1024 / 32 = p := ⟨_, rfl⟩
  obtain ⟨k, hke⟩ : ∃ k, n % 32 = k := ⟨_, rfl⟩
  have HPE : Hid (n % 1024 / 32 = p) := hpe
  have HKE : Hid (n % 32 = k) := hke
  have hpl : p < 32 := by omega
  have hk : k < 32 := by omega
  have hpI : (p : Int) < 32 := by omega
  obtain ⟨x, hx⟩ : ∃ x, l.getD p 0 = x := ⟨_, rfl⟩
  have HX : Hid (l.getD p 0 = x) := hx
  have hx2 := H0.out.2.1.at p
  rw [hx] at hx2
  obtain ⟨X, rfl⟩ := Int.eq_ofNat_of_zero_le hx2.1
  have hxl : X < 4294967296 := by omega
  obtain ⟨M, hM⟩ : ∃ M : Int, ((2 ^ k : Nat) : Int) = M := ⟨_, rfl⟩
  have HM : Hid (((2 ^ k : Nat) : Int) = M) := hM
  have HB : Hid ((bits .and .u32 (X : Int) M != 0) = v) := by
    show _ = v
    rw [← hM, tb_u32 X k hxl hk, ← HV.out, has_yes ⟨by omega, by omega, by omega⟩, Int.toNat_natCast]
    unfold bit
    rw [hpe, hke, hx, Int.toNat_natCast]
  clear hx2 hxl hM hpe hke hk hx HV
  generalize (X : Int) = x at *
  go_enter Try.func57, Try.ntmps57
  go_wp2_with fail
  refine (placeOf n w (by omega)).mono ?_
  rw [HPE.out, HKE.out, HM.out]
  rintro e w1 ⟨rfl, m, hw1⟩
  have B1 : Hid (Below w.heap.size w w1) := by rw [hw1]; exact below_drewN (Below.refl _ _) _
  have c1 : w1.cell? ⟨g, 1 + p, none⟩ = some (.int .u32 x) := by rw [(H0.out.later B1.out).word p hpl, HX.out]
  clear hw1 H0 c0
  go_wp2
  go_ret
  exact ⟨by rw [← HB.out]; rfl, B1.out⟩

set_option maxRecDepth 100000 in
theorem may_no {top : Int} {l : List Int} {n : Int} (h : ¬ (0 ≤ n ∧ n ≤ 281474976710655 ∧ top - 1024 < n)) : WinP.may top l n = false := by unfold WinP.may; rw [decide_eq_false h, Bool.false_and]
set_option maxRecDepth 100000 in
theorem may_has {top : Int} {l : List Int} {n : Int} (h : 0 ≤ n ∧ n ≤ 281474976710655 ∧ top - 1024 < n) : WinP.may top l n = !WinP.has top l n := by
  unfold WinP.may
  rw [decide_eq_true h, Bool.true_and]
  by_cases k : top < n
  · rw [decide_eq_true k, has_no (by omega)]; rfl
  · rw [decide_eq_false k, has_yes (by omega)]; simp
set_option maxRecDepth 100000 in
set_option maxHeartbeats 4000000 in
theorem may (g : Nat) (top : Int) (l : List Int) (n : Int) (w : World) (h : Wnd w g top l) (lo : -1 ≤ top) (hi : top ≤ 281474976710655) :
    Calls Try.prog 49 #[.pointer (some ⟨g, 0, none⟩), .int .i64 n] w fun e w' => e = .returned (.bool (WinP.may top l n)) ∧ Below w.heap.size w w' := by
  have H0 : Hid (Wnd w g top l) := h
  obtain ⟨v, hv⟩ : ∃ v, WinP.may top l n = v := ⟨_, rfl⟩
  have HV : Hid (WinP.may top l n = v) := hv
  rw [hv]
  have c0 := h.topCell
  clear hv h
  go_enter Try.func49, Try.ntmps49
  go_wp2_with fail
  refine (isSeq n w).mono ?_
  by_cases h1 : 0 ≤ n ∧ n ≤ 281474976710655
  · rw [decide_eq_true h1]
    rintro e w1 ⟨rfl, rfl⟩
    have H1 : Hid (0 ≤ n ∧ n ≤ 281474976710655) := h1
    clear h1
    by_cases h2 : n > top - 1024
    · have HB : Hid ((!WinP.has top l n) = v) := by show _ = v; rw [← HV.out, may_has ⟨H1.out.1, H1.out.2, h2⟩]
      go_wp2_with fail
      refine (has g top l n w H0.out lo hi).mono ?_
      generalize WinP.has top l n = u at *
      rintro e w1 ⟨rfl, b1⟩
      have B1 : Hid (Below w.heap.size w w1) := b1
      clear b1 c0
      go_wp2
      go_ret
      exact ⟨by rw [← HB.out]; first | rfl | simp, B1.out⟩
    · have HF : Hid (v = false) := by show v = false; rw [← HV.out]; exact may_no (by omega)
      go_wp2
      go_ret
      exact ⟨by rw [HF.out]; first | rfl | simp, Below.refl _ _⟩
  · have HF : Hid (v = false) := by show v = false; rw [← HV.out]; exact may_no (by omega)
    rw [decide_eq_false h1]
    rintro e w1 ⟨rfl, rfl⟩
    clear h1
    go_wp2
    go_ret
    exact ⟨by rw [HF.out]; first | rfl | simp, Below.refl _ _⟩
set_option maxRecDepth 100000 in
set_option maxHeartbeats 8000000 in
theorem add (g : Nat) (top : Int) (l : List Int) (n : Nat) (w : World) (h : Wnd w g top l) (lo : -1 ≤ top) (hn : n ≤ 281474976710655) :
    Calls Try.prog 51 #[.pointer (some ⟨g, 0, none⟩), .int .i64 n] w fun e w' => e = .returned (.tuple #[]) ∧ Wnd w' g (max top n) (addL top l n) ∧ Kept g (g + 1) w w' := by
  have H0 : Hid (Wnd w g top l) := h
  have c0 := h.topCell
  clear h
  go_enter Try.func51, Try.ntmps51
  by_cases hgt : (n : Int) > top
  · go_wp2_with fail
    refine (climb g top l n w H0.out lo hgt hn).mono ?_
    obtain ⟨l1, hl1⟩ : ∃ l1, clrs l (top + 1).toNat (min ((n : Int) - top).toNat 1024) = l1 := ⟨_, rfl⟩
    have HL1 : Hid (addL top l n = setL l1 (n % 1024)) := by show _ = _; unfold addL; rw [hl1]
    obtain ⟨t1, ht1⟩ : ∃ t1 : Int, (n : Int) = t1 := ⟨_, rfl⟩
    have HT1 : Hid (t1 = max top n) := by show _ = _; omega
    rw [hl1]
    rintro e w1 ⟨rfl, h1, k1⟩
    rw [ht1] at h1
    have H1 : Hid (Wnd w1 g t1 l1) := h1
    have HK1 : Hid (Kept g (g + 1) w w1) := k1
    have HN : Hid (n ≤ 562949953421312) := by show _ ≤ _; omega
    clear h1 k1 hl1 c0 H0 ht1 hgt hn
    obtain ⟨p, hpe⟩ : ∃ p, n % 1024 / 32 = p := ⟨_, rfl⟩
    obtain ⟨k, hke⟩ : ∃ k, n % 32 = k := ⟨_, rfl⟩
    have HPE : Hid (n % 1024 / 32 = p) := hpe
    have HKE : Hid (n % 32 = k) := hke
    have hpl : p < 32 := by omega
    have hk : k < 32 := by omega
    have hpI : (p : Int) < 32 := by omega
    obtain ⟨x, hx⟩ : ∃ x, l1.getD p 0 = x := ⟨_, rfl⟩
    have HX : Hid (l1.getD p 0 = x) := hx
    have hx2 := H1.out.2.1.at p
    rw [hx] at hx2
    obtain ⟨X, rfl⟩ := Int.eq_ofNat_of_zero_le hx2.1
    have hxl : X < 4294967296 := by omega
    obtain ⟨M, hM⟩ : ∃ M : Int, ((2 ^ k : Nat) : Int) = M := ⟨_, rfl⟩
    have HM : Hid (((2 ^ k : Nat) : Int) = M) := hM
    obtain ⟨Y, hY⟩ : ∃ Y : Int, ((setN X k : Nat) : Int) = Y := ⟨_, rfl⟩
    have HY : Hid (bits .or .u32 (X : Int) M = Y) := by rw [← hM, ← hY]; exact set_u32 X k hxl hk
    have HYb : Hid (0 ≤ Y ∧ Y ≤ 4294967295) := by have := setN_lt X k hxl hk; rw [← hY]; show _ ∧ _; omega
    have HA : Hid (addL top l n = l1.set p Y) := by
      show _ = _
      rw [HL1.out]
      unfold setL
      rw [show n % 1024 / 32 = p from hpe, show n % 1024 % 32 = k by omega, hx, Int.toNat_natCast, hY]
    clear hpe hke hx hx2 hxl hM hY hk
    generalize (X : Int) = x at *
    go_wp2_with fail
    refine (placeOf n w1 HN.out).mono ?_
    rw [HPE.out, HKE.out, HM.out]
    rintro e w2 ⟨rfl, m, hw2⟩
    have B2 : Hid (Below w1.heap.size w1 w2) := by rw [hw2]; exact below_drewN (Below.refl _ _) _
    have H2 : Hid (Wnd w2 g t1 l1) := H1.out.later B2.out
    clear hw2 H1
    go_upto_region 3 with fail
    generalize hA : Act.mk _ _ = A
    have a0' : A.eval (.tmp 0) = .pointer (some ⟨g, 0, none⟩) := by rw [← hA]; rfl
    have a4' : A.eval (.tmp 4) = .int .i64 (p : Int) := by rw [← hA]; rfl
    have a5' : A.eval (.tmp 5) = .int .u32 M := by rw [← hA]; rfl
    have asz : A.tmps.size = 31 := by rw [← hA]; rfl
    have hW : ∀ wx, Below w2.heap.size w2 wx → Wnd wx g t1 l1 := fun wx hb => H2.out.later hb
    refine region_each (by kernel_rfl) [20, 21, 22, 23, 24, 25, 26, 27, 28, 29, 30] 11 (fun i => [20, 21, 22, 23, 24, 25, 26, 27, 28, 29, 30].getD i 0) (fun _ => 0)
      (fun i gB v wx => match i with
        | 0 => v = .pointer (some ⟨g, 0, none⟩)
        | 1 => v = .int .i64 (p : Int)
        | 2 => v = .pointer (some ⟨g, 0, none⟩)
        | 3 => v = .pointer (some ⟨g, 1, none⟩)
        | 4 => v = .pointer (some ⟨g, 1 + p, none⟩)
        | 5 => v = .int .u32 x
        | 6 => v = .int .u32 M
        | 7 => v = .int .u32 (bits .or .u32 x M)
        | 8 => v = .pointer (some ⟨g, 0, none⟩)
        | 9 => v = .pointer (some ⟨g, 1, none⟩)
        | 10 => v = .pointer (some ⟨g, 1 + p, none⟩)
        | _ => False) (fun wx => Below w2.heap.size w2 wx) (by kernel_rfl) (Below.refl _ _).drew ?_ ?_ ?_
    · intro i gB v wx wy hi hF hb _
      match i, hi with
      | 0, _ => exact hF
      | 1, _ => exact hF
      | 2, _ => exact hF
      | 3, _ => exact hF
      | 4, _ => exact hF
      | 5, _ => exact hF
      | 6, _ => exact hF
      | 7, _ => exact hF
      | 8, _ => exact hF
      | 9, _ => exact hF
      | 10, _ => exact hF
    · intro i hi t ρ wx hB hp hd
      match i, hi with
      | 0, _ =>
        have e0 : (fr [20, 21, 22, 23, 24, 25, 26, 27, 28, 29, 30] A t).eval (.tmp 0) = .pointer (some ⟨g, 0, none⟩) := (fr_eval_old _ _ _ 0 rfl).trans a0'
        refine op_run (v := .pointer (some ⟨g, 0, none⟩)) (w' := wx) rfl rfl ?_ ?_
        · clear hp hd; have ec : ∀ v, (fr [20, 21, 22, 23, 24, 25, 26, 27, 28, 29, 30] A t).eval (.const v) = v := fun _ => rfl; generalize (fr [20, 21, 22, 23, 24, 25, 26, 27, 28, 29, 30] A t).eval = ev at ec e0 ⊢; go_simp
        · exact ⟨_, 0, rfl, hB, Below.refl _ _, rfl, .inl rfl⟩
      | 1, _ =>
        have e4 : (fr [20, 21, 22, 23, 24, 25, 26, 27, 28, 29, 30] A t).eval (.tmp 4) = .int .i64 (p : Int) := (fr_eval_old _ _ _ 4 rfl).trans a4'
        refine op_run (v := .int .i64 (p : Int)) (w' := wx) rfl rfl ?_ ?_
        · clear hp hd; have ec : ∀ v, (fr [20, 21, 22, 23, 24, 25, 26, 27, 28, 29, 30] A t).eval (.const v) = v := fun _ => rfl; generalize (fr [20, 21, 22, 23, 24, 25, 26, 27, 28, 29, 30] A t).eval = ev at ec e4 ⊢; go_simp
        · exact ⟨_, 0, rfl, hB, Below.refl _ _, rfl, .inl rfl⟩
      | 2, _ =>
        have e20 : (fr [20, 21, 22, 23, 24, 25, 26, 27, 28, 29, 30] A t).eval (.tmp 20) = .pointer (some ⟨g, 0, none⟩) := (fr_eval _ _ _ 20 rfl (by rw [asz]; decide)).trans (hp 0 (pre_mem (by kernel_rfl)))
        refine op_run (v := .pointer (some ⟨g, 0, none⟩)) (w' := wx) rfl rfl ?_ ?_
        · clear hp hd; have ec : ∀ v, (fr [20, 21, 22, 23, 24, 25, 26, 27, 28, 29, 30] A t).eval (.const v) = v := fun _ => rfl; generalize (fr [20, 21, 22, 23, 24, 25, 26, 27, 28, 29, 30] A t).eval = ev at ec e20 ⊢; go_simp
        · exact ⟨_, 0, rfl, hB, Below.refl _ _, rfl, .inl rfl⟩
      | 3, _ =>
        have e22 : (fr [20, 21, 22, 23, 24, 25, 26, 27, 28, 29, 30] A t).eval (.tmp 22) = .pointer (some ⟨g, 0, none⟩) := (fr_eval _ _ _ 22 rfl (by rw [asz]; decide)).trans (hp 2 (pre_mem (by kernel_rfl)))
        refine op_run (v := .pointer (some ⟨g, 1, none⟩)) (w' := wx) rfl rfl ?_ ?_
        · clear hp hd; have ec : ∀ v, (fr [20, 21, 22, 23, 24, 25, 26, 27, 28, 29, 30] A t).eval (.const v) = v := fun _ => rfl; generalize (fr [20, 21, 22, 23, 24, 25, 26, 27, 28, 29, 30] A t).eval = ev at ec e22 ⊢; go_simp
        · exact ⟨_, 0, rfl, hB, Below.refl _ _, rfl, .inl rfl⟩
      | 4, _ =>
        have e23 : (fr [20, 21, 22, 23, 24, 25, 26, 27, 28, 29, 30] A t).eval (.tmp 23) = .pointer (some ⟨g, 1, none⟩) := (fr_eval _ _ _ 23 rfl (by rw [asz]; decide)).trans (hp 3 (pre_mem (by kernel_rfl)))
        have e21 : (fr [20, 21, 22, 23, 24, 25, 26, 27, 28, 29, 30] A t).eval (.tmp 21) = .int .i64 (p : Int) := (fr_eval _ _ _ 21 rfl (by rw [asz]; decide)).trans (hp 1 (pre_mem (by kernel_rfl)))
        refine op_run (v := .pointer (some ⟨g, 1 + p, none⟩)) (w' := wx) rfl rfl ?_ ?_
        · clear hp hd; have ec : ∀ v, (fr [20, 21, 22, 23, 24, 25, 26, 27, 28, 29, 30] A t).eval (.const v) = v := fun _ => rfl; generalize (fr [20, 21, 22, 23, 24, 25, 26, 27, 28, 29, 30] A t).eval = ev at ec e23 e21 ⊢; go_simp
        · exact ⟨_, 0, rfl, hB, Below.refl _ _, rfl, .inl rfl⟩
      | 5, _ =>
        have e24 : (fr [20, 21, 22, 23, 24, 25, 26, 27, 28, 29, 30] A t).eval (.tmp 24) = .pointer (some ⟨g, 1 + p, none⟩) := (fr_eval _ _ _ 24 rfl (by rw [asz]; decide)).trans (hp 4 (pre_mem (by kernel_rfl)))
        have hc : wx.cell? ⟨g, 1 + p, none⟩ = some (.int .u32 x) := by rw [(hW wx hB).word p hpl, HX.out]
        refine op_run (v := .int .u32 x) (w' := wx) rfl rfl ?_ ?_
        · clear hp hd; have ec : ∀ v, (fr [20, 21, 22, 23, 24, 25, 26, 27, 28, 29, 30] A t).eval (.const v) = v := fun _ => rfl; generalize (fr [20, 21, 22, 23, 24, 25, 26, 27, 28, 29, 30] A t).eval = ev at ec e24 ⊢; go_simp
        · exact ⟨_, 0, rfl, hB, Below.refl _ _, rfl, .inl rfl⟩
      | 6, _ =>
        have e5 : (fr [20, 21, 22, 23, 24, 25, 26, 27, 28, 29, 30] A t).eval (.tmp 5) = .int .u32 M := (fr_eval_old _ _ _ 5 rfl).trans a5'
        refine op_run (v := .int .u32 M) (w' := wx) rfl rfl ?_ ?_
        · clear hp hd; have ec : ∀ v, (fr [20, 21, 22, 23, 24, 25, 26, 27, 28, 29, 30] A t).eval (.const v) = v := fun _ => rfl; generalize (fr [20, 21, 22, 23, 24, 25, 26, 27, 28, 29, 30] A t).eval = ev at ec e5 ⊢; go_simp
        · exact ⟨_, 0, rfl, hB, Below.refl _ _, rfl, .inl rfl⟩
      | 7, _ =>
        have e25 : (fr [20, 21, 22, 23, 24, 25, 26, 27, 28, 29, 30] A t).eval (.tmp 25) = .int .u32 x := (fr_eval _ _ _ 25 rfl (by rw [asz]; decide)).trans (hp 5 (pre_mem (by kernel_rfl)))
        have e26 : (fr [20, 21, 22, 23, 24, 25, 26, 27, 28, 29, 30] A t).eval (.tmp 26) = .int .u32 M := (fr_eval _ _ _ 26 rfl (by rw [asz]; decide)).trans (hp 6 (pre_mem (by kernel_rfl)))
        refine op_run (v := .int .u32 (bits .or .u32 x M)) (w' := wx) rfl rfl ?_ ?_
        · clear hp hd; have ec : ∀ v, (fr [20, 21, 22, 23, 24, 25, 26, 27, 28, 29, 30] A t).eval (.const v) = v := fun _ => rfl; generalize (fr [20, 21, 22, 23, 24, 25, 26, 27, 28, 29, 30] A t).eval = ev at ec e25 e26 ⊢; go_simp
        · exact ⟨_, 0, rfl, hB, Below.refl _ _, rfl, .inl rfl⟩
      | 8, _ =>
        have e20 : (fr [20, 21, 22, 23, 24, 25, 26, 27, 28, 29, 30] A t).eval (.tmp 20) = .pointer (some ⟨g, 0, none⟩) := (fr_eval _ _ _ 20 rfl (by rw [asz]; decide)).trans (hp 0 (pre_mem (by kernel_rfl)))
        refine op_run (v := .pointer (some ⟨g, 0, none⟩)) (w' := wx) rfl rfl ?_ ?_
        · clear hp hd; have ec : ∀ v, (fr [20, 21, 22, 23, 24, 25, 26, 27, 28, 29, 30] A t).eval (.const v) = v := fun _ => rfl; generalize (fr [20, 21, 22, 23, 24, 25, 26, 27, 28, 29, 30] A t).eval = ev at ec e20 ⊢; go_simp
        · exact ⟨_, 0, rfl, hB, Below.refl _ _, rfl, .inl rfl⟩
      | 9, _ =>
        have e28 : (fr [20, 21, 22, 23, 24, 25, 26, 27, 28, 29, 30] A t).eval (.tmp 28) = .pointer (some ⟨g, 0, none⟩) := (fr_eval _ _ _ 28 rfl (by rw [asz]; decide)).trans (hp 8 (pre_mem (by kernel_rfl)))
        refine op_run (v := .pointer (some ⟨g, 1, none⟩)) (w' := wx) rfl rfl ?_ ?_
        · clear hp hd; have ec : ∀ v, (fr [20, 21, 22, 23, 24, 25, 26, 27, 28, 29, 30] A t).eval (.const v) = v := fun _ => rfl; generalize (fr [20, 21, 22, 23, 24, 25, 26, 27, 28, 29, 30] A t).eval = ev at ec e28 ⊢; go_simp
        · exact ⟨_, 0, rfl, hB, Below.refl _ _, rfl, .inl rfl⟩
      | 10, _ =>
        have e29 : (fr [20, 21, 22, 23, 24, 25, 26, 27, 28, 29, 30] A t).eval (.tmp 29) = .pointer (some ⟨g, 1, none⟩) := (fr_eval _ _ _ 29 rfl (by rw [asz]; decide)).trans (hp 9 (pre_mem (by kernel_rfl)))
        have e21 : (fr [20, 21, 22, 23, 24, 25, 26, 27, 28, 29, 30] A t).eval (.tmp 21) = .int .i64 (p : Int) := (fr_eval _ _ _ 21 rfl (by rw [asz]; decide)).trans (hp 1 (pre_mem (by kernel_rfl)))
        refine op_run (v := .pointer (some ⟨g, 1 + p, none⟩)) (w' := wx) rfl rfl ?_ ?_
        · clear hp hd; have ec : ∀ v, (fr [20, 21, 22, 23, 24, 25, 26, 27, 28, 29, 30] A t).eval (.const v) = v := fun _ => rfl; generalize (fr [20, 21, 22, 23, 24, 25, 26, 27, 28, 29, 30] A t).eval = ev at ec e29 e21 ⊢; go_simp
        · exact ⟨_, 0, rfl, hB, Below.refl _ _, rfl, .inl rfl⟩
    · intro t ρ wx hB hF hne
      have e30 : (fr [20, 21, 22, 23, 24, 25, 26, 27, 28, 29, 30] A t).eval (.tmp 30) = .pointer (some ⟨g, 1 + p, none⟩) := (fr_eval _ _ _ 30 rfl (by rw [asz]; decide)).trans (hF 10 (by decide))
      have e27 : (fr [20, 21, 22, 23, 24, 25, 26, 27, 28, 29, 30] A t).eval (.tmp 27) = .int .u32 (bits .or .u32 x M) := (fr_eval _ _ _ 27 rfl (by rw [asz]; decide)).trans (hF 7 (by decide))
      clear hne
      have q0 : ∃ v, wx.cell? ⟨g, 1 + p, none⟩ = some v := ⟨_, (hW wx hB).word p hpl⟩
      obtain ⟨v0, q0⟩ := q0
      have f0 := (hW wx hB).froz (1 + p)
      have kW : Hid (Wnd wx g t1 l1) := hW wx hB
      refine op_wp rfl rfl ?_
      clear hF hW
      generalize hE : (fr [20, 21, 22, 23, 24, 25, 26, 27, 28, 29, 30] A t).eval = ev at e30 e27
      unfold Oper.wp
      rw [hE]
      go_simp
      rw [← hA]
      go_end0
      exact ⟨rfl, by rw [← HT1.out, HA.out]; have := kW.out.setWord p Y HYb.out; rw [HY.out]; exact this, HK1.out.trans ((Kept.of_below B2.out 0).any.trans ((Kept.of_below hB 0).any.trans (Kept.setCell _ _ _ _)))⟩
  · go_upto_region 2 with fail
    obtain ⟨l1, hl1⟩ : ∃ l1, l = l1 := ⟨_, rfl⟩
    have HL1 : Hid (addL top l n = setL l1 (n % 1024)) := by show _ = _; unfold addL; rw [← hl1, show min ((n : Int) - top).toNat 1024 = 0 by omega]; rfl
    obtain ⟨t1, ht1⟩ : ∃ t1 : Int, top = t1 := ⟨_, rfl⟩
    have HT1 : Hid (t1 = max top n) := by show _ = _; omega
    obtain ⟨w1, hw1⟩ : ∃ w1, w = w1 := ⟨_, rfl⟩
    have H1 : Hid (Wnd w1 g t1 l1) := by rw [← hw1, ← hl1, ← ht1]; exact H0.out
    have HK1 : Hid (Kept g (g + 1) w w1) := by rw [← hw1]; exact Kept.refl _ _ _
    have HN : Hid (n ≤ 562949953421312) := by show _ ≤ _; omega
    clear c0 hl1 ht1 H0 hn hgt
    rw [hw1]
    clear hw1
    obtain ⟨p, hpe⟩ : ∃ p, n % 1024 / 32 = p := ⟨_, rfl⟩
    obtain ⟨k, hke⟩ : ∃ k, n % 32 = k := ⟨_, rfl⟩
    have HPE : Hid (n % 1024 / 32 = p) := hpe
    have HKE : Hid (n % 32 = k) := hke
    have hpl : p < 32 := by omega
    have hk : k < 32 := by omega
    have hpI : (p : Int) < 32 := by omega
    obtain ⟨x, hx⟩ : ∃ x, l1.getD p 0 = x := ⟨_, rfl⟩
    have HX : Hid (l1.getD p 0 = x) := hx
    have hx2 := H1.out.2.1.at p
    rw [hx] at hx2
    obtain ⟨X, rfl⟩ := Int.eq_ofNat_of_zero_le hx2.1
    have hxl : X < 4294967296 := by omega
    obtain ⟨M, hM⟩ : ∃ M : Int, ((2 ^ k : Nat) : Int) = M := ⟨_, rfl⟩
    have HM : Hid (((2 ^ k : Nat) : Int) = M) := hM
    obtain ⟨Y, hY⟩ : ∃ Y : Int, ((setN X k : Nat) : Int) = Y := ⟨_, rfl⟩
    have HY : Hid (bits .or .u32 (X : Int) M = Y) := by rw [← hM, ← hY]; exact set_u32 X k hxl hk
    have HYb : Hid (0 ≤ Y ∧ Y ≤ 4294967295) := by have := setN_lt X k hxl hk; rw [← hY]; show _ ∧ _; omega
    have HA : Hid (addL top l n = l1.set p Y) := by
      show _ = _
      rw [HL1.out]
      unfold setL
      rw [show n % 1024 / 32 = p from hpe, show n % 1024 % 32 = k by omega, hx, Int.toNat_natCast, hY]
    clear hpe hke hx hx2 hxl hM hY hk
    generalize (X : Int) = x at *
    go_wp2_with fail
    refine (placeOf n w1 HN.out).mono ?_
    rw [HPE.out, HKE.out, HM.out]
    rintro e w2 ⟨rfl, m, hw2⟩
    have B2 : Hid (Below w1.heap.size w1 w2) := by rw [hw2]; exact below_drewN (Below.refl _ _) _
    have H2 : Hid (Wnd w2 g t1 l1) := H1.out.later B2.out
    clear hw2 H1
    go_upto_region 3 with fail
    generalize hA : Act.mk _ _ = A
    have a0' : A.eval (.tmp 0) = .pointer (some ⟨g, 0, none⟩) := by rw [← hA]; rfl
    have a4' : A.eval (.tmp 4) = .int .i64 (p : Int) := by rw [← hA]; rfl
    have a5' : A.eval (.tmp 5) = .int .u32 M := by rw [← hA]; rfl
    have asz : A.tmps.size = 31 := by rw [← hA]; rfl
    have hW : ∀ wx, Below w2.heap.size w2 wx → Wnd wx g t1 l1 := fun wx hb => H2.out.later hb
    refine region_each (by kernel_rfl) [20, 21, 22, 23, 24, 25, 26, 27, 28, 29, 30] 11 (fun i => [20, 21, 22, 23, 24, 25, 26, 27, 28, 29, 30].getD i 0) (fun _ => 0)
      (fun i gB v wx => match i with
        | 0 => v = .pointer (some ⟨g, 0, none⟩)
        | 1 => v = .int .i64 (p : Int)
        | 2 => v = .pointer (some ⟨g, 0, none⟩)
        | 3 => v = .pointer (some ⟨g, 1, none⟩)
        | 4 => v = .pointer (some ⟨g, 1 + p, none⟩)
        | 5 => v = .int .u32 x
        | 6 => v = .int .u32 M
        | 7 => v = .int .u32 (bits .or .u32 x M)
        | 8 => v = .pointer (some ⟨g, 0, none⟩)
        | 9 => v = .pointer (some ⟨g, 1, none⟩)
        | 10 => v = .pointer (some ⟨g, 1 + p, none⟩)
        | _ => False) (fun wx => Below w2.heap.size w2 wx) (by kernel_rfl) (Below.refl _ _).drew ?_ ?_ ?_
    · intro i gB v wx wy hi hF hb _
      match i, hi with
      | 0, _ => exact hF
      | 1, _ => exact hF
      | 2, _ => exact hF
      | 3, _ => exact hF
      | 4, _ => exact hF
      | 5, _ => exact hF
      | 6, _ => exact hF
      | 7, _ => exact hF
      | 8, _ => exact hF
      | 9, _ => exact hF
      | 10, _ => exact hF
    · intro i hi t ρ wx hB hp hd
      match i, hi with
      | 0, _ =>
        have e0 : (fr [20, 21, 22, 23, 24, 25, 26, 27, 28, 29, 30] A t).eval (.tmp 0) = .pointer (some ⟨g, 0, none⟩) := (fr_eval_old _ _ _ 0 rfl).trans a0'
        refine op_run (v := .pointer (some ⟨g, 0, none⟩)) (w' := wx) rfl rfl ?_ ?_
        · clear hp hd; have ec : ∀ v, (fr [20, 21, 22, 23, 24, 25, 26, 27, 28, 29, 30] A t).eval (.const v) = v := fun _ => rfl; generalize (fr [20, 21, 22, 23, 24, 25, 26, 27, 28, 29, 30] A t).eval = ev at ec e0 ⊢; go_simp
        · exact ⟨_, 0, rfl, hB, Below.refl _ _, rfl, .inl rfl⟩
      | 1, _ =>
        have e4 : (fr [20, 21, 22, 23, 24, 25, 26, 27, 28, 29, 30] A t).eval (.tmp 4) = .int .i64 (p : Int) := (fr_eval_old _ _ _ 4 rfl).trans a4'
        refine op_run (v := .int .i64 (p : Int)) (w' := wx) rfl rfl ?_ ?_
        · clear hp hd; have ec : ∀ v, (fr [20, 21, 22, 23, 24, 25, 26, 27, 28, 29, 30] A t).eval (.const v) = v := fun _ => rfl; generalize (fr [20, 21, 22, 23, 24, 25, 26, 27, 28, 29, 30] A t).eval = ev at ec e4 ⊢; go_simp
        · exact ⟨_, 0, rfl, hB, Below.refl _ _, rfl, .inl rfl⟩
      | 2, _ =>
        have e20 : (fr [20, 21, 22, 23, 24, 25, 26, 27, 28, 29, 30] A t).eval (.tmp 20) = .pointer (some ⟨g, 0, none⟩) := (fr_eval _ _ _ 20 rfl (by rw [asz]; decide)).trans (hp 0 (pre_mem (by kernel_rfl)))
        refine op_run (v := .pointer (some ⟨g, 0, none⟩)) (w' := wx) rfl rfl ?_ ?_
        · clear hp hd; have ec : ∀ v, (fr [20, 21, 22, 23, 24, 25, 26, 27, 28, 29, 30] A t).eval (.const v) = v := fun _ => rfl; generalize (fr [20, 21, 22, 23, 24, 25, 26, 27, 28, 29, 30] A t).eval = ev at ec e20 ⊢; go_simp
        · exact ⟨_, 0, rfl, hB, Below.refl _ _, rfl, .inl rfl⟩
      | 3, _ =>
        have e22 : (fr [20, 21, 22, 23, 24, 25, 26, 27, 28, 29, 30] A t).eval (.tmp 22) = .pointer (some ⟨g, 0, none⟩) := (fr_eval _ _ _ 22 rfl (by rw [asz]; decide)).trans (hp 2 (pre_mem (by kernel_rfl)))
        refine op_run (v := .pointer (some ⟨g, 1, none⟩)) (w' := wx) rfl rfl ?_ ?_
        · clear hp hd; have ec : ∀ v, (fr [20, 21, 22, 23, 24, 25, 26, 27, 28, 29, 30] A t).eval (.const v) = v := fun _ => rfl; generalize (fr [20, 21, 22, 23, 24, 25, 26, 27, 28, 29, 30] A t).eval = ev at ec e22 ⊢; go_simp
        · exact ⟨_, 0, rfl, hB, Below.refl _ _, rfl, .inl rfl⟩
      | 4, _ =>
        have e23 : (fr [20, 21, 22, 23, 24, 25, 26, 27, 28, 29, 30] A t).eval (.tmp 23) = .pointer (some ⟨g, 1, none⟩) := (fr_eval _ _ _ 23 rfl (by rw [asz]; decide)).trans (hp 3 (pre_mem (by kernel_rfl)))
        have e21 : (fr [20, 21, 22, 23, 24, 25, 26, 27, 28, 29, 30] A t).eval (.tmp 21) = .int .i64 (p : Int) := (fr_eval _ _ _ 21 rfl (by rw [asz]; decide)).trans (hp 1 (pre_mem (by kernel_rfl)))
        refine op_run (v := .pointer (some ⟨g, 1 + p, none⟩)) (w' := wx) rfl rfl ?_ ?_
        · clear hp hd; have ec : ∀ v, (fr [20, 21, 22, 23, 24, 25, 26, 27, 28, 29, 30] A t).eval (.const v) = v := fun _ => rfl; generalize (fr [20, 21, 22, 23, 24, 25, 26, 27, 28, 29, 30] A t).eval = ev at ec e23 e21 ⊢; go_simp
        · exact ⟨_, 0, rfl, hB, Below.refl _ _, rfl, .inl rfl⟩
      | 5, _ =>
        have e24 : (fr [20, 21, 22, 23, 24, 25, 26, 27, 28, 29, 30] A t).eval (.tmp 24) = .pointer (some ⟨g, 1 + p, none⟩) := (fr_eval _ _ _ 24 rfl (by rw [asz]; decide)).trans (hp 4 (pre_mem (by kernel_rfl)))
        have hc : wx.cell? ⟨g, 1 + p, none⟩ = some (.int .u32 x) := by rw [(hW wx hB).word p hpl, HX.out]
        refine op_run (v := .int .u32 x) (w' := wx) rfl rfl ?_ ?_
        · clear hp hd; have ec : ∀ v, (fr [20, 21, 22, 23, 24, 25, 26, 27, 28, 29, 30] A t).eval (.const v) = v := fun _ => rfl; generalize (fr [20, 21, 22, 23, 24, 25, 26, 27, 28, 29, 30] A t).eval = ev at ec e24 ⊢; go_simp
        · exact ⟨_, 0, rfl, hB, Below.refl _ _, rfl, .inl rfl⟩
      | 6, _ =>
        have e5 : (fr [20, 21, 22, 23, 24, 25, 26, 27, 28, 29, 30] A t).eval (.tmp 5) = .int .u32 M := (fr_eval_old _ _ _ 5 rfl).trans a5'
        refine op_run (v := .int .u32 M) (w' := wx) rfl rfl ?_ ?_
        · clear hp hd; have ec : ∀ v, (fr [20, 21, 22, 23, 24, 25, 26, 27, 28, 29, 30] A t).eval (.const v) = v := fun _ => rfl; generalize (fr [20, 21, 22, 23, 24, 25, 26, 27, 28, 29, 30] A t).eval = ev at ec e5 ⊢; go_simp
        · exact ⟨_, 0, rfl, hB, Below.refl _ _, rfl, .inl rfl⟩
      | 7, _ =>
        have e25 : (fr [20, 21, 22, 23, 24, 25, 26, 27, 28, 29, 30] A t).eval (.tmp 25) = .int .u32 x := (fr_eval _ _ _ 25 rfl (by rw [asz]; decide)).trans (hp 5 (pre_mem (by kernel_rfl)))
        have e26 : (fr [20, 21, 22, 23, 24, 25, 26, 27, 28, 29, 30] A t).eval (.tmp 26) = .int .u32 M := (fr_eval _ _ _ 26 rfl (by rw [asz]; decide)).trans (hp 6 (pre_mem (by kernel_rfl)))
        refine op_run (v := .int .u32 (bits .or .u32 x M)) (w' := wx) rfl rfl ?_ ?_
        · clear hp hd; have ec : ∀ v, (fr [20, 21, 22, 23, 24, 25, 26, 27, 28, 29, 30] A t).eval (.const v) = v := fun _ => rfl; generalize (fr [20, 21, 22, 23, 24, 25, 26, 27, 28, 29, 30] A t).eval = ev at ec e25 e26 ⊢; go_simp
        · exact ⟨_, 0, rfl, hB, Below.refl _ _, rfl, .inl rfl⟩
      | 8, _ =>
        have e20 : (fr [20, 21, 22, 23, 24, 25, 26, 27, 28, 29, 30] A t).eval (.tmp 20) = .pointer (some ⟨g, 0, none⟩) := (fr_eval _ _ _ 20 rfl (by rw [asz]; decide)).trans (hp 0 (pre_mem (by kernel_rfl)))
        refine op_run (v := .pointer (some ⟨g, 0, none⟩)) (w' := wx) rfl rfl ?_ ?_
        · clear hp hd; have ec : ∀ v, (fr [20, 21, 22, 23, 24, 25, 26, 27, 28, 29, 30] A t).eval (.const v) = v := fun _ => rfl; generalize (fr [20, 21, 22, 23, 24, 25, 26, 27, 28, 29, 30] A t).eval = ev at ec e20 ⊢; go_simp
        · exact ⟨_, 0, rfl, hB, Below.refl _ _, rfl, .inl rfl⟩
      | 9, _ =>
        have e28 : (fr [20, 21, 22, 23, 24, 25, 26, 27, 28, 29, 30] A t).eval (.tmp 28) = .pointer (some ⟨g, 0, none⟩) := (fr_eval _ _ _ 28 rfl (by rw [asz]; decide)).trans (hp 8 (pre_mem (by kernel_rfl)))
        refine op_run (v := .pointer (some ⟨g, 1, none⟩)) (w' := wx) rfl rfl ?_ ?_
        · clear hp hd; have ec : ∀ v, (fr [20, 21, 22, 23, 24, 25, 26, 27, 28, 29, 30] A t).eval (.const v) = v := fun _ => rfl; generalize (fr [20, 21, 22, 23, 24, 25, 26, 27, 28, 29, 30] A t).eval = ev at ec e28 ⊢; go_simp
        · exact ⟨_, 0, rfl, hB, Below.refl _ _, rfl, .inl rfl⟩
      | 10, _ =>
        have e29 : (fr [20, 21, 22, 23, 24, 25, 26, 27, 28, 29, 30] A t).eval (.tmp 29) = .pointer (some ⟨g, 1, none⟩) := (fr_eval _ _ _ 29 rfl (by rw [asz]; decide)).trans (hp 9 (pre_mem (by kernel_rfl)))
        have e21 : (fr [20, 21, 22, 23, 24, 25, 26, 27, 28, 29, 30] A t).eval (.tmp 21) = .int .i64 (p : Int) := (fr_eval _ _ _ 21 rfl (by rw [asz]; decide)).trans (hp 1 (pre_mem (by kernel_rfl)))
        refine op_run (v := .pointer (some ⟨g, 1 + p, none⟩)) (w' := wx) rfl rfl ?_ ?_
        · clear hp hd; have ec : ∀ v, (fr [20, 21, 22, 23, 24, 25, 26, 27, 28, 29, 30] A t).eval (.const v) = v := fun _ => rfl; generalize (fr [20, 21, 22, 23, 24, 25, 26, 27, 28, 29, 30] A t).eval = ev at ec e29 e21 ⊢; go_simp
        · exact ⟨_, 0, rfl, hB, Below.refl _ _, rfl, .inl rfl⟩
    · intro t ρ wx hB hF hne
      have e30 : (fr [20, 21, 22, 23, 24, 25, 26, 27, 28, 29, 30] A t).eval (.tmp 30) = .pointer (some ⟨g, 1 + p, none⟩) := (fr_eval _ _ _ 30 rfl (by rw [asz]; decide)).trans (hF 10 (by decide))
      have e27 : (fr [20, 21, 22, 23, 24, 25, 26, 27, 28, 29, 30] A t).eval (.tmp 27) = .int .u32 (bits .or .u32 x M) := (fr_eval _ _ _ 27 rfl (by rw [asz]; decide)).trans (hF 7 (by decide))
      clear hne
      have q0 : ∃ v, wx.cell? ⟨g, 1 + p, none⟩ = some v := ⟨_, (hW wx hB).word p hpl⟩
      obtain ⟨v0, q0⟩ := q0
      have f0 := (hW wx hB).froz (1 + p)
      have kW : Hid (Wnd wx g t1 l1) := hW wx hB
      refine op_wp rfl rfl ?_
      clear hF hW
      generalize hE : (fr [20, 21, 22, 23, 24, 25, 26, 27, 28, 29, 30] A t).eval = ev at e30 e27
      unfold Oper.wp
      rw [hE]
      go_simp
      rw [← hA]
      go_end0
      exact ⟨rfl, by rw [← HT1.out, HA.out]; have := kW.out.setWord p Y HYb.out; rw [HY.out]; exact this, HK1.out.trans ((Kept.of_below B2.out 0).any.trans ((Kept.of_below hB 0).any.trans (Kept.setCell _ _ _ _)))⟩
end Go.Proofs.Ytmcflfpckpjphaa.WnI

namespace Go.Proofs.Ytmcflfpckpjphaa.WnJ
open Go.RowKit Go.Proofs.Ytmcflfpckpjphaa.Mem Go.Proofs.Ytmcflfpckpjphaa.MemI Go.Proofs.Ytmcflfpckpjphaa.Blk Go.Proofs.Ytmcflfpckpjphaa.Zone Go.Proofs.Ytmcflfpckpjphaa.ZoneI Go.Proofs.Ytmcflfpckpjphaa.WnZ Go.Proofs.Ytmcflfpckpjphaa.Res Go.Proofs.Ytmcflfpckpjphaa.Each Go.Proofs.Ytmcflfpckpjphaa.Copy Go.Proofs.Ytmcflfpckpjphaa.Ops Go.Proofs.Ytmcflfpckpjphaa.WinP Go.Proofs.Ytmcflfpckpjphaa.WinB Go.Proofs.Ytmcflfpckpjphaa.Bits Go.Proofs.Ytmcflfpckpjphaa.WnI

def room (i : Nat) (top : Int) : Nat := 2 ^ min (top + 1 - 32 * i).toNat 32 - 1
set_option maxRecDepth 100000 in
set_option maxHeartbeats 800000 in
theorem roomIn (i : Nat) (top : Int) (w : World) (hi : i < 32) (lo : -1 ≤ top) (ht : top ≤ 281474976710655) :
    Calls Try.prog 107 #[.int .i64 i, .int .i64 top] w fun e w' => e = .returned (.int .u32 (room i top : Nat)) ∧ w = w' := by
  by_cases h : 0 < top + 1 - (i : Int) * 32
  · obtain ⟨A, hA⟩ : ∃ A : Nat, top + 1 - (i : Int) * 32 = (A : Int) := ⟨(top + 1 - (i : Int) * 32).toNat, by omega⟩
    have h0 : (0 : Int) ≤ A := by omega
    rw [hA] at h
    have HR : Hid (room i top = 2 ^ min A 32 - 1) := by show _ = _; unfold room; rw [show (top + 1 - 32 * (i : Int)).toNat = A by omega]
    go_enter Try.func107, Try.ntmps107
    go_wp2
    go_ret
    refine ⟨?_, rfl⟩
    show Ending.returned (.int .u32 (((2 : Int) ^ min A 32 % 4294967296 - 1) % 4294967296)) = _
    rw [HR.out]
    have p1 : 2 ^ min A 32 ≤ 2 ^ 32 := Nat.pow_le_pow_right (by omega) (by omega)
    have p0 : 0 < 2 ^ min A 32 := Nat.two_pow_pos _
    obtain ⟨M, hM⟩ : ∃ M : Nat, 2 ^ min A 32 = M := ⟨_, rfl⟩
    have e2 : (2 : Int) ^ min A 32 = (M : Int) := by rw [← hM]; simp
    rw [hM] at p1 p0
    rw [e2, hM, show ((M : Int) % 4294967296 - 1) % 4294967296 = ((M - 1 : Nat) : Int) by omega]
  · go_enter Try.func107, Try.ntmps107
    go_wp2
    go_ret
    refine ⟨?_, rfl⟩
    unfold room
    rw [show (top + 1 - 32 * (i : Int)).toNat = 0 by omega]
    rfl

/-- Nothing is set above the top. -/
def Free (top : Int) (l : List Int) : Prop := ∀ n : Nat, top < (n : Int) → n < 1024 → bit l n = false
open Classical in
noncomputable def winRight (top : Int) (l : List Int) : Bool := decide (Free top l) && (decide (top = -1) || WinP.has top l top)
set_option maxRecDepth 100000 in
theorem right_true {top : Int} {l : List Int} : winRight top l = true ↔ Free top l ∧ (top = -1 ∨ WinP.has top l top = true) := by
  unfold winRight; simp
set_option maxRecDepth 100000 in
theorem ok_right {top : Int} {l : List Int} (hl : l.length = 32) (lo : -1 ≤ top) (hi : top ≤ 281474976710655) (hw : Words l) : winRight top l = winOk top l := by
  rw [Bool.eq_iff_iff, winOk_iff, right_true]
  constructor
  · rintro ⟨h1, h2⟩
    refine ⟨hl, lo, hi, hw, fun h0 => ?_, h1⟩
    rcases h2 with h2 | h2
    · omega
    · rwa [has_yes (by omega)] at h2
  · intro h
    refine ⟨h.free, ?_⟩
    by_cases h0 : top = -1
    · exact .inl h0
    · right
      rw [has_yes (by omega)]
      exact h.taken (by omega)
set_option maxRecDepth 100000 in
theorem word_free {top : Int} {l : List Int} {i X : Nat} (hi : i < 32) (hx : l.getD i 0 = (X : Int)) (hX : X < 4294967296) :
    (bits .andNot .u32 (X : Int) ((room i top : Nat) : Int) != 0) = false ↔ ∀ n : Nat, top < (n : Int) → 32 * i ≤ n → n < 32 * i + 32 → bit l n = false := by
  have hR : room i top < 4294967296 := by
    unfold room
    have : 2 ^ min (top + 1 - 32 * (i : Int)).toNat 32 ≤ 2 ^ 32 := Nat.pow_le_pow_right (by omega) (by omega)
    omega
  have e : (bits .andNot .u32 (X : Int) ((room i top : Nat) : Int) != 0) = false ↔ X ^^^ (X &&& room i top) = 0 := by
    rw [andNot_u32 X _ hX hR, bne_eq_false_iff_eq]
    omega
  have hb : ∀ n : Nat, 32 * i ≤ n → n < 32 * i + 32 → bit l n = X.testBit (n - 32 * i) := by
    intro n h1 h2
    unfold bit
    rw [show n % 1024 / 32 = i by omega, show n % 32 = n - 32 * i by omega, hx, Int.toNat_natCast]
  rw [e]
  unfold room
  rw [room_zero X _ hX]
  constructor
  · intro h n h1 h2 h3
    rw [hb n h2 h3]
    exact h _ (by omega) (by omega)
  · intro h j h1 h2
    have := h (32 * i + j) (by omega) (by omega) (by omega)
    rw [hb _ (by omega) (by omega)] at this
    rwa [show 32 * i + j - 32 * i = j by omega] at this

set_option maxRecDepth 100000 in
set_option maxHeartbeats 4000000 in
theorem right (g : Nat) (top : Int) (l : List Int) (w : World) (h : Wnd w g top l) (lo : -1 ≤ top) (ht : top ≤ 281474976710655) :
    Calls Try.prog 87 #[.pointer (some ⟨g, 0, none⟩)] w fun e w' => e = .returned (.bool (winRight top l)) ∧ Below w.heap.size w w' := by
  have H0 : Hid (Wnd w g top l) := h
  obtain ⟨v, hv⟩ : ∃ v, winRight top l = v := ⟨_, rfl⟩
  have HV : Hid (winRight top l = v) := hv
  rw [hv]
  clear hv h
  go_enter Try.func87, Try.ntmps87
  go_wp2
  go_loopw [4] (fun i wr => ∃ k : Nat, k ≤ 32 ∧ i = .int .i64 k ∧ Hid (∀ n : Nat, top < (n : Int) → n < 32 * k → bit l n = false) ∧ Below w.heap.size w wr) (fun i _ => 32 - (intOf i).toNat)
  case atStart => exact ⟨0, Nat.zero_le _, rfl, fun n _ h => absurd h (by omega), Below.refl _ _⟩
  case round =>
    obtain ⟨k, hk, rfl, HF, hbe⟩ := hrel
    have HBe : Hid (Below w.heap.size w wr) := hbe
    have HW : Hid (Wnd wr g top l) := H0.out.later hbe
    have c0 := HW.out.topCell
    clear hbe
    by_cases hlt : k < 32
    · obtain ⟨x, hx⟩ : ∃ x, l.getD k 0 = x := ⟨_, rfl⟩
      have HX : Hid (l.getD k 0 = x) := hx
      have hx2 := HW.out.2.1.at k
      rw [hx] at hx2
      obtain ⟨X, rfl⟩ := Int.eq_ofNat_of_zero_le hx2.1
      have hxl : X < 4294967296 := by omega
      have c1 : wr.cell? ⟨g, 1 + k, none⟩ = some (.int .u32 (X : Int)) := by rw [HW.out.word k hlt, hx]
      have HWF := word_free (top := top) hlt hx hxl
      clear hx hx2 hxl
      obtain ⟨R, hR⟩ : ∃ R : Int, ((room k top : Nat) : Int) = R := ⟨_, rfl⟩
      have HR : Hid (((room k top : Nat) : Int) = R) := hR
      have HRI : Hid (∀ wz : World, Calls Try.prog 107 #[.int .i64 k, .int .i64 top] wz fun e w' => e = .returned (.int .u32 R) ∧ ∃ m, w' = wz.drewN m) := by
        intro wz
        rw [← hR]
        refine (roomIn k top wz hlt lo ht).mono ?_
        rintro e w' ⟨rfl, rfl⟩
        exact ⟨rfl, 0, rfl⟩
      rw [hR] at HWF
      clear hR HR
      have HWF2 : Hid _ := HWF
      clear HWF
      generalize (X : Int) = x at *
      cases hz : (bits .andNot .u32 x R != 0) with
      | false =>
        have HF2 : Hid (∀ n : Nat, top < (n : Int) → n < 32 * (k + 1) → bit l n = false) := by
          intro n h1 h2
          by_cases h3 : n < 32 * k
          · exact HF.out n h1 h3
          · exact HWF2.out.1 hz n h1 (by omega) (by omega)
        go_wp2
        go_quiet (first | (go_at_call 107; refine Calls.quiet_of (HRI.out _)))
        go_wp2
        go_roundw
        case rel => exact ⟨k + 1, by omega, by go_num, HF2, below_drewN HBe.out _⟩
        case measure => simp [intOf]; omega
      | true =>
        have HFF : Hid (v = false) := by
          show v = false
          rw [← HV.out]
          refine Bool.eq_false_iff.2 fun e => ?_
          have hfree := (right_true.1 e).1
          rw [HWF2.out.2 (fun n h1 h2 h3 => hfree n h1 (by omega))] at hz
          cases hz
        go_wp2
        go_quiet (first | (go_at_call 107; refine Calls.quiet_of (HRI.out _)))
        go_wp2
        go_ret
        exact ⟨by rw [HFF.out]; rfl, below_drewN HBe.out _⟩
    · have HFr : Hid (Free top l) := fun n h1 h2 => HF.out n h1 (by omega)
      by_cases h1 : top = -1
      · have HT : Hid (v = true) := by
          show v = true
          rw [← HV.out]
          exact right_true.2 ⟨HFr.out, .inl h1⟩
        subst h1
        go_wp2
        go_ret
        exact ⟨by rw [HT.out]; rfl, HBe.out⟩
      · have hb1 : (top == -1) = false := by simpa using h1
        have HT : Hid (WinP.has top l top = v) := by
          show _ = v
          rw [← HV.out]
          rw [Bool.eq_iff_iff, right_true]
          exact ⟨fun h => ⟨HFr.out, .inr h⟩, fun h => h.2.resolve_left h1⟩
        go_wp2_with fail
        refine (has g top l top wr HW.out lo ht).mono ?_
        rw [HT.out]
        rintro e w2 ⟨rfl, b2⟩
        have B2 : Hid (Below w.heap.size w w2) := HBe.out.trans (b2.mono HBe.out.size)
        clear b2 c0
        go_wp2
        go_ret
        exact ⟨by first | rfl | simp, B2.out⟩
end Go.Proofs.Ytmcflfpckpjphaa.WnJ

namespace Go.Proofs.Ytmcflfpckpjphaa.WnL
open Go.RowKit Go.Proofs.Ytmcflfpckpjphaa.Mem Go.Proofs.Ytmcflfpckpjphaa.MemI Go.Proofs.Ytmcflfpckpjphaa.Blk Go.Proofs.Ytmcflfpckpjphaa.Zone Go.Proofs.Ytmcflfpckpjphaa.ZoneI Go.Proofs.Ytmcflfpckpjphaa.WnZ Go.Proofs.Ytmcflfpckpjphaa.Res Go.Proofs.Ytmcflfpckpjphaa.Each Go.Proofs.Ytmcflfpckpjphaa.Copy Go.Proofs.Ytmcflfpckpjphaa.Ops Go.Proofs.Ytmcflfpckpjphaa.WinP Go.Proofs.Ytmcflfpckpjphaa.WinB Go.Proofs.Ytmcflfpckpjphaa.Bits Go.Proofs.Ytmcflfpckpjphaa.WnI Go.Proofs.Ytmcflfpckpjphaa.WnJ

set_option maxRecDepth 100000 in
set_option maxHeartbeats 800000 in
theorem newWindow (w : World) : Calls Try.prog 99 #[] w fun e w' => e = .returned (.pointer (some ⟨w.heap.size, 0, none⟩)) ∧ Wnd w' w.heap.size (-1) zeros ∧ Below w.heap.size w w' := by
  go_enter Try.func99, Try.ntmps99
  go_wp2
  go_ret
  exact ⟨rfl, ⟨rfl, new_ok.words, Blk.new w _ (.int .i64 (-1) :: zeros.map (Value.int .u32))⟩, (Below.refl _ _).alloc (Nat.le_refl _) _⟩

set_option maxRecDepth 100000 in
theorem irow_set {w : World} {g cap : Nat} {l : List Int} (h : IRow w g cap l) (i : Nat) (z : Int) : IRow (w.setCell ⟨g, i, none⟩ (.int .i64 z)) g cap (l.set i z) := by
  have h1 := ((h.owns (Nat.le_refl g)).stored i (.int .i64 z)).1
  rw [← List.map_set] at h1
  have e : (l.set i z).length = l.length := by rw [List.length_set]
  rw [← e] at h1
  exact (IRow.of h1).1
set_option maxRecDepth 100000 in
theorem mid_set (l : List Int) (k : Nat) (hl : l.length = 32) (hk : k < 32) : (l.take k ++ List.replicate (32 - k) 0).set k (l.getD k 0) = l.take (k + 1) ++ List.replicate (32 - (k + 1)) 0 := by
  have h := set_mid l k (by omega)
  rw [hl] at h
  exact h
set_option maxRecDepth 100000 in
theorem mid_length (l : List Int) (k : Nat) (hl : l.length = 32) (hk : k ≤ 32) : (l.take k ++ List.replicate (32 - k) (0 : Int)).length = 32 := by
  rw [List.length_append, List.length_take, List.length_replicate, hl]; omega
set_option maxRecDepth 100000 in
theorem mid_end (l : List Int) (hl : l.length = 32) : l.take 32 ++ List.replicate (32 - 32) (0 : Int) = l := by
  rw [List.take_of_length_le (by omega)]; simp

set_option maxRecDepth 100000 in
set_option maxHeartbeats 4000000 in
theorem win (g : Nat) (top : Int) (l : List Int) (w : World) (h : Wnd w g top l) :
    Calls Try.prog 52 #[.pointer (some ⟨g, 0, none⟩)] w fun e w' => ∃ S', e = .returned (wnV ⟨top, l⟩ S') ∧ WnOwn w' w.heap.size w'.heap.size S' ⟨top, l⟩ ∧ Below w.heap.size w w' := by
  have H0 : Hid (Wnd w g top l) := h
  have HG : Hid (g < w.heap.size) := h.lt
  obtain ⟨i0, hi, hz0, hz1, hz2⟩ := info_parts info64
  obtain ⟨x0, hx0⟩ : ∃ x0, w.alloc (.cells #[.int .i64 0, .slice none 0 0] 26) = x0 := ⟨_, rfl⟩
  have HW0 : Hid (_ = x0) := hx0
  have B0 : Hid (Below w.heap.size w x0) := by rw [← hx0]; exact (Below.refl _ _).alloc (Nat.le_refl _) _
  have KO0 : Hid (Blk x0 w.heap.size 26 [.int .i64 0, .slice none 0 0]) := by rw [← hx0]; exact Blk.new w _ _
  have HSZ : Hid (x0.heap.size = w.heap.size + 1) := by rw [← hx0]; show _ = _; simp
  clear h hx0
  go_enter Try.func52, Try.ntmps52
  go_upto_region 1 with fail
  rw [HW0.out]
  go_wp2_with (at_make; refine wpList_make_full _ rfl _ _ 24 rfl x0.heap.size 3 i0 (.int .i64 0) 1 Try.underlying24 hi hz0 hz1 _ _ _ _ 32 rfl rfl rfl rfl (by rw [hz2]; omega) (by unfold maxLen; omega) (Nat.le_refl _) ?_; intro w1 hown hgr)
  have b1 : Below x0.heap.size x0 w1 := (Below.refl _ _).grown hgr (Nat.le_refl _) (fun k h => by cases h)
  have B1 : Hid (Below w.heap.size w w1) := B0.out.trans (b1.mono B0.out.size)
  have KO1 : Hid (Blk w1 w.heap.size 26 [.int .i64 0, .slice none 0 0]) := KO0.out.later b1
  have R1 : Hid (IRow w1 (w.heap.size + 1) 32 (l.take 0 ++ List.replicate (32 - 0) 0)) := by
    have h2 : w1.ownsRow x0.heap.size 3 1 (.slice (some ⟨x0.heap.size, 0, none⟩) 32 32) 32 ((l.take 0 ++ List.replicate (32 - 0) 0).map (Value.int .i64)) := by
      simpa [Value.cells, toList_madeCells_one] using hown
    rw [HSZ.out] at h2
    exact (IRow.of h2).1
  rw [HSZ.out]
  clear hown hgr b1 B0 KO0 HW0
  have HL : Hid (l.length = 32) := H0.out.1
  go_loopw [6] (fun i wr => ∃ k : Nat, k ≤ 32 ∧ i = .int .i64 k ∧ IRow wr (w.heap.size + 1) 32 (l.take k ++ List.replicate (32 - k) 0) ∧ Blk wr w.heap.size 26 [.int .i64 0, .slice none 0 0] ∧ Below w.heap.size w wr) (fun i _ => 32 - (intOf i).toNat)
  case atStart => exact ⟨0, Nat.zero_le _, rfl, R1.out, KO1.out, B1.out⟩
  case round =>
    obtain ⟨k, hk, rfl, hr, hko, hbe⟩ := hrel
    have HR : Hid (IRow wr (w.heap.size + 1) 32 (l.take k ++ List.replicate (32 - k) 0)) := hr
    have HKO : Hid (Blk wr w.heap.size 26 [.int .i64 0, .slice none 0 0]) := hko
    have HBe : Hid (Below w.heap.size w wr) := hbe
    have HW : Hid (Wnd wr g top l) := H0.out.later hbe
    clear hr hko hbe R1 KO1 B1
    by_cases hlt : k < 32
    · obtain ⟨x, hx⟩ : ∃ x, l.getD k 0 = x := ⟨_, rfl⟩
      have c1 : wr.cell? ⟨g, 1 + k, none⟩ = some (.int .u32 x) := by rw [HW.out.word k hlt, hx]
      have hx2 := HW.out.2.1.at k
      rw [hx] at hx2
      have hwx : wrap64 x = x := by unfold wrap64; omega
      have R2 : Hid (IRow (wr.setCell ⟨w.heap.size + 1, k, none⟩ (.int .i64 x)) (w.heap.size + 1) 32 (l.take (k + 1) ++ List.replicate (32 - (k + 1)) 0)) := by
        have := irow_set HR.out k x
        rw [← hx, mid_set l k HL.out hlt] at this
        rw [← hx]; exact this
      have q0 : ∃ v, wr.cell? ⟨w.heap.size + 1, k, none⟩ = some v := ⟨_, HR.out.cell k (by rw [mid_length l k HL.out hk]; exact hlt)⟩
      obtain ⟨v0, q0⟩ := q0
      have f0 : wr.frozen? ⟨w.heap.size + 1, k, none⟩ = false := (HR.out.owns (Nat.le_refl _)).frozenAt k
      have K2 : Hid (Blk (wr.setCell ⟨w.heap.size + 1, k, none⟩ (.int .i64 x)) w.heap.size 26 [.int .i64 0, .slice none 0 0]) := HKO.out.other (by show w.heap.size ≠ w.heap.size + 1; omega) _
      have B2 : Hid (Below w.heap.size w (wr.setCell ⟨w.heap.size + 1, k, none⟩ (.int .i64 x))) := HBe.out.setCell (by show w.heap.size ≤ w.heap.size + 1; omega) _
      clear hx hx2
      go_wp2
      go_roundw
      case rel => exact ⟨k + 1, by omega, by go_num, R2.out, K2.out, B2.out⟩
      case measure => simp [intOf]; omega
    · obtain rfl : k = 32 := by omega
      have RF : Hid (IRow wr (w.heap.size + 1) 32 l) := by
        have := HR.out
        rw [mid_end l HL.out] at this
        exact this
      have c0 := HW.out.topCell
      have q0 := HKO.out.cell 0 rfl
      have q1 := HKO.out.cell 1 rfl
      have f0 := HKO.out.frozen 0
      have f1 := HKO.out.frozen 1
      clear HR
      go_wp2
      have KF : Blk ((wr.setCell ⟨w.heap.size, 0, none⟩ (.int .i64 top)).setCell ⟨w.heap.size, 1, none⟩ (.slice (some ⟨w.heap.size + 1, 0, none⟩) 32 32)) w.heap.size 26 [.int .i64 top, .slice (some ⟨w.heap.size + 1, 0, none⟩) 32 32] := (HKO.out.set 0 _ (by simp [maxLen])).set 1 _ (by simp [maxLen])
      have BF : Below w.heap.size w ((wr.setCell ⟨w.heap.size, 0, none⟩ (.int .i64 top)).setCell ⟨w.heap.size, 1, none⟩ (.slice (some ⟨w.heap.size + 1, 0, none⟩) 32 32)) := (HBe.out.setCell (Nat.le_refl _) _).setCell (Nat.le_refl _) _
      have RG : IRow ((wr.setCell ⟨w.heap.size, 0, none⟩ (.int .i64 top)).setCell ⟨w.heap.size, 1, none⟩ (.slice (some ⟨w.heap.size + 1, 0, none⟩) 32 32)) (w.heap.size + 1) 32 l := (RF.out.keep (Below.heap_setCell _ _ _ _ (by show w.heap.size + 1 ≠ w.heap.size; omega))).keep (Below.heap_setCell _ _ _ _ (by show w.heap.size + 1 ≠ w.heap.size; omega))
      exact bodyPost_ret (v := wnV ⟨top, l⟩ ⟨⟨some ⟨w.heap.size + 1, 0, none⟩, 32, 32⟩⟩) (res1 rfl (is_cell rfl KF aggWn)) rfl ⟨⟨⟨some ⟨w.heap.size + 1, 0, none⟩, 32, 32⟩⟩, rfl, ⟨ISOwn.row RG HL.out.symm (by omega) RG.lt, ⟨⟩⟩, BF⟩
set_option maxRecDepth 100000 in
set_option maxHeartbeats 4000000 in
theorem list (g : Nat) (top : Int) (l : List Int) (w : World) (h : Wnd w g top l) (lo : -1 ≤ top) (hi : top ≤ 281474976710655) (hok : winOk top l = true) :
    Calls Try.prog 58 #[.pointer (some ⟨g, 0, none⟩)] w fun e w' => ∃ q m c, e = .returned (.slice (some ⟨q, 0, none⟩) m c) ∧ m = (winList top l).length ∧ w.heap.size ≤ q ∧ IRow w' q c (winList top l) ∧ Below w.heap.size w w' := by
  have H0 : Hid (Wnd w g top l) := h
  have HLS0 : Hid (winList top l = lst l (least top).toNat (top + 1 - least top).toNat) := by show _ = _; unfold winList; rw [if_pos hok]
  have R1 : Hid (IRow (w.alloc (.cells #[] 3)) w.heap.size 0 []) := irow_new w [] (by simp)
  have B1 : Hid (Below w.heap.size w (w.alloc (.cells #[] 3))) := (Below.refl _ _).alloc (Nat.le_refl _) _
  have c0 := (H0.out.later B1.out).topCell
  clear h hok
  by_cases ha : 0 < top - 1024 + 1
  · obtain ⟨A, hA⟩ : ∃ A : Nat, top - 1024 + 1 = (A : Int) := ⟨(top - 1024 + 1).toNat, by omega⟩
    obtain ⟨C, hC⟩ : ∃ C : Nat, top + 1 - (A : Int) = (C : Int) := ⟨(top + 1 - (A : Int)).toNat, by omega⟩
    have hc1 : C ≤ 1024 := by omega
    have HLS : Hid (winList top l = lst l A C) := by
      show _ = _
      rw [HLS0.out]
      have e : least top = (A : Int) := by unfold least; split <;> omega
      rw [e, hC, Int.toNat_natCast, Int.toNat_natCast]
    rw [hA] at ha
    go_enter Try.func58, Try.ntmps58
    go_wp2
    have hA1 : A ≤ 281474976710655 := by omega
    have HAB : Hid ((A : Int) = top - 1023 ∧ (C : Int) = 1024) := by show _ ∧ _; omega
    clear c0 hA hC ha
    go_loopw [3, 22] (fun s3 i wr => ∃ (k q m c : Nat), k ≤ C ∧ i = .int .i64 k ∧ s3 = .slice (some ⟨q, 0, none⟩) m c ∧ m = (lst l A k).length ∧ IRow wr q c (lst l A k) ∧ w.heap.size ≤ q ∧ Below w.heap.size w wr) (fun _ i _ => C - (intOf i).toNat)
    case atStart => exact ⟨0, w.heap.size, 0, 0, Nat.zero_le _, rfl, rfl, rfl, R1.out, Nat.le_refl _, B1.out⟩
    case round =>
      obtain ⟨k, q, m, c, hk, rfl, rfl, em, hr, hq, hbe⟩ := hrel
      have EM : Hid (m = (lst l A k).length) := em
      have HR : Hid (IRow wr q c (lst l A k)) := hr
      have HBe : Hid (Below w.heap.size w wr) := hbe
      have HW : Hid (Wnd wr g top l) := H0.out.later hbe
      have hml : m ≤ 1024 := by have := lst_length l A k; omega
      clear em hr hbe R1 B1
      by_cases hlt : k < C
      · go_wp2_with fail
        refine (has g top l ((A : Int) + k) wr HW.out lo hi).mono ?_
        have HH : Hid (WinP.has top l ((A : Int) + k) = bit l (A + k)) := by
          show _ = _
          have := HAB.out
          rw [has_yes (by omega), show ((A : Int) + k).toNat = A + k by omega]
        rw [HH.out]
        cases hbit : bit l (A + k) with
        | true =>
          have HS : Hid (lst l A (k + 1) = lst l A k ++ [(A : Int) + k]) := by show _ = _; rw [lst, if_pos hbit, show (((A + k : Nat)) : Int) = (A : Int) + k by omega]
          clear hbit HH
          rintro e w2 ⟨rfl, b2⟩
          have B2 : Hid (Below w.heap.size w w2) := HBe.out.trans (b2.mono HBe.out.size)
          have R2 : Hid (IRow w2 q c (lst l A k)) := HR.out.later b2
          clear b2 HR HBe HW
          go_wp2_with (at_builtin; refine iwpList_app _ rfl (.tmp 31) (.tmp 33) rfl w.heap.size q m c (lst l A k) [(A : Int) + k] rfl EM.out (irow_alloc R2.out _) hq (some ⟨w2.heap.size, 0, none⟩) 1 1 rfl rfl (ird_one w2 _) (by intro e; cases e) (by rw [← EM.out, List.length_singleton]; omega) ?_; intro q3 c3 w3 r3 k3 l3 gr3; have R3 : Hid (IRow w3 q3 c3 (lst l A k ++ [(A : Int) + k])) := r3; have K3 : Hid (w.heap.size ≤ q3) := k3; have B3 : Hid (Below w.heap.size w w3) := (B2.out.alloc B2.out.size _).grown gr3 (Nat.le_trans B2.out.size (by simp)) (fun k h => by cases h; exact hq); clear r3 k3 l3 gr3)
          go_wp2
          go_roundw
          case rel => exact ⟨k + 1, q3, m + 1, c3, by omega, by go_num, rfl, by rw [HS.out, List.length_append, ← EM.out]; rfl, by rw [HS.out]; exact R3.out, K3.out, B3.out⟩
          case measure => simp [intOf]; omega
        | false =>
          have HS : Hid (lst l A (k + 1) = lst l A k) := by show _ = _; rw [lst, hbit]; simp
          clear hbit HH
          rintro e w2 ⟨rfl, b2⟩
          have B2 : Hid (Below w.heap.size w w2) := HBe.out.trans (b2.mono HBe.out.size)
          have R2 : Hid (IRow w2 q c (lst l A k)) := HR.out.later b2
          clear b2 HR HBe HW
          go_wp2
          go_roundw
          case rel => exact ⟨k + 1, q, m, c, by omega, by go_num, rfl, by rw [HS.out]; exact EM.out, by rw [HS.out]; exact R2.out, hq, B2.out⟩
          case measure => simp [intOf]; omega
      · obtain rfl : k = C := by omega
        go_wp2
        go_ret
        exact ⟨q, m, c, rfl, by rw [HLS.out]; exact EM.out, hq, by rw [HLS.out]; exact HR.out, HBe.out⟩
  · obtain ⟨C, hC⟩ : ∃ C : Nat, top + 1 = (C : Int) := ⟨(top + 1).toNat, by omega⟩
    have hc1 : C ≤ 1024 := by omega
    have HLS : Hid (winList top l = lst l 0 C) := by
      show _ = _
      rw [HLS0.out]
      have e : least top = 0 := by unfold least; split <;> omega
      rw [e, show (top + 1 - 0).toNat = C by omega]; rfl
    go_enter Try.func58, Try.ntmps58
    go_wp2
    have HAB : Hid ((0 : Int) = 0 ∧ (C : Int) = top + 1) := by show _ ∧ _; omega
    clear c0 hC
    go_loopw [3, 22] (fun s3 i wr => ∃ (k q m c : Nat), k ≤ C ∧ i = .int .i64 k ∧ s3 = .slice (some ⟨q, 0, none⟩) m c ∧ m = (lst l 0 k).length ∧ IRow wr q c (lst l 0 k) ∧ w.heap.size ≤ q ∧ Below w.heap.size w wr) (fun _ i _ => C - (intOf i).toNat)
    case atStart => exact ⟨0, w.heap.size, 0, 0, Nat.zero_le _, rfl, rfl, rfl, R1.out, Nat.le_refl _, B1.out⟩
    case round =>
      obtain ⟨k, q, m, c, hk, rfl, rfl, em, hr, hq, hbe⟩ := hrel
      have EM : Hid (m = (lst l 0 k).length) := em
      have HR : Hid (IRow wr q c (lst l 0 k)) := hr
      have HBe : Hid (Below w.heap.size w wr) := hbe
      have HW : Hid (Wnd wr g top l) := H0.out.later hbe
      have hml : m ≤ 1024 := by have := lst_length l 0 k; omega
      clear em hr hbe R1 B1
      by_cases hlt : k < C
      · go_wp2_with fail
        refine (has g top l ((k : Int)) wr HW.out lo hi).mono ?_
        have HH : Hid (WinP.has top l ((k : Int)) = bit l (0 + k)) := by
          show _ = _
          have := HAB.out
          rw [has_yes (by omega), show ((k : Int)).toNat = 0 + k by omega]
        rw [HH.out]
        cases hbit : bit l (0 + k) with
        | true =>
          have HS : Hid (lst l 0 (k + 1) = lst l 0 k ++ [(k : Int)]) := by show _ = _; rw [lst, if_pos hbit, show (((0 + k : Nat)) : Int) = (k : Int) by omega]
          clear hbit HH
          rintro e w2 ⟨rfl, b2⟩
          have B2 : Hid (Below w.heap.size w w2) := HBe.out.trans (b2.mono HBe.out.size)
          have R2 : Hid (IRow w2 q c (lst l 0 k)) := HR.out.later b2
          clear b2 HR HBe HW
          go_wp2_with (at_builtin; refine iwpList_app _ rfl (.tmp 31) (.tmp 33) rfl w.heap.size q m c (lst l 0 k) [(k : Int)] rfl EM.out (irow_alloc R2.out _) hq (some ⟨w2.heap.size, 0, none⟩) 1 1 rfl rfl (ird_one w2 _) (by intro e; cases e) (by rw [← EM.out, List.length_singleton]; omega) ?_; intro q3 c3 w3 r3 k3 l3 gr3; have R3 : Hid (IRow w3 q3 c3 (lst l 0 k ++ [(k : Int)])) := r3; have K3 : Hid (w.heap.size ≤ q3) := k3; have B3 : Hid (Below w.heap.size w w3) := (B2.out.alloc B2.out.size _).grown gr3 (Nat.le_trans B2.out.size (by simp)) (fun k h => by cases h; exact hq); clear r3 k3 l3 gr3)
          go_wp2
          go_roundw
          case rel => exact ⟨k + 1, q3, m + 1, c3, by omega, by go_num, rfl, by rw [HS.out, List.length_append, ← EM.out]; rfl, by rw [HS.out]; exact R3.out, K3.out, B3.out⟩
          case measure => simp [intOf]; omega
        | false =>
          have HS : Hid (lst l 0 (k + 1) = lst l 0 k) := by show _ = _; rw [lst, hbit]; simp
          clear hbit HH
          rintro e w2 ⟨rfl, b2⟩
          have B2 : Hid (Below w.heap.size w w2) := HBe.out.trans (b2.mono HBe.out.size)
          have R2 : Hid (IRow w2 q c (lst l 0 k)) := HR.out.later b2
          clear b2 HR HBe HW
          go_wp2
          go_roundw
          case rel => exact ⟨k + 1, q, m, c, by omega, by go_num, rfl, by rw [HS.out]; exact EM.out, by rw [HS.out]; exact R2.out, hq, B2.out⟩
          case measure => simp [intOf]; omega
      · obtain rfl : k = C := by omega
        go_wp2
        go_ret
        exact ⟨q, m, c, rfl, by rw [HLS.out]; exact EM.out, hq, by rw [HLS.out]; exact HR.out, HBe.out⟩
end Go.Proofs.Ytmcflfpckpjphaa.WnL

namespace Go.Proofs.Ytmcflfpckpjphaa.WnS
open Go.RowKit Go.Proofs.Ytmcflfpckpjphaa.Mem Go.Proofs.Ytmcflfpckpjphaa.MemI Go.Proofs.Ytmcflfpckpjphaa.Blk Go.Proofs.Ytmcflfpckpjphaa.Zone Go.Proofs.Ytmcflfpckpjphaa.ZoneI Go.Proofs.Ytmcflfpckpjphaa.WnZ Go.Proofs.Ytmcflfpckpjphaa.WinP Go.Proofs.Ytmcflfpckpjphaa.Bits Go.Proofs.Ytmcflfpckpjphaa.WinB

set_option maxRecDepth 100000 in
set_option maxHeartbeats 400000 in
theorem l1In (x a b : Int) (w : World) :
    Calls Try.prog 53 #[.int .i64 x, .int .i64 a, .int .i64 b] w fun e w' => e = .returned (.bool (decide (a ≤ x ∧ x ≤ b))) ∧ w = w' := by
  by_cases h1 : a ≤ x
  · by_cases h2 : x ≤ b
    · rw [decide_eq_true ⟨h1, h2⟩]
      go_enter Try.func53, Try.ntmps53
      go_wp2
      go_ret
      exact ⟨rfl, rfl⟩
    · rw [decide_eq_false (fun h => h2 h.2)]
      go_enter Try.func53, Try.ntmps53
      go_wp2
      go_ret
      exact ⟨rfl, rfl⟩
  · rw [decide_eq_false (fun h => h1 h.1)]
    go_enter Try.func53, Try.ntmps53
    go_wp2
    go_ret
    exact ⟨rfl, rfl⟩
set_option maxRecDepth 100000 in
set_option maxHeartbeats 400000 in
theorem l8Least (t : Int) (w : World) (h0 : -1 ≤ t) (h1 : t ≤ 281474976710655) :
    Calls Try.prog 55 #[.int .i64 t] w fun e w' => e = .returned (.int .i64 (least t)) ∧ w = w' := by
  unfold least
  by_cases h : t < 1024
  · rw [if_pos h]
    go_enter Try.func55, Try.ntmps55
    go_wp2
    go_ret
    exact ⟨rfl, rfl⟩
  · rw [if_neg h]
    have e1 : IntKind.i64.wrap (t - 1024) = t - 1024 := by rw [IntKind.wrap_i64]; omega
    have e2 : IntKind.i64.wrap (t - 1024 + 1) = t - 1024 + 1 := by rw [IntKind.wrap_i64]; omega
    go_enter Try.func55, Try.ntmps55
    go_wp2
    go_ret
    exact ⟨by rfl, rfl⟩
set_option maxRecDepth 100000 in
set_option maxHeartbeats 800000 in
theorem l8Bit (D : WnD) (S : WnS) (z : Int) (w : World) (h : WnRd w S D) (hl : D.bits.length = 32) (hw : Words D.bits) (hz : 0 ≤ z) (hn : z ≤ 281474976710655) :
    Calls Try.prog 54 #[wnV D S, .int .i64 z] w fun e w' => e = .returned (.bool (bit D.bits z.toNat)) ∧ Below w.heap.size w w' := by
  obtain ⟨n, rfl⟩ := Int.eq_ofNat_of_zero_le hz
  rw [Int.toNat_natCast]
  obtain ⟨b, off, ha, hb, hc⟩ := h.bits.rd (n % 1024 / 32) (by omega)
  have hx := hw.at (n % 1024 / 32)
  have HB : Hid (bit D.bits n = (D.bits.getD (n % 1024 / 32) 0).toNat.testBit (n % 32)) := rfl
  rw [HB.out]
  have hlen := h.bits.len
  rw [hl] at hlen
  obtain ⟨top, bits⟩ := D
  obtain ⟨⟨sa, sn, sc⟩⟩ := S
  simp only at *
  subst ha
  subst hlen
  have b0 : Hid (Below w.heap.size w (w.alloc (.cells #[.int .i64 top, .slice (some ⟨b, off, none⟩) 32 sc] 26))) := (Below.refl _ _).alloc (Nat.le_refl _) _
  have hc' : (w.alloc (.cells #[.int .i64 top, .slice (some ⟨b, off, none⟩) 32 sc] 26)).cell? ⟨b, off + n % 1024 / 32, none⟩ = some (.int .i64 (bits.getD (n % 1024 / 32) 0)) := by
    rw [b0.out.cell hb]; exact hc
  generalize bits.getD (n % 1024 / 32) 0 = x at *
  obtain ⟨X, rfl⟩ := Int.eq_ofNat_of_zero_le hx.1
  clear hc h hl hw HB
  unfold wnV
  simp only [Int.toNat_natCast]
  obtain ⟨p, hp⟩ : ∃ p, n % 1024 / 32 = p := ⟨_, rfl⟩
  obtain ⟨k, hk⟩ : ∃ k, n % 32 = k := ⟨_, rfl⟩
  rw [hp] at hc'
  rw [hk]
  have hpl : p < 32 := by omega
  have hkl : k < 32 := by omega
  go_enter Try.func54, Try.ntmps54
  go_wp2
  go_ret
  exact ⟨by rw [tb_i64]; rfl, b0.out⟩

set_option maxRecDepth 100000 in
/-- The struct in a block of its own. -/
theorem boxed (w : World) (D : WnD) (S : WnS) : ∃ x0, w.alloc (.cells #[.int .i64 D.top, .slice S.bits.a S.bits.n S.bits.c] 26) = x0 ∧ Blk x0 w.heap.size 26 [.int .i64 D.top, .slice S.bits.a S.bits.n S.bits.c] ∧ Below w.heap.size w x0 ∧ x0.heap.size = w.heap.size + 1 :=
  ⟨_, rfl, Blk.new w _ _, (Below.refl _ _).alloc (Nat.le_refl _) _, by simp⟩
set_option maxRecDepth 100000 in
/-- Where its words lie. -/
theorem based {w : World} {s : Sl} {l : List Int} (h : ISRd w s l) (hl : l.length = 32) : ∃ b off c, s = ⟨some ⟨b, off, none⟩, 32, c⟩ ∧ b < w.heap.size ∧ ∀ i : Nat, i < 32 → w.cell? ⟨b, off + i, none⟩ = some (.int .i64 (l.getD i 0)) := by
  obtain ⟨b, off, e, hb, _⟩ := h.rd 0 (by omega)
  obtain ⟨sa, sn, sc⟩ := s
  have hn := h.len
  simp only at e hn
  subst e
  refine ⟨b, off, sc, by rw [hn, hl], hb, fun i hi => ?_⟩
  obtain ⟨b', off', e', _, hc⟩ := h.rd i (by omega)
  simp only [Option.some.injEq, Addr.mk.injEq, and_true] at e'
  obtain ⟨rfl, rfl⟩ := e'
  exact hc
set_option maxRecDepth 100000 in
theorem words_take {l : List Int} {k : Nat} (h : ∀ i : Nat, i < k → 0 ≤ l.getD i 0 ∧ l.getD i 0 ≤ 4294967295) (hk : k = l.length) : Words l := by
  intro z hz
  obtain ⟨i, hi, rfl⟩ := List.getElem_of_mem hz
  have := h i (by omega)
  simpa [List.getD, hi] using this

set_option maxRecDepth 100000 in
set_option maxHeartbeats 4000000 in
theorem specWinOk (S : WnS) (D : WnD) (w : World) (h : WnRd w S D) :
    Calls Try.prog 13 #[wnV D S] w fun e w' => e = .returned (.bool (winOk D.top D.bits)) ∧ Below w.heap.size w w' := by
  have HR : Hid (WnRd w S D) := h
  obtain ⟨v, hv⟩ : ∃ v, winOk D.top D.bits = v := ⟨_, rfl⟩
  have HV : Hid (winOk D.top D.bits = v) := hv
  obtain ⟨x0, hx0, k0, b0, _⟩ := boxed w D S
  have HW0 : Hid (_ = x0) := hx0
  have B0 : Hid (Below w.heap.size w x0) := b0
  have KA : Hid (Blk x0 w.heap.size 26 [.int .i64 D.top, .slice S.bits.a S.bits.n S.bits.c]) := k0
  rw [hv]
  clear h hv hx0 k0 b0
  have hlen := HR.out.bits.len
  by_cases hl : D.bits.length = 32
  · obtain ⟨b, off, c, rfl, hb, hce⟩ : ∃ b off c, S = ⟨⟨some ⟨b, off, none⟩, 32, c⟩⟩ ∧ b < w.heap.size ∧ ∀ i : Nat, i < 32 → w.cell? ⟨b, off + i, none⟩ = some (.int .i64 (D.bits.getD i 0)) := by
      obtain ⟨b, off, c, h1, h2, h3⟩ := based HR.out.bits hl
      exact ⟨b, off, c, by cases S; simp only at h1; rw [h1], h2, h3⟩
    have HCE : Hid (∀ i : Nat, i < 32 → w.cell? ⟨b, off + i, none⟩ = some (.int .i64 (D.bits.getD i 0))) := hce
    have HL : Hid (D.bits.length = 32) := hl
    clear hl hlen hce
    simp only at KA HW0
    have c0 := KA.out.cell 0 rfl
    have c1 := KA.out.cell 1 rfl
    by_cases ht : -1 ≤ D.top ∧ D.top ≤ 281474976710655
    · have HT : Hid (-1 ≤ D.top ∧ D.top ≤ 281474976710655) := ht
      clear ht
      unfold wnV
      simp only
      go_enter Try.func13, Try.ntmps13
      go_upto_region 1 with fail
      rw [HW0.out]
      go_wp2_with fail
      refine (l1In D.top (-1) 281474976710655 x0).mono ?_
      rw [decide_eq_true HT.out]
      rintro e w2 ⟨rfl, rfl⟩
      go_wp2
      go_loop [3] (fun i => ∃ k : Nat, k ≤ 32 ∧ i = .int .i64 k ∧ Hid (∀ i : Nat, i < k → 0 ≤ D.bits.getD i 0 ∧ D.bits.getD i 0 ≤ 4294967295)) (fun i => 32 - (intOf i).toNat)
      case atStart => exact ⟨0, Nat.zero_le _, rfl, fun i hi => absurd hi (Nat.not_lt_zero _)⟩
      case round =>
        obtain ⟨k, hk, rfl, HK⟩ := hrel
        by_cases hlt : k < 32
        · obtain ⟨x, hx⟩ : ∃ x, D.bits.getD k 0 = x := ⟨_, rfl⟩
          have HX : Hid (D.bits.getD k 0 = x) := hx
          have hc : x0.cell? ⟨b, off + k, none⟩ = some (.int .i64 x) := by rw [B0.out.cell hb, HCE.out k hlt, hx]
          clear hx
          go_wp2_with fail
          refine (l1In x 0 4294967295 x0).mono ?_
          by_cases hin : 0 ≤ x ∧ x ≤ 4294967295
          · rw [decide_eq_true hin]
            rintro e w2 ⟨rfl, rfl⟩
            have HK2 : Hid (∀ i : Nat, i < k + 1 → 0 ≤ D.bits.getD i 0 ∧ D.bits.getD i 0 ≤ 4294967295) := by
              intro i hi
              by_cases hik : i = k
              · rw [hik, HX.out]; exact hin
              · exact HK.out i (by omega)
            clear hin hc
            go_wp2
            go_round
            case rel => exact ⟨k + 1, by omega, by go_num, HK2⟩
            case measure => simp [intOf]; omega
          · rw [decide_eq_false hin]
            rintro e w2 ⟨rfl, rfl⟩
            have HF : Hid (v = false) := by
              show v = false
              rw [← HV.out]
              refine winOk_false fun hok => hin ?_
              have := hok.words.at k
              rwa [HX.out] at this
            clear hin hc
            go_wp2
            go_ret
            exact ⟨by rw [HF.out]; rfl, B0.out⟩
        · have HWd : Hid (Words D.bits) := words_take HK.out (by have := HL.out; omega)
          clear HK HCE
          -- the top
          have HWT : Hid (IntKind.i64.wrap (D.top + 1) = D.top + 1) := by show _ = _; rw [IntKind.wrap_i64]; have := HT.out; omega
          -- the top
          have HWT : Hid (wrap64 (D.top + 1) = D.top + 1) := by show wrap64 _ = _; unfold wrap64; have := HT.out; omega
          -- the top
          have HWT : Hid (wrap64 (D.top + 1) = D.top + 1) := by show wrap64 _ = _; unfold wrap64; have := HT.out; omega
          -- the top
          have HWT : Hid (wrap64 (D.top + 1) = D.top + 1) := by show wrap64 _ = _; unfold wrap64; have := HT.out; omega
          -- the top
          have HWT : Hid (wrap64 (D.top + 1) = D.top + 1) := by show wrap64 _ = _; unfold wrap64; have := HT.out; omega
          -- the top
          have HWT : Hid (wrap64 (D.top + 1) = D.top + 1) := by show wrap64 _ = _; unfold wrap64; have := HT.out; omega
          by_cases h0 : 0 ≤ D.top
          · have h0' : D.top ≥ 0 := h0
            go_wp2_with fail
            refine (l8Bit D ⟨⟨some ⟨b, off, none⟩, 32, c⟩⟩ D.top x0 (HR.out.later B0.out) HL.out HWd.out h0 HT.out.2).mono ?_
            cases hbit : bit D.bits D.top.toNat with
            | false =>
              have HF : Hid (v = false) := by
                show v = false
                rw [← HV.out]
                refine winOk_false fun hok => ?_
                have := hok.taken h0
                rw [hbit] at this
                cases this
              clear hbit
              rintro e w3 ⟨rfl, b3⟩
              have B3 : Hid (Below w.heap.size w w3) := B0.out.trans (b3.mono B0.out.size)
              clear b3
              go_wp2
              go_ret
              exact ⟨by rw [HF.out]; rfl, B3.out⟩
            | true =>
            have HBit : Hid (bit D.bits D.top.toNat = true) := hbit
            clear hbit
            rintro e x1 ⟨rfl, b3⟩
            have B1 : Hid (Below w.heap.size w x1) := B0.out.trans (b3.mono B0.out.size)
            have KA1 : Hid (Blk x1 w.heap.size 26 [.int .i64 D.top, .slice (some ⟨b, off, none⟩) 32 c]) := KA.out.later b3
            clear b3 c0 c1 B0 KA
            have c0 := KA1.out.cell 0 rfl
            have c1 := KA1.out.cell 1 rfl
            go_wp2
            clear c0 c1
            go_loopw [4] (fun i wr => ∃ k : Int, -1 < k ∧ D.top < k ∧ (k ≤ 1024 ∨ k = D.top + 1) ∧ i = .int .i64 k ∧ Hid (∀ n : Nat, D.top < (n : Int) → (n : Int) < k → bit D.bits n = false) ∧ Blk wr w.heap.size 26 [.int .i64 D.top, .slice (some ⟨b, off, none⟩) 32 c] ∧ Below w.heap.size w wr)
              (fun i _ => (1024 - intOf i).toNat)
            case atStart => exact ⟨D.top + 1, by have := HT.out; omega, by omega, .inr rfl, by rw [HWT.out], fun n h1 h2 => by omega, KA1.out, B1.out⟩
            case round =>
              obtain ⟨k, hk0, hk1, hk2, rfl, HK, hka, hbe⟩ := hrel
              have KB : Hid (Blk wr w.heap.size 26 [.int .i64 D.top, .slice (some ⟨b, off, none⟩) 32 c]) := hka
              have BB : Hid (Below w.heap.size w wr) := hbe
              have c0 := KB.out.cell 0 rfl
              have c1 := KB.out.cell 1 rfl
              clear hka hbe KA1 B1
              by_cases hlt : k < 1024
              · go_wp2_with fail
                refine (l8Bit D ⟨⟨some ⟨b, off, none⟩, 32, c⟩⟩ k wr (HR.out.later BB.out) HL.out HWd.out (by omega) (by omega)).mono ?_
                cases hbit : bit D.bits k.toNat with
                | true =>
                  have HF : Hid (v = false) := by
                    show v = false
                    rw [← HV.out]
                    refine winOk_false fun hok => ?_
                    have := hok.free k.toNat (by omega) (by omega)
                    rw [hbit] at this
                    cases this
                  clear hbit
                  rintro e w3 ⟨rfl, b3⟩
                  have B3 : Hid (Below w.heap.size w w3) := BB.out.trans (b3.mono BB.out.size)
                  clear b3
                  go_wp2
                  go_ret
                  exact ⟨by rw [HF.out]; rfl, B3.out⟩
                | false =>
                  have HK2 : Hid (∀ n : Nat, D.top < (n : Int) → (n : Int) < k + 1 → bit D.bits n = false) := by
                    intro n h1 h2
                    by_cases hnk : (n : Int) = k
                    · rw [show n = k.toNat by omega]; exact hbit
                    · exact HK.out n h1 (by omega)
                  clear hbit
                  rintro e w3 ⟨rfl, b3⟩
                  have B3 : Hid (Below w.heap.size w w3) := BB.out.trans (b3.mono BB.out.size)
                  have K3 : Hid (Blk w3 w.heap.size 26 [.int .i64 D.top, .slice (some ⟨b, off, none⟩) 32 c]) := KB.out.later b3
                  clear b3
                  go_wp2
                  go_roundw
                  case rel => exact ⟨k + 1, by omega, by omega, by omega, rfl, HK2, K3.out, B3.out⟩
                  case measure => simp [intOf]; omega
              · have HF : Hid (v = true) := by
                  show v = true
                  rw [← HV.out]
                  exact winOk_true ⟨HL.out, HT.out.1, HT.out.2, HWd.out, fun _ => HBit.out, fun n h1 h2 => HK.out n h1 (by omega)⟩
                go_wp2
                go_ret
                exact ⟨by rw [HF.out]; rfl, BB.out⟩
          · have h0' : ¬ D.top ≥ 0 := h0
            have B1 : Hid (Below w.heap.size w x0) := B0.out
            have KA1 : Hid (Blk x0 w.heap.size 26 [.int .i64 D.top, .slice (some ⟨b, off, none⟩) 32 c]) := KA.out
            clear B0 KA
            go_wp2
            clear c0 c1
            go_loopw [4] (fun i wr => ∃ k : Int, -1 < k ∧ D.top < k ∧ (k ≤ 1024 ∨ k = D.top + 1) ∧ i = .int .i64 k ∧ Hid (∀ n : Nat, D.top < (n : Int) → (n : Int) < k → bit D.bits n = false) ∧ Blk wr w.heap.size 26 [.int .i64 D.top, .slice (some ⟨b, off, none⟩) 32 c] ∧ Below w.heap.size w wr)
              (fun i _ => (1024 - intOf i).toNat)
            case atStart => exact ⟨D.top + 1, by have := HT.out; omega, by omega, .inr rfl, by rw [HWT.out], fun n h1 h2 => by omega, KA1.out, B1.out⟩
            case round =>
              obtain ⟨k, hk0, hk1, hk2, rfl, HK, hka, hbe⟩ := hrel
              have KB : Hid (Blk wr w.heap.size 26 [.int .i64 D.top, .slice (some ⟨b, off, none⟩) 32 c]) := hka
              have BB : Hid (Below w.heap.size w wr) := hbe
              have c0 := KB.out.cell 0 rfl
              have c1 := KB.out.cell 1 rfl
              clear hka hbe KA1 B1
              by_cases hlt : k < 1024
              · go_wp2_with fail
                refine (l8Bit D ⟨⟨some ⟨b, off, none⟩, 32, c⟩⟩ k wr (HR.out.later BB.out) HL.out HWd.out (by omega) (by omega)).mono ?_
                cases hbit : bit D.bits k.toNat with
                | true =>
                  have HF : Hid (v = false) := by
                    show v = false
                    rw [← HV.out]
                    refine winOk_false fun hok => ?_
                    have := hok.free k.toNat (by omega) (by omega)
                    rw [hbit] at this
                    cases this
                  clear hbit
                  rintro e w3 ⟨rfl, b3⟩
                  have B3 : Hid (Below w.heap.size w w3) := BB.out.trans (b3.mono BB.out.size)
                  clear b3
                  go_wp2
                  go_ret
                  exact ⟨by rw [HF.out]; rfl, B3.out⟩
                | false =>
                  have HK2 : Hid (∀ n : Nat, D.top < (n : Int) → (n : Int) < k + 1 → bit D.bits n = false) := by
                    intro n h1 h2
                    by_cases hnk : (n : Int) = k
                    · rw [show n = k.toNat by omega]; exact hbit
                    · exact HK.out n h1 (by omega)
                  clear hbit
                  rintro e w3 ⟨rfl, b3⟩
                  have B3 : Hid (Below w.heap.size w w3) := BB.out.trans (b3.mono BB.out.size)
                  have K3 : Hid (Blk w3 w.heap.size 26 [.int .i64 D.top, .slice (some ⟨b, off, none⟩) 32 c]) := KB.out.later b3
                  clear b3
                  go_wp2
                  go_roundw
                  case rel => exact ⟨k + 1, by omega, by omega, by omega, rfl, HK2, K3.out, B3.out⟩
                  case measure => simp [intOf]; omega
              · have HF : Hid (v = true) := by
                  show v = true
                  rw [← HV.out]
                  exact winOk_true ⟨HL.out, HT.out.1, HT.out.2, HWd.out, fun h => absurd h (by omega), fun n h1 h2 => HK.out n h1 (by omega)⟩
                go_wp2
                go_ret
                exact ⟨by rw [HF.out]; rfl, BB.out⟩
    · have HF : Hid (v = false) := by
        show v = false
        rw [← HV.out]
        exact winOk_false fun hok => ht ⟨hok.lo, hok.hi⟩
      have hd : decide (-1 ≤ D.top ∧ D.top ≤ 281474976710655) = false := decide_eq_false ht
      clear ht
      unfold wnV
      simp only
      go_enter Try.func13, Try.ntmps13
      go_upto_region 1 with fail
      rw [HW0.out]
      go_wp2_with fail
      refine (l1In D.top (-1) 281474976710655 x0).mono ?_
      rw [hd]
      rintro e w2 ⟨rfl, rfl⟩
      clear hd
      go_wp2
      go_ret
      exact ⟨by rw [HF.out]; rfl, B0.out⟩
  · have HF : Hid (v = false) := by
      show v = false
      rw [← HV.out]
      exact winOk_false fun hok => hl hok.len
    have hnI : ((S.bits.n : Int) != 32) = true := by
      have : ¬ (S.bits.n : Int) = 32 := by omega
      simpa using this
    have c0 := KA.out.cell 0 rfl
    have c1 := KA.out.cell 1 rfl
    clear hl hlen
    unfold wnV
    go_enter Try.func13, Try.ntmps13
    go_upto_region 1 with fail
    rw [HW0.out]
    go_wp2
    go_ret
    exact ⟨by rw [HF.out]; rfl, B0.out⟩

set_option maxRecDepth 100000 in
theorem has_no {top : Int} {l : List Int} {n : Int} (h : ¬ (0 ≤ n ∧ n ≤ top ∧ top - 1024 < n)) : has top l n = false := by unfold has; rw [decide_eq_false h, Bool.false_and]
set_option maxRecDepth 100000 in
theorem has_yes {top : Int} {l : List Int} {n : Int} (h : 0 ≤ n ∧ n ≤ top ∧ top - 1024 < n) : has top l n = bit l n.toNat := by unfold has; rw [decide_eq_true h, Bool.true_and]
set_option maxRecDepth 100000 in
theorem least_iff {t n : Int} (h0 : 0 ≤ n) : least t ≤ n ↔ t - 1024 < n := by unfold least; split <;> omega

set_option maxRecDepth 100000 in
theorem may_no {top : Int} {l : List Int} {n : Int} (h : ¬ (0 ≤ n ∧ n ≤ 281474976710655 ∧ top - 1024 < n)) : may top l n = false := by unfold may; rw [decide_eq_false h, Bool.false_and]
set_option maxRecDepth 100000 in
theorem may_up {top : Int} {l : List Int} {n : Int} (h : 0 ≤ n ∧ n ≤ 281474976710655) (k : top < n) : may top l n = true := by unfold may; rw [decide_eq_true ⟨h.1, h.2, by omega⟩, decide_eq_true k]; rfl
set_option maxRecDepth 100000 in
theorem may_old {top : Int} {l : List Int} {n : Int} (h : 0 ≤ n ∧ n ≤ 281474976710655 ∧ top - 1024 < n) (k : ¬ top < n) : may top l n = !bit l n.toNat := by unfold may; rw [decide_eq_true h, decide_eq_false k]; simp

set_option maxRecDepth 100000 in
set_option maxHeartbeats 4000000 in
theorem specWinMay (S : WnS) (D : WnD) (n : Int) (w : World) (h : WnRd w S D) :
    Calls Try.prog 14 #[wnV D S, .int .i64 n] w fun e w' => e = .returned (.bool (winMay D.top D.bits n)) ∧ Below w.heap.size w w' := by
  have HR : Hid (WnRd w S D) := h
  obtain ⟨v, hv⟩ : ∃ v, winMay D.top D.bits n = v := ⟨_, rfl⟩
  have HV : Hid (winMay D.top D.bits n = v) := hv
  obtain ⟨x0, hx0, k0, b0, _⟩ := boxed w D S
  have HW0 : Hid (_ = x0) := hx0
  have B0 : Hid (Below w.heap.size w x0) := b0
  have KA : Hid (Blk x0 w.heap.size 26 [.int .i64 D.top, .slice S.bits.a S.bits.n S.bits.c]) := k0
  rw [hv]
  clear h hv hx0 k0 b0
  have c0 := KA.out.cell 0 rfl
  have c1 := KA.out.cell 1 rfl
  unfold wnV
  go_enter Try.func14, Try.ntmps14
  go_upto_region 1 with fail
  rw [HW0.out]
  go_wp2_with fail
  refine (specWinOk S D x0 (HR.out.later B0.out)).mono ?_
  cases hok : winOk D.top D.bits with
  | false =>
    have HF : Hid (v = false) := by show v = false; rw [← HV.out]; unfold winMay; rw [hok]; rfl
    clear hok
    rintro e x1 ⟨rfl, b1⟩
    have B1 : Hid (Below w.heap.size w x1) := B0.out.trans (b1.mono B0.out.size)
    clear b1
    go_wp2
    go_ret
    exact ⟨by rw [HF.out]; rfl, B1.out⟩
  | true =>
    have HV2 : Hid (may D.top D.bits n = v) := by show _ = v; rw [← HV.out]; unfold winMay; rw [hok]; rfl
    have HOK : Hid (WOk D.top D.bits) := winOk_iff.1 hok
    clear hok HV
    rintro e x1 ⟨rfl, b1⟩
    have B1 : Hid (Below w.heap.size w x1) := B0.out.trans (b1.mono B0.out.size)
    have K1 : Hid (Blk x1 w.heap.size 26 [.int .i64 D.top, .slice S.bits.a S.bits.n S.bits.c]) := KA.out.later b1
    clear b1 c0 c1 B0 KA HW0
    have c0 := K1.out.cell 0 rfl
    have c1 := K1.out.cell 1 rfl
    go_wp2_with fail
    refine (l1In n 0 281474976710655 x1).mono ?_
    by_cases hn : 0 ≤ n ∧ n ≤ 281474976710655
    · rw [decide_eq_true hn]
      rintro e x2 ⟨rfl, rfl⟩
      have HN : Hid (0 ≤ n ∧ n ≤ 281474976710655) := hn
      clear hn
      by_cases h1 : n > D.top
      · have HF : Hid (v = true) := by show v = true; rw [← HV2.out]; exact may_up HN.out h1
        go_wp2
        go_ret
        exact ⟨by rw [HF.out]; rfl, B1.out⟩
      · go_wp2_with fail
        refine (l8Least D.top x1 HOK.out.lo HOK.out.hi).mono ?_
        have HLI : Hid (least D.top ≤ n ↔ D.top - 1024 < n) := least_iff HN.out.1
        generalize least D.top = q at *
        rintro e x2 ⟨rfl, rfl⟩
        by_cases h3 : n ≥ q
        · have HB : Hid ((!bit D.bits n.toNat) = v) := by show _ = v; rw [← HV2.out, may_old ⟨HN.out.1, HN.out.2, HLI.out.1 h3⟩ (by omega)]
          go_wp2_with fail
          refine (l8Bit D S n x1 (HR.out.later B1.out) HOK.out.len HOK.out.words HN.out.1 HN.out.2).mono ?_
          generalize bit D.bits n.toNat = u at *
          rintro e x2 ⟨rfl, b2⟩
          have B2 : Hid (Below w.heap.size w x2) := B1.out.trans (b2.mono B1.out.size)
          clear b2 c0 c1 h3
          go_wp2
          go_ret
          exact ⟨by rw [← HB.out]; simp; intro hh; omega, B2.out⟩
        · have HF : Hid (v = false) := by show v = false; rw [← HV2.out]; exact may_no (fun h => h3 (HLI.out.2 h.2.2))
          go_wp2
          go_ret
          exact ⟨by rw [HF.out]; simp; omega, B1.out⟩
    · have HF : Hid (v = false) := by show v = false; rw [← HV2.out]; exact may_no (fun h => hn ⟨h.1, h.2.1⟩)
      rw [decide_eq_false hn]
      rintro e x2 ⟨rfl, rfl⟩
      clear hn
      go_wp2
      go_ret
      exact ⟨by rw [HF.out]; rfl, B1.out⟩
end Go.Proofs.Ytmcflfpckpjphaa.WnS
