/-
  impl's windows while they are worked on: a struct of a number and 32 words, behind a pointer.
-/
import Derived.Test.YtmcflfpckpjphaaWnC
import Derived.Test.YtmcflfpckpjphaaWinB
namespace Go.Proofs.Ytmcflfpckpjphaa.WnI
open Go.RowKit Go.Proofs.Ytmcflfpckpjphaa.Mem Go.Proofs.Ytmcflfpckpjphaa.MemI Go.Proofs.Ytmcflfpckpjphaa.Blk Go.Proofs.Ytmcflfpckpjphaa.Zone Go.Proofs.Ytmcflfpckpjphaa.ZoneI Go.Proofs.Ytmcflfpckpjphaa.WnZ Go.Proofs.Ytmcflfpckpjphaa.Res Go.Proofs.Ytmcflfpckpjphaa.Each Go.Proofs.Ytmcflfpckpjphaa.Copy Go.Proofs.Ytmcflfpckpjphaa.Ops Go.Proofs.Ytmcflfpckpjphaa.WinP Go.Proofs.Ytmcflfpckpjphaa.WinB Go.Proofs.Ytmcflfpckpjphaa.Bits

/-- The struct in a block. -/
def Wnd (w : World) (g : Nat) (top : Int) (l : List Int) : Prop := l.length = 32 ∧ Words l ∧ Blk w g 101 (.int .i64 top :: l.map (Value.int .u32))
theorem Wnd.later {w w' : World} {g : Nat} {top : Int} {l : List Int} (h : Wnd w g top l) (b : Below w.heap.size w w') : Wnd w' g top l := ⟨h.1, h.2.1, h.2.2.later b⟩
theorem Wnd.lt {w : World} {g : Nat} {top : Int} {l : List Int} (h : Wnd w g top l) : g < w.heap.size := h.2.2.lt
theorem Wnd.topCell {w : World} {g : Nat} {top : Int} {l : List Int} (h : Wnd w g top l) : w.cell? ⟨g, 0, none⟩ = some (.int .i64 top) := h.2.2.cell 0 rfl
theorem Wnd.word {w : World} {g : Nat} {top : Int} {l : List Int} (h : Wnd w g top l) (i : Nat) (hi : i < 32) : w.cell? ⟨g, 1 + i, none⟩ = some (.int .u32 (l.getD i 0)) :=
  h.2.2.cell (1 + i) (by have := h.1; rw [Nat.add_comm 1 i]; simp [List.getD, this, hi])
theorem Wnd.froz {w : World} {g : Nat} {top : Int} {l : List Int} (h : Wnd w g top l) (i : Nat) : w.frozen? ⟨g, i, none⟩ = false := h.2.2.frozen i
theorem Wnd.setTop {w : World} {g : Nat} {top : Int} {l : List Int} (h : Wnd w g top l) (t : Int) : Wnd (w.setCell ⟨g, 0, none⟩ (.int .i64 t)) g t l :=
  ⟨h.1, h.2.1, by have := h.2.2.set 0 (.int .i64 t) (by have := h.1; simp [maxLen]; omega); simpa using this⟩
theorem Wnd.setWord {w : World} {g : Nat} {top : Int} {l : List Int} (h : Wnd w g top l) (i : Nat) (x : Int) (hx : 0 ≤ x ∧ x ≤ 4294967295) : Wnd (w.setCell ⟨g, 1 + i, none⟩ (.int .u32 x)) g top (l.set i x) :=
  ⟨by rw [List.length_set]; exact h.1, h.2.1.set i x hx, by have := h.2.2.set (1 + i) (.int .u32 x) (by have := h.1; simp [maxLen]; omega); rw [Nat.add_comm 1 i] at this ⊢; simpa [List.map_set] using this⟩

set_option maxRecDepth 100000 in
set_option maxHeartbeats 400000 in
theorem isSeq (n : Int) (w : World) : Calls Try.prog 64 #[.int .i64 n] w fun e w' => e = .returned (.bool (decide (0 ≤ n ∧ n ≤ 281474976710655))) ∧ w = w' := by
  by_cases h0 : n ≥ 0
  · by_cases h1 : n < 281474976710656
    · rw [decide_eq_true ⟨h0, by omega⟩]
      go_enter Try.func64, Try.ntmps64
      go_wp2
      go_ret
      exact ⟨rfl, rfl⟩
    · rw [decide_eq_false (fun h => h1 (by omega))]
      go_enter Try.func64, Try.ntmps64
      go_wp2
      go_ret
      exact ⟨rfl, rfl⟩
  · rw [decide_eq_false (fun h => h0 h.1)]
    go_enter Try.func64, Try.ntmps64
    go_wp2
    go_ret
    exact ⟨rfl, rfl⟩
set_option maxRecDepth 100000 in
set_option maxHeartbeats 800000 in
theorem placeOf (n : Nat) (w : World) (hn : n ≤ 562949953421312) : Calls Try.prog 89 #[.int .i64 n] w fun e w' => e = .returned (.tuple #[.int .i64 ((n % 1024 / 32 : Nat) : Int), .int .u32 ((2 ^ (n % 32) : Nat) : Int)]) ∧ ∃ m, w' = w.drewN m := by
  go_enter Try.func89, Try.ntmps89
  go_wp2
  go_quiet (fail)
  go_wp2
  refine bodyPost_ret (v := .tuple #[.int .i64 ((n : Int) % 1024 / 32), .int .u32 (2 ^ (n % 32) % 4294967296)]) (res2 rfl (is_tmp rfl) (is_tmp rfl)) rfl ⟨?_, nq, rfl⟩
  have hlt := pow_lt (n % 32) (by omega)
  have e : (2 : Int) ^ (n % 32) % 4294967296 = ((2 ^ (n % 32) : Nat) : Int) := by
    obtain ⟨M, hM⟩ : ∃ M : Nat, 2 ^ (n % 32) = M := ⟨_, rfl⟩
    have e2 : (2 : Int) ^ (n % 32) = (M : Int) := by rw [← hM]; simp
    rw [hM] at hlt ⊢
    rw [e2]
    omega
  rw [e, show ((n : Int) % 1024 / 32) = ((n % 1024 / 32 : Nat) : Int) by omega]

set_option maxRecDepth 100000 in
set_option maxHeartbeats 4000000 in
theorem drop (g : Nat) (top : Int) (l : List Int) (n : Nat) (w : World) (h : Wnd w g top l) (hn : n ≤ 562949953421312) :
    Calls Try.prog 108 #[.pointer (some ⟨g, 0, none⟩), .int .i64 n] w fun e w' => e = .returned (.tuple #[]) ∧ Wnd w' g top (clrL l (n % 1024)) ∧ Kept g (g + 1) w w' := by
  have H0 : Hid (Wnd w g top l) := h
  have HN : Hid (n ≤ 562949953421312) := hn
  obtain ⟨p, hpe⟩ : ∃ p, n % 1024 / 32 = p := ⟨_, rfl⟩
  obtain ⟨k, hke⟩ : ∃ k, n % 32 = k := ⟨_, rfl⟩
  have HPE : Hid (n % 1024 / 32 = p) := hpe
  have HKE : Hid (n % 32 = k) := hke
  have hpl : p < 32 := by omega
  have hk : k < 32 := by omega
  have hpI : (p : Int) < 32 := by omega
  have HC : clrL l (n % 1024) = l.set p (clrN (l.getD p 0).toNat k : Nat) := by
    unfold clrL
    rw [hpe, show n % 1024 % 32 = k by omega]
  rw [HC]
  clear hpe hke HC hn
  obtain ⟨x, hx⟩ : ∃ x, l.getD p 0 = x := ⟨_, rfl⟩
  have HX : Hid (l.getD p 0 = x) := hx
  have hx2 := h.2.1.at p
  rw [hx] at hx2 ⊢
  clear h hx
  obtain ⟨X, rfl⟩ := Int.eq_ofNat_of_zero_le hx2.1
  have hxl : X < 4294967296 := by omega
  obtain ⟨M, hM⟩ : ∃ M : Int, ((2 ^ k : Nat) : Int) = M := ⟨_, rfl⟩
  have HM : Hid (((2 ^ k : Nat) : Int) = M) := hM
  obtain ⟨Y, hY⟩ : ∃ Y : Int, ((clrN X k : Nat) : Int) = Y := ⟨_, rfl⟩
  have HY : Hid (bits .andNot .u32 (X : Int) M = Y) := by rw [← hM, ← hY]; exact clr_u32 X k hxl hk
  have HYb : Hid (0 ≤ Y ∧ Y ≤ 4294967295) := by have := clrN_lt X k hxl; rw [← hY]; show _ ∧ _; omega
  rw [Int.toNat_natCast, hY]
  clear hx2 hxl hM hY hk
  generalize (X : Int) = x at *
  go_enter Try.func108, Try.ntmps108
  go_wp2_with fail
  refine (placeOf n w HN.out).mono ?_
  rw [HPE.out, HKE.out, HM.out]
  rintro e w1 ⟨rfl, m, hw1⟩
  have B1 : Hid (Below w.heap.size w w1) := by rw [hw1]; exact below_drewN (Below.refl _ _) _
  have H1 : Hid (Wnd w1 g top l) := H0.out.later B1.out
  clear hw1 H0
  go_upto_region 1 with fail
  generalize hA : Act.mk _ _ = A
  have a0' : A.eval (.tmp 0) = .pointer (some ⟨g, 0, none⟩) := by rw [← hA]; rfl
  have a4' : A.eval (.tmp 4) = .int .i64 (p : Int) := by rw [← hA]; rfl
  have a5' : A.eval (.tmp 5) = .int .u32 M := by rw [← hA]; rfl
  have asz : A.tmps.size = 22 := by rw [← hA]; rfl
  have hW : ∀ wx, Below w1.heap.size w1 wx → Wnd wx g top l := fun wx hb => H1.out.later hb
  refine region_each (by kernel_rfl) [11, 12, 13, 14, 15, 16, 17, 18, 19, 20, 21] 11 (fun i => [11, 12, 13, 14, 15, 16, 17, 18, 19, 20, 21].getD i 0) (fun _ => 0)
    (fun i gB v wx => match i with
      | 0 => v = .pointer (some ⟨g, 0, none⟩)
      | 1 => v = .int .i64 (p : Int)
      | 2 => v = .pointer (some ⟨g, 0, none⟩)
      | 3 => v = .pointer (some ⟨g, 1, none⟩)
      | 4 => v = .pointer (some ⟨g, 1 + p, none⟩)
      | 5 => v = .int .u32 x
      | 6 => v = .int .u32 M
      | 7 => v = .int .u32 (bits .andNot .u32 x M)
      | 8 => v = .pointer (some ⟨g, 0, none⟩)
      | 9 => v = .pointer (some ⟨g, 1, none⟩)
      | 10 => v = .pointer (some ⟨g, 1 + p, none⟩)
      | _ => False) (fun wx => Below w1.heap.size w1 wx) (by kernel_rfl) (Below.refl _ _).drew ?_ ?_ ?_
  · intro i gB v wx wy hi hF hb _
    match i, hi with
    | 0, _ => exact hF
    | 1, _ => exact hF
    | 2, _ => exact hF
    | 3, _ => exact hF
    | 4, _ => exact hF
    | 5, _ => exact hF
    | 6, _ => exact hF
    | 7, _ => exact hF
    | 8, _ => exact hF
    | 9, _ => exact hF
    | 10, _ => exact hF
  · intro i hi t ρ wx hB hp hd
    match i, hi with
    | 0, _ =>
      have e0 : (fr [11, 12, 13, 14, 15, 16, 17, 18, 19, 20, 21] A t).eval (.tmp 0) = .pointer (some ⟨g, 0, none⟩) := (fr_eval_old _ _ _ 0 rfl).trans a0'
      refine op_run (v := .pointer (some ⟨g, 0, none⟩)) (w' := wx) rfl rfl ?_ ?_
      · clear hp hd; have ec : ∀ v, (fr [11, 12, 13, 14, 15, 16, 17, 18, 19, 20, 21] A t).eval (.const v) = v := fun _ => rfl; generalize (fr [11, 12, 13, 14, 15, 16, 17, 18, 19, 20, 21] A t).eval = ev at ec e0 ⊢; go_simp
      · exact ⟨_, 0, rfl, hB, Below.refl _ _, rfl, .inl rfl⟩
    | 1, _ =>
      have e4 : (fr [11, 12, 13, 14, 15, 16, 17, 18, 19, 20, 21] A t).eval (.tmp 4) = .int .i64 (p : Int) := (fr_eval_old _ _ _ 4 rfl).trans a4'
      refine op_run (v := .int .i64 (p : Int)) (w' := wx) rfl rfl ?_ ?_
      · clear hp hd; have ec : ∀ v, (fr [11, 12, 13, 14, 15, 16, 17, 18, 19, 20, 21] A t).eval (.const v) = v := fun _ => rfl; generalize (fr [11, 12, 13, 14, 15, 16, 17, 18, 19, 20, 21] A t).eval = ev at ec e4 ⊢; go_simp
      · exact ⟨_, 0, rfl, hB, Below.refl _ _, rfl, .inl rfl⟩
    | 2, _ =>
      have e11 : (fr [11, 12, 13, 14, 15, 16, 17, 18, 19, 20, 21] A t).eval (.tmp 11) = .pointer (some ⟨g, 0, none⟩) := (fr_eval _ _ _ 11 rfl (by rw [asz]; decide)).trans (hp 0 (pre_mem (by kernel_rfl)))
      refine op_run (v := .pointer (some ⟨g, 0, none⟩)) (w' := wx) rfl rfl ?_ ?_
      · clear hp hd; have ec : ∀ v, (fr [11, 12, 13, 14, 15, 16, 17, 18, 19, 20, 21] A t).eval (.const v) = v := fun _ => rfl; generalize (fr [11, 12, 13, 14, 15, 16, 17, 18, 19, 20, 21] A t).eval = ev at ec e11 ⊢; go_simp
      · exact ⟨_, 0, rfl, hB, Below.refl _ _, rfl, .inl rfl⟩
    | 3, _ =>
      have e13 : (fr [11, 12, 13, 14, 15, 16, 17, 18, 19, 20, 21] A t).eval (.tmp 13) = .pointer (some ⟨g, 0, none⟩) := (fr_eval _ _ _ 13 rfl (by rw [asz]; decide)).trans (hp 2 (pre_mem (by kernel_rfl)))
      refine op_run (v := .pointer (some ⟨g, 1, none⟩)) (w' := wx) rfl rfl ?_ ?_
      · clear hp hd; have ec : ∀ v, (fr [11, 12, 13, 14, 15, 16, 17, 18, 19, 20, 21] A t).eval (.const v) = v := fun _ => rfl; generalize (fr [11, 12, 13, 14, 15, 16, 17, 18, 19, 20, 21] A t).eval = ev at ec e13 ⊢; go_simp
      · exact ⟨_, 0, rfl, hB, Below.refl _ _, rfl, .inl rfl⟩
    | 4, _ =>
      have e14 : (fr [11, 12, 13, 14, 15, 16, 17, 18, 19, 20, 21] A t).eval (.tmp 14) = .pointer (some ⟨g, 1, none⟩) := (fr_eval _ _ _ 14 rfl (by rw [asz]; decide)).trans (hp 3 (pre_mem (by kernel_rfl)))
      have e12 : (fr [11, 12, 13, 14, 15, 16, 17, 18, 19, 20, 21] A t).eval (.tmp 12) = .int .i64 (p : Int) := (fr_eval _ _ _ 12 rfl (by rw [asz]; decide)).trans (hp 1 (pre_mem (by kernel_rfl)))
      refine op_run (v := .pointer (some ⟨g, 1 + p, none⟩)) (w' := wx) rfl rfl ?_ ?_
      · clear hp hd; have ec : ∀ v, (fr [11, 12, 13, 14, 15, 16, 17, 18, 19, 20, 21] A t).eval (.const v) = v := fun _ => rfl; generalize (fr [11, 12, 13, 14, 15, 16, 17, 18, 19, 20, 21] A t).eval = ev at ec e14 e12 ⊢; go_simp
      · exact ⟨_, 0, rfl, hB, Below.refl _ _, rfl, .inl rfl⟩
    | 5, _ =>
      have e15 : (fr [11, 12, 13, 14, 15, 16, 17, 18, 19, 20, 21] A t).eval (.tmp 15) = .pointer (some ⟨g, 1 + p, none⟩) := (fr_eval _ _ _ 15 rfl (by rw [asz]; decide)).trans (hp 4 (pre_mem (by kernel_rfl)))
      have hc : wx.cell? ⟨g, 1 + p, none⟩ = some (.int .u32 x) := by rw [(hW wx hB).word p hpl, HX.out]
      refine op_run (v := .int .u32 x) (w' := wx) rfl rfl ?_ ?_
      · clear hp hd; have ec : ∀ v, (fr [11, 12, 13, 14, 15, 16, 17, 18, 19, 20, 21] A t).eval (.const v) = v := fun _ => rfl; generalize (fr [11, 12, 13, 14, 15, 16, 17, 18, 19, 20, 21] A t).eval = ev at ec e15 ⊢; go_simp
      · exact ⟨_, 0, rfl, hB, Below.refl _ _, rfl, .inl rfl⟩
    | 6, _ =>
      have e5 : (fr [11, 12, 13, 14, 15, 16, 17, 18, 19, 20, 21] A t).eval (.tmp 5) = .int .u32 M := (fr_eval_old _ _ _ 5 rfl).trans a5'
      refine op_run (v := .int .u32 M) (w' := wx) rfl rfl ?_ ?_
      · clear hp hd; have ec : ∀ v, (fr [11, 12, 13, 14, 15, 16, 17, 18, 19, 20, 21] A t).eval (.const v) = v := fun _ => rfl; generalize (fr [11, 12, 13, 14, 15, 16, 17, 18, 19, 20, 21] A t).eval = ev at ec e5 ⊢; go_simp
      · exact ⟨_, 0, rfl, hB, Below.refl _ _, rfl, .inl rfl⟩
    | 7, _ =>
      have e16 : (fr [11, 12, 13, 14, 15, 16, 17, 18, 19, 20, 21] A t).eval (.tmp 16) = .int .u32 x := (fr_eval _ _ _ 16 rfl (by rw [asz]; decide)).trans (hp 5 (pre_mem (by kernel_rfl)))
      have e17 : (fr [11, 12, 13, 14, 15, 16, 17, 18, 19, 20, 21] A t).eval (.tmp 17) = .int .u32 M := (fr_eval _ _ _ 17 rfl (by rw [asz]; decide)).trans (hp 6 (pre_mem (by kernel_rfl)))
      refine op_run (v := .int .u32 (bits .andNot .u32 x M)) (w' := wx) rfl rfl ?_ ?_
      · clear hp hd; have ec : ∀ v, (fr [11, 12, 13, 14, 15, 16, 17, 18, 19, 20, 21] A t).eval (.const v) = v := fun _ => rfl; generalize (fr [11, 12, 13, 14, 15, 16, 17, 18, 19, 20, 21] A t).eval = ev at ec e16 e17 ⊢; go_simp
      · exact ⟨_, 0, rfl, hB, Below.refl _ _, rfl, .inl rfl⟩
    | 8, _ =>
      have e11 : (fr [11, 12, 13, 14, 15, 16, 17, 18, 19, 20, 21] A t).eval (.tmp 11) = .pointer (some ⟨g, 0, none⟩) := (fr_eval _ _ _ 11 rfl (by rw [asz]; decide)).trans (hp 0 (pre_mem (by kernel_rfl)))
      refine op_run (v := .pointer (some ⟨g, 0, none⟩)) (w' := wx) rfl rfl ?_ ?_
      · clear hp hd; have ec : ∀ v, (fr [11, 12, 13, 14, 15, 16, 17, 18, 19, 20, 21] A t).eval (.const v) = v := fun _ => rfl; generalize (fr [11, 12, 13, 14, 15, 16, 17, 18, 19, 20, 21] A t).eval = ev at ec e11 ⊢; go_simp
      · exact ⟨_, 0, rfl, hB, Below.refl _ _, rfl, .inl rfl⟩
    | 9, _ =>
      have e19 : (fr [11, 12, 13, 14, 15, 16, 17, 18, 19, 20, 21] A t).eval (.tmp 19) = .pointer (some ⟨g, 0, none⟩) := (fr_eval _ _ _ 19 rfl (by rw [asz]; decide)).trans (hp 8 (pre_mem (by kernel_rfl)))
      refine op_run (v := .pointer (some ⟨g, 1, none⟩)) (w' := wx) rfl rfl ?_ ?_
      · clear hp hd; have ec : ∀ v, (fr [11, 12, 13, 14, 15, 16, 17, 18, 19, 20, 21] A t).eval (.const v) = v := fun _ => rfl; generalize (fr [11, 12, 13, 14, 15, 16, 17, 18, 19, 20, 21] A t).eval = ev at ec e19 ⊢; go_simp
      · exact ⟨_, 0, rfl, hB, Below.refl _ _, rfl, .inl rfl⟩
    | 10, _ =>
      have e20 : (fr [11, 12, 13, 14, 15, 16, 17, 18, 19, 20, 21] A t).eval (.tmp 20) = .pointer (some ⟨g, 1, none⟩) := (fr_eval _ _ _ 20 rfl (by rw [asz]; decide)).trans (hp 9 (pre_mem (by kernel_rfl)))
      have e12 : (fr [11, 12, 13, 14, 15, 16, 17, 18, 19, 20, 21] A t).eval (.tmp 12) = .int .i64 (p : Int) := (fr_eval _ _ _ 12 rfl (by rw [asz]; decide)).trans (hp 1 (pre_mem (by kernel_rfl)))
      refine op_run (v := .pointer (some ⟨g, 1 + p, none⟩)) (w' := wx) rfl rfl ?_ ?_
      · clear hp hd; have ec : ∀ v, (fr [11, 12, 13, 14, 15, 16, 17, 18, 19, 20, 21] A t).eval (.const v) = v := fun _ => rfl; generalize (fr [11, 12, 13, 14, 15, 16, 17, 18, 19, 20, 21] A t).eval = ev at ec e20 e12 ⊢; go_simp
      · exact ⟨_, 0, rfl, hB, Below.refl _ _, rfl, .inl rfl⟩
  · intro t ρ wx hB hF hne
    have e21 : (fr [11, 12, 13, 14, 15, 16, 17, 18, 19, 20, 21] A t).eval (.tmp 21) = .pointer (some ⟨g, 1 + p, none⟩) := (fr_eval _ _ _ 21 rfl (by rw [asz]; decide)).trans (hF 10 (by decide))
    have e18 : (fr [11, 12, 13, 14, 15, 16, 17, 18, 19, 20, 21] A t).eval (.tmp 18) = .int .u32 (bits .andNot .u32 x M) := (fr_eval _ _ _ 18 rfl (by rw [asz]; decide)).trans (hF 7 (by decide))
    clear hne
    have q0 : ∃ v, wx.cell? ⟨g, 1 + p, none⟩ = some v := ⟨_, (hW wx hB).word p hpl⟩
    obtain ⟨v0, q0⟩ := q0
    have f0 := (hW wx hB).froz (1 + p)
    have kW : Hid (Wnd wx g top l) := hW wx hB
    refine op_wp rfl rfl ?_
    clear hF hW
    generalize hE : (fr [11, 12, 13, 14, 15, 16, 17, 18, 19, 20, 21] A t).eval = ev at e21 e18
    unfold Oper.wp
    rw [hE]
    go_simp
    rw [← hA]
    go_end0
    exact ⟨rfl, by have := kW.out.setWord p Y HYb.out; rw [HY.out]; exact this, (Kept.of_below B1.out 0).any.trans ((Kept.of_below hB 0).any.trans (Kept.setCell _ _ _ _))⟩
theorem dropI (g : Nat) (top : Int) (l : List Int) (z : Int) (w : World) (h : Wnd w g top l) (h0 : 0 ≤ z) (hn : z ≤ 562949953421312) :
    Calls Try.prog 108 #[.pointer (some ⟨g, 0, none⟩), .int .i64 z] w fun e w' => e = .returned (.tuple #[]) ∧ Wnd w' g top (clrL l (z.toNat % 1024)) ∧ Kept g (g + 1) w w' := by
  obtain ⟨n, rfl⟩ := Int.eq_ofNat_of_zero_le h0
  exact drop g top l n w h (by omega)

set_option maxRecDepth 100000 in
set_option maxHeartbeats 4000000 in
theorem climb (g : Nat) (top : Int) (l : List Int) (n : Nat) (w : World) (h : Wnd w g top l) (lo : -1 ≤ top) (ht : top < n) (hn : n ≤ 281474976710655) :
    Calls Try.prog 88 #[.pointer (some ⟨g, 0, none⟩), .int .i64 n] w fun e w' => e = .returned (.tuple #[]) ∧ Wnd w' g n (clrs l (top + 1).toNat (min ((n : Int) - top).toNat 1024)) ∧ Kept g (g + 1) w w' := by
  have H0 : Hid (Wnd w g top l) := h
  obtain ⟨C, hC⟩ : ∃ C : Nat, min ((n : Int) - top) 1024 = (C : Int) := ⟨(min ((n : Int) - top) 1024).toNat, by omega⟩
  have HC : Hid (min ((n : Int) - top) 1024 = (C : Int)) := hC
  have hC1 : (C : Int) ≤ (n : Int) - top := by omega
  have hC2 : C ≤ 1024 := by omega
  have HD : clrs l (top + 1).toNat (min ((n : Int) - top).toNat 1024) = down l n C := by
    have e := down_clrs l (top + 1).toNat n h.1 h.2.1 (by omega)
    rw [show min (n + 1 - (top + 1).toNat) 1024 = C by omega] at e
    rw [show min ((n : Int) - top).toNat 1024 = C by omega, ← e]
  rw [HD]
  clear HD h
  by_cases hb : 1024 < (n : Int) - top
  · have hCe : (1024 : Int) = (C : Int) := by omega
    have c0 := H0.out.topCell
    go_enter Try.func88, Try.ntmps88
    go_wp2
    clear c0 hC hb hCe HC
    go_loopw [12] (fun i wr => ∃ k : Nat, k ≤ C ∧ i = .int .i64 k ∧ Wnd wr g top (down l n k) ∧ Kept g (g + 1) w wr) (fun i _ => C - (intOf i).toNat)
    case atStart => exact ⟨0, Nat.zero_le _, rfl, H0.out, Kept.refl _ _ _⟩
    case round =>
      obtain ⟨k, hk, rfl, hW, hK⟩ := hrel
      have HW : Hid (Wnd wr g top (down l n k)) := hW
      have HK : Hid (Kept g (g + 1) w wr) := hK
      clear hW hK H0
      by_cases hlt : k < C
      · go_wp2_with fail
        refine (dropI g top (down l n k) ((n : Int) - k) wr HW.out (by omega) (by omega)).mono ?_
        have HE : Hid (clrL (down l n k) (((n : Int) - k).toNat % 1024) = down l n (k + 1)) := by
          show _ = _
          rw [show ((n : Int) - k).toNat = n - k by omega]; rfl
        rw [HE.out]
        rintro e w2 ⟨rfl, h2, k2⟩
        have HW2 : Hid (Wnd w2 g top (down l n (k + 1))) := h2
        have HK2 : Hid (Kept g (g + 1) w w2) := HK.out.trans k2
        clear h2 k2 HE
        go_wp2
        go_roundw
        case rel => exact ⟨k + 1, by omega, by go_num, HW2.out, HK2.out⟩
        case measure => simp [intOf]; omega
      · obtain rfl : k = C := by omega
        have c0 := HW.out.topCell
        have f0 := HW.out.froz 0
        go_wp2
        go_end0
        exact ⟨rfl, HW.out.setTop n, HK.out.trans (Kept.setCell _ _ _ _)⟩
  · have hCe : (n : Int) - top = (C : Int) := by omega
    have c0 := H0.out.topCell
    go_enter Try.func88, Try.ntmps88
    go_wp2
    clear c0 hC hb hCe HC
    go_loopw [12] (fun i wr => ∃ k : Nat, k ≤ C ∧ i = .int .i64 k ∧ Wnd wr g top (down l n k) ∧ Kept g (g + 1) w wr) (fun i _ => C - (intOf i).toNat)
    case atStart => exact ⟨0, Nat.zero_le _, rfl, H0.out, Kept.refl _ _ _⟩
    case round =>
      obtain ⟨k, hk, rfl, hW, hK⟩ := hrel
      have HW : Hid (Wnd wr g top (down l n k)) := hW
      have HK : Hid (Kept g (g + 1) w wr) := hK
      clear hW hK H0
      by_cases hlt : k < C
      · go_wp2_with fail
        refine (dropI g top (down l n k) ((n : Int) - k) wr HW.out (by omega) (by omega)).mono ?_
        have HE : Hid (clrL (down l n k) (((n : Int) - k).toNat % 1024) = down l n (k + 1)) := by
          show _ = _
          rw [show ((n : Int) - k).toNat = n - k by omega]; rfl
        rw [HE.out]
        rintro e w2 ⟨rfl, h2, k2⟩
        have HW2 : Hid (Wnd w2 g top (down l n (k + 1))) := h2
        have HK2 : Hid (Kept g (g + 1) w w2) := HK.out.trans k2
        clear h2 k2 HE
        go_wp2
        go_roundw
        case rel => exact ⟨k + 1, by omega, by go_num, HW2.out, HK2.out⟩
        case measure => simp [intOf]; omega
      · obtain rfl : k = C := by omega
        have c0 := HW.out.topCell
        have f0 := HW.out.froz 0
        go_wp2
        go_end0
        exact ⟨rfl, HW.out.setTop n, HK.out.trans (Kept.setCell _ _ _ _)⟩

theorem has_no {top : Int} {l : List Int} {n : Int} (h : ¬ (0 ≤ n ∧ n ≤ top ∧ top - 1024 < n)) : WinP.has top l n = false := by unfold WinP.has; rw [decide_eq_false h, Bool.false_and]
theorem has_yes {top : Int} {l : List Int} {n : Int} (h : 0 ≤ n ∧ n ≤ top ∧ top - 1024 < n) : WinP.has top l n = bit l n.toNat := by unfold WinP.has; rw [decide_eq_true h, Bool.true_and]
set_option maxRecDepth 100000 in
set_option maxHeartbeats 4000000 in
theorem has (g : Nat) (top : Int) (l : List Int) (n : Int) (w : World) (h : Wnd w g top l) (lo : -1 ≤ top) (hi : top ≤ 281474976710655) :
    Calls Try.prog 57 #[.pointer (some ⟨g, 0, none⟩), .int .i64 n] w fun e w' => e = .returned (.bool (WinP.has top l n)) ∧ Below w.heap.size w w' := by
  have H0 : Hid (Wnd w g top l) := h
  obtain ⟨v, hv⟩ : ∃ v, WinP.has top l n = v := ⟨_, rfl⟩
  have HV : Hid (WinP.has top l n = v) := hv
  rw [hv]
  have c0 := h.topCell
  clear hv h
  by_cases h1 : n < 0
  · have HF : Hid (v = false) := by show v = false; rw [← HV.out]; exact has_no (by omega)
    go_enter Try.func57, Try.ntmps57
    go_wp2
    go_ret
    exact ⟨by rw [HF.out]; rfl, Below.refl _ _⟩
  by_cases h2 : n ≤ top - 1024
  · have HF : Hid (v = false) := by show v = false; rw [← HV.out]; exact has_no (by omega)
    go_enter Try.func57, Try.ntmps57
    go_wp2
    go_ret
    exact ⟨by rw [HF.out]; rfl, Below.refl _ _⟩
  by_cases h3 : n > top
  · have HF : Hid (v = false) := by show v = false; rw [← HV.out]; exact has_no (by omega)
    go_enter Try.func57, Try.ntmps57
    go_wp2
    go_ret
    exact ⟨by rw [HF.out]; rfl, Below.refl _ _⟩
  obtain ⟨n, rfl⟩ := Int.eq_ofNat_of_zero_le (show 0 ≤ n by omega)
  obtain ⟨p, hpe⟩ : ∃ p, n % 1024 / 32 = p := ⟨_, rfl⟩
  obtain ⟨k, hke⟩ : ∃ k, n % 32 = k := ⟨_, rfl⟩
  have HPE : Hid (n % 1024 / 32 = p) := hpe
  have HKE : Hid (n % 32 = k) := hke
  have hpl : p < 32 := by omega
  have hk : k < 32 := by omega
  have hpI : (p : Int) < 32 := by omega
  obtain ⟨x, hx⟩ : ∃ x, l.getD p 0 = x := ⟨_, rfl⟩
  have HX : Hid (l.getD p 0 = x) := hx
  have hx2 := H0.out.2.1.at p
  rw [hx] at hx2
  obtain ⟨X, rfl⟩ := Int.eq_ofNat_of_zero_le hx2.1
  have hxl : X < 4294967296 := by omega
  obtain ⟨M, hM⟩ : ∃ M : Int, ((2 ^ k : Nat) : Int) = M := ⟨_, rfl⟩
  have HM : Hid (((2 ^ k : Nat) : Int) = M) := hM
  have HB : Hid ((bits .and .u32 (X : Int) M != 0) = v) := by
    show _ = v
    rw [← hM, tb_u32 X k hxl hk, ← HV.out, has_yes ⟨by omega, by omega, by omega⟩, Int.toNat_natCast]
    unfold bit
    rw [hpe, hke, hx, Int.toNat_natCast]
  clear hx2 hxl hM hpe hke hk hx HV
  generalize (X : Int) = x at *
  go_enter Try.func57, Try.ntmps57
  go_wp2_with fail
  refine (placeOf n w (by omega)).mono ?_
  rw [HPE.out, HKE.out, HM.out]
  rintro e w1 ⟨rfl, m, hw1⟩
  have B1 : Hid (Below w.heap.size w w1) := by rw [hw1]; exact below_drewN (Below.refl _ _) _
  have c1 : w1.cell? ⟨g, 1 + p, none⟩ = some (.int .u32 x) := by rw [(H0.out.later B1.out).word p hpl, HX.out]
  clear hw1 H0 c0
  go_wp2
  go_ret
  exact ⟨by rw [← HB.out]; rfl, B1.out⟩

theorem may_no {top : Int} {l : List Int} {n : Int} (h : ¬ (0 ≤ n ∧ n ≤ 281474976710655 ∧ top - 1024 < n)) : WinP.may top l n = false := by unfold WinP.may; rw [decide_eq_false h, Bool.false_and]
theorem may_has {top : Int} {l : List Int} {n : Int} (h : 0 ≤ n ∧ n ≤ 281474976710655 ∧ top - 1024 < n) : WinP.may top l n = !WinP.has top l n := by
  unfold WinP.may
  rw [decide_eq_true h, Bool.true_and]
  by_cases k : top < n
  · rw [decide_eq_true k, has_no (by omega)]; rfl
  · rw [decide_eq_false k, has_yes (by omega)]; simp
set_option maxRecDepth 100000 in
set_option maxHeartbeats 4000000 in
theorem may (g : Nat) (top : Int) (l : List Int) (n : Int) (w : World) (h : Wnd w g top l) (lo : -1 ≤ top) (hi : top ≤ 281474976710655) :
    Calls Try.prog 49 #[.pointer (some ⟨g, 0, none⟩), .int .i64 n] w fun e w' => e = .returned (.bool (WinP.may top l n)) ∧ Below w.heap.size w w' := by
  have H0 : Hid (Wnd w g top l) := h
  obtain ⟨v, hv⟩ : ∃ v, WinP.may top l n = v := ⟨_, rfl⟩
  have HV : Hid (WinP.may top l n = v) := hv
  rw [hv]
  have c0 := h.topCell
  clear hv h
  go_enter Try.func49, Try.ntmps49
  go_wp2_with fail
  refine (isSeq n w).mono ?_
  by_cases h1 : 0 ≤ n ∧ n ≤ 281474976710655
  · rw [decide_eq_true h1]
    rintro e w1 ⟨rfl, rfl⟩
    have H1 : Hid (0 ≤ n ∧ n ≤ 281474976710655) := h1
    clear h1
    by_cases h2 : n > top - 1024
    · have HB : Hid ((!WinP.has top l n) = v) := by show _ = v; rw [← HV.out, may_has ⟨H1.out.1, H1.out.2, h2⟩]
      go_wp2_with fail
      refine (has g top l n w H0.out lo hi).mono ?_
      generalize WinP.has top l n = u at *
      rintro e w1 ⟨rfl, b1⟩
      have B1 : Hid (Below w.heap.size w w1) := b1
      clear b1 c0
      go_wp2
      go_ret
      exact ⟨by rw [← HB.out]; first | rfl | simp, B1.out⟩
    · have HF : Hid (v = false) := by show v = false; rw [← HV.out]; exact may_no (by omega)
      go_wp2
      go_ret
      exact ⟨by rw [HF.out]; first | rfl | simp, Below.refl _ _⟩
  · have HF : Hid (v = false) := by show v = false; rw [← HV.out]; exact may_no (by omega)
    rw [decide_eq_false h1]
    rintro e w1 ⟨rfl, rfl⟩
    clear h1
    go_wp2
    go_ret
    exact ⟨by rw [HF.out]; first | rfl | simp, Below.refl _ _⟩
set_option maxRecDepth 100000 in
set_option maxHeartbeats 8000000 in
theorem add (g : Nat) (top : Int) (l : List Int) (n : Nat) (w : World) (h : Wnd w g top l) (lo : -1 ≤ top) (hn : n ≤ 281474976710655) :
    Calls Try.prog 51 #[.pointer (some ⟨g, 0, none⟩), .int .i64 n] w fun e w' => e = .returned (.tuple #[]) ∧ Wnd w' g (max top n) (addL top l n) ∧ Kept g (g + 1) w w' := by
  have H0 : Hid (Wnd w g top l) := h
  have c0 := h.topCell
  clear h
  go_enter Try.func51, Try.ntmps51
  by_cases hgt : (n : Int) > top
  · go_wp2_with fail
    refine (climb g top l n w H0.out lo hgt hn).mono ?_
    obtain ⟨l1, hl1⟩ : ∃ l1, clrs l (top + 1).toNat (min ((n : Int) - top).toNat 1024) = l1 := ⟨_, rfl⟩
    have HL1 : Hid (addL top l n = setL l1 (n % 1024)) := by show _ = _; unfold addL; rw [hl1]
    obtain ⟨t1, ht1⟩ : ∃ t1 : Int, (n : Int) = t1 := ⟨_, rfl⟩
    have HT1 : Hid (t1 = max top n) := by show _ = _; omega
    rw [hl1]
    rintro e w1 ⟨rfl, h1, k1⟩
    rw [ht1] at h1
    have H1 : Hid (Wnd w1 g t1 l1) := h1
    have HK1 : Hid (Kept g (g + 1) w w1) := k1
    have HN : Hid (n ≤ 562949953421312) := by show _ ≤ _; omega
    clear h1 k1 hl1 c0 H0 ht1 hgt hn
    obtain ⟨p, hpe⟩ : ∃ p, n % 1024 / 32 = p := ⟨_, rfl⟩
    obtain ⟨k, hke⟩ : ∃ k, n % 32 = k := ⟨_, rfl⟩
    have HPE : Hid (n % 1024 / 32 = p) := hpe
    have HKE : Hid (n % 32 = k) := hke
    have hpl : p < 32 := by omega
    have hk : k < 32 := by omega
    have hpI : (p : Int) < 32 := by omega
    obtain ⟨x, hx⟩ : ∃ x, l1.getD p 0 = x := ⟨_, rfl⟩
    have HX : Hid (l1.getD p 0 = x) := hx
    have hx2 := H1.out.2.1.at p
    rw [hx] at hx2
    obtain ⟨X, rfl⟩ := Int.eq_ofNat_of_zero_le hx2.1
    have hxl : X < 4294967296 := by omega
    obtain ⟨M, hM⟩ : ∃ M : Int, ((2 ^ k : Nat) : Int) = M := ⟨_, rfl⟩
    have HM : Hid (((2 ^ k : Nat) : Int) = M) := hM
    obtain ⟨Y, hY⟩ : ∃ Y : Int, ((setN X k : Nat) : Int) = Y := ⟨_, rfl⟩
    have HY : Hid (bits .or .u32 (X : Int) M = Y) := by rw [← hM, ← hY]; exact set_u32 X k hxl hk
    have HYb : Hid (0 ≤ Y ∧ Y ≤ 4294967295) := by have := setN_lt X k hxl hk; rw [← hY]; show _ ∧ _; omega
    have HA : Hid (addL top l n = l1.set p Y) := by
      show _ = _
      rw [HL1.out]
      unfold setL
      rw [show n % 1024 / 32 = p from hpe, show n % 1024 % 32 = k by omega, hx, Int.toNat_natCast, hY]
    clear hpe hke hx hx2 hxl hM hY hk
    generalize (X : Int) = x at *
    go_wp2_with fail
    refine (placeOf n w1 HN.out).mono ?_
    rw [HPE.out, HKE.out, HM.out]
    rintro e w2 ⟨rfl, m, hw2⟩
    have B2 : Hid (Below w1.heap.size w1 w2) := by rw [hw2]; exact below_drewN (Below.refl _ _) _
    have H2 : Hid (Wnd w2 g t1 l1) := H1.out.later B2.out
    clear hw2 H1
    go_upto_region 3 with fail
    generalize hA : Act.mk _ _ = A
    have a0' : A.eval (.tmp 0) = .pointer (some ⟨g, 0, none⟩) := by rw [← hA]; rfl
    have a4' : A.eval (.tmp 4) = .int .i64 (p : Int) := by rw [← hA]; rfl
    have a5' : A.eval (.tmp 5) = .int .u32 M := by rw [← hA]; rfl
    have asz : A.tmps.size = 31 := by rw [← hA]; rfl
    have hW : ∀ wx, Below w2.heap.size w2 wx → Wnd wx g t1 l1 := fun wx hb => H2.out.later hb
    refine region_each (by kernel_rfl) [20, 21, 22, 23, 24, 25, 26, 27, 28, 29, 30] 11 (fun i => [20, 21, 22, 23, 24, 25, 26, 27, 28, 29, 30].getD i 0) (fun _ => 0)
      (fun i gB v wx => match i with
        | 0 => v = .pointer (some ⟨g, 0, none⟩)
        | 1 => v = .int .i64 (p : Int)
        | 2 => v = .pointer (some ⟨g, 0, none⟩)
        | 3 => v = .pointer (some ⟨g, 1, none⟩)
        | 4 => v = .pointer (some ⟨g, 1 + p, none⟩)
        | 5 => v = .int .u32 x
        | 6 => v = .int .u32 M
        | 7 => v = .int .u32 (bits .or .u32 x M)
        | 8 => v = .pointer (some ⟨g, 0, none⟩)
        | 9 => v = .pointer (some ⟨g, 1, none⟩)
        | 10 => v = .pointer (some ⟨g, 1 + p, none⟩)
        | _ => False) (fun wx => Below w2.heap.size w2 wx) (by kernel_rfl) (Below.refl _ _).drew ?_ ?_ ?_
    · intro i gB v wx wy hi hF hb _
      match i, hi with
      | 0, _ => exact hF
      | 1, _ => exact hF
      | 2, _ => exact hF
      | 3, _ => exact hF
      | 4, _ => exact hF
      | 5, _ => exact hF
      | 6, _ => exact hF
      | 7, _ => exact hF
      | 8, _ => exact hF
      | 9, _ => exact hF
      | 10, _ => exact hF
    · intro i hi t ρ wx hB hp hd
      match i, hi with
      | 0, _ =>
        have e0 : (fr [20, 21, 22, 23, 24, 25, 26, 27, 28, 29, 30] A t).eval (.tmp 0) = .pointer (some ⟨g, 0, none⟩) := (fr_eval_old _ _ _ 0 rfl).trans a0'
        refine op_run (v := .pointer (some ⟨g, 0, none⟩)) (w' := wx) rfl rfl ?_ ?_
        · clear hp hd; have ec : ∀ v, (fr [20, 21, 22, 23, 24, 25, 26, 27, 28, 29, 30] A t).eval (.const v) = v := fun _ => rfl; generalize (fr [20, 21, 22, 23, 24, 25, 26, 27, 28, 29, 30] A t).eval = ev at ec e0 ⊢; go_simp
        · exact ⟨_, 0, rfl, hB, Below.refl _ _, rfl, .inl rfl⟩
      | 1, _ =>
        have e4 : (fr [20, 21, 22, 23, 24, 25, 26, 27, 28, 29, 30] A t).eval (.tmp 4) = .int .i64 (p : Int) := (fr_eval_old _ _ _ 4 rfl).trans a4'
        refine op_run (v := .int .i64 (p : Int)) (w' := wx) rfl rfl ?_ ?_
        · clear hp hd; have ec : ∀ v, (fr [20, 21, 22, 23, 24, 25, 26, 27, 28, 29, 30] A t).eval (.const v) = v := fun _ => rfl; generalize (fr [20, 21, 22, 23, 24, 25, 26, 27, 28, 29, 30] A t).eval = ev at ec e4 ⊢; go_simp
        · exact ⟨_, 0, rfl, hB, Below.refl _ _, rfl, .inl rfl⟩
      | 2, _ =>
        have e20 : (fr [20, 21, 22, 23, 24, 25, 26, 27, 28, 29, 30] A t).eval (.tmp 20) = .pointer (some ⟨g, 0, none⟩) := (fr_eval _ _ _ 20 rfl (by rw [asz]; decide)).trans (hp 0 (pre_mem (by kernel_rfl)))
        refine op_run (v := .pointer (some ⟨g, 0, none⟩)) (w' := wx) rfl rfl ?_ ?_
        · clear hp hd; have ec : ∀ v, (fr [20, 21, 22, 23, 24, 25, 26, 27, 28, 29, 30] A t).eval (.const v) = v := fun _ => rfl; generalize (fr [20, 21, 22, 23, 24, 25, 26, 27, 28, 29, 30] A t).eval = ev at ec e20 ⊢; go_simp
        · exact ⟨_, 0, rfl, hB, Below.refl _ _, rfl, .inl rfl⟩
      | 3, _ =>
        have e22 : (fr [20, 21, 22, 23, 24, 25, 26, 27, 28, 29, 30] A t).eval (.tmp 22) = .pointer (some ⟨g, 0, none⟩) := (fr_eval _ _ _ 22 rfl (by rw [asz]; decide)).trans (hp 2 (pre_mem (by kernel_rfl)))
        refine op_run (v := .pointer (some ⟨g, 1, none⟩)) (w' := wx) rfl rfl ?_ ?_
        · clear hp hd; have ec : ∀ v, (fr [20, 21, 22, 23, 24, 25, 26, 27, 28, 29, 30] A t).eval (.const v) = v := fun _ => rfl; generalize (fr [20, 21, 22, 23, 24, 25, 26, 27, 28, 29, 30] A t).eval = ev at ec e22 ⊢; go_simp
        · exact ⟨_, 0, rfl, hB, Below.refl _ _, rfl, .inl rfl⟩
      | 4, _ =>
        have e23 : (fr [20, 21, 22, 23, 24, 25, 26, 27, 28, 29, 30] A t).eval (.tmp 23) = .pointer (some ⟨g, 1, none⟩) := (fr_eval _ _ _ 23 rfl (by rw [asz]; decide)).trans (hp 3 (pre_mem (by kernel_rfl)))
        have e21 : (fr [20, 21, 22, 23, 24, 25, 26, 27, 28, 29, 30] A t).eval (.tmp 21) = .int .i64 (p : Int) := (fr_eval _ _ _ 21 rfl (by rw [asz]; decide)).trans (hp 1 (pre_mem (by kernel_rfl)))
        refine op_run (v := .pointer (some ⟨g, 1 + p, none⟩)) (w' := wx) rfl rfl ?_ ?_
        · clear hp hd; have ec : ∀ v, (fr [20, 21, 22, 23, 24, 25, 26, 27, 28, 29, 30] A t).eval (.const v) = v := fun _ => rfl; generalize (fr [20, 21, 22, 23, 24, 25, 26, 27, 28, 29, 30] A t).eval = ev at ec e23 e21 ⊢; go_simp
        · exact ⟨_, 0, rfl, hB, Below.refl _ _, rfl, .inl rfl⟩
      | 5, _ =>
        have e24 : (fr [20, 21, 22, 23, 24, 25, 26, 27, 28, 29, 30] A t).eval (.tmp 24) = .pointer (some ⟨g, 1 + p, none⟩) := (fr_eval _ _ _ 24 rfl (by rw [asz]; decide)).trans (hp 4 (pre_mem (by kernel_rfl)))
        have hc : wx.cell? ⟨g, 1 + p, none⟩ = some (.int .u32 x) := by rw [(hW wx hB).word p hpl, HX.out]
        refine op_run (v := .int .u32 x) (w' := wx) rfl rfl ?_ ?_
        · clear hp hd; have ec : ∀ v, (fr [20, 21, 22, 23, 24, 25, 26, 27, 28, 29, 30] A t).eval (.const v) = v := fun _ => rfl; generalize (fr [20, 21, 22, 23, 24, 25, 26, 27, 28, 29, 30] A t).eval = ev at ec e24 ⊢; go_simp
        · exact ⟨_, 0, rfl, hB, Below.refl _ _, rfl, .inl rfl⟩
      | 6, _ =>
        have e5 : (fr [20, 21, 22, 23, 24, 25, 26, 27, 28, 29, 30] A t).eval (.tmp 5) = .int .u32 M := (fr_eval_old _ _ _ 5 rfl).trans a5'
        refine op_run (v := .int .u32 M) (w' := wx) rfl rfl ?_ ?_
        · clear hp hd; have ec : ∀ v, (fr [20, 21, 22, 23, 24, 25, 26, 27, 28, 29, 30] A t).eval (.const v) = v := fun _ => rfl; generalize (fr [20, 21, 22, 23, 24, 25, 26, 27, 28, 29, 30] A t).eval = ev at ec e5 ⊢; go_simp
        · exact ⟨_, 0, rfl, hB, Below.refl _ _, rfl, .inl rfl⟩
      | 7, _ =>
        have e25 : (fr [20, 21, 22, 23, 24, 25, 26, 27, 28, 29, 30] A t).eval (.tmp 25) = .int .u32 x := (fr_eval _ _ _ 25 rfl (by rw [asz]; decide)).trans (hp 5 (pre_mem (by kernel_rfl)))
        have e26 : (fr [20, 21, 22, 23, 24, 25, 26, 27, 28, 29, 30] A t).eval (.tmp 26) = .int .u32 M := (fr_eval _ _ _ 26 rfl (by rw [asz]; decide)).trans (hp 6 (pre_mem (by kernel_rfl)))
        refine op_run (v := .int .u32 (bits .or .u32 x M)) (w' := wx) rfl rfl ?_ ?_
        · clear hp hd; have ec : ∀ v, (fr [20, 21, 22, 23, 24, 25, 26, 27, 28, 29, 30] A t).eval (.const v) = v := fun _ => rfl; generalize (fr [20, 21, 22, 23, 24, 25, 26, 27, 28, 29, 30] A t).eval = ev at ec e25 e26 ⊢; go_simp
        · exact ⟨_, 0, rfl, hB, Below.refl _ _, rfl, .inl rfl⟩
      | 8, _ =>
        have e20 : (fr [20, 21, 22, 23, 24, 25, 26, 27, 28, 29, 30] A t).eval (.tmp 20) = .pointer (some ⟨g, 0, none⟩) := (fr_eval _ _ _ 20 rfl (by rw [asz]; decide)).trans (hp 0 (pre_mem (by kernel_rfl)))
        refine op_run (v := .pointer (some ⟨g, 0, none⟩)) (w' := wx) rfl rfl ?_ ?_
        · clear hp hd; have ec : ∀ v, (fr [20, 21, 22, 23, 24, 25, 26, 27, 28, 29, 30] A t).eval (.const v) = v := fun _ => rfl; generalize (fr [20, 21, 22, 23, 24, 25, 26, 27, 28, 29, 30] A t).eval = ev at ec e20 ⊢; go_simp
        · exact ⟨_, 0, rfl, hB, Below.refl _ _, rfl, .inl rfl⟩
      | 9, _ =>
        have e28 : (fr [20, 21, 22, 23, 24, 25, 26, 27, 28, 29, 30] A t).eval (.tmp 28) = .pointer (some ⟨g, 0, none⟩) := (fr_eval _ _ _ 28 rfl (by rw [asz]; decide)).trans (hp 8 (pre_mem (by kernel_rfl)))
        refine op_run (v := .pointer (some ⟨g, 1, none⟩)) (w' := wx) rfl rfl ?_ ?_
        · clear hp hd; have ec : ∀ v, (fr [20, 21, 22, 23, 24, 25, 26, 27, 28, 29, 30] A t).eval (.const v) = v := fun _ => rfl; generalize (fr [20, 21, 22, 23, 24, 25, 26, 27, 28, 29, 30] A t).eval = ev at ec e28 ⊢; go_simp
        · exact ⟨_, 0, rfl, hB, Below.refl _ _, rfl, .inl rfl⟩
      | 10, _ =>
        have e29 : (fr [20, 21, 22, 23, 24, 25, 26, 27, 28, 29, 30] A t).eval (.tmp 29) = .pointer (some ⟨g, 1, none⟩) := (fr_eval _ _ _ 29 rfl (by rw [asz]; decide)).trans (hp 9 (pre_mem (by kernel_rfl)))
        have e21 : (fr [20, 21, 22, 23, 24, 25, 26, 27, 28, 29, 30] A t).eval (.tmp 21) = .int .i64 (p : Int) := (fr_eval _ _ _ 21 rfl (by rw [asz]; decide)).trans (hp 1 (pre_mem (by kernel_rfl)))
        refine op_run (v := .pointer (some ⟨g, 1 + p, none⟩)) (w' := wx) rfl rfl ?_ ?_
        · clear hp hd; have ec : ∀ v, (fr [20, 21, 22, 23, 24, 25, 26, 27, 28, 29, 30] A t).eval (.const v) = v := fun _ => rfl; generalize (fr [20, 21, 22, 23, 24, 25, 26, 27, 28, 29, 30] A t).eval = ev at ec e29 e21 ⊢; go_simp
        · exact ⟨_, 0, rfl, hB, Below.refl _ _, rfl, .inl rfl⟩
    · intro t ρ wx hB hF hne
      have e30 : (fr [20, 21, 22, 23, 24, 25, 26, 27, 28, 29, 30] A t).eval (.tmp 30) = .pointer (some ⟨g, 1 + p, none⟩) := (fr_eval _ _ _ 30 rfl (by rw [asz]; decide)).trans (hF 10 (by decide))
      have e27 : (fr [20, 21, 22, 23, 24, 25, 26, 27, 28, 29, 30] A t).eval (.tmp 27) = .int .u32 (bits .or .u32 x M) := (fr_eval _ _ _ 27 rfl (by rw [asz]; decide)).trans (hF 7 (by decide))
      clear hne
      have q0 : ∃ v, wx.cell? ⟨g, 1 + p, none⟩ = some v := ⟨_, (hW wx hB).word p hpl⟩
      obtain ⟨v0, q0⟩ := q0
      have f0 := (hW wx hB).froz (1 + p)
      have kW : Hid (Wnd wx g t1 l1) := hW wx hB
      refine op_wp rfl rfl ?_
      clear hF hW
      generalize hE : (fr [20, 21, 22, 23, 24, 25, 26, 27, 28, 29, 30] A t).eval = ev at e30 e27
      unfold Oper.wp
      rw [hE]
      go_simp
      rw [← hA]
      go_end0
      exact ⟨rfl, by rw [← HT1.out, HA.out]; have := kW.out.setWord p Y HYb.out; rw [HY.out]; exact this, HK1.out.trans ((Kept.of_below B2.out 0).any.trans ((Kept.of_below hB 0).any.trans (Kept.setCell _ _ _ _)))⟩
  · go_upto_region 2 with fail
    obtain ⟨l1, hl1⟩ : ∃ l1, l = l1 := ⟨_, rfl⟩
    have HL1 : Hid (addL top l n = setL l1 (n % 1024)) := by show _ = _; unfold addL; rw [← hl1, show min ((n : Int) - top).toNat 1024 = 0 by omega]; rfl
    obtain ⟨t1, ht1⟩ : ∃ t1 : Int, top = t1 := ⟨_, rfl⟩
    have HT1 : Hid (t1 = max top n) := by show _ = _; omega
    obtain ⟨w1, hw1⟩ : ∃ w1, w = w1 := ⟨_, rfl⟩
    have H1 : Hid (Wnd w1 g t1 l1) := by rw [← hw1, ← hl1, ← ht1]; exact H0.out
    have HK1 : Hid (Kept g (g + 1) w w1) := by rw [← hw1]; exact Kept.refl _ _ _
    have HN : Hid (n ≤ 562949953421312) := by show _ ≤ _; omega
    clear c0 hl1 ht1 H0 hn hgt
    rw [hw1]
    clear hw1
    obtain ⟨p, hpe⟩ : ∃ p, n % 1024 / 32 = p := ⟨_, rfl⟩
    obtain ⟨k, hke⟩ : ∃ k, n % 32 = k := ⟨_, rfl⟩
    have HPE : Hid (n % 1024 / 32 = p) := hpe
    have HKE : Hid (n % 32 = k) := hke
    have hpl : p < 32 := by omega
    have hk : k < 32 := by omega
    have hpI : (p : Int) < 32 := by omega
    obtain ⟨x, hx⟩ : ∃ x, l1.getD p 0 = x := ⟨_, rfl⟩
    have HX : Hid (l1.getD p 0 = x) := hx
    have hx2 := H1.out.2.1.at p
    rw [hx] at hx2
    obtain ⟨X, rfl⟩ := Int.eq_ofNat_of_zero_le hx2.1
    have hxl : X < 4294967296 := by omega
    obtain ⟨M, hM⟩ : ∃ M : Int, ((2 ^ k : Nat) : Int) = M := ⟨_, rfl⟩
    have HM : Hid (((2 ^ k : Nat) : Int) = M) := hM
    obtain ⟨Y, hY⟩ : ∃ Y : Int, ((setN X k : Nat) : Int) = Y := ⟨_, rfl⟩
    have HY : Hid (bits .or .u32 (X : Int) M = Y) := by rw [← hM, ← hY]; exact set_u32 X k hxl hk
    have HYb : Hid (0 ≤ Y ∧ Y ≤ 4294967295) := by have := setN_lt X k hxl hk; rw [← hY]; show _ ∧ _; omega
    have HA : Hid (addL top l n = l1.set p Y) := by
      show _ = _
      rw [HL1.out]
      unfold setL
      rw [show n % 1024 / 32 = p from hpe, show n % 1024 % 32 = k by omega, hx, Int.toNat_natCast, hY]
    clear hpe hke hx hx2 hxl hM hY hk
    generalize (X : Int) = x at *
    go_wp2_with fail
    refine (placeOf n w1 HN.out).mono ?_
    rw [HPE.out, HKE.out, HM.out]
    rintro e w2 ⟨rfl, m, hw2⟩
    have B2 : Hid (Below w1.heap.size w1 w2) := by rw [hw2]; exact below_drewN (Below.refl _ _) _
    have H2 : Hid (Wnd w2 g t1 l1) := H1.out.later B2.out
    clear hw2 H1
    go_upto_region 3 with fail
    generalize hA : Act.mk _ _ = A
    have a0' : A.eval (.tmp 0) = .pointer (some ⟨g, 0, none⟩) := by rw [← hA]; rfl
    have a4' : A.eval (.tmp 4) = .int .i64 (p : Int) := by rw [← hA]; rfl
    have a5' : A.eval (.tmp 5) = .int .u32 M := by rw [← hA]; rfl
    have asz : A.tmps.size = 31 := by rw [← hA]; rfl
    have hW : ∀ wx, Below w2.heap.size w2 wx → Wnd wx g t1 l1 := fun wx hb => H2.out.later hb
    refine region_each (by kernel_rfl) [20, 21, 22, 23, 24, 25, 26, 27, 28, 29, 30] 11 (fun i => [20, 21, 22, 23, 24, 25, 26, 27, 28, 29, 30].getD i 0) (fun _ => 0)
      (fun i gB v wx => match i with
        | 0 => v = .pointer (some ⟨g, 0, none⟩)
        | 1 => v = .int .i64 (p : Int)
        | 2 => v = .pointer (some ⟨g, 0, none⟩)
        | 3 => v = .pointer (some ⟨g, 1, none⟩)
        | 4 => v = .pointer (some ⟨g, 1 + p, none⟩)
        | 5 => v = .int .u32 x
        | 6 => v = .int .u32 M
        | 7 => v = .int .u32 (bits .or .u32 x M)
        | 8 => v = .pointer (some ⟨g, 0, none⟩)
        | 9 => v = .pointer (some ⟨g, 1, none⟩)
        | 10 => v = .pointer (some ⟨g, 1 + p, none⟩)
        | _ => False) (fun wx => Below w2.heap.size w2 wx) (by kernel_rfl) (Below.refl _ _).drew ?_ ?_ ?_
    · intro i gB v wx wy hi hF hb _
      match i, hi with
      | 0, _ => exact hF
      | 1, _ => exact hF
      | 2, _ => exact hF
      | 3, _ => exact hF
      | 4, _ => exact hF
      | 5, _ => exact hF
      | 6, _ => exact hF
      | 7, _ => exact hF
      | 8, _ => exact hF
      | 9, _ => exact hF
      | 10, _ => exact hF
    · intro i hi t ρ wx hB hp hd
      match i, hi with
      | 0, _ =>
        have e0 : (fr [20, 21, 22, 23, 24, 25, 26, 27, 28, 29, 30] A t).eval (.tmp 0) = .pointer (some ⟨g, 0, none⟩) := (fr_eval_old _ _ _ 0 rfl).trans a0'
        refine op_run (v := .pointer (some ⟨g, 0, none⟩)) (w' := wx) rfl rfl ?_ ?_
        · clear hp hd; have ec : ∀ v, (fr [20, 21, 22, 23, 24, 25, 26, 27, 28, 29, 30] A t).eval (.const v) = v := fun _ => rfl; generalize (fr [20, 21, 22, 23, 24, 25, 26, 27, 28, 29, 30] A t).eval = ev at ec e0 ⊢; go_simp
        · exact ⟨_, 0, rfl, hB, Below.refl _ _, rfl, .inl rfl⟩
      | 1, _ =>
        have e4 : (fr [20, 21, 22, 23, 24, 25, 26, 27, 28, 29, 30] A t).eval (.tmp 4) = .int .i64 (p : Int) := (fr_eval_old _ _ _ 4 rfl).trans a4'
        refine op_run (v := .int .i64 (p : Int)) (w' := wx) rfl rfl ?_ ?_
        · clear hp hd; have ec : ∀ v, (fr [20, 21, 22, 23, 24, 25, 26, 27, 28, 29, 30] A t).eval (.const v) = v := fun _ => rfl; generalize (fr [20, 21, 22, 23, 24, 25, 26, 27, 28, 29, 30] A t).eval = ev at ec e4 ⊢; go_simp
        · exact ⟨_, 0, rfl, hB, Below.refl _ _, rfl, .inl rfl⟩
      | 2, _ =>
        have e20 : (fr [20, 21, 22, 23, 24, 25, 26, 27, 28, 29, 30] A t).eval (.tmp 20) = .pointer (some ⟨g, 0, none⟩) := (fr_eval _ _ _ 20 rfl (by rw [asz]; decide)).trans (hp 0 (pre_mem (by kernel_rfl)))
        refine op_run (v := .pointer (some ⟨g, 0, none⟩)) (w' := wx) rfl rfl ?_ ?_
        · clear hp hd; have ec : ∀ v, (fr [20, 21, 22, 23, 24, 25, 26, 27, 28, 29, 30] A t).eval (.const v) = v := fun _ => rfl; generalize (fr [20, 21, 22, 23, 24, 25, 26, 27, 28, 29, 30] A t).eval = ev at ec e20 ⊢; go_simp
        · exact ⟨_, 0, rfl, hB, Below.refl _ _, rfl, .inl rfl⟩
      | 3, _ =>
        have e22 : (fr [20, 21, 22, 23, 24, 25, 26, 27, 28, 29, 30] A t).eval (.tmp 22) = .pointer (some ⟨g, 0, none⟩) := (fr_eval _ _ _ 22 rfl (by rw [asz]; decide)).trans (hp 2 (pre_mem (by kernel_rfl)))
        refine op_run (v := .pointer (some ⟨g, 1, none⟩)) (w' := wx) rfl rfl ?_ ?_
        · clear hp hd; have ec : ∀ v, (fr [20, 21, 22, 23, 24, 25, 26, 27, 28, 29, 30] A t).eval (.const v) = v := fun _ => rfl; generalize (fr [20, 21, 22, 23, 24, 25, 26, 27, 28, 29, 30] A t).eval = ev at ec e22 ⊢; go_simp
        · exact ⟨_, 0, rfl, hB, Below.refl _ _, rfl, .inl rfl⟩
      | 4, _ =>
        have e23 : (fr [20, 21, 22, 23, 24, 25, 26, 27, 28, 29, 30] A t).eval (.tmp 23) = .pointer (some ⟨g, 1, none⟩) := (fr_eval _ _ _ 23 rfl (by rw [asz]; decide)).trans (hp 3 (pre_mem (by kernel_rfl)))
        have e21 : (fr [20, 21, 22, 23, 24, 25, 26, 27, 28, 29, 30] A t).eval (.tmp 21) = .int .i64 (p : Int) := (fr_eval _ _ _ 21 rfl (by rw [asz]; decide)).trans (hp 1 (pre_mem (by kernel_rfl)))
        refine op_run (v := .pointer (some ⟨g, 1 + p, none⟩)) (w' := wx) rfl rfl ?_ ?_
        · clear hp hd; have ec : ∀ v, (fr [20, 21, 22, 23, 24, 25, 26, 27, 28, 29, 30] A t).eval (.const v) = v := fun _ => rfl; generalize (fr [20, 21, 22, 23, 24, 25, 26, 27, 28, 29, 30] A t).eval = ev at ec e23 e21 ⊢; go_simp
        · exact ⟨_, 0, rfl, hB, Below.refl _ _, rfl, .inl rfl⟩
      | 5, _ =>
        have e24 : (fr [20, 21, 22, 23, 24, 25, 26, 27, 28, 29, 30] A t).eval (.tmp 24) = .pointer (some ⟨g, 1 + p, none⟩) := (fr_eval _ _ _ 24 rfl (by rw [asz]; decide)).trans (hp 4 (pre_mem (by kernel_rfl)))
        have hc : wx.cell? ⟨g, 1 + p, none⟩ = some (.int .u32 x) := by rw [(hW wx hB).word p hpl, HX.out]
        refine op_run (v := .int .u32 x) (w' := wx) rfl rfl ?_ ?_
        · clear hp hd; have ec : ∀ v, (fr [20, 21, 22, 23, 24, 25, 26, 27, 28, 29, 30] A t).eval (.const v) = v := fun _ => rfl; generalize (fr [20, 21, 22, 23, 24, 25, 26, 27, 28, 29, 30] A t).eval = ev at ec e24 ⊢; go_simp
        · exact ⟨_, 0, rfl, hB, Below.refl _ _, rfl, .inl rfl⟩
      | 6, _ =>
        have e5 : (fr [20, 21, 22, 23, 24, 25, 26, 27, 28, 29, 30] A t).eval (.tmp 5) = .int .u32 M := (fr_eval_old _ _ _ 5 rfl).trans a5'
        refine op_run (v := .int .u32 M) (w' := wx) rfl rfl ?_ ?_
        · clear hp hd; have ec : ∀ v, (fr [20, 21, 22, 23, 24, 25, 26, 27, 28, 29, 30] A t).eval (.const v) = v := fun _ => rfl; generalize (fr [20, 21, 22, 23, 24, 25, 26, 27, 28, 29, 30] A t).eval = ev at ec e5 ⊢; go_simp
        · exact ⟨_, 0, rfl, hB, Below.refl _ _, rfl, .inl rfl⟩
      | 7, _ =>
        have e25 : (fr [20, 21, 22, 23, 24, 25, 26, 27, 28, 29, 30] A t).eval (.tmp 25) = .int .u32 x := (fr_eval _ _ _ 25 rfl (by rw [asz]; decide)).trans (hp 5 (pre_mem (by kernel_rfl)))
        have e26 : (fr [20, 21, 22, 23, 24, 25, 26, 27, 28, 29, 30] A t).eval (.tmp 26) = .int .u32 M := (fr_eval _ _ _ 26 rfl (by rw [asz]; decide)).trans (hp 6 (pre_mem (by kernel_rfl)))
        refine op_run (v := .int .u32 (bits .or .u32 x M)) (w' := wx) rfl rfl ?_ ?_
        · clear hp hd; have ec : ∀ v, (fr [20, 21, 22, 23, 24, 25, 26, 27, 28, 29, 30] A t).eval (.const v) = v := fun _ => rfl; generalize (fr [20, 21, 22, 23, 24, 25, 26, 27, 28, 29, 30] A t).eval = ev at ec e25 e26 ⊢; go_simp
        · exact ⟨_, 0, rfl, hB, Below.refl _ _, rfl, .inl rfl⟩
      | 8, _ =>
        have e20 : (fr [20, 21, 22, 23, 24, 25, 26, 27, 28, 29, 30] A t).eval (.tmp 20) = .pointer (some ⟨g, 0, none⟩) := (fr_eval _ _ _ 20 rfl (by rw [asz]; decide)).trans (hp 0 (pre_mem (by kernel_rfl)))
        refine op_run (v := .pointer (some ⟨g, 0, none⟩)) (w' := wx) rfl rfl ?_ ?_
        · clear hp hd; have ec : ∀ v, (fr [20, 21, 22, 23, 24, 25, 26, 27, 28, 29, 30] A t).eval (.const v) = v := fun _ => rfl; generalize (fr [20, 21, 22, 23, 24, 25, 26, 27, 28, 29, 30] A t).eval = ev at ec e20 ⊢; go_simp
        · exact ⟨_, 0, rfl, hB, Below.refl _ _, rfl, .inl rfl⟩
      | 9, _ =>
        have e28 : (fr [20, 21, 22, 23, 24, 25, 26, 27, 28, 29, 30] A t).eval (.tmp 28) = .pointer (some ⟨g, 0, none⟩) := (fr_eval _ _ _ 28 rfl (by rw [asz]; decide)).trans (hp 8 (pre_mem (by kernel_rfl)))
        refine op_run (v := .pointer (some ⟨g, 1, none⟩)) (w' := wx) rfl rfl ?_ ?_
        · clear hp hd; have ec : ∀ v, (fr [20, 21, 22, 23, 24, 25, 26, 27, 28, 29, 30] A t).eval (.const v) = v := fun _ => rfl; generalize (fr [20, 21, 22, 23, 24, 25, 26, 27, 28, 29, 30] A t).eval = ev at ec e28 ⊢; go_simp
        · exact ⟨_, 0, rfl, hB, Below.refl _ _, rfl, .inl rfl⟩
      | 10, _ =>
        have e29 : (fr [20, 21, 22, 23, 24, 25, 26, 27, 28, 29, 30] A t).eval (.tmp 29) = .pointer (some ⟨g, 1, none⟩) := (fr_eval _ _ _ 29 rfl (by rw [asz]; decide)).trans (hp 9 (pre_mem (by kernel_rfl)))
        have e21 : (fr [20, 21, 22, 23, 24, 25, 26, 27, 28, 29, 30] A t).eval (.tmp 21) = .int .i64 (p : Int) := (fr_eval _ _ _ 21 rfl (by rw [asz]; decide)).trans (hp 1 (pre_mem (by kernel_rfl)))
        refine op_run (v := .pointer (some ⟨g, 1 + p, none⟩)) (w' := wx) rfl rfl ?_ ?_
        · clear hp hd; have ec : ∀ v, (fr [20, 21, 22, 23, 24, 25, 26, 27, 28, 29, 30] A t).eval (.const v) = v := fun _ => rfl; generalize (fr [20, 21, 22, 23, 24, 25, 26, 27, 28, 29, 30] A t).eval = ev at ec e29 e21 ⊢; go_simp
        · exact ⟨_, 0, rfl, hB, Below.refl _ _, rfl, .inl rfl⟩
    · intro t ρ wx hB hF hne
      have e30 : (fr [20, 21, 22, 23, 24, 25, 26, 27, 28, 29, 30] A t).eval (.tmp 30) = .pointer (some ⟨g, 1 + p, none⟩) := (fr_eval _ _ _ 30 rfl (by rw [asz]; decide)).trans (hF 10 (by decide))
      have e27 : (fr [20, 21, 22, 23, 24, 25, 26, 27, 28, 29, 30] A t).eval (.tmp 27) = .int .u32 (bits .or .u32 x M) := (fr_eval _ _ _ 27 rfl (by rw [asz]; decide)).trans (hF 7 (by decide))
      clear hne
      have q0 : ∃ v, wx.cell? ⟨g, 1 + p, none⟩ = some v := ⟨_, (hW wx hB).word p hpl⟩
      obtain ⟨v0, q0⟩ := q0
      have f0 := (hW wx hB).froz (1 + p)
      have kW : Hid (Wnd wx g t1 l1) := hW wx hB
      refine op_wp rfl rfl ?_
      clear hF hW
      generalize hE : (fr [20, 21, 22, 23, 24, 25, 26, 27, 28, 29, 30] A t).eval = ev at e30 e27
      unfold Oper.wp
      rw [hE]
      go_simp
      rw [← hA]
      go_end0
      exact ⟨rfl, by rw [← HT1.out, HA.out]; have := kW.out.setWord p Y HYb.out; rw [HY.out]; exact this, HK1.out.trans ((Kept.of_below B2.out 0).any.trans ((Kept.of_below hB 0).any.trans (Kept.setCell _ _ _ _)))⟩
end Go.Proofs.Ytmcflfpckpjphaa.WnI
