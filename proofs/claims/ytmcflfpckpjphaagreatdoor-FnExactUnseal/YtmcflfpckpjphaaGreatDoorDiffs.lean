/-
  What Diff and SameTag answer, impl's and spec's.
-/
import Derived.Test.YtmcflfpckpjphaaGreatDoorDiffP
namespace Go.Proofs.YtmcflfpckpjphaaGreatDoor.Diffs
open Go.RowKit Go.Proofs.YtmcflfpckpjphaaGreatDoor.Mem Go.Proofs.YtmcflfpckpjphaaGreatDoor.DiffP

set_option maxRecDepth 100000 in
theorem wrap_byte (x : Int) (h0 : 0 ≤ x) (h1 : x ≤ 255) : IntKind.i64.wrap x = x := by rw [IntKind.wrap_i64]; omega

set_option maxRecDepth 100000 in
set_option maxHeartbeats 800000 in
theorem implDiff (a0 a1 : Option Addr) (n0 c0 n1 c1 : Nat) (x y : List Int) (w : World) (e0 : n0 = x.length) (e1 : n1 = y.length) (r0 : Rd w a0 x) (r1 : Rd w a1 y) (hb0 : Bytes x) (hb1 : Bytes y) (l0 : n0 ≤ 4194304) (l1 : n1 ≤ 4194304) :
    Calls Tryz.prog 108 #[.slice a0 n0 c0, .slice a1 n1 c1] w fun e w' => e = .returned (.int .i64 (diffI x y)) ∧ ∃ m, w' = w.drewN m := by
  have E0 : Hid (n0 = x.length) := e0
  have E1 : Hid (n1 = y.length) := e1
  have R0 : Hid (Rd w a0 x) := r0
  have R1 : Hid (Rd w a1 y) := r1
  have B0 : Hid (Bytes x) := hb0
  have B1 : Hid (Bytes y) := hb1
  clear e0 e1 r0 r1 hb0 hb1
  by_cases hl : n0 = n1
  · subst hl
    have hne : ((n0 : Int) != (n0 : Int)) = false := by simp
    have HD : Hid (diffI x y = diffN x y n0) := by show _ = _; unfold diffI; rw [if_pos (by rw [← E0.out, ← E1.out]), ← E0.out]
    go_enter Tryz.func108, Tryz.ntmps108
    go_wp2
    go_loop [5, 15] (fun v i => ∃ k : Nat, k ≤ n0 ∧ i = .int .i64 k ∧ v = .int .u8 (diffN x y k)) (fun _ i => n0 - (intOf i).toNat)
    case atStart => exact ⟨0, Nat.zero_le _, rfl, rfl⟩
    case round =>
      obtain ⟨k, hk, rfl, rfl⟩ := hrel
      by_cases hlt : k < n0
      · obtain ⟨b1, o1, rfl, _, p1⟩ := R0.out k (by rw [← E0.out]; exact hlt)
        obtain ⟨b2, o2, rfl, _, p2⟩ := R1.out k (by rw [← E1.out]; exact hlt)
        have HT : Hid (diffN x y (k + 1) = bits .or .u8 (diffN x y k) (bits .xor .u8 (x.getD k 0) (y.getD k 0))) := rfl
        generalize diffN x y k = d at *
        generalize x.getD k 0 = z1 at *
        generalize y.getD k 0 = z2 at *
        go_wp2
        go_round
        case rel => exact ⟨k + 1, by omega, by go_num, by rw [HT.out]⟩
        case measure => simp [intOf]; omega
      · obtain rfl : k = n0 := by omega
        have hd := diffN_bd x y B0.out B1.out k
        generalize diffN x y k = d at *
        obtain ⟨d0, d1⟩ := hd
        go_wp2
        go_ret
        exact ⟨by rw [HD.out]; rfl, 0, rfl⟩
  · have hne : ((n0 : Int) != (n1 : Int)) = true := by simp; omega
    have HD : Hid (diffI x y = -1) := by show _ = _; unfold diffI; rw [if_neg (by rw [← E0.out, ← E1.out]; exact hl)]
    clear hl
    go_enter Tryz.func108, Tryz.ntmps108
    go_wp2
    go_ret
    exact ⟨by rw [HD.out]; rfl, 0, rfl⟩

set_option maxRecDepth 100000 in
set_option maxHeartbeats 800000 in
theorem specDiff (a0 a1 : Option Addr) (n0 c0 n1 c1 : Nat) (x y : List Int) (w : World) (e0 : n0 = x.length) (e1 : n1 = y.length) (r0 : Rd w a0 x) (r1 : Rd w a1 y) (hb0 : Bytes x) (hb1 : Bytes y) (l0 : n0 ≤ 4194304) (l1 : n1 ≤ 4194304) :
    Calls Tryz.prog 134 #[.slice a0 n0 c0, .slice a1 n1 c1] w fun e w' => e = .returned (.int .i64 (diffI x y)) ∧ ∃ m, w' = w.drewN m := by
  have E0 : Hid (n0 = x.length) := e0
  have E1 : Hid (n1 = y.length) := e1
  have R0 : Hid (Rd w a0 x) := r0
  have R1 : Hid (Rd w a1 y) := r1
  have B0 : Hid (Bytes x) := hb0
  have B1 : Hid (Bytes y) := hb1
  clear e0 e1 r0 r1 hb0 hb1
  by_cases hl : n0 = n1
  · subst hl
    have hne : ((n0 : Int) != (n0 : Int)) = false := by simp
    have HD : Hid (diffI x y = diffN x y n0) := by show _ = _; unfold diffI; rw [if_pos (by rw [← E0.out, ← E1.out]), ← E0.out]
    go_enter Tryz.func134, Tryz.ntmps134
    go_wp2
    go_loopw [5, 6] (fun v i wr => ∃ k m : Nat, k ≤ n0 ∧ i = .int .i64 k ∧ v = .int .i64 (diffN x y k) ∧ wr = w.drewN m) (fun _ i _ => n0 - (intOf i).toNat)
    case atStart => exact ⟨0, 0, Nat.zero_le _, rfl, rfl, rfl⟩
    case round =>
      obtain ⟨k, m, hk, rfl, rfl, rfl⟩ := hrel
      by_cases hlt : k < n0
      · obtain ⟨b1, o1, rfl, _, p1⟩ := R0.out k (by rw [← E0.out]; exact hlt)
        obtain ⟨b2, o2, rfl, _, p2⟩ := R1.out k (by rw [← E1.out]; exact hlt)
        have hx := xor_byte (x.getD k 0) (y.getD k 0) (B0.out.at k).1 (B0.out.at k).2 (B1.out.at k).1 (B1.out.at k).2
        have hd := diffN_bd x y B0.out B1.out k
        have HT : Hid (diffN x y (k + 1) = bits .or .i64 (diffN x y k) (bits .xor .u8 (x.getD k 0) (y.getD k 0))) := (or_wide _ _ hd.1 hd.2 hx.1 hx.2).symm
        generalize diffN x y k = d at *
        generalize x.getD k 0 = z1 at *
        generalize y.getD k 0 = z2 at *
        have hwr := wrap_byte _ hx.1 hx.2
        obtain ⟨hx0, hx1⟩ := hx
        clear hd
        have kI : (k : Int) < (n0 : Int) := by omega
        go_wp2
        go_quiet (fail)
        go_wp2
        go_roundw
        case rel => exact ⟨k + 1, _, by omega, by go_num, by rw [HT.out], rfl⟩
        case measure => simp [intOf]; omega
      · obtain rfl : k = n0 := by omega
        go_wp2
        go_ret
        exact ⟨by rw [HD.out]; rfl, _, rfl⟩
  · have hne : ((n0 : Int) != (n1 : Int)) = true := by simp; omega
    have HD : Hid (diffI x y = -1) := by show _ = _; unfold diffI; rw [if_neg (by rw [← E0.out, ← E1.out]; exact hl)]
    clear hl
    go_enter Tryz.func134, Tryz.ntmps134
    go_wp2
    go_ret
    exact ⟨by rw [HD.out]; rfl, 0, rfl⟩

set_option maxRecDepth 100000 in
theorem sameI_no (x y : List Int) (h : x.length ≠ 16) : sameI x y = false := by simp [sameI, h]
set_option maxRecDepth 100000 in
theorem sameI_yes (x y : List Int) (h : x.length = 16) : sameI x y = (diffI x y == 0) := by
  simp [sameI, h, Bool.beq_eq_decide_eq]

set_option maxRecDepth 100000 in
set_option maxHeartbeats 800000 in
theorem implSameTag (a0 a1 : Option Addr) (n0 c0 n1 c1 : Nat) (x y : List Int) (w : World) (e0 : n0 = x.length) (e1 : n1 = y.length) (r0 : Rd w a0 x) (r1 : Rd w a1 y) (hb0 : Bytes x) (hb1 : Bytes y) (l0 : n0 ≤ 4194304) (l1 : n1 ≤ 4194304) :
    Calls Tryz.prog 68 #[.slice a0 n0 c0, .slice a1 n1 c1] w fun e w' => e = .returned (.bool (sameI x y)) ∧ ∃ m, w' = w.drewN m := by
  have E0 : Hid (n0 = x.length) := e0
  have E1 : Hid (n1 = y.length) := e1
  have R0 : Hid (Rd w a0 x) := r0
  have R1 : Hid (Rd w a1 y) := r1
  have B0 : Hid (Bytes x) := hb0
  have B1 : Hid (Bytes y) := hb1
  clear e0 e1 r0 r1 hb0 hb1
  by_cases h : n0 = 16
  · have HS : Hid (sameI x y = (diffI x y == 0)) := sameI_yes x y (by rw [← E0.out]; exact h)
    subst h
    go_enter Tryz.func68, Tryz.ntmps68
    go_wp2_with fail
    refine (implDiff a0 a1 16 c0 n1 c1 x y w E0.out E1.out R0.out R1.out B0.out B1.out l0 l1).mono ?_
    rintro e w1 ⟨rfl, m, rfl⟩
    generalize diffI x y = d at *
    cases hd : (d == 0)
    all_goals (go_wp2; go_ret; exact ⟨by rw [HS.out, hd]; rfl, _, rfl⟩)
  · have HS : Hid (sameI x y = false) := sameI_no x y (by rw [← E0.out]; exact h)
    have hb : ((n0 : Int) == 16) = false := by simp; omega
    clear h
    go_enter Tryz.func68, Tryz.ntmps68
    go_wp2
    go_ret
    exact ⟨by rw [HS.out]; rfl, 0, rfl⟩
set_option maxRecDepth 100000 in
set_option maxHeartbeats 800000 in
theorem specSameTag (a0 a1 : Option Addr) (n0 c0 n1 c1 : Nat) (x y : List Int) (w : World) (e0 : n0 = x.length) (e1 : n1 = y.length) (r0 : Rd w a0 x) (r1 : Rd w a1 y) (hb0 : Bytes x) (hb1 : Bytes y) (l0 : n0 ≤ 4194304) (l1 : n1 ≤ 4194304) :
    Calls Tryz.prog 93 #[.slice a0 n0 c0, .slice a1 n1 c1] w fun e w' => e = .returned (.bool (sameI x y)) ∧ ∃ m, w' = w.drewN m := by
  have E0 : Hid (n0 = x.length) := e0
  have E1 : Hid (n1 = y.length) := e1
  have R0 : Hid (Rd w a0 x) := r0
  have R1 : Hid (Rd w a1 y) := r1
  have B0 : Hid (Bytes x) := hb0
  have B1 : Hid (Bytes y) := hb1
  clear e0 e1 r0 r1 hb0 hb1
  by_cases h : n0 = 16
  · have HS : Hid (sameI x y = (diffI x y == 0)) := sameI_yes x y (by rw [← E0.out]; exact h)
    subst h
    go_enter Tryz.func93, Tryz.ntmps93
    go_wp2_with fail
    refine (specDiff a0 a1 16 c0 n1 c1 x y w E0.out E1.out R0.out R1.out B0.out B1.out l0 l1).mono ?_
    rintro e w1 ⟨rfl, m, rfl⟩
    generalize diffI x y = d at *
    cases hd : (d == 0)
    all_goals (go_wp2; go_ret; exact ⟨by rw [HS.out, hd]; rfl, _, rfl⟩)
  · have HS : Hid (sameI x y = false) := sameI_no x y (by rw [← E0.out]; exact h)
    have hb : ((n0 : Int) == 16) = false := by simp; omega
    clear h
    go_enter Tryz.func93, Tryz.ntmps93
    go_wp2
    go_ret
    exact ⟨by rw [HS.out]; rfl, 0, rfl⟩
end Go.Proofs.YtmcflfpckpjphaaGreatDoor.Diffs
