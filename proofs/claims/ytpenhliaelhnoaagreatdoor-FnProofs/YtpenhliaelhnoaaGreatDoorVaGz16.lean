/-
  What impl's Stream and Mix answer, where the table of round words holds what the program's text lays into it.
  What Diff and SameTag answer, impl's and spec's.
  How long the lists of a Frame are, all in all.
  One operation of a region that draws its order, under a guard: it runs where its guard holds; else its slot is left undefined.
-/
import Derived.Test.YtpenhliaelhnoaaGreatDoorVaGz14
import Derived.Test.YtpenhliaelhnoaaGreatDoorVaGz15
import Derived.Test.YtpenhliaelhnoaaGreatDoorVaGz5
import Derived.Test.YtpenhliaelhnoaaGreatDoorVaFrZ
import Derived.Test.YtpenhliaelhnoaaGreatDoorVaGz7
import Derived.Test.YtpenhliaelhnoaaGreatDoorVaGz8
set_option linter.unusedVariables false

set_option maxRecDepth 100000
namespace Go.Proofs.YtpenhliaelhnoaaGreatDoor.Diffs
open Go.RowKit Mem DiffP

theorem wrap_byte (x : Int) (h0 : 0 ≤ x) (h1 : x ≤ 255) : IntKind.i64.wrap x = x := by rw [IntKind.wrap_i64]; omega

set_option maxHeartbeats 800000 in
theorem implDiff (a0 a1 : Option Addr) (n0 c0 n1 c1 : Nat) (x y : List Int) (w : World) (e0 : n0 = x.length) (e1 : n1 = y.length) (r0 : Rd w a0 x) (r1 : Rd w a1 y) (hb0 : Bytes x) (hb1 : Bytes y) (l0 : n0 ≤ 4194304) (l1 : n1 ≤ 4194304) :
  Calls Tryz.prog 60 #[.slice a0 n0 c0, .slice a1 n1 c1] w fun e w' => e = .returned (.int .i64 (diffI x y)) ∧ ∃ m, w' = w.drewN m := by
 have E0 : Hid (n0 = x.length) := e0
 have E1 : Hid (n1 = y.length) := e1
 have R0 := hid (r0)
 have R1 := hid (r1)
 have B0 := hid (hb0)
 have B1 := hid (hb1)
 clear e0 e1 r0 r1 hb0 hb1
 by_cases hl : n0 = n1
 ·
  subst hl
  have hne : ((n0 : Int) != (n0 : Int)) = false := by simp
  have HD : Hid (diffI x y = diffN x y n0) := by show _ = _; unfold diffI; rw [if_pos (by rw [← E0.out, ← E1.out]), ← E0.out]
  go_enter Tryz.func60, Tryz.ntmps60
  go_wp2
  go_loop [5, 15] (fun v i => ∃ k : Nat, k ≤ n0 ∧ i = .int .i64 k ∧ v = .int .u8 (diffN x y k)) (fun _ i => n0 - (intOf i).toNat)
  case atStart => exact ⟨0, Nat.zero_le _, rfl, rfl⟩
  case round =>
   obtain ⟨k, hk, rfl, rfl⟩ := hrel
   by_cases hlt : k < n0
   ·
    obtain ⟨b1, o1, rfl, _, p1⟩ := R0.out k (by rw [← E0.out]; exact hlt)
    obtain ⟨b2, o2, rfl, _, p2⟩ := R1.out k (by rw [← E1.out]; exact hlt)
    have HT : Hid (diffN x y (k + 1) = bits .or .u8 (diffN x y k) (bits .xor .u8 (x.getD k 0) (y.getD k 0))) := rfl
    generalize diffN x y k = d at *
    generalize x.getD k 0 = z1 at *
    generalize y.getD k 0 = z2 at *
    go_wp2
    go_round
    case rel => exact ⟨k + 1, by omega, by go_num, by rw [HT.out]⟩
    case measure => simp [intOf]; omega
   ·
    obtain rfl : k = n0 := by omega
    have hd := diffN_bd x y B0.out B1.out k
    generalize diffN x y k = d at *
    obtain ⟨d0, d1⟩ := hd
    go_wp2
    go_ret
    exact ⟨by rw [HD.out]; rfl, 0, rfl⟩
 ·
  have hne : ((n0 : Int) != (n1 : Int)) = true := by simp; omega
  have HD : Hid (diffI x y = -1) := by show _ = _; unfold diffI; rw [if_neg (by rw [← E0.out, ← E1.out]; exact hl)]
  clear hl
  go_enter Tryz.func60, Tryz.ntmps60
  go_wp2
  go_ret
  exact ⟨by rw [HD.out]; rfl, 0, rfl⟩

set_option maxHeartbeats 800000 in
theorem specDiff (a0 a1 : Option Addr) (n0 c0 n1 c1 : Nat) (x y : List Int) (w : World) (e0 : n0 = x.length) (e1 : n1 = y.length) (r0 : Rd w a0 x) (r1 : Rd w a1 y) (hb0 : Bytes x) (hb1 : Bytes y) (l0 : n0 ≤ 4194304) (l1 : n1 ≤ 4194304) :
  Calls Tryz.prog 61 #[.slice a0 n0 c0, .slice a1 n1 c1] w fun e w' => e = .returned (.int .i64 (diffI x y)) ∧ ∃ m, w' = w.drewN m := by
 have E0 : Hid (n0 = x.length) := e0
 have E1 : Hid (n1 = y.length) := e1
 have R0 := hid (r0)
 have R1 := hid (r1)
 have B0 := hid (hb0)
 have B1 := hid (hb1)
 clear e0 e1 r0 r1 hb0 hb1
 by_cases hl : n0 = n1
 ·
  subst hl
  have hne : ((n0 : Int) != (n0 : Int)) = false := by simp
  have HD : Hid (diffI x y = diffN x y n0) := by show _ = _; unfold diffI; rw [if_pos (by rw [← E0.out, ← E1.out]), ← E0.out]
  go_enter Tryz.func61, Tryz.ntmps61
  go_wp2
  go_loopw [5, 6] (fun v i wr => ∃ k m : Nat, k ≤ n0 ∧ i = .int .i64 k ∧ v = .int .i64 (diffN x y k) ∧ wr = w.drewN m) (fun _ i _ => n0 - (intOf i).toNat)
  case atStart => exact ⟨0, 0, Nat.zero_le _, rfl, rfl, rfl⟩
  case round =>
   obtain ⟨k, m, hk, rfl, rfl, rfl⟩ := hrel
   by_cases hlt : k < n0
   ·
    obtain ⟨b1, o1, rfl, _, p1⟩ := R0.out k (by rw [← E0.out]; exact hlt)
    obtain ⟨b2, o2, rfl, _, p2⟩ := R1.out k (by rw [← E1.out]; exact hlt)
    have hx := xor_byte (x.getD k 0) (y.getD k 0) (B0.out.at k).1 (B0.out.at k).2 (B1.out.at k).1 (B1.out.at k).2
    have hd := diffN_bd x y B0.out B1.out k
    have HT : Hid (diffN x y (k + 1) = bits .or .i64 (diffN x y k) (bits .xor .u8 (x.getD k 0) (y.getD k 0))) := (or_wide _ _ hd.1 hd.2 hx.1 hx.2).symm
    generalize diffN x y k = d at *
    generalize x.getD k 0 = z1 at *
    generalize y.getD k 0 = z2 at *
    have hwr := wrap_byte _ hx.1 hx.2
    obtain ⟨hx0, hx1⟩ := hx
    clear hd
    have kI : (k : Int) < (n0 : Int) := by omega
    go_wp2
    go_quiet (fail)
    go_wp2
    go_roundw
    case rel => exact ⟨k + 1, _, by omega, by go_num, by rw [HT.out], rfl⟩
    case measure => simp [intOf]; omega
   ·
    obtain rfl : k = n0 := by omega
    go_wp2
    go_ret
    exact ⟨by rw [HD.out]; rfl, _, rfl⟩
 ·
  have hne : ((n0 : Int) != (n1 : Int)) = true := by simp; omega
  have HD : Hid (diffI x y = -1) := by show _ = _; unfold diffI; rw [if_neg (by rw [← E0.out, ← E1.out]; exact hl)]
  clear hl
  go_enter Tryz.func61, Tryz.ntmps61
  go_wp2
  go_ret
  exact ⟨by rw [HD.out]; rfl, 0, rfl⟩

theorem sameI_no (x y : List Int) (h : x.length ≠ 16) : sameI x y = false := by simp [sameI, h]
theorem sameI_yes (x y : List Int) (h : x.length = 16) : sameI x y = (diffI x y == 0) := by
 simp [sameI, h, Bool.beq_eq_decide_eq]

set_option maxHeartbeats 800000 in
theorem implSameTag (a0 a1 : Option Addr) (n0 c0 n1 c1 : Nat) (x y : List Int) (w : World) (e0 : n0 = x.length) (e1 : n1 = y.length) (r0 : Rd w a0 x) (r1 : Rd w a1 y) (hb0 : Bytes x) (hb1 : Bytes y) (l0 : n0 ≤ 4194304) (l1 : n1 ≤ 4194304) :
  Calls Tryz.prog 39 #[.slice a0 n0 c0, .slice a1 n1 c1] w fun e w' => e = .returned (.bool (sameI x y)) ∧ ∃ m, w' = w.drewN m := by
 have E0 : Hid (n0 = x.length) := e0
 have E1 : Hid (n1 = y.length) := e1
 have R0 := hid (r0)
 have R1 := hid (r1)
 have B0 := hid (hb0)
 have B1 := hid (hb1)
 clear e0 e1 r0 r1 hb0 hb1
 by_cases h : n0 = 16
 ·
  have HS : Hid (sameI x y = (diffI x y == 0)) := sameI_yes x y (by rw [← E0.out]; exact h)
  subst h
  go_enter Tryz.func39, Tryz.ntmps39
  go_wp2_with fail
  refine (implDiff a0 a1 16 c0 n1 c1 x y w E0.out E1.out R0.out R1.out B0.out B1.out l0 l1).mono ?_
  rintro e w1 ⟨rfl, m, rfl⟩
  generalize diffI x y = d at *
  cases hd : (d == 0)
  all_goals (go_wp2; go_ret; exact ⟨by rw [HS.out, hd]; rfl, _, rfl⟩)
 ·
  have HS : Hid (sameI x y = false) := sameI_no x y (by rw [← E0.out]; exact h)
  have hb : ((n0 : Int) == 16) = false := by simp; omega
  clear h
  go_enter Tryz.func39, Tryz.ntmps39
  go_wp2
  go_ret
  exact ⟨by rw [HS.out]; rfl, 0, rfl⟩
set_option maxHeartbeats 800000 in
theorem specSameTag (a0 a1 : Option Addr) (n0 c0 n1 c1 : Nat) (x y : List Int) (w : World) (e0 : n0 = x.length) (e1 : n1 = y.length) (r0 : Rd w a0 x) (r1 : Rd w a1 y) (hb0 : Bytes x) (hb1 : Bytes y) (l0 : n0 ≤ 4194304) (l1 : n1 ≤ 4194304) :
  Calls Tryz.prog 40 #[.slice a0 n0 c0, .slice a1 n1 c1] w fun e w' => e = .returned (.bool (sameI x y)) ∧ ∃ m, w' = w.drewN m := by
 have E0 : Hid (n0 = x.length) := e0
 have E1 : Hid (n1 = y.length) := e1
 have R0 := hid (r0)
 have R1 := hid (r1)
 have B0 := hid (hb0)
 have B1 := hid (hb1)
 clear e0 e1 r0 r1 hb0 hb1
 by_cases h : n0 = 16
 ·
  have HS : Hid (sameI x y = (diffI x y == 0)) := sameI_yes x y (by rw [← E0.out]; exact h)
  subst h
  go_enter Tryz.func40, Tryz.ntmps40
  go_wp2_with fail
  refine (specDiff a0 a1 16 c0 n1 c1 x y w E0.out E1.out R0.out R1.out B0.out B1.out l0 l1).mono ?_
  rintro e w1 ⟨rfl, m, rfl⟩
  generalize diffI x y = d at *
  cases hd : (d == 0)
  all_goals (go_wp2; go_ret; exact ⟨by rw [HS.out, hd]; rfl, _, rfl⟩)
 ·
  have HS : Hid (sameI x y = false) := sameI_no x y (by rw [← E0.out]; exact h)
  have hb : ((n0 : Int) == 16) = false := by simp; omega
  clear h
  go_enter Tryz.func40, Tryz.ntmps40
  go_wp2
  go_ret
  exact ⟨by rw [HS.out]; rfl, 0, rfl⟩
end Go.Proofs.YtpenhliaelhnoaaGreatDoor.Diffs

namespace Go.Proofs.YtpenhliaelhnoaaGreatDoor.FrL
open Go.RowKit Mem Blk Zone FrZ
theorem fr_kept (w : World) (g : Nat) (v0 v1 v2 v3 v4 v5 v6 v7 v8 v9 v10 : Value) : Kept g (g + 1) w (((((((((((w.setCell ⟨g, 0, none⟩ (v0)).setCell ⟨g, 1, none⟩ (v1)).setCell ⟨g, 2, none⟩ (v2)).setCell ⟨g, 3, none⟩ (v3)).setCell ⟨g, 4, none⟩ (v4)).setCell ⟨g, 5, none⟩ (v5)).setCell ⟨g, 6, none⟩ (v6)).setCell ⟨g, 7, none⟩ (v7)).setCell ⟨g, 8, none⟩ (v8)).setCell ⟨g, 9, none⟩ (v9)).setCell ⟨g, 10, none⟩ (v10)) := ((((((((((Kept.setCell _ _ _ _).trans (Kept.setCell _ _ _ _)).trans (Kept.setCell _ _ _ _)).trans (Kept.setCell _ _ _ _)).trans (Kept.setCell _ _ _ _)).trans (Kept.setCell _ _ _ _)).trans (Kept.setCell _ _ _ _)).trans (Kept.setCell _ _ _ _)).trans (Kept.setCell _ _ _ _)).trans (Kept.setCell _ _ _ _)).trans (Kept.setCell _ _ _ _)
theorem fr_size (w : World) (g : Nat) (v0 v1 v2 v3 v4 v5 v6 v7 v8 v9 v10 : Value) : (((((((((((w.setCell ⟨g, 0, none⟩ (v0)).setCell ⟨g, 1, none⟩ (v1)).setCell ⟨g, 2, none⟩ (v2)).setCell ⟨g, 3, none⟩ (v3)).setCell ⟨g, 4, none⟩ (v4)).setCell ⟨g, 5, none⟩ (v5)).setCell ⟨g, 6, none⟩ (v6)).setCell ⟨g, 7, none⟩ (v7)).setCell ⟨g, 8, none⟩ (v8)).setCell ⟨g, 9, none⟩ (v9)).setCell ⟨g, 10, none⟩ (v10)).heap.size = w.heap.size := by simp
theorem fr_stored {w : World} {g lo hi : Nat} {u0 u1 u2 u3 u4 u5 u6 u7 u8 u9 u10 : Value} {D : FrD} {S : FrS} (k : Blk w g 25 [u0, u1, u2, u3, u4, u5, u6, u7, u8, u9, u10]) (o : FrOwn w lo hi S D) (d : g + 1 ≤ lo ∨ hi ≤ g) :
  Blk (((((((((((w.setCell ⟨g, 0, none⟩ (.int .i64 D.kind)).setCell ⟨g, 1, none⟩ (.int .i64 D.id)).setCell ⟨g, 2, none⟩ (.slice S.cn.a S.cn.n S.cn.c)).setCell ⟨g, 3, none⟩ (.slice S.sn.a S.sn.n S.sn.c)).setCell ⟨g, 4, none⟩ (.int .i64 D.tick)).setCell ⟨g, 5, none⟩ (.slice S.cookie.a S.cookie.n S.cookie.c)).setCell ⟨g, 6, none⟩ (.slice S.proof.a S.proof.n S.proof.c)).setCell ⟨g, 7, none⟩ (.int .i64 D.epoch)).setCell ⟨g, 8, none⟩ (.int .i64 D.seq)).setCell ⟨g, 9, none⟩ (.slice S.body.a S.body.n S.body.c)).setCell ⟨g, 10, none⟩ (.slice S.tag.a S.tag.n S.tag.c)) g 25 [.int .i64 D.kind, .int .i64 D.id, .slice S.cn.a S.cn.n S.cn.c, .slice S.sn.a S.sn.n S.sn.c, .int .i64 D.tick, .slice S.cookie.a S.cookie.n S.cookie.c, .slice S.proof.a S.proof.n S.proof.c, .int .i64 D.epoch, .int .i64 D.seq, .slice S.body.a S.body.n S.body.c, .slice S.tag.a S.tag.n S.tag.c] ∧ FrOwn (((((((((((w.setCell ⟨g, 0, none⟩ (.int .i64 D.kind)).setCell ⟨g, 1, none⟩ (.int .i64 D.id)).setCell ⟨g, 2, none⟩ (.slice S.cn.a S.cn.n S.cn.c)).setCell ⟨g, 3, none⟩ (.slice S.sn.a S.sn.n S.sn.c)).setCell ⟨g, 4, none⟩ (.int .i64 D.tick)).setCell ⟨g, 5, none⟩ (.slice S.cookie.a S.cookie.n S.cookie.c)).setCell ⟨g, 6, none⟩ (.slice S.proof.a S.proof.n S.proof.c)).setCell ⟨g, 7, none⟩ (.int .i64 D.epoch)).setCell ⟨g, 8, none⟩ (.int .i64 D.seq)).setCell ⟨g, 9, none⟩ (.slice S.body.a S.body.n S.body.c)).setCell ⟨g, 10, none⟩ (.slice S.tag.a S.tag.n S.tag.c)) lo hi S D ∧ (∀ B a, B ≤ g → Below B a w → Below B a (((((((((((w.setCell ⟨g, 0, none⟩ (.int .i64 D.kind)).setCell ⟨g, 1, none⟩ (.int .i64 D.id)).setCell ⟨g, 2, none⟩ (.slice S.cn.a S.cn.n S.cn.c)).setCell ⟨g, 3, none⟩ (.slice S.sn.a S.sn.n S.sn.c)).setCell ⟨g, 4, none⟩ (.int .i64 D.tick)).setCell ⟨g, 5, none⟩ (.slice S.cookie.a S.cookie.n S.cookie.c)).setCell ⟨g, 6, none⟩ (.slice S.proof.a S.proof.n S.proof.c)).setCell ⟨g, 7, none⟩ (.int .i64 D.epoch)).setCell ⟨g, 8, none⟩ (.int .i64 D.seq)).setCell ⟨g, 9, none⟩ (.slice S.body.a S.body.n S.body.c)).setCell ⟨g, 10, none⟩ (.slice S.tag.a S.tag.n S.tag.c))) := by
 refine ⟨((((((((((k.set 0 _ (by simp [maxLen])).set 1 _ (by simp [maxLen])).set 2 _ (by simp [maxLen])).set 3 _ (by simp [maxLen])).set 4 _ (by simp [maxLen])).set 5 _ (by simp [maxLen])).set 6 _ (by simp [maxLen])).set 7 _ (by simp [maxLen])).set 8 _ (by simp [maxLen])).set 9 _ (by simp [maxLen])).set 10 _ (by simp [maxLen]), o.carry (fr_kept w g _ _ _ _ _ _ _ _ _ _ _) (by omega), fun B a hB h => ?_⟩
 exact ((((((((((h.setCell (by exact hB) _).setCell (by exact hB) _).setCell (by exact hB) _).setCell (by exact hB) _).setCell (by exact hB) _).setCell (by exact hB) _).setCell (by exact hB) _).setCell (by exact hB) _).setCell (by exact hB) _).setCell (by exact hB) _).setCell (by exact hB) _
end Go.Proofs.YtpenhliaelhnoaaGreatDoor.FrL

namespace Go.Proofs.YtpenhliaelhnoaaGreatDoor.Guard
open Go.RowKit Each Copy

theorem wanted_eval {ops : Array Oper} {o : Oper} {a : Act} {j d : Nat} {want b : Bool} (hg : o.guard = some (j, want)) (hd : (ops[j]?).bind (·.dst) = some d) (hv : a.eval (.tmp d) = .bool b) :
  Region.wanted o (yielded ops a.tmps) = (b == want) := by
 have hv' : a.tmps.getD d undef = .bool b := hv
 have ht : a.tmps[d]? = some (.bool b) := by
  cases h : a.tmps[d]? with
  | none =>
   rw [Array.getD_eq_getD_getElem?, h] at hv'
   cases hv'
  | some v =>
   rw [Array.getD_eq_getD_getElem?, h] at hv'
   have hv2 : v = .bool b := hv'
   rw [hv2]
 have hy : yielded ops a.tmps j = some b := by
  unfold yielded
  generalize hx : (ops[j]?).bind (·.dst) = x at *
  subst hd
  simp [ht]
 unfold Region.wanted
 rw [hg]
 show (yielded ops a.tmps j == some want) = _
 rw [hy]
 cases b <;> cases want <;> rfl
theorem wanted_true {ops : Array Oper} {o : Oper} {a : Act} {j d : Nat} {want : Bool} (hg : o.guard = some (j, want)) (hd : (ops[j]?).bind (·.dst) = some d) (hv : a.eval (.tmp d) = .bool want) :
  Region.wanted o (yielded ops a.tmps) = true := by
 rw [wanted_eval hg hd hv]
 cases want <;> rfl
theorem wanted_false {ops : Array Oper} {o : Oper} {a : Act} {j d : Nat} {want b : Bool} (hg : o.guard = some (j, want)) (hd : (ops[j]?).bind (·.dst) = some d) (hv : a.eval (.tmp d) = .bool b) (hn : (b == want) = false) :
  Region.wanted o (yielded ops a.tmps) = false := by
 rw [wanted_eval hg hd hv, hn]
theorem op_wp_g {P : Program} {ops : Array Oper} {Q : Exit → Act → World → Prop} {i : Nat} {o : Oper} {K : Act → World → Prop} {a : Act} {w : World}
  (hi : ops[i]? = some o) (hw : Region.wanted o (yielded ops a.tmps) = true) (h : Oper.wp P o a w K Q) : wpOp P ops Q i K a w := by
 unfold wpOp
 rw [hi]
 simp only [hw, if_true]
 exact .inl h
theorem op_run_g {P : Program} {ops : Array Oper} {Q : Exit → Act → World → Prop} {i : Nat} {o : Oper} {K : Act → World → Prop} {a : Act} {w w' : World} {v : Value}
  (hi : ops[i]? = some o) (hw : Region.wanted o (yielded ops a.tmps) = true) (hr : (execOp a.eval o).run P w = .ok (.value v) w') (hk : K (a.put o.dst v) w') : wpOp P ops Q i K a w := by
 refine op_wp_g hi hw ?_
 unfold Oper.wp
 rw [hr]
 exact hk
theorem op_call_g {P : Program} {ops : Array Oper} {Q : Exit → Act → World → Prop} {i : Nat} {o : Oper} {K : Act → World → Prop} {a : Act} {w : World} {f : FuncId} {args : Array Value} {R : Ending → World → Prop}
  (hi : ops[i]? = some o) (hw : Region.wanted o (yielded ops a.tmps) = true) (hr : (execOp a.eval o).run P w = .ok (.enter f args) w) (hc : Calls P f args w R)
  (hk : ∀ e w', R e w' → ∃ v, e = .returned v ∧ K (a.put o.dst v) w') : wpOp P ops Q i K a w := by
 refine op_wp_g hi hw ?_
 unfold Oper.wp
 rw [hr]
 refine hc.mono ?_
 intro e w' h
 obtain ⟨v, rfl, h2⟩ := hk e w' h
 exact h2
theorem op_skip {P : Program} {ops : Array Oper} {Q : Exit → Act → World → Prop} {i : Nat} {o : Oper} {K : Act → World → Prop} {a : Act} {w : World}
  (hi : ops[i]? = some o) (hw : Region.wanted o (yielded ops a.tmps) = false) (hk : K (a.put o.dst undef) w) : wpOp P ops Q i K a w := by
 unfold wpOp
 rw [hi]
 simp only [hw]
 exact hk
end Go.Proofs.YtpenhliaelhnoaaGreatDoor.Guard
