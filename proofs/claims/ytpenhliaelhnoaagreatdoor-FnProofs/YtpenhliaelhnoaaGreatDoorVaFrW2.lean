/-
  The frames of impl's words, and the words of impl's frames.
-/
import Derived.Test.YtpenhliaelhnoaaGreatDoorVaGz8
set_option maxRecDepth 100000
namespace Go.Proofs.YtpenhliaelhnoaaGreatDoor.FrW2
open Go.RowKit Mem Blk Words Zone Res FrZ FrP FrW

theorem aggCook : aggB Tryz.prog 54 4 = true := by kernel_rfl
theorem aggParts : aggB Tryz.prog 79 5 = true := by kernel_rfl

set_option maxHeartbeats 1600000 in
theorem initFrame (id : Int) (cn : Sl) (w : World) :
  Calls Tryz.prog 132 #[.agg #[.int .i64 id, .slice cn.a cn.n cn.c]] w fun e w' => e = .returned (.agg #[.int .i64 1, .int .i64 id, .slice cn.a cn.n cn.c, .slice none 0 0, .int .i64 0, .slice none 0 0, .slice none 0 0, .int .i64 0, .int .i64 0, .slice none 0 0, .slice none 0 0]) ∧ Below w.heap.size w w' := by
 go_enter Tryz.func132, Tryz.ntmps132
 go_wp2
 have K := Blk.new (w.alloc (.cells #[.int .i64 id, .slice cn.a cn.n cn.c] 77)) 25 [.int .i64 1, .int .i64 id, .slice cn.a cn.n cn.c, .slice none 0 0, .int .i64 0, .slice none 0 0, .slice none 0 0, .int .i64 0, .int .i64 0, .slice none 0 0, .slice none 0 0]
 rw [World.size_alloc] at K
 exact bodyPost_ret (v := .agg #[.int .i64 1, .int .i64 id, .slice cn.a cn.n cn.c, .slice none 0 0, .int .i64 0, .slice none 0 0, .slice none 0 0, .int .i64 0, .int .i64 0, .slice none 0 0, .slice none 0 0]) (res1 rfl (is_cell rfl K aggFr)) rfl ⟨rfl, ((Below.refl _ _).alloc (Nat.le_refl _) _).alloc (by simp) _⟩

set_option maxHeartbeats 1600000 in
theorem cookFrame (cn sn : Sl) (tick : Int) (cookie : Sl) (w : World) :
  Calls Tryz.prog 52 #[.agg #[.slice cn.a cn.n cn.c, .slice sn.a sn.n sn.c, .int .i64 tick, .slice cookie.a cookie.n cookie.c]] w fun e w' => e = .returned (.agg #[.int .i64 2, .int .i64 0, .slice cn.a cn.n cn.c, .slice sn.a sn.n sn.c, .int .i64 tick, .slice cookie.a cookie.n cookie.c, .slice none 0 0, .int .i64 0, .int .i64 0, .slice none 0 0, .slice none 0 0]) ∧ Below w.heap.size w w' := by
 go_enter Tryz.func52, Tryz.ntmps52
 go_wp2
 have K := Blk.new (w.alloc (.cells #[.slice cn.a cn.n cn.c, .slice sn.a sn.n sn.c, .int .i64 tick, .slice cookie.a cookie.n cookie.c] 54)) 25 [.int .i64 2, .int .i64 0, .slice cn.a cn.n cn.c, .slice sn.a sn.n sn.c, .int .i64 tick, .slice cookie.a cookie.n cookie.c, .slice none 0 0, .int .i64 0, .int .i64 0, .slice none 0 0, .slice none 0 0]
 rw [World.size_alloc] at K
 exact bodyPost_ret (v := .agg #[.int .i64 2, .int .i64 0, .slice cn.a cn.n cn.c, .slice sn.a sn.n sn.c, .int .i64 tick, .slice cookie.a cookie.n cookie.c, .slice none 0 0, .int .i64 0, .int .i64 0, .slice none 0 0, .slice none 0 0]) (res1 rfl (is_cell rfl K aggFr)) rfl ⟨rfl, ((Below.refl _ _).alloc (Nat.le_refl _) _).alloc (by simp) _⟩

set_option maxHeartbeats 1600000 in
theorem partsFrame (sn : Sl) (epoch seq : Int) (tag body : Sl) (k : Int) (w : World) :
  Calls Tryz.prog 134 #[.agg #[.slice sn.a sn.n sn.c, .int .i64 epoch, .int .i64 seq, .slice tag.a tag.n tag.c, .slice body.a body.n body.c], .int .i64 k] w fun e w' => e = .returned (.agg #[.int .i64 k, .int .i64 0, .slice none 0 0, .slice sn.a sn.n sn.c, .int .i64 0, .slice none 0 0, .slice none 0 0, .int .i64 epoch, .int .i64 seq, .slice body.a body.n body.c, .slice tag.a tag.n tag.c]) ∧ Below w.heap.size w w' := by
 go_enter Tryz.func134, Tryz.ntmps134
 go_wp2
 have K := Blk.new (w.alloc (.cells #[.slice sn.a sn.n sn.c, .int .i64 epoch, .int .i64 seq, .slice tag.a tag.n tag.c, .slice body.a body.n body.c] 79)) 25 [.int .i64 k, .int .i64 0, .slice none 0 0, .slice sn.a sn.n sn.c, .int .i64 0, .slice none 0 0, .slice none 0 0, .int .i64 epoch, .int .i64 seq, .slice body.a body.n body.c, .slice tag.a tag.n tag.c]
 rw [World.size_alloc] at K
 exact bodyPost_ret (v := .agg #[.int .i64 k, .int .i64 0, .slice none 0 0, .slice sn.a sn.n sn.c, .int .i64 0, .slice none 0 0, .slice none 0 0, .int .i64 epoch, .int .i64 seq, .slice body.a body.n body.c, .slice tag.a tag.n tag.c]) (res1 rfl (is_cell rfl K aggFr)) rfl ⟨rfl, ((Below.refl _ _).alloc (Nat.le_refl _) _).alloc (by simp) _⟩

set_option maxHeartbeats 1600000 in
theorem dataFrame (sn : Sl) (epoch seq : Int) (tag body : Sl) (w : World) :
  Calls Tryz.prog 138 #[.agg #[.slice sn.a sn.n sn.c, .int .i64 epoch, .int .i64 seq, .slice tag.a tag.n tag.c, .slice body.a body.n body.c]] w fun e w' => e = .returned (.agg #[.int .i64 4, .int .i64 0, .slice none 0 0, .slice sn.a sn.n sn.c, .int .i64 0, .slice none 0 0, .slice none 0 0, .int .i64 epoch, .int .i64 seq, .slice body.a body.n body.c, .slice tag.a tag.n tag.c]) ∧ Below w.heap.size w w' := by
 obtain ⟨x0, hx0⟩ : ∃ x0, (w.alloc (.cells #[.slice sn.a sn.n sn.c, .int .i64 epoch, .int .i64 seq, .slice tag.a tag.n tag.c, .slice body.a body.n body.c] 82)).alloc (.cells #[.int .i64 0, .int .i64 0, .slice none 0 0, .slice none 0 0, .int .i64 0, .slice none 0 0, .slice none 0 0, .int .i64 0, .int .i64 0, .slice none 0 0, .slice none 0 0] 25) = x0 := ⟨_, rfl⟩
 have HW0 := hid (hx0)
 have B0 : Hid (Below w.heap.size w x0) := by rw [← hx0]; exact ((Below.refl _ _).alloc (Nat.le_refl _) _).alloc (by simp) _
 have K0 : Hid (Blk x0 (w.heap.size + 1) 25 [.int .i64 0, .int .i64 0, .slice none 0 0, .slice none 0 0, .int .i64 0, .slice none 0 0, .slice none 0 0, .int .i64 0, .int .i64 0, .slice none 0 0, .slice none 0 0]) := by
  have := Blk.new (w.alloc (.cells #[.slice sn.a sn.n sn.c, .int .i64 epoch, .int .i64 seq, .slice tag.a tag.n tag.c, .slice body.a body.n body.c] 82)) 25 [.int .i64 0, .int .i64 0, .slice none 0 0, .slice none 0 0, .int .i64 0, .slice none 0 0, .slice none 0 0, .int .i64 0, .int .i64 0, .slice none 0 0, .slice none 0 0]
  rw [World.size_alloc] at this
  rw [← hx0]; exact this
 clear hx0
 go_enter Tryz.func138, Tryz.ntmps138
 go_wp2_with fail
 rw [HW0.out]
 obtain ⟨gr, hgr⟩ : ∃ gr, w.heap.size + 1 = gr := ⟨_, rfl⟩
 have HG : Hid (w.heap.size + 1 = gr) := hgr
 rw [hgr] at K0 ⊢
 clear hgr HW0
 refine (partsFrame sn epoch seq tag body 4 x0).mono ?_
 rintro e x1 ⟨rfl, b1⟩
 have B1 := hid (B0.out.trans (b1.mono B0.out.size))
 have K1 := hid (K0.out.later b1)
 clear b1 B0 K0
 have c0 := K1.out.cell 0 rfl
 have f0 := K1.out.frozen 0
 have c1 := K1.out.cell 1 rfl
 have f1 := K1.out.frozen 1
 have c2 := K1.out.cell 2 rfl
 have f2 := K1.out.frozen 2
 have c3 := K1.out.cell 3 rfl
 have f3 := K1.out.frozen 3
 have c4 := K1.out.cell 4 rfl
 have f4 := K1.out.frozen 4
 have c5 := K1.out.cell 5 rfl
 have f5 := K1.out.frozen 5
 have c6 := K1.out.cell 6 rfl
 have f6 := K1.out.frozen 6
 have c7 := K1.out.cell 7 rfl
 have f7 := K1.out.frozen 7
 have c8 := K1.out.cell 8 rfl
 have f8 := K1.out.frozen 8
 have c9 := K1.out.cell 9 rfl
 have f9 := K1.out.frozen 9
 have c10 := K1.out.cell 10 rfl
 have f10 := K1.out.frozen 10
 go_wp2
 have KF : Blk ((((((((((((x1).setCell ⟨gr, 0, none⟩ (.int .i64 4)).setCell ⟨gr, 1, none⟩ (.int .i64 0)).setCell ⟨gr, 2, none⟩ (.slice none 0 0)).setCell ⟨gr, 3, none⟩ (.slice sn.a sn.n sn.c)).setCell ⟨gr, 4, none⟩ (.int .i64 0)).setCell ⟨gr, 5, none⟩ (.slice none 0 0)).setCell ⟨gr, 6, none⟩ (.slice none 0 0)).setCell ⟨gr, 7, none⟩ (.int .i64 epoch)).setCell ⟨gr, 8, none⟩ (.int .i64 seq)).setCell ⟨gr, 9, none⟩ (.slice body.a body.n body.c)).setCell ⟨gr, 10, none⟩ (.slice tag.a tag.n tag.c)) gr 25 [.int .i64 4, .int .i64 0, .slice none 0 0, .slice sn.a sn.n sn.c, .int .i64 0, .slice none 0 0, .slice none 0 0, .int .i64 epoch, .int .i64 seq, .slice body.a body.n body.c, .slice tag.a tag.n tag.c] := (((((((((((K1.out).set 0 _ (by simp [maxLen])).set 1 _ (by simp [maxLen])).set 2 _ (by simp [maxLen])).set 3 _ (by simp [maxLen])).set 4 _ (by simp [maxLen])).set 5 _ (by simp [maxLen])).set 6 _ (by simp [maxLen])).set 7 _ (by simp [maxLen])).set 8 _ (by simp [maxLen])).set 9 _ (by simp [maxLen])).set 10 _ (by simp [maxLen])
 exact bodyPost_ret (v := .agg #[.int .i64 4, .int .i64 0, .slice none 0 0, .slice sn.a sn.n sn.c, .int .i64 0, .slice none 0 0, .slice none 0 0, .int .i64 epoch, .int .i64 seq, .slice body.a body.n body.c, .slice tag.a tag.n tag.c]) (res1 rfl (is_cell rfl KF aggFr)) rfl ⟨rfl, (((((((((((B1.out).setCell (by show _ ≤ gr; have := HG.out; omega) _).setCell (by show _ ≤ gr; have := HG.out; omega) _).setCell (by show _ ≤ gr; have := HG.out; omega) _).setCell (by show _ ≤ gr; have := HG.out; omega) _).setCell (by show _ ≤ gr; have := HG.out; omega) _).setCell (by show _ ≤ gr; have := HG.out; omega) _).setCell (by show _ ≤ gr; have := HG.out; omega) _).setCell (by show _ ≤ gr; have := HG.out; omega) _).setCell (by show _ ≤ gr; have := HG.out; omega) _).setCell (by show _ ≤ gr; have := HG.out; omega) _).setCell (by show _ ≤ gr; have := HG.out; omega) _⟩

set_option maxHeartbeats 1600000 in
theorem chalFrame (sn : Sl) (epoch seq : Int) (tag body : Sl) (w : World) :
  Calls Tryz.prog 140 #[.agg #[.slice sn.a sn.n sn.c, .int .i64 epoch, .int .i64 seq, .slice tag.a tag.n tag.c, .slice body.a body.n body.c]] w fun e w' => e = .returned (.agg #[.int .i64 5, .int .i64 0, .slice none 0 0, .slice sn.a sn.n sn.c, .int .i64 0, .slice none 0 0, .slice none 0 0, .int .i64 epoch, .int .i64 seq, .slice body.a body.n body.c, .slice tag.a tag.n tag.c]) ∧ Below w.heap.size w w' := by
 obtain ⟨x0, hx0⟩ : ∃ x0, (w.alloc (.cells #[.slice sn.a sn.n sn.c, .int .i64 epoch, .int .i64 seq, .slice tag.a tag.n tag.c, .slice body.a body.n body.c] 83)).alloc (.cells #[.int .i64 0, .int .i64 0, .slice none 0 0, .slice none 0 0, .int .i64 0, .slice none 0 0, .slice none 0 0, .int .i64 0, .int .i64 0, .slice none 0 0, .slice none 0 0] 25) = x0 := ⟨_, rfl⟩
 have HW0 := hid (hx0)
 have B0 : Hid (Below w.heap.size w x0) := by rw [← hx0]; exact ((Below.refl _ _).alloc (Nat.le_refl _) _).alloc (by simp) _
 have K0 : Hid (Blk x0 (w.heap.size + 1) 25 [.int .i64 0, .int .i64 0, .slice none 0 0, .slice none 0 0, .int .i64 0, .slice none 0 0, .slice none 0 0, .int .i64 0, .int .i64 0, .slice none 0 0, .slice none 0 0]) := by
  have := Blk.new (w.alloc (.cells #[.slice sn.a sn.n sn.c, .int .i64 epoch, .int .i64 seq, .slice tag.a tag.n tag.c, .slice body.a body.n body.c] 83)) 25 [.int .i64 0, .int .i64 0, .slice none 0 0, .slice none 0 0, .int .i64 0, .slice none 0 0, .slice none 0 0, .int .i64 0, .int .i64 0, .slice none 0 0, .slice none 0 0]
  rw [World.size_alloc] at this
  rw [← hx0]; exact this
 clear hx0
 go_enter Tryz.func140, Tryz.ntmps140
 go_wp2_with fail
 rw [HW0.out]
 obtain ⟨gr, hgr⟩ : ∃ gr, w.heap.size + 1 = gr := ⟨_, rfl⟩
 have HG : Hid (w.heap.size + 1 = gr) := hgr
 rw [hgr] at K0 ⊢
 clear hgr HW0
 refine (partsFrame sn epoch seq tag body 5 x0).mono ?_
 rintro e x1 ⟨rfl, b1⟩
 have B1 := hid (B0.out.trans (b1.mono B0.out.size))
 have K1 := hid (K0.out.later b1)
 clear b1 B0 K0
 have c0 := K1.out.cell 0 rfl
 have f0 := K1.out.frozen 0
 have c1 := K1.out.cell 1 rfl
 have f1 := K1.out.frozen 1
 have c2 := K1.out.cell 2 rfl
 have f2 := K1.out.frozen 2
 have c3 := K1.out.cell 3 rfl
 have f3 := K1.out.frozen 3
 have c4 := K1.out.cell 4 rfl
 have f4 := K1.out.frozen 4
 have c5 := K1.out.cell 5 rfl
 have f5 := K1.out.frozen 5
 have c6 := K1.out.cell 6 rfl
 have f6 := K1.out.frozen 6
 have c7 := K1.out.cell 7 rfl
 have f7 := K1.out.frozen 7
 have c8 := K1.out.cell 8 rfl
 have f8 := K1.out.frozen 8
 have c9 := K1.out.cell 9 rfl
 have f9 := K1.out.frozen 9
 have c10 := K1.out.cell 10 rfl
 have f10 := K1.out.frozen 10
 go_wp2
 have KF : Blk ((((((((((((x1).setCell ⟨gr, 0, none⟩ (.int .i64 5)).setCell ⟨gr, 1, none⟩ (.int .i64 0)).setCell ⟨gr, 2, none⟩ (.slice none 0 0)).setCell ⟨gr, 3, none⟩ (.slice sn.a sn.n sn.c)).setCell ⟨gr, 4, none⟩ (.int .i64 0)).setCell ⟨gr, 5, none⟩ (.slice none 0 0)).setCell ⟨gr, 6, none⟩ (.slice none 0 0)).setCell ⟨gr, 7, none⟩ (.int .i64 epoch)).setCell ⟨gr, 8, none⟩ (.int .i64 seq)).setCell ⟨gr, 9, none⟩ (.slice body.a body.n body.c)).setCell ⟨gr, 10, none⟩ (.slice tag.a tag.n tag.c)) gr 25 [.int .i64 5, .int .i64 0, .slice none 0 0, .slice sn.a sn.n sn.c, .int .i64 0, .slice none 0 0, .slice none 0 0, .int .i64 epoch, .int .i64 seq, .slice body.a body.n body.c, .slice tag.a tag.n tag.c] := (((((((((((K1.out).set 0 _ (by simp [maxLen])).set 1 _ (by simp [maxLen])).set 2 _ (by simp [maxLen])).set 3 _ (by simp [maxLen])).set 4 _ (by simp [maxLen])).set 5 _ (by simp [maxLen])).set 6 _ (by simp [maxLen])).set 7 _ (by simp [maxLen])).set 8 _ (by simp [maxLen])).set 9 _ (by simp [maxLen])).set 10 _ (by simp [maxLen])
 exact bodyPost_ret (v := .agg #[.int .i64 5, .int .i64 0, .slice none 0 0, .slice sn.a sn.n sn.c, .int .i64 0, .slice none 0 0, .slice none 0 0, .int .i64 epoch, .int .i64 seq, .slice body.a body.n body.c, .slice tag.a tag.n tag.c]) (res1 rfl (is_cell rfl KF aggFr)) rfl ⟨rfl, (((((((((((B1.out).setCell (by show _ ≤ gr; have := HG.out; omega) _).setCell (by show _ ≤ gr; have := HG.out; omega) _).setCell (by show _ ≤ gr; have := HG.out; omega) _).setCell (by show _ ≤ gr; have := HG.out; omega) _).setCell (by show _ ≤ gr; have := HG.out; omega) _).setCell (by show _ ≤ gr; have := HG.out; omega) _).setCell (by show _ ≤ gr; have := HG.out; omega) _).setCell (by show _ ≤ gr; have := HG.out; omega) _).setCell (by show _ ≤ gr; have := HG.out; omega) _).setCell (by show _ ≤ gr; have := HG.out; omega) _).setCell (by show _ ≤ gr; have := HG.out; omega) _⟩

set_option maxHeartbeats 1600000 in
theorem respFrame (sn : Sl) (epoch seq : Int) (tag body : Sl) (w : World) :
  Calls Tryz.prog 142 #[.agg #[.slice sn.a sn.n sn.c, .int .i64 epoch, .int .i64 seq, .slice tag.a tag.n tag.c, .slice body.a body.n body.c]] w fun e w' => e = .returned (.agg #[.int .i64 6, .int .i64 0, .slice none 0 0, .slice sn.a sn.n sn.c, .int .i64 0, .slice none 0 0, .slice none 0 0, .int .i64 epoch, .int .i64 seq, .slice body.a body.n body.c, .slice tag.a tag.n tag.c]) ∧ Below w.heap.size w w' := by
 obtain ⟨x0, hx0⟩ : ∃ x0, (w.alloc (.cells #[.slice sn.a sn.n sn.c, .int .i64 epoch, .int .i64 seq, .slice tag.a tag.n tag.c, .slice body.a body.n body.c] 84)).alloc (.cells #[.int .i64 0, .int .i64 0, .slice none 0 0, .slice none 0 0, .int .i64 0, .slice none 0 0, .slice none 0 0, .int .i64 0, .int .i64 0, .slice none 0 0, .slice none 0 0] 25) = x0 := ⟨_, rfl⟩
 have HW0 := hid (hx0)
 have B0 : Hid (Below w.heap.size w x0) := by rw [← hx0]; exact ((Below.refl _ _).alloc (Nat.le_refl _) _).alloc (by simp) _
 have K0 : Hid (Blk x0 (w.heap.size + 1) 25 [.int .i64 0, .int .i64 0, .slice none 0 0, .slice none 0 0, .int .i64 0, .slice none 0 0, .slice none 0 0, .int .i64 0, .int .i64 0, .slice none 0 0, .slice none 0 0]) := by
  have := Blk.new (w.alloc (.cells #[.slice sn.a sn.n sn.c, .int .i64 epoch, .int .i64 seq, .slice tag.a tag.n tag.c, .slice body.a body.n body.c] 84)) 25 [.int .i64 0, .int .i64 0, .slice none 0 0, .slice none 0 0, .int .i64 0, .slice none 0 0, .slice none 0 0, .int .i64 0, .int .i64 0, .slice none 0 0, .slice none 0 0]
  rw [World.size_alloc] at this
  rw [← hx0]; exact this
 clear hx0
 go_enter Tryz.func142, Tryz.ntmps142
 go_wp2_with fail
 rw [HW0.out]
 obtain ⟨gr, hgr⟩ : ∃ gr, w.heap.size + 1 = gr := ⟨_, rfl⟩
 have HG : Hid (w.heap.size + 1 = gr) := hgr
 rw [hgr] at K0 ⊢
 clear hgr HW0
 refine (partsFrame sn epoch seq tag body 6 x0).mono ?_
 rintro e x1 ⟨rfl, b1⟩
 have B1 := hid (B0.out.trans (b1.mono B0.out.size))
 have K1 := hid (K0.out.later b1)
 clear b1 B0 K0
 have c0 := K1.out.cell 0 rfl
 have f0 := K1.out.frozen 0
 have c1 := K1.out.cell 1 rfl
 have f1 := K1.out.frozen 1
 have c2 := K1.out.cell 2 rfl
 have f2 := K1.out.frozen 2
 have c3 := K1.out.cell 3 rfl
 have f3 := K1.out.frozen 3
 have c4 := K1.out.cell 4 rfl
 have f4 := K1.out.frozen 4
 have c5 := K1.out.cell 5 rfl
 have f5 := K1.out.frozen 5
 have c6 := K1.out.cell 6 rfl
 have f6 := K1.out.frozen 6
 have c7 := K1.out.cell 7 rfl
 have f7 := K1.out.frozen 7
 have c8 := K1.out.cell 8 rfl
 have f8 := K1.out.frozen 8
 have c9 := K1.out.cell 9 rfl
 have f9 := K1.out.frozen 9
 have c10 := K1.out.cell 10 rfl
 have f10 := K1.out.frozen 10
 go_wp2
 have KF : Blk ((((((((((((x1).setCell ⟨gr, 0, none⟩ (.int .i64 6)).setCell ⟨gr, 1, none⟩ (.int .i64 0)).setCell ⟨gr, 2, none⟩ (.slice none 0 0)).setCell ⟨gr, 3, none⟩ (.slice sn.a sn.n sn.c)).setCell ⟨gr, 4, none⟩ (.int .i64 0)).setCell ⟨gr, 5, none⟩ (.slice none 0 0)).setCell ⟨gr, 6, none⟩ (.slice none 0 0)).setCell ⟨gr, 7, none⟩ (.int .i64 epoch)).setCell ⟨gr, 8, none⟩ (.int .i64 seq)).setCell ⟨gr, 9, none⟩ (.slice body.a body.n body.c)).setCell ⟨gr, 10, none⟩ (.slice tag.a tag.n tag.c)) gr 25 [.int .i64 6, .int .i64 0, .slice none 0 0, .slice sn.a sn.n sn.c, .int .i64 0, .slice none 0 0, .slice none 0 0, .int .i64 epoch, .int .i64 seq, .slice body.a body.n body.c, .slice tag.a tag.n tag.c] := (((((((((((K1.out).set 0 _ (by simp [maxLen])).set 1 _ (by simp [maxLen])).set 2 _ (by simp [maxLen])).set 3 _ (by simp [maxLen])).set 4 _ (by simp [maxLen])).set 5 _ (by simp [maxLen])).set 6 _ (by simp [maxLen])).set 7 _ (by simp [maxLen])).set 8 _ (by simp [maxLen])).set 9 _ (by simp [maxLen])).set 10 _ (by simp [maxLen])
 exact bodyPost_ret (v := .agg #[.int .i64 6, .int .i64 0, .slice none 0 0, .slice sn.a sn.n sn.c, .int .i64 0, .slice none 0 0, .slice none 0 0, .int .i64 epoch, .int .i64 seq, .slice body.a body.n body.c, .slice tag.a tag.n tag.c]) (res1 rfl (is_cell rfl KF aggFr)) rfl ⟨rfl, (((((((((((B1.out).setCell (by show _ ≤ gr; have := HG.out; omega) _).setCell (by show _ ≤ gr; have := HG.out; omega) _).setCell (by show _ ≤ gr; have := HG.out; omega) _).setCell (by show _ ≤ gr; have := HG.out; omega) _).setCell (by show _ ≤ gr; have := HG.out; omega) _).setCell (by show _ ≤ gr; have := HG.out; omega) _).setCell (by show _ ≤ gr; have := HG.out; omega) _).setCell (by show _ ≤ gr; have := HG.out; omega) _).setCell (by show _ ≤ gr; have := HG.out; omega) _).setCell (by show _ ≤ gr; have := HG.out; omega) _).setCell (by show _ ≤ gr; have := HG.out; omega) _⟩

set_option maxHeartbeats 1600000 in
theorem rekFrame (sn : Sl) (epoch seq : Int) (tag body : Sl) (w : World) :
  Calls Tryz.prog 144 #[.agg #[.slice sn.a sn.n sn.c, .int .i64 epoch, .int .i64 seq, .slice tag.a tag.n tag.c, .slice body.a body.n body.c]] w fun e w' => e = .returned (.agg #[.int .i64 7, .int .i64 0, .slice none 0 0, .slice sn.a sn.n sn.c, .int .i64 0, .slice none 0 0, .slice none 0 0, .int .i64 epoch, .int .i64 seq, .slice body.a body.n body.c, .slice tag.a tag.n tag.c]) ∧ Below w.heap.size w w' := by
 obtain ⟨x0, hx0⟩ : ∃ x0, (w.alloc (.cells #[.slice sn.a sn.n sn.c, .int .i64 epoch, .int .i64 seq, .slice tag.a tag.n tag.c, .slice body.a body.n body.c] 85)).alloc (.cells #[.int .i64 0, .int .i64 0, .slice none 0 0, .slice none 0 0, .int .i64 0, .slice none 0 0, .slice none 0 0, .int .i64 0, .int .i64 0, .slice none 0 0, .slice none 0 0] 25) = x0 := ⟨_, rfl⟩
 have HW0 := hid (hx0)
 have B0 : Hid (Below w.heap.size w x0) := by rw [← hx0]; exact ((Below.refl _ _).alloc (Nat.le_refl _) _).alloc (by simp) _
 have K0 : Hid (Blk x0 (w.heap.size + 1) 25 [.int .i64 0, .int .i64 0, .slice none 0 0, .slice none 0 0, .int .i64 0, .slice none 0 0, .slice none 0 0, .int .i64 0, .int .i64 0, .slice none 0 0, .slice none 0 0]) := by
  have := Blk.new (w.alloc (.cells #[.slice sn.a sn.n sn.c, .int .i64 epoch, .int .i64 seq, .slice tag.a tag.n tag.c, .slice body.a body.n body.c] 85)) 25 [.int .i64 0, .int .i64 0, .slice none 0 0, .slice none 0 0, .int .i64 0, .slice none 0 0, .slice none 0 0, .int .i64 0, .int .i64 0, .slice none 0 0, .slice none 0 0]
  rw [World.size_alloc] at this
  rw [← hx0]; exact this
 clear hx0
 go_enter Tryz.func144, Tryz.ntmps144
 go_wp2_with fail
 rw [HW0.out]
 obtain ⟨gr, hgr⟩ : ∃ gr, w.heap.size + 1 = gr := ⟨_, rfl⟩
 have HG : Hid (w.heap.size + 1 = gr) := hgr
 rw [hgr] at K0 ⊢
 clear hgr HW0
 refine (partsFrame sn epoch seq tag body 7 x0).mono ?_
 rintro e x1 ⟨rfl, b1⟩
 have B1 := hid (B0.out.trans (b1.mono B0.out.size))
 have K1 := hid (K0.out.later b1)
 clear b1 B0 K0
 have c0 := K1.out.cell 0 rfl
 have f0 := K1.out.frozen 0
 have c1 := K1.out.cell 1 rfl
 have f1 := K1.out.frozen 1
 have c2 := K1.out.cell 2 rfl
 have f2 := K1.out.frozen 2
 have c3 := K1.out.cell 3 rfl
 have f3 := K1.out.frozen 3
 have c4 := K1.out.cell 4 rfl
 have f4 := K1.out.frozen 4
 have c5 := K1.out.cell 5 rfl
 have f5 := K1.out.frozen 5
 have c6 := K1.out.cell 6 rfl
 have f6 := K1.out.frozen 6
 have c7 := K1.out.cell 7 rfl
 have f7 := K1.out.frozen 7
 have c8 := K1.out.cell 8 rfl
 have f8 := K1.out.frozen 8
 have c9 := K1.out.cell 9 rfl
 have f9 := K1.out.frozen 9
 have c10 := K1.out.cell 10 rfl
 have f10 := K1.out.frozen 10
 go_wp2
 have KF : Blk ((((((((((((x1).setCell ⟨gr, 0, none⟩ (.int .i64 7)).setCell ⟨gr, 1, none⟩ (.int .i64 0)).setCell ⟨gr, 2, none⟩ (.slice none 0 0)).setCell ⟨gr, 3, none⟩ (.slice sn.a sn.n sn.c)).setCell ⟨gr, 4, none⟩ (.int .i64 0)).setCell ⟨gr, 5, none⟩ (.slice none 0 0)).setCell ⟨gr, 6, none⟩ (.slice none 0 0)).setCell ⟨gr, 7, none⟩ (.int .i64 epoch)).setCell ⟨gr, 8, none⟩ (.int .i64 seq)).setCell ⟨gr, 9, none⟩ (.slice body.a body.n body.c)).setCell ⟨gr, 10, none⟩ (.slice tag.a tag.n tag.c)) gr 25 [.int .i64 7, .int .i64 0, .slice none 0 0, .slice sn.a sn.n sn.c, .int .i64 0, .slice none 0 0, .slice none 0 0, .int .i64 epoch, .int .i64 seq, .slice body.a body.n body.c, .slice tag.a tag.n tag.c] := (((((((((((K1.out).set 0 _ (by simp [maxLen])).set 1 _ (by simp [maxLen])).set 2 _ (by simp [maxLen])).set 3 _ (by simp [maxLen])).set 4 _ (by simp [maxLen])).set 5 _ (by simp [maxLen])).set 6 _ (by simp [maxLen])).set 7 _ (by simp [maxLen])).set 8 _ (by simp [maxLen])).set 9 _ (by simp [maxLen])).set 10 _ (by simp [maxLen])
 exact bodyPost_ret (v := .agg #[.int .i64 7, .int .i64 0, .slice none 0 0, .slice sn.a sn.n sn.c, .int .i64 0, .slice none 0 0, .slice none 0 0, .int .i64 epoch, .int .i64 seq, .slice body.a body.n body.c, .slice tag.a tag.n tag.c]) (res1 rfl (is_cell rfl KF aggFr)) rfl ⟨rfl, (((((((((((B1.out).setCell (by show _ ≤ gr; have := HG.out; omega) _).setCell (by show _ ≤ gr; have := HG.out; omega) _).setCell (by show _ ≤ gr; have := HG.out; omega) _).setCell (by show _ ≤ gr; have := HG.out; omega) _).setCell (by show _ ≤ gr; have := HG.out; omega) _).setCell (by show _ ≤ gr; have := HG.out; omega) _).setCell (by show _ ≤ gr; have := HG.out; omega) _).setCell (by show _ ≤ gr; have := HG.out; omega) _).setCell (by show _ ≤ gr; have := HG.out; omega) _).setCell (by show _ ≤ gr; have := HG.out; omega) _).setCell (by show _ ≤ gr; have := HG.out; omega) _⟩

set_option maxHeartbeats 1600000 in
theorem ackFrame (sn : Sl) (epoch seq : Int) (tag body : Sl) (w : World) :
  Calls Tryz.prog 146 #[.agg #[.slice sn.a sn.n sn.c, .int .i64 epoch, .int .i64 seq, .slice tag.a tag.n tag.c, .slice body.a body.n body.c]] w fun e w' => e = .returned (.agg #[.int .i64 8, .int .i64 0, .slice none 0 0, .slice sn.a sn.n sn.c, .int .i64 0, .slice none 0 0, .slice none 0 0, .int .i64 epoch, .int .i64 seq, .slice body.a body.n body.c, .slice tag.a tag.n tag.c]) ∧ Below w.heap.size w w' := by
 obtain ⟨x0, hx0⟩ : ∃ x0, (w.alloc (.cells #[.slice sn.a sn.n sn.c, .int .i64 epoch, .int .i64 seq, .slice tag.a tag.n tag.c, .slice body.a body.n body.c] 86)).alloc (.cells #[.int .i64 0, .int .i64 0, .slice none 0 0, .slice none 0 0, .int .i64 0, .slice none 0 0, .slice none 0 0, .int .i64 0, .int .i64 0, .slice none 0 0, .slice none 0 0] 25) = x0 := ⟨_, rfl⟩
 have HW0 := hid (hx0)
 have B0 : Hid (Below w.heap.size w x0) := by rw [← hx0]; exact ((Below.refl _ _).alloc (Nat.le_refl _) _).alloc (by simp) _
 have K0 : Hid (Blk x0 (w.heap.size + 1) 25 [.int .i64 0, .int .i64 0, .slice none 0 0, .slice none 0 0, .int .i64 0, .slice none 0 0, .slice none 0 0, .int .i64 0, .int .i64 0, .slice none 0 0, .slice none 0 0]) := by
  have := Blk.new (w.alloc (.cells #[.slice sn.a sn.n sn.c, .int .i64 epoch, .int .i64 seq, .slice tag.a tag.n tag.c, .slice body.a body.n body.c] 86)) 25 [.int .i64 0, .int .i64 0, .slice none 0 0, .slice none 0 0, .int .i64 0, .slice none 0 0, .slice none 0 0, .int .i64 0, .int .i64 0, .slice none 0 0, .slice none 0 0]
  rw [World.size_alloc] at this
  rw [← hx0]; exact this
 clear hx0
 go_enter Tryz.func146, Tryz.ntmps146
 go_wp2_with fail
 rw [HW0.out]
 obtain ⟨gr, hgr⟩ : ∃ gr, w.heap.size + 1 = gr := ⟨_, rfl⟩
 have HG : Hid (w.heap.size + 1 = gr) := hgr
 rw [hgr] at K0 ⊢
 clear hgr HW0
 refine (partsFrame sn epoch seq tag body 8 x0).mono ?_
 rintro e x1 ⟨rfl, b1⟩
 have B1 := hid (B0.out.trans (b1.mono B0.out.size))
 have K1 := hid (K0.out.later b1)
 clear b1 B0 K0
 have c0 := K1.out.cell 0 rfl
 have f0 := K1.out.frozen 0
 have c1 := K1.out.cell 1 rfl
 have f1 := K1.out.frozen 1
 have c2 := K1.out.cell 2 rfl
 have f2 := K1.out.frozen 2
 have c3 := K1.out.cell 3 rfl
 have f3 := K1.out.frozen 3
 have c4 := K1.out.cell 4 rfl
 have f4 := K1.out.frozen 4
 have c5 := K1.out.cell 5 rfl
 have f5 := K1.out.frozen 5
 have c6 := K1.out.cell 6 rfl
 have f6 := K1.out.frozen 6
 have c7 := K1.out.cell 7 rfl
 have f7 := K1.out.frozen 7
 have c8 := K1.out.cell 8 rfl
 have f8 := K1.out.frozen 8
 have c9 := K1.out.cell 9 rfl
 have f9 := K1.out.frozen 9
 have c10 := K1.out.cell 10 rfl
 have f10 := K1.out.frozen 10
 go_wp2
 have KF : Blk ((((((((((((x1).setCell ⟨gr, 0, none⟩ (.int .i64 8)).setCell ⟨gr, 1, none⟩ (.int .i64 0)).setCell ⟨gr, 2, none⟩ (.slice none 0 0)).setCell ⟨gr, 3, none⟩ (.slice sn.a sn.n sn.c)).setCell ⟨gr, 4, none⟩ (.int .i64 0)).setCell ⟨gr, 5, none⟩ (.slice none 0 0)).setCell ⟨gr, 6, none⟩ (.slice none 0 0)).setCell ⟨gr, 7, none⟩ (.int .i64 epoch)).setCell ⟨gr, 8, none⟩ (.int .i64 seq)).setCell ⟨gr, 9, none⟩ (.slice body.a body.n body.c)).setCell ⟨gr, 10, none⟩ (.slice tag.a tag.n tag.c)) gr 25 [.int .i64 8, .int .i64 0, .slice none 0 0, .slice sn.a sn.n sn.c, .int .i64 0, .slice none 0 0, .slice none 0 0, .int .i64 epoch, .int .i64 seq, .slice body.a body.n body.c, .slice tag.a tag.n tag.c] := (((((((((((K1.out).set 0 _ (by simp [maxLen])).set 1 _ (by simp [maxLen])).set 2 _ (by simp [maxLen])).set 3 _ (by simp [maxLen])).set 4 _ (by simp [maxLen])).set 5 _ (by simp [maxLen])).set 6 _ (by simp [maxLen])).set 7 _ (by simp [maxLen])).set 8 _ (by simp [maxLen])).set 9 _ (by simp [maxLen])).set 10 _ (by simp [maxLen])
 exact bodyPost_ret (v := .agg #[.int .i64 8, .int .i64 0, .slice none 0 0, .slice sn.a sn.n sn.c, .int .i64 0, .slice none 0 0, .slice none 0 0, .int .i64 epoch, .int .i64 seq, .slice body.a body.n body.c, .slice tag.a tag.n tag.c]) (res1 rfl (is_cell rfl KF aggFr)) rfl ⟨rfl, (((((((((((B1.out).setCell (by show _ ≤ gr; have := HG.out; omega) _).setCell (by show _ ≤ gr; have := HG.out; omega) _).setCell (by show _ ≤ gr; have := HG.out; omega) _).setCell (by show _ ≤ gr; have := HG.out; omega) _).setCell (by show _ ≤ gr; have := HG.out; omega) _).setCell (by show _ ≤ gr; have := HG.out; omega) _).setCell (by show _ ≤ gr; have := HG.out; omega) _).setCell (by show _ ≤ gr; have := HG.out; omega) _).setCell (by show _ ≤ gr; have := HG.out; omega) _).setCell (by show _ ≤ gr; have := HG.out; omega) _).setCell (by show _ ≤ gr; have := HG.out; omega) _⟩

set_option maxHeartbeats 1600000 in
theorem cookieOf (kind id : Int) (cn sn : Sl) (tick : Int) (cookie proof : Sl) (epoch seq : Int) (body tag : Sl) (w : World) :
  Calls Tryz.prog 62 #[.agg #[.int .i64 kind, .int .i64 id, .slice cn.a cn.n cn.c, .slice sn.a sn.n sn.c, .int .i64 tick, .slice cookie.a cookie.n cookie.c, .slice proof.a proof.n proof.c, .int .i64 epoch, .int .i64 seq, .slice body.a body.n body.c, .slice tag.a tag.n tag.c]] w fun e w' => e = .returned (.agg #[.slice cn.a cn.n cn.c, .slice sn.a sn.n sn.c, .int .i64 tick, .slice cookie.a cookie.n cookie.c]) ∧ Below w.heap.size w w' := by
 go_enter Tryz.func62, Tryz.ntmps62
 go_wp2
 have K := Blk.new (w.alloc (.cells #[.int .i64 kind, .int .i64 id, .slice cn.a cn.n cn.c, .slice sn.a sn.n sn.c, .int .i64 tick, .slice cookie.a cookie.n cookie.c, .slice proof.a proof.n proof.c, .int .i64 epoch, .int .i64 seq, .slice body.a body.n body.c, .slice tag.a tag.n tag.c] 25)) 54 [.slice cn.a cn.n cn.c, .slice sn.a sn.n sn.c, .int .i64 tick, .slice cookie.a cookie.n cookie.c]
 rw [World.size_alloc] at K
 exact bodyPost_ret (v := .agg #[.slice cn.a cn.n cn.c, .slice sn.a sn.n sn.c, .int .i64 tick, .slice cookie.a cookie.n cookie.c]) (res1 rfl (is_cell rfl K aggCook)) rfl ⟨rfl, ((Below.refl _ _).alloc (Nat.le_refl _) _).alloc (by simp) _⟩

set_option maxHeartbeats 1600000 in
theorem sealedOf (kind id : Int) (cn sn : Sl) (tick : Int) (cookie proof : Sl) (epoch seq : Int) (body tag : Sl) (w : World) :
  Calls Tryz.prog 63 #[.agg #[.int .i64 kind, .int .i64 id, .slice cn.a cn.n cn.c, .slice sn.a sn.n sn.c, .int .i64 tick, .slice cookie.a cookie.n cookie.c, .slice proof.a proof.n proof.c, .int .i64 epoch, .int .i64 seq, .slice body.a body.n body.c, .slice tag.a tag.n tag.c]] w fun e w' => e = .returned (.agg #[.slice sn.a sn.n sn.c, .int .i64 epoch, .int .i64 seq, .slice tag.a tag.n tag.c, .slice body.a body.n body.c]) ∧ Below w.heap.size w w' := by
 go_enter Tryz.func63, Tryz.ntmps63
 go_wp2
 have K := Blk.new (w.alloc (.cells #[.int .i64 kind, .int .i64 id, .slice cn.a cn.n cn.c, .slice sn.a sn.n sn.c, .int .i64 tick, .slice cookie.a cookie.n cookie.c, .slice proof.a proof.n proof.c, .int .i64 epoch, .int .i64 seq, .slice body.a body.n body.c, .slice tag.a tag.n tag.c] 25)) 79 [.slice sn.a sn.n sn.c, .int .i64 epoch, .int .i64 seq, .slice tag.a tag.n tag.c, .slice body.a body.n body.c]
 rw [World.size_alloc] at K
 exact bodyPost_ret (v := .agg #[.slice sn.a sn.n sn.c, .int .i64 epoch, .int .i64 seq, .slice tag.a tag.n tag.c, .slice body.a body.n body.c]) (res1 rfl (is_cell rfl K aggParts)) rfl ⟨rfl, ((Below.refl _ _).alloc (Nat.le_refl _) _).alloc (by simp) _⟩

set_option maxHeartbeats 1600000 in
theorem finFrame (id : Int) (cn sn : Sl) (tick : Int) (cookie proof : Sl) (w : World) :
  Calls Tryz.prog 33 #[.agg #[.int .i64 id, .slice cn.a cn.n cn.c, .slice sn.a sn.n sn.c, .int .i64 tick, .slice cookie.a cookie.n cookie.c, .slice proof.a proof.n proof.c]] w fun e w' => e = .returned (.agg #[.int .i64 3, .int .i64 id, .slice cn.a cn.n cn.c, .slice sn.a sn.n sn.c, .int .i64 tick, .slice cookie.a cookie.n cookie.c, .slice proof.a proof.n proof.c, .int .i64 0, .int .i64 0, .slice none 0 0, .slice none 0 0]) ∧ Below w.heap.size w w' := by
 obtain ⟨x0, hx0⟩ : ∃ x0, (w.alloc (.cells #[.int .i64 id, .slice cn.a cn.n cn.c, .slice sn.a sn.n sn.c, .int .i64 tick, .slice cookie.a cookie.n cookie.c, .slice proof.a proof.n proof.c] 57)).alloc (.cells #[.int .i64 0, .int .i64 0, .slice none 0 0, .slice none 0 0, .int .i64 0, .slice none 0 0, .slice none 0 0, .int .i64 0, .int .i64 0, .slice none 0 0, .slice none 0 0] 25) = x0 := ⟨_, rfl⟩
 have HW0 := hid (hx0)
 have B0 : Hid (Below w.heap.size w x0) := by rw [← hx0]; exact ((Below.refl _ _).alloc (Nat.le_refl _) _).alloc (by simp) _
 have KA0 : Hid (Blk x0 w.heap.size 57 [.int .i64 id, .slice cn.a cn.n cn.c, .slice sn.a sn.n sn.c, .int .i64 tick, .slice cookie.a cookie.n cookie.c, .slice proof.a proof.n proof.c]) := by rw [← hx0]; exact (Blk.new w _ _).alloc _
 have K0 : Hid (Blk x0 (w.heap.size + 1) 25 [.int .i64 0, .int .i64 0, .slice none 0 0, .slice none 0 0, .int .i64 0, .slice none 0 0, .slice none 0 0, .int .i64 0, .int .i64 0, .slice none 0 0, .slice none 0 0]) := by
  have := Blk.new (w.alloc (.cells #[.int .i64 id, .slice cn.a cn.n cn.c, .slice sn.a sn.n sn.c, .int .i64 tick, .slice cookie.a cookie.n cookie.c, .slice proof.a proof.n proof.c] 57)) 25 [.int .i64 0, .int .i64 0, .slice none 0 0, .slice none 0 0, .int .i64 0, .slice none 0 0, .slice none 0 0, .int .i64 0, .int .i64 0, .slice none 0 0, .slice none 0 0]
  rw [World.size_alloc] at this
  rw [← hx0]; exact this
 clear hx0
 go_enter Tryz.func33, Tryz.ntmps33
 go_wp2_with fail
 rw [HW0.out]
 obtain ⟨ga, hga⟩ : ∃ ga, w.heap.size = ga := ⟨_, rfl⟩
 obtain ⟨gr, hgr⟩ : ∃ gr, w.heap.size + 1 = gr := ⟨_, rfl⟩
 have HG : Hid (w.heap.size = ga ∧ w.heap.size + 1 = gr) := ⟨hga, hgr⟩
 rw [hgr] at K0 ⊢
 rw [hga] at KA0
 rw [hga]
 clear hgr hga HW0
 refine (cookFrame cn sn tick cookie x0).mono ?_
 rintro e x1 ⟨rfl, b1⟩
 have B1 := hid (B0.out.trans (b1.mono B0.out.size))
 have K1 := hid (K0.out.later b1)
 have KA1 := hid (KA0.out.later b1)
 clear b1 B0 K0 KA0
 obtain ⟨x2, hx2⟩ : ∃ x2, x1.alloc (.cells #[.int .i64 2, .int .i64 0, .slice cn.a cn.n cn.c, .slice sn.a sn.n sn.c, .int .i64 tick, .slice cookie.a cookie.n cookie.c, .slice none 0 0, .int .i64 0, .int .i64 0, .slice none 0 0, .slice none 0 0] 25) = x2 := ⟨_, rfl⟩
 have HW2 := hid (hx2)
 have B2 : Hid (Below w.heap.size w x2) := by rw [← hx2]; exact B1.out.alloc B1.out.size _
 have K2 : Hid (Blk x2 gr 25 [.int .i64 0, .int .i64 0, .slice none 0 0, .slice none 0 0, .int .i64 0, .slice none 0 0, .slice none 0 0, .int .i64 0, .int .i64 0, .slice none 0 0, .slice none 0 0]) := by rw [← hx2]; exact K1.out.alloc _
 have KA2 : Hid (Blk x2 ga 57 [.int .i64 id, .slice cn.a cn.n cn.c, .slice sn.a sn.n sn.c, .int .i64 tick, .slice cookie.a cookie.n cookie.c, .slice proof.a proof.n proof.c]) := by rw [← hx2]; exact KA1.out.alloc _
 have KO2 : Hid (Blk x2 x1.heap.size 25 [.int .i64 2, .int .i64 0, .slice cn.a cn.n cn.c, .slice sn.a sn.n sn.c, .int .i64 tick, .slice cookie.a cookie.n cookie.c, .slice none 0 0, .int .i64 0, .int .i64 0, .slice none 0 0, .slice none 0 0]) := by rw [← hx2]; exact Blk.new _ _ _
 have LG : Hid (gr < x1.heap.size) := K1.out.lt
 clear hx2 B1 K1 KA1
 go_upto_region 2 with fail
 rw [HW2.out]
 obtain ⟨go, hgo⟩ : ∃ go, x1.heap.size = go := ⟨_, rfl⟩
 rw [hgo] at KO2 LG ⊢
 clear HW2 hgo
 have ne1 : ga ≠ go := by have := hid2 HG LG; omega
 have ne2 : go ≠ ga := by have := hid2 HG LG; omega
 have a0 := KA2.out.cell 0 rfl
 have a1 := KA2.out.cell 1 rfl
 have a2 := KA2.out.cell 2 rfl
 have a3 := KA2.out.cell 3 rfl
 have a4 := KA2.out.cell 4 rfl
 have a5 := KA2.out.cell 5 rfl
 have o0 := KO2.out.cell 0 rfl
 have q0 := KO2.out.frozen 0
 have o1 := KO2.out.cell 1 rfl
 have q1 := KO2.out.frozen 1
 have o6 := KO2.out.cell 6 rfl
 have q6 := KO2.out.frozen 6
 go_region
 clear a0 a1 a2 a3 a4 a5 o0 q0 o1 q1 o6 q6
 obtain ⟨x3, hx3⟩ : ∃ x3, (((x2.setCell ⟨go, 0, none⟩ (.int .i64 3)).setCell ⟨go, 1, none⟩ (.int .i64 id)).setCell ⟨go, 6, none⟩ (.slice proof.a proof.n proof.c)).drew = x3 := ⟨_, rfl⟩
 have hgo : w.heap.size ≤ go := by have := hid2 HG LG; omega
 have B3 : Hid (Below w.heap.size w x3) := by rw [← hx3]; exact (((B2.out.setCell hgo _).setCell hgo _).setCell hgo _).drew
 have K3 : Hid (Blk x3 gr 25 [.int .i64 0, .int .i64 0, .slice none 0 0, .slice none 0 0, .int .i64 0, .slice none 0 0, .slice none 0 0, .int .i64 0, .int .i64 0, .slice none 0 0, .slice none 0 0]) := by
  rw [← hx3]; exact ((K2.out.other (by show gr ≠ go; have := LG.out; omega) _).other (by show gr ≠ go; have := LG.out; omega) _).other (by show gr ≠ go; have := LG.out; omega) _
 have KO3 : Hid (Blk x3 go 25 [.int .i64 3, .int .i64 id, .slice cn.a cn.n cn.c, .slice sn.a sn.n sn.c, .int .i64 tick, .slice cookie.a cookie.n cookie.c, .slice proof.a proof.n proof.c, .int .i64 0, .int .i64 0, .slice none 0 0, .slice none 0 0]) := by
  rw [← hx3]; exact ((KO2.out.set 0 _ (by simp [maxLen])).set 1 _ (by simp [maxLen])).set 6 _ (by simp [maxLen])
 rw [hx3]
 clear hx3 B2 K2 KA2 KO2
 have c0 := K3.out.cell 0 rfl
 have f0 := K3.out.frozen 0
 have o0 := KO3.out.cell 0 rfl
 have c1 := K3.out.cell 1 rfl
 have f1 := K3.out.frozen 1
 have o1 := KO3.out.cell 1 rfl
 have c2 := K3.out.cell 2 rfl
 have f2 := K3.out.frozen 2
 have o2 := KO3.out.cell 2 rfl
 have c3 := K3.out.cell 3 rfl
 have f3 := K3.out.frozen 3
 have o3 := KO3.out.cell 3 rfl
 have c4 := K3.out.cell 4 rfl
 have f4 := K3.out.frozen 4
 have o4 := KO3.out.cell 4 rfl
 have c5 := K3.out.cell 5 rfl
 have f5 := K3.out.frozen 5
 have o5 := KO3.out.cell 5 rfl
 have c6 := K3.out.cell 6 rfl
 have f6 := K3.out.frozen 6
 have o6 := KO3.out.cell 6 rfl
 have c7 := K3.out.cell 7 rfl
 have f7 := K3.out.frozen 7
 have o7 := KO3.out.cell 7 rfl
 have c8 := K3.out.cell 8 rfl
 have f8 := K3.out.frozen 8
 have o8 := KO3.out.cell 8 rfl
 have c9 := K3.out.cell 9 rfl
 have f9 := K3.out.frozen 9
 have o9 := KO3.out.cell 9 rfl
 have c10 := K3.out.cell 10 rfl
 have f10 := K3.out.frozen 10
 have o10 := KO3.out.cell 10 rfl
 have ne3 : gr ≠ go := by have := LG.out; omega
 have ne4 : go ≠ gr := by have := LG.out; omega
 go_wp2
 have KF : Blk ((((((((((((x3).setCell ⟨gr, 0, none⟩ (.int .i64 3)).setCell ⟨gr, 1, none⟩ (.int .i64 id)).setCell ⟨gr, 2, none⟩ (.slice cn.a cn.n cn.c)).setCell ⟨gr, 3, none⟩ (.slice sn.a sn.n sn.c)).setCell ⟨gr, 4, none⟩ (.int .i64 tick)).setCell ⟨gr, 5, none⟩ (.slice cookie.a cookie.n cookie.c)).setCell ⟨gr, 6, none⟩ (.slice proof.a proof.n proof.c)).setCell ⟨gr, 7, none⟩ (.int .i64 0)).setCell ⟨gr, 8, none⟩ (.int .i64 0)).setCell ⟨gr, 9, none⟩ (.slice none 0 0)).setCell ⟨gr, 10, none⟩ (.slice none 0 0)) gr 25 [.int .i64 3, .int .i64 id, .slice cn.a cn.n cn.c, .slice sn.a sn.n sn.c, .int .i64 tick, .slice cookie.a cookie.n cookie.c, .slice proof.a proof.n proof.c, .int .i64 0, .int .i64 0, .slice none 0 0, .slice none 0 0] := (((((((((((K3.out).set 0 _ (by simp [maxLen])).set 1 _ (by simp [maxLen])).set 2 _ (by simp [maxLen])).set 3 _ (by simp [maxLen])).set 4 _ (by simp [maxLen])).set 5 _ (by simp [maxLen])).set 6 _ (by simp [maxLen])).set 7 _ (by simp [maxLen])).set 8 _ (by simp [maxLen])).set 9 _ (by simp [maxLen])).set 10 _ (by simp [maxLen])
 exact bodyPost_ret (v := .agg #[.int .i64 3, .int .i64 id, .slice cn.a cn.n cn.c, .slice sn.a sn.n sn.c, .int .i64 tick, .slice cookie.a cookie.n cookie.c, .slice proof.a proof.n proof.c, .int .i64 0, .int .i64 0, .slice none 0 0, .slice none 0 0]) (res1 rfl (is_cell rfl KF aggFr)) rfl ⟨rfl, (((((((((((B3.out).setCell (by show _ ≤ gr; have := HG.out; omega) _).setCell (by show _ ≤ gr; have := HG.out; omega) _).setCell (by show _ ≤ gr; have := HG.out; omega) _).setCell (by show _ ≤ gr; have := HG.out; omega) _).setCell (by show _ ≤ gr; have := HG.out; omega) _).setCell (by show _ ≤ gr; have := HG.out; omega) _).setCell (by show _ ≤ gr; have := HG.out; omega) _).setCell (by show _ ≤ gr; have := HG.out; omega) _).setCell (by show _ ≤ gr; have := HG.out; omega) _).setCell (by show _ ≤ gr; have := HG.out; omega) _).setCell (by show _ ≤ gr; have := HG.out; omega) _⟩

end Go.Proofs.YtpenhliaelhnoaaGreatDoor.FrW2
