/-
  What impl's FrameOk and Sealed answer, kind by kind.
-/
import Derived.Test.YtpenhliaelhnoaaGreatDoorVaFrE
set_option maxRecDepth 100000
namespace Go.Proofs.YtpenhliaelhnoaaGreatDoor.FrO
open Go.RowKit Mem Blk Words Zone Res FrZ FrP FrB FrT FrW FrW2 FrW3 FrE

theorem nilRd (w : World) : SRd w ⟨none, 0, 0⟩ [] := ⟨rfl, (fun i hi => by cases hi), fun _ => rfl, Nat.le_refl _, (fun z hz => by cases hz)⟩
theorem nil_iff (l : List Int) : ([] = l) ↔ l.length = 0 := ⟨fun h => by rw [← h]; rfl, fun h => (List.eq_nil_of_length_eq_zero h).symm⟩

set_option maxHeartbeats 8000000 in
theorem implOk1 (S : FrS) (di : Int) (lcn lsn : List Int) (dt : Int) (lco lpr : List Int) (de dq : Int) (lbo lta : List Int) (w : World) (h : FrRd w S ⟨1, di, lcn, lsn, dt, lco, lpr, de, dq, lbo, lta⟩) :
  Calls Tryz.prog 15 #[.agg #[.int .i64 1, .int .i64 di, .slice S.cn.a S.cn.n S.cn.c, .slice S.sn.a S.sn.n S.sn.c, .int .i64 dt, .slice S.cookie.a S.cookie.n S.cookie.c, .slice S.proof.a S.proof.n S.proof.c, .int .i64 de, .int .i64 dq, .slice S.body.a S.body.n S.body.c, .slice S.tag.a S.tag.n S.tag.c]] w fun e w' => e = .returned (.bool ((isIn di 1 9 && ((S.cn.n : Int) == 12)) && sameD ⟨1, di, lcn, [], 0, [], [], 0, 0, [], []⟩ ⟨1, di, lcn, lsn, dt, lco, lpr, de, dq, lbo, lta⟩)) ∧ Below w.heap.size w w' := by
 have HR := hid (h)
 obtain ⟨x0, hx0⟩ : ∃ x0, w.alloc (.cells #[.int .i64 1, .int .i64 di, .slice S.cn.a S.cn.n S.cn.c, .slice S.sn.a S.sn.n S.sn.c, .int .i64 dt, .slice S.cookie.a S.cookie.n S.cookie.c, .slice S.proof.a S.proof.n S.proof.c, .int .i64 de, .int .i64 dq, .slice S.body.a S.body.n S.body.c, .slice S.tag.a S.tag.n S.tag.c] 25) = x0 := ⟨_, rfl⟩
 have HW0 := hid (hx0)
 have B0 : Hid (Below w.heap.size w x0) := by rw [← hx0]; exact (Below.refl _ _).alloc (Nat.le_refl _) _
 have K0 : Hid (Blk x0 w.heap.size 25 [.int .i64 1, .int .i64 di, .slice S.cn.a S.cn.n S.cn.c, .slice S.sn.a S.sn.n S.sn.c, .int .i64 dt, .slice S.cookie.a S.cookie.n S.cookie.c, .slice S.proof.a S.proof.n S.proof.c, .int .i64 de, .int .i64 dq, .slice S.body.a S.body.n S.body.c, .slice S.tag.a S.tag.n S.tag.c]) := by rw [← hx0]; exact Blk.new w _ _
 clear hx0 h
 have q1 := ne1
 have q2 := mr1
 have q3 := mf1
 cases hr : (isIn di 1 9 && ((S.cn.n : Int) == 12)) with
 | false =>
  have HRR : Hid ((isIn di 1 9 && ((S.cn.n : Int) == 12)) = false) := hr
  clear hr
  go_enter Tryz.func15, Tryz.ntmps15
  go_wp2_with fail
  rw [HW0.out]
  generalize hga : w.heap.size = ga at K0 ⊢
  refine (wordOf1 di S.cn S.sn dt S.cookie S.proof de dq S.body S.tag x0).mono ?_
  rintro e x1 ⟨rfl, b1⟩
  have B1 := hid (B0.out.trans (b1.mono B0.out.size))
  clear b1
  go_upto_region 2 with fail
  first | go_region_with ((go_at_call 133; refine (initRight di S.cn x1.drew).mono ?_; rw [HRR.out]; rintro e x2 ⟨rfl, b2⟩; have B2 := hid (B1.out.drew.trans (b2.mono B1.out.size)))) | fail
  all_goals first | (go_wp2; go_ret; exact ⟨rfl, hga ▸ B2.out⟩) | (go_ret; exact ⟨rfl, hga ▸ B2.out⟩)
 | true =>
  have HRR : Hid ((isIn di 1 9 && ((S.cn.n : Int) == 12)) = true) := hr
  clear hr
  generalize hsd : sameD ⟨1, di, lcn, [], 0, [], [], 0, 0, [], []⟩ ⟨1, di, lcn, lsn, dt, lco, lpr, de, dq, lbo, lta⟩ = sd
  have HSD : Hid (sameD ⟨1, di, lcn, [], 0, [], [], 0, 0, [], []⟩ ⟨1, di, lcn, lsn, dt, lco, lpr, de, dq, lbo, lta⟩ = sd) := hsd
  clear hsd
  go_enter Tryz.func15, Tryz.ntmps15
  go_wp2_with fail
  rw [HW0.out]
  generalize hga : w.heap.size = ga at K0 ⊢
  refine (wordOf1 di S.cn S.sn dt S.cookie S.proof de dq S.body S.tag x0).mono ?_
  rintro e x1 ⟨rfl, b1⟩
  have B1 := hid (B0.out.trans (b1.mono B0.out.size))
  have K1 := hid (K0.out.later b1)
  obtain ⟨c0, c1, c2, c3, c4, c5, c6, c7, c8, c9, c10⟩ := cells11 K1.out
  clear b1
  go_upto_region 2 with fail
  go_region_held3 (fun w' => w'.cell? ⟨ga, 0, none⟩ = some (.int .i64 1) ∧ w'.cell? ⟨ga, 1, none⟩ = some (.int .i64 di) ∧ w'.cell? ⟨ga, 2, none⟩ = some (.slice S.cn.a S.cn.n S.cn.c) ∧ w'.cell? ⟨ga, 3, none⟩ = some (.slice S.sn.a S.sn.n S.sn.c) ∧ w'.cell? ⟨ga, 4, none⟩ = some (.int .i64 dt) ∧ w'.cell? ⟨ga, 5, none⟩ = some (.slice S.cookie.a S.cookie.n S.cookie.c) ∧ w'.cell? ⟨ga, 6, none⟩ = some (.slice S.proof.a S.proof.n S.proof.c) ∧ w'.cell? ⟨ga, 7, none⟩ = some (.int .i64 de) ∧ w'.cell? ⟨ga, 8, none⟩ = some (.int .i64 dq) ∧ w'.cell? ⟨ga, 9, none⟩ = some (.slice S.body.a S.body.n S.body.c) ∧ w'.cell? ⟨ga, 10, none⟩ = some (.slice S.tag.a S.tag.n S.tag.c)) (first | exact ⟨s0, s1, s2, s3, s4, s5, s6, s7, s8, s9, s10⟩ | exact ⟨r0, r1, r2, r3, r4, r5, r6, r7, r8, r9, r10⟩ | exact ⟨p0, p1, p2, p3, p4, p5, p6, p7, p8, p9, p10⟩ | exact ⟨c0, c1, c2, c3, c4, c5, c6, c7, c8, c9, c10⟩ | go_keep)
   (first
    | (go_at_call 133; refine (initRight di S.cn x1.drew).mono ?_; rw [HRR.out]; rintro e x2 ⟨rfl, b2⟩; have B2 := hid (B1.out.drew.trans (b2.mono B1.out.size)); have K2 : Hid (Blk x2 ga 25 [.int .i64 1, .int .i64 di, .slice S.cn.a S.cn.n S.cn.c, .slice S.sn.a S.sn.n S.sn.c, .int .i64 dt, .slice S.cookie.a S.cookie.n S.cookie.c, .slice S.proof.a S.proof.n S.proof.c, .int .i64 de, .int .i64 dq, .slice S.body.a S.body.n S.body.c, .slice S.tag.a S.tag.n S.tag.c]) := Blk.later (w := x1.drew) K1.out b2; have KC := K2.out; have p0 := KC.cell 0 rfl; have p1 := KC.cell 1 rfl; have p2 := KC.cell 2 rfl; have p3 := KC.cell 3 rfl; have p4 := KC.cell 4 rfl; have p5 := KC.cell 5 rfl; have p6 := KC.cell 6 rfl; have p7 := KC.cell 7 rfl; have p8 := KC.cell 8 rfl; have p9 := KC.cell 9 rfl; have p10 := KC.cell 10 rfl; clear KC b2)
    | (go_at_call 132; refine (initFrame di S.cn x2).mono ?_; rintro e x3 ⟨rfl, b3⟩; have B3 := hid (B2.out.trans (b3.mono B2.out.size)); have K3 := hid (K2.out.later b3); have KC := K3.out; have r0 := KC.cell 0 rfl; have r1 := KC.cell 1 rfl; have r2 := KC.cell 2 rfl; have r3 := KC.cell 3 rfl; have r4 := KC.cell 4 rfl; have r5 := KC.cell 5 rfl; have r6 := KC.cell 6 rfl; have r7 := KC.cell 7 rfl; have r8 := KC.cell 8 rfl; have r9 := KC.cell 9 rfl; have r10 := KC.cell 10 rfl; clear KC b3)
    | (go_at_call 43; have B := B3.out; refine (implSame ⟨S.cn, ⟨none, 0, 0⟩, ⟨none, 0, 0⟩, ⟨none, 0, 0⟩, ⟨none, 0, 0⟩, ⟨none, 0, 0⟩⟩ S ⟨1, di, lcn, [], 0, [], [], 0, 0, [], []⟩ ⟨1, di, lcn, lsn, dt, lco, lpr, de, dq, lbo, lta⟩ x3 ⟨(HR.out.later B).cn, nilRd _, nilRd _, nilRd _, nilRd _, nilRd _⟩ (HR.out.later B)).mono ?_; rw [HSD.out]; rintro e x4 ⟨rfl, b4⟩; have B4 := hid (B3.out.trans (b4.mono B3.out.size)); have K4 := hid (K3.out.later b4); have KC := K4.out; have s0 := KC.cell 0 rfl; have s1 := KC.cell 1 rfl; have s2 := KC.cell 2 rfl; have s3 := KC.cell 3 rfl; have s4 := KC.cell 4 rfl; have s5 := KC.cell 5 rfl; have s6 := KC.cell 6 rfl; have s7 := KC.cell 7 rfl; have s8 := KC.cell 8 rfl; have s9 := KC.cell 9 rfl; have s10 := KC.cell 10 rfl; clear KC b4 B))
  go_wp2
  go_ret
  exact ⟨by simp, hga ▸ B4.out⟩

set_option maxHeartbeats 8000000 in
theorem implOk2 (S : FrS) (di : Int) (lcn lsn : List Int) (dt : Int) (lco lpr : List Int) (de dq : Int) (lbo lta : List Int) (w : World) (h : FrRd w S ⟨2, di, lcn, lsn, dt, lco, lpr, de, dq, lbo, lta⟩) :
  Calls Tryz.prog 15 #[.agg #[.int .i64 2, .int .i64 di, .slice S.cn.a S.cn.n S.cn.c, .slice S.sn.a S.sn.n S.sn.c, .int .i64 dt, .slice S.cookie.a S.cookie.n S.cookie.c, .slice S.proof.a S.proof.n S.proof.c, .int .i64 de, .int .i64 dq, .slice S.body.a S.body.n S.body.c, .slice S.tag.a S.tag.n S.tag.c]] w fun e w' => e = .returned (.bool ((((S.cn.n : Int) == 12) && (((S.sn.n : Int) == 12) && (isIn dt 0 1000000 && ((S.cookie.n : Int) == 16)))) && sameD ⟨2, 0, lcn, lsn, dt, lco, [], 0, 0, [], []⟩ ⟨2, di, lcn, lsn, dt, lco, lpr, de, dq, lbo, lta⟩)) ∧ Below w.heap.size w w' := by
 have HR := hid (h)
 obtain ⟨x0, hx0⟩ : ∃ x0, w.alloc (.cells #[.int .i64 2, .int .i64 di, .slice S.cn.a S.cn.n S.cn.c, .slice S.sn.a S.sn.n S.sn.c, .int .i64 dt, .slice S.cookie.a S.cookie.n S.cookie.c, .slice S.proof.a S.proof.n S.proof.c, .int .i64 de, .int .i64 dq, .slice S.body.a S.body.n S.body.c, .slice S.tag.a S.tag.n S.tag.c] 25) = x0 := ⟨_, rfl⟩
 have HW0 := hid (hx0)
 have B0 : Hid (Below w.heap.size w x0) := by rw [← hx0]; exact (Below.refl _ _).alloc (Nat.le_refl _) _
 have K0 : Hid (Blk x0 w.heap.size 25 [.int .i64 2, .int .i64 di, .slice S.cn.a S.cn.n S.cn.c, .slice S.sn.a S.sn.n S.sn.c, .int .i64 dt, .slice S.cookie.a S.cookie.n S.cookie.c, .slice S.proof.a S.proof.n S.proof.c, .int .i64 de, .int .i64 dq, .slice S.body.a S.body.n S.body.c, .slice S.tag.a S.tag.n S.tag.c]) := by rw [← hx0]; exact Blk.new w _ _
 clear hx0 h
 have q1 := ne2
 have q2 := mr2
 have q3 := mf2
 cases hr : (((S.cn.n : Int) == 12) && (((S.sn.n : Int) == 12) && (isIn dt 0 1000000 && ((S.cookie.n : Int) == 16)))) with
 | false =>
  have HRR : Hid ((((S.cn.n : Int) == 12) && (((S.sn.n : Int) == 12) && (isIn dt 0 1000000 && ((S.cookie.n : Int) == 16)))) = false) := hr
  clear hr
  go_enter Tryz.func15, Tryz.ntmps15
  go_wp2_with fail
  rw [HW0.out]
  generalize hga : w.heap.size = ga at K0 ⊢
  refine (wordOf2 di S.cn S.sn dt S.cookie S.proof de dq S.body S.tag x0).mono ?_
  rintro e x1 ⟨rfl, b1⟩
  have B1 := hid (B0.out.trans (b1.mono B0.out.size))
  clear b1
  go_upto_region 2 with fail
  first | go_region_with ((go_at_call 69; refine (cookRight S.cn S.sn dt S.cookie x1.drew).mono ?_; rw [HRR.out]; rintro e x2 ⟨rfl, b2⟩; have B2 := hid (B1.out.drew.trans (b2.mono B1.out.size)))) | fail
  all_goals first | (go_wp2; go_ret; exact ⟨rfl, hga ▸ B2.out⟩) | (go_ret; exact ⟨rfl, hga ▸ B2.out⟩)
 | true =>
  have HRR : Hid ((((S.cn.n : Int) == 12) && (((S.sn.n : Int) == 12) && (isIn dt 0 1000000 && ((S.cookie.n : Int) == 16)))) = true) := hr
  clear hr
  generalize hsd : sameD ⟨2, 0, lcn, lsn, dt, lco, [], 0, 0, [], []⟩ ⟨2, di, lcn, lsn, dt, lco, lpr, de, dq, lbo, lta⟩ = sd
  have HSD : Hid (sameD ⟨2, 0, lcn, lsn, dt, lco, [], 0, 0, [], []⟩ ⟨2, di, lcn, lsn, dt, lco, lpr, de, dq, lbo, lta⟩ = sd) := hsd
  clear hsd
  go_enter Tryz.func15, Tryz.ntmps15
  go_wp2_with fail
  rw [HW0.out]
  generalize hga : w.heap.size = ga at K0 ⊢
  refine (wordOf2 di S.cn S.sn dt S.cookie S.proof de dq S.body S.tag x0).mono ?_
  rintro e x1 ⟨rfl, b1⟩
  have B1 := hid (B0.out.trans (b1.mono B0.out.size))
  have K1 := hid (K0.out.later b1)
  obtain ⟨c0, c1, c2, c3, c4, c5, c6, c7, c8, c9, c10⟩ := cells11 K1.out
  clear b1
  go_upto_region 2 with fail
  go_region_held3 (fun w' => w'.cell? ⟨ga, 0, none⟩ = some (.int .i64 2) ∧ w'.cell? ⟨ga, 1, none⟩ = some (.int .i64 di) ∧ w'.cell? ⟨ga, 2, none⟩ = some (.slice S.cn.a S.cn.n S.cn.c) ∧ w'.cell? ⟨ga, 3, none⟩ = some (.slice S.sn.a S.sn.n S.sn.c) ∧ w'.cell? ⟨ga, 4, none⟩ = some (.int .i64 dt) ∧ w'.cell? ⟨ga, 5, none⟩ = some (.slice S.cookie.a S.cookie.n S.cookie.c) ∧ w'.cell? ⟨ga, 6, none⟩ = some (.slice S.proof.a S.proof.n S.proof.c) ∧ w'.cell? ⟨ga, 7, none⟩ = some (.int .i64 de) ∧ w'.cell? ⟨ga, 8, none⟩ = some (.int .i64 dq) ∧ w'.cell? ⟨ga, 9, none⟩ = some (.slice S.body.a S.body.n S.body.c) ∧ w'.cell? ⟨ga, 10, none⟩ = some (.slice S.tag.a S.tag.n S.tag.c)) (first | exact ⟨s0, s1, s2, s3, s4, s5, s6, s7, s8, s9, s10⟩ | exact ⟨r0, r1, r2, r3, r4, r5, r6, r7, r8, r9, r10⟩ | exact ⟨p0, p1, p2, p3, p4, p5, p6, p7, p8, p9, p10⟩ | exact ⟨c0, c1, c2, c3, c4, c5, c6, c7, c8, c9, c10⟩ | go_keep)
   (first
    | (go_at_call 69; refine (cookRight S.cn S.sn dt S.cookie x1.drew).mono ?_; rw [HRR.out]; rintro e x2 ⟨rfl, b2⟩; have B2 := hid (B1.out.drew.trans (b2.mono B1.out.size)); have K2 : Hid (Blk x2 ga 25 [.int .i64 2, .int .i64 di, .slice S.cn.a S.cn.n S.cn.c, .slice S.sn.a S.sn.n S.sn.c, .int .i64 dt, .slice S.cookie.a S.cookie.n S.cookie.c, .slice S.proof.a S.proof.n S.proof.c, .int .i64 de, .int .i64 dq, .slice S.body.a S.body.n S.body.c, .slice S.tag.a S.tag.n S.tag.c]) := Blk.later (w := x1.drew) K1.out b2; have KC := K2.out; have p0 := KC.cell 0 rfl; have p1 := KC.cell 1 rfl; have p2 := KC.cell 2 rfl; have p3 := KC.cell 3 rfl; have p4 := KC.cell 4 rfl; have p5 := KC.cell 5 rfl; have p6 := KC.cell 6 rfl; have p7 := KC.cell 7 rfl; have p8 := KC.cell 8 rfl; have p9 := KC.cell 9 rfl; have p10 := KC.cell 10 rfl; clear KC b2)
    | (go_at_call 52; refine (cookFrame S.cn S.sn dt S.cookie x2).mono ?_; rintro e x3 ⟨rfl, b3⟩; have B3 := hid (B2.out.trans (b3.mono B2.out.size)); have K3 := hid (K2.out.later b3); have KC := K3.out; have r0 := KC.cell 0 rfl; have r1 := KC.cell 1 rfl; have r2 := KC.cell 2 rfl; have r3 := KC.cell 3 rfl; have r4 := KC.cell 4 rfl; have r5 := KC.cell 5 rfl; have r6 := KC.cell 6 rfl; have r7 := KC.cell 7 rfl; have r8 := KC.cell 8 rfl; have r9 := KC.cell 9 rfl; have r10 := KC.cell 10 rfl; clear KC b3)
    | (go_at_call 43; have B := B3.out; refine (implSame ⟨S.cn, S.sn, S.cookie, ⟨none, 0, 0⟩, ⟨none, 0, 0⟩, ⟨none, 0, 0⟩⟩ S ⟨2, 0, lcn, lsn, dt, lco, [], 0, 0, [], []⟩ ⟨2, di, lcn, lsn, dt, lco, lpr, de, dq, lbo, lta⟩ x3 ⟨(HR.out.later B).cn, (HR.out.later B).sn, (HR.out.later B).cookie, nilRd _, nilRd _, nilRd _⟩ (HR.out.later B)).mono ?_; rw [HSD.out]; rintro e x4 ⟨rfl, b4⟩; have B4 := hid (B3.out.trans (b4.mono B3.out.size)); have K4 := hid (K3.out.later b4); have KC := K4.out; have s0 := KC.cell 0 rfl; have s1 := KC.cell 1 rfl; have s2 := KC.cell 2 rfl; have s3 := KC.cell 3 rfl; have s4 := KC.cell 4 rfl; have s5 := KC.cell 5 rfl; have s6 := KC.cell 6 rfl; have s7 := KC.cell 7 rfl; have s8 := KC.cell 8 rfl; have s9 := KC.cell 9 rfl; have s10 := KC.cell 10 rfl; clear KC b4 B))
  go_wp2
  go_ret
  exact ⟨by simp, hga ▸ B4.out⟩

set_option maxHeartbeats 8000000 in
theorem implOk3 (S : FrS) (di : Int) (lcn lsn : List Int) (dt : Int) (lco lpr : List Int) (de dq : Int) (lbo lta : List Int) (w : World) (h : FrRd w S ⟨3, di, lcn, lsn, dt, lco, lpr, de, dq, lbo, lta⟩) :
  Calls Tryz.prog 15 #[.agg #[.int .i64 3, .int .i64 di, .slice S.cn.a S.cn.n S.cn.c, .slice S.sn.a S.sn.n S.sn.c, .int .i64 dt, .slice S.cookie.a S.cookie.n S.cookie.c, .slice S.proof.a S.proof.n S.proof.c, .int .i64 de, .int .i64 dq, .slice S.body.a S.body.n S.body.c, .slice S.tag.a S.tag.n S.tag.c]] w fun e w' => e = .returned (.bool ((isIn di 1 9 && ((((S.cn.n : Int) == 12) && (((S.sn.n : Int) == 12) && (isIn dt 0 1000000 && ((S.cookie.n : Int) == 16)))) && ((S.proof.n : Int) == 16))) && sameD ⟨3, di, lcn, lsn, dt, lco, lpr, 0, 0, [], []⟩ ⟨3, di, lcn, lsn, dt, lco, lpr, de, dq, lbo, lta⟩)) ∧ Below w.heap.size w w' := by
 have HR := hid (h)
 obtain ⟨x0, hx0⟩ : ∃ x0, w.alloc (.cells #[.int .i64 3, .int .i64 di, .slice S.cn.a S.cn.n S.cn.c, .slice S.sn.a S.sn.n S.sn.c, .int .i64 dt, .slice S.cookie.a S.cookie.n S.cookie.c, .slice S.proof.a S.proof.n S.proof.c, .int .i64 de, .int .i64 dq, .slice S.body.a S.body.n S.body.c, .slice S.tag.a S.tag.n S.tag.c] 25) = x0 := ⟨_, rfl⟩
 have HW0 := hid (hx0)
 have B0 : Hid (Below w.heap.size w x0) := by rw [← hx0]; exact (Below.refl _ _).alloc (Nat.le_refl _) _
 have K0 : Hid (Blk x0 w.heap.size 25 [.int .i64 3, .int .i64 di, .slice S.cn.a S.cn.n S.cn.c, .slice S.sn.a S.sn.n S.sn.c, .int .i64 dt, .slice S.cookie.a S.cookie.n S.cookie.c, .slice S.proof.a S.proof.n S.proof.c, .int .i64 de, .int .i64 dq, .slice S.body.a S.body.n S.body.c, .slice S.tag.a S.tag.n S.tag.c]) := by rw [← hx0]; exact Blk.new w _ _
 clear hx0 h
 have q1 := ne3
 have q2 := mr3
 have q3 := mf3
 cases hr : (isIn di 1 9 && ((((S.cn.n : Int) == 12) && (((S.sn.n : Int) == 12) && (isIn dt 0 1000000 && ((S.cookie.n : Int) == 16)))) && ((S.proof.n : Int) == 16))) with
 | false =>
  have HRR : Hid ((isIn di 1 9 && ((((S.cn.n : Int) == 12) && (((S.sn.n : Int) == 12) && (isIn dt 0 1000000 && ((S.cookie.n : Int) == 16)))) && ((S.proof.n : Int) == 16))) = false) := hr
  clear hr
  go_enter Tryz.func15, Tryz.ntmps15
  go_wp2_with fail
  rw [HW0.out]
  generalize hga : w.heap.size = ga at K0 ⊢
  refine (wordOf3 di S.cn S.sn dt S.cookie S.proof de dq S.body S.tag x0).mono ?_
  rintro e x1 ⟨rfl, b1⟩
  have B1 := hid (B0.out.trans (b1.mono B0.out.size))
  clear b1
  go_upto_region 2 with fail
  first | go_region_with ((go_at_call 131; refine (finRight di S.cn S.sn dt S.cookie S.proof x1.drew).mono ?_; rw [HRR.out]; rintro e x2 ⟨rfl, b2⟩; have B2 := hid (B1.out.drew.trans (b2.mono B1.out.size)))) | fail
  all_goals first | (go_wp2; go_ret; exact ⟨rfl, hga ▸ B2.out⟩) | (go_ret; exact ⟨rfl, hga ▸ B2.out⟩)
 | true =>
  have HRR : Hid ((isIn di 1 9 && ((((S.cn.n : Int) == 12) && (((S.sn.n : Int) == 12) && (isIn dt 0 1000000 && ((S.cookie.n : Int) == 16)))) && ((S.proof.n : Int) == 16))) = true) := hr
  clear hr
  generalize hsd : sameD ⟨3, di, lcn, lsn, dt, lco, lpr, 0, 0, [], []⟩ ⟨3, di, lcn, lsn, dt, lco, lpr, de, dq, lbo, lta⟩ = sd
  have HSD : Hid (sameD ⟨3, di, lcn, lsn, dt, lco, lpr, 0, 0, [], []⟩ ⟨3, di, lcn, lsn, dt, lco, lpr, de, dq, lbo, lta⟩ = sd) := hsd
  clear hsd
  go_enter Tryz.func15, Tryz.ntmps15
  go_wp2_with fail
  rw [HW0.out]
  generalize hga : w.heap.size = ga at K0 ⊢
  refine (wordOf3 di S.cn S.sn dt S.cookie S.proof de dq S.body S.tag x0).mono ?_
  rintro e x1 ⟨rfl, b1⟩
  have B1 := hid (B0.out.trans (b1.mono B0.out.size))
  have K1 := hid (K0.out.later b1)
  obtain ⟨c0, c1, c2, c3, c4, c5, c6, c7, c8, c9, c10⟩ := cells11 K1.out
  clear b1
  go_upto_region 2 with fail
  go_region_held3 (fun w' => w'.cell? ⟨ga, 0, none⟩ = some (.int .i64 3) ∧ w'.cell? ⟨ga, 1, none⟩ = some (.int .i64 di) ∧ w'.cell? ⟨ga, 2, none⟩ = some (.slice S.cn.a S.cn.n S.cn.c) ∧ w'.cell? ⟨ga, 3, none⟩ = some (.slice S.sn.a S.sn.n S.sn.c) ∧ w'.cell? ⟨ga, 4, none⟩ = some (.int .i64 dt) ∧ w'.cell? ⟨ga, 5, none⟩ = some (.slice S.cookie.a S.cookie.n S.cookie.c) ∧ w'.cell? ⟨ga, 6, none⟩ = some (.slice S.proof.a S.proof.n S.proof.c) ∧ w'.cell? ⟨ga, 7, none⟩ = some (.int .i64 de) ∧ w'.cell? ⟨ga, 8, none⟩ = some (.int .i64 dq) ∧ w'.cell? ⟨ga, 9, none⟩ = some (.slice S.body.a S.body.n S.body.c) ∧ w'.cell? ⟨ga, 10, none⟩ = some (.slice S.tag.a S.tag.n S.tag.c)) (first | exact ⟨s0, s1, s2, s3, s4, s5, s6, s7, s8, s9, s10⟩ | exact ⟨r0, r1, r2, r3, r4, r5, r6, r7, r8, r9, r10⟩ | exact ⟨p0, p1, p2, p3, p4, p5, p6, p7, p8, p9, p10⟩ | exact ⟨c0, c1, c2, c3, c4, c5, c6, c7, c8, c9, c10⟩ | go_keep)
   (first
    | (go_at_call 131; refine (finRight di S.cn S.sn dt S.cookie S.proof x1.drew).mono ?_; rw [HRR.out]; rintro e x2 ⟨rfl, b2⟩; have B2 := hid (B1.out.drew.trans (b2.mono B1.out.size)); have K2 : Hid (Blk x2 ga 25 [.int .i64 3, .int .i64 di, .slice S.cn.a S.cn.n S.cn.c, .slice S.sn.a S.sn.n S.sn.c, .int .i64 dt, .slice S.cookie.a S.cookie.n S.cookie.c, .slice S.proof.a S.proof.n S.proof.c, .int .i64 de, .int .i64 dq, .slice S.body.a S.body.n S.body.c, .slice S.tag.a S.tag.n S.tag.c]) := Blk.later (w := x1.drew) K1.out b2; have KC := K2.out; have p0 := KC.cell 0 rfl; have p1 := KC.cell 1 rfl; have p2 := KC.cell 2 rfl; have p3 := KC.cell 3 rfl; have p4 := KC.cell 4 rfl; have p5 := KC.cell 5 rfl; have p6 := KC.cell 6 rfl; have p7 := KC.cell 7 rfl; have p8 := KC.cell 8 rfl; have p9 := KC.cell 9 rfl; have p10 := KC.cell 10 rfl; clear KC b2)
    | (go_at_call 33; refine (finFrame di S.cn S.sn dt S.cookie S.proof x2).mono ?_; rintro e x3 ⟨rfl, b3⟩; have B3 := hid (B2.out.trans (b3.mono B2.out.size)); have K3 := hid (K2.out.later b3); have KC := K3.out; have r0 := KC.cell 0 rfl; have r1 := KC.cell 1 rfl; have r2 := KC.cell 2 rfl; have r3 := KC.cell 3 rfl; have r4 := KC.cell 4 rfl; have r5 := KC.cell 5 rfl; have r6 := KC.cell 6 rfl; have r7 := KC.cell 7 rfl; have r8 := KC.cell 8 rfl; have r9 := KC.cell 9 rfl; have r10 := KC.cell 10 rfl; clear KC b3)
    | (go_at_call 43; have B := B3.out; refine (implSame ⟨S.cn, S.sn, S.cookie, S.proof, ⟨none, 0, 0⟩, ⟨none, 0, 0⟩⟩ S ⟨3, di, lcn, lsn, dt, lco, lpr, 0, 0, [], []⟩ ⟨3, di, lcn, lsn, dt, lco, lpr, de, dq, lbo, lta⟩ x3 ⟨(HR.out.later B).cn, (HR.out.later B).sn, (HR.out.later B).cookie, (HR.out.later B).proof, nilRd _, nilRd _⟩ (HR.out.later B)).mono ?_; rw [HSD.out]; rintro e x4 ⟨rfl, b4⟩; have B4 := hid (B3.out.trans (b4.mono B3.out.size)); have K4 := hid (K3.out.later b4); have KC := K4.out; have s0 := KC.cell 0 rfl; have s1 := KC.cell 1 rfl; have s2 := KC.cell 2 rfl; have s3 := KC.cell 3 rfl; have s4 := KC.cell 4 rfl; have s5 := KC.cell 5 rfl; have s6 := KC.cell 6 rfl; have s7 := KC.cell 7 rfl; have s8 := KC.cell 8 rfl; have s9 := KC.cell 9 rfl; have s10 := KC.cell 10 rfl; clear KC b4 B))
  go_wp2
  go_ret
  exact ⟨by simp, hga ▸ B4.out⟩

set_option maxHeartbeats 8000000 in
theorem implOk4 (S : FrS) (di : Int) (lcn lsn : List Int) (dt : Int) (lco lpr : List Int) (de dq : Int) (lbo lta : List Int) (w : World) (h : FrRd w S ⟨4, di, lcn, lsn, dt, lco, lpr, de, dq, lbo, lta⟩) :
  Calls Tryz.prog 15 #[.agg #[.int .i64 4, .int .i64 di, .slice S.cn.a S.cn.n S.cn.c, .slice S.sn.a S.sn.n S.sn.c, .int .i64 dt, .slice S.cookie.a S.cookie.n S.cookie.c, .slice S.proof.a S.proof.n S.proof.c, .int .i64 de, .int .i64 dq, .slice S.body.a S.body.n S.body.c, .slice S.tag.a S.tag.n S.tag.c]] w fun e w' => e = .returned (.bool (((((S.sn.n : Int) == 12) && (isIn de 0 4294967295 && (isIn dq 0 281474976710655 && ((S.tag.n : Int) == 16)))) && (decide ((S.body.n : Int) ≤ 40))) && sameD ⟨4, 0, [], lsn, 0, [], [], de, dq, lbo, lta⟩ ⟨4, di, lcn, lsn, dt, lco, lpr, de, dq, lbo, lta⟩)) ∧ Below w.heap.size w w' := by
 have HR := hid (h)
 obtain ⟨x0, hx0⟩ : ∃ x0, w.alloc (.cells #[.int .i64 4, .int .i64 di, .slice S.cn.a S.cn.n S.cn.c, .slice S.sn.a S.sn.n S.sn.c, .int .i64 dt, .slice S.cookie.a S.cookie.n S.cookie.c, .slice S.proof.a S.proof.n S.proof.c, .int .i64 de, .int .i64 dq, .slice S.body.a S.body.n S.body.c, .slice S.tag.a S.tag.n S.tag.c] 25) = x0 := ⟨_, rfl⟩
 have HW0 := hid (hx0)
 have B0 : Hid (Below w.heap.size w x0) := by rw [← hx0]; exact (Below.refl _ _).alloc (Nat.le_refl _) _
 have K0 : Hid (Blk x0 w.heap.size 25 [.int .i64 4, .int .i64 di, .slice S.cn.a S.cn.n S.cn.c, .slice S.sn.a S.sn.n S.sn.c, .int .i64 dt, .slice S.cookie.a S.cookie.n S.cookie.c, .slice S.proof.a S.proof.n S.proof.c, .int .i64 de, .int .i64 dq, .slice S.body.a S.body.n S.body.c, .slice S.tag.a S.tag.n S.tag.c]) := by rw [← hx0]; exact Blk.new w _ _
 clear hx0 h
 have q1 := ne4
 have q2 := mr4
 have q3 := mf4
 cases hr : ((((S.sn.n : Int) == 12) && (isIn de 0 4294967295 && (isIn dq 0 281474976710655 && ((S.tag.n : Int) == 16)))) && (decide ((S.body.n : Int) ≤ 40))) with
 | false =>
  have HRR : Hid (((((S.sn.n : Int) == 12) && (isIn de 0 4294967295 && (isIn dq 0 281474976710655 && ((S.tag.n : Int) == 16)))) && (decide ((S.body.n : Int) ≤ 40))) = false) := hr
  clear hr
  go_enter Tryz.func15, Tryz.ntmps15
  go_wp2_with fail
  rw [HW0.out]
  generalize hga : w.heap.size = ga at K0 ⊢
  refine (wordOf4 di S.cn S.sn dt S.cookie S.proof de dq S.body S.tag x0).mono ?_
  rintro e x1 ⟨rfl, b1⟩
  have B1 := hid (B0.out.trans (b1.mono B0.out.size))
  clear b1
  go_upto_region 2 with fail
  first | go_region_with ((go_at_call 139; refine (dataRight S.sn de dq S.tag S.body x1.drew).mono ?_; rw [HRR.out]; rintro e x2 ⟨rfl, b2⟩; have B2 := hid (B1.out.drew.trans (b2.mono B1.out.size)))) | fail
  all_goals first | (go_wp2; go_ret; exact ⟨rfl, hga ▸ B2.out⟩) | (go_ret; exact ⟨rfl, hga ▸ B2.out⟩)
 | true =>
  have HRR : Hid (((((S.sn.n : Int) == 12) && (isIn de 0 4294967295 && (isIn dq 0 281474976710655 && ((S.tag.n : Int) == 16)))) && (decide ((S.body.n : Int) ≤ 40))) = true) := hr
  clear hr
  generalize hsd : sameD ⟨4, 0, [], lsn, 0, [], [], de, dq, lbo, lta⟩ ⟨4, di, lcn, lsn, dt, lco, lpr, de, dq, lbo, lta⟩ = sd
  have HSD : Hid (sameD ⟨4, 0, [], lsn, 0, [], [], de, dq, lbo, lta⟩ ⟨4, di, lcn, lsn, dt, lco, lpr, de, dq, lbo, lta⟩ = sd) := hsd
  clear hsd
  go_enter Tryz.func15, Tryz.ntmps15
  go_wp2_with fail
  rw [HW0.out]
  generalize hga : w.heap.size = ga at K0 ⊢
  refine (wordOf4 di S.cn S.sn dt S.cookie S.proof de dq S.body S.tag x0).mono ?_
  rintro e x1 ⟨rfl, b1⟩
  have B1 := hid (B0.out.trans (b1.mono B0.out.size))
  have K1 := hid (K0.out.later b1)
  obtain ⟨c0, c1, c2, c3, c4, c5, c6, c7, c8, c9, c10⟩ := cells11 K1.out
  clear b1
  go_upto_region 2 with fail
  go_region_held3 (fun w' => w'.cell? ⟨ga, 0, none⟩ = some (.int .i64 4) ∧ w'.cell? ⟨ga, 1, none⟩ = some (.int .i64 di) ∧ w'.cell? ⟨ga, 2, none⟩ = some (.slice S.cn.a S.cn.n S.cn.c) ∧ w'.cell? ⟨ga, 3, none⟩ = some (.slice S.sn.a S.sn.n S.sn.c) ∧ w'.cell? ⟨ga, 4, none⟩ = some (.int .i64 dt) ∧ w'.cell? ⟨ga, 5, none⟩ = some (.slice S.cookie.a S.cookie.n S.cookie.c) ∧ w'.cell? ⟨ga, 6, none⟩ = some (.slice S.proof.a S.proof.n S.proof.c) ∧ w'.cell? ⟨ga, 7, none⟩ = some (.int .i64 de) ∧ w'.cell? ⟨ga, 8, none⟩ = some (.int .i64 dq) ∧ w'.cell? ⟨ga, 9, none⟩ = some (.slice S.body.a S.body.n S.body.c) ∧ w'.cell? ⟨ga, 10, none⟩ = some (.slice S.tag.a S.tag.n S.tag.c)) (first | exact ⟨s0, s1, s2, s3, s4, s5, s6, s7, s8, s9, s10⟩ | exact ⟨r0, r1, r2, r3, r4, r5, r6, r7, r8, r9, r10⟩ | exact ⟨p0, p1, p2, p3, p4, p5, p6, p7, p8, p9, p10⟩ | exact ⟨c0, c1, c2, c3, c4, c5, c6, c7, c8, c9, c10⟩ | go_keep)
   (first
    | (go_at_call 139; refine (dataRight S.sn de dq S.tag S.body x1.drew).mono ?_; rw [HRR.out]; rintro e x2 ⟨rfl, b2⟩; have B2 := hid (B1.out.drew.trans (b2.mono B1.out.size)); have K2 : Hid (Blk x2 ga 25 [.int .i64 4, .int .i64 di, .slice S.cn.a S.cn.n S.cn.c, .slice S.sn.a S.sn.n S.sn.c, .int .i64 dt, .slice S.cookie.a S.cookie.n S.cookie.c, .slice S.proof.a S.proof.n S.proof.c, .int .i64 de, .int .i64 dq, .slice S.body.a S.body.n S.body.c, .slice S.tag.a S.tag.n S.tag.c]) := Blk.later (w := x1.drew) K1.out b2; have KC := K2.out; have p0 := KC.cell 0 rfl; have p1 := KC.cell 1 rfl; have p2 := KC.cell 2 rfl; have p3 := KC.cell 3 rfl; have p4 := KC.cell 4 rfl; have p5 := KC.cell 5 rfl; have p6 := KC.cell 6 rfl; have p7 := KC.cell 7 rfl; have p8 := KC.cell 8 rfl; have p9 := KC.cell 9 rfl; have p10 := KC.cell 10 rfl; clear KC b2)
    | (go_at_call 138; refine (dataFrame S.sn de dq S.tag S.body x2).mono ?_; rintro e x3 ⟨rfl, b3⟩; have B3 := hid (B2.out.trans (b3.mono B2.out.size)); have K3 := hid (K2.out.later b3); have KC := K3.out; have r0 := KC.cell 0 rfl; have r1 := KC.cell 1 rfl; have r2 := KC.cell 2 rfl; have r3 := KC.cell 3 rfl; have r4 := KC.cell 4 rfl; have r5 := KC.cell 5 rfl; have r6 := KC.cell 6 rfl; have r7 := KC.cell 7 rfl; have r8 := KC.cell 8 rfl; have r9 := KC.cell 9 rfl; have r10 := KC.cell 10 rfl; clear KC b3)
    | (go_at_call 43; have B := B3.out; refine (implSame ⟨⟨none, 0, 0⟩, S.sn, ⟨none, 0, 0⟩, ⟨none, 0, 0⟩, S.body, S.tag⟩ S ⟨4, 0, [], lsn, 0, [], [], de, dq, lbo, lta⟩ ⟨4, di, lcn, lsn, dt, lco, lpr, de, dq, lbo, lta⟩ x3 ⟨nilRd _, (HR.out.later B).sn, nilRd _, nilRd _, (HR.out.later B).body, (HR.out.later B).tag⟩ (HR.out.later B)).mono ?_; rw [HSD.out]; rintro e x4 ⟨rfl, b4⟩; have B4 := hid (B3.out.trans (b4.mono B3.out.size)); have K4 := hid (K3.out.later b4); have KC := K4.out; have s0 := KC.cell 0 rfl; have s1 := KC.cell 1 rfl; have s2 := KC.cell 2 rfl; have s3 := KC.cell 3 rfl; have s4 := KC.cell 4 rfl; have s5 := KC.cell 5 rfl; have s6 := KC.cell 6 rfl; have s7 := KC.cell 7 rfl; have s8 := KC.cell 8 rfl; have s9 := KC.cell 9 rfl; have s10 := KC.cell 10 rfl; clear KC b4 B))
  go_wp2
  go_ret
  exact ⟨by simp, hga ▸ B4.out⟩

set_option maxHeartbeats 8000000 in
theorem implOk5 (S : FrS) (di : Int) (lcn lsn : List Int) (dt : Int) (lco lpr : List Int) (de dq : Int) (lbo lta : List Int) (w : World) (h : FrRd w S ⟨5, di, lcn, lsn, dt, lco, lpr, de, dq, lbo, lta⟩) :
  Calls Tryz.prog 15 #[.agg #[.int .i64 5, .int .i64 di, .slice S.cn.a S.cn.n S.cn.c, .slice S.sn.a S.sn.n S.sn.c, .int .i64 dt, .slice S.cookie.a S.cookie.n S.cookie.c, .slice S.proof.a S.proof.n S.proof.c, .int .i64 de, .int .i64 dq, .slice S.body.a S.body.n S.body.c, .slice S.tag.a S.tag.n S.tag.c]] w fun e w' => e = .returned (.bool (((((S.sn.n : Int) == 12) && (isIn de 0 4294967295 && (isIn dq 0 281474976710655 && ((S.tag.n : Int) == 16)))) && ((S.body.n : Int) == 12)) && sameD ⟨5, 0, [], lsn, 0, [], [], de, dq, lbo, lta⟩ ⟨5, di, lcn, lsn, dt, lco, lpr, de, dq, lbo, lta⟩)) ∧ Below w.heap.size w w' := by
 have HR := hid (h)
 obtain ⟨x0, hx0⟩ : ∃ x0, w.alloc (.cells #[.int .i64 5, .int .i64 di, .slice S.cn.a S.cn.n S.cn.c, .slice S.sn.a S.sn.n S.sn.c, .int .i64 dt, .slice S.cookie.a S.cookie.n S.cookie.c, .slice S.proof.a S.proof.n S.proof.c, .int .i64 de, .int .i64 dq, .slice S.body.a S.body.n S.body.c, .slice S.tag.a S.tag.n S.tag.c] 25) = x0 := ⟨_, rfl⟩
 have HW0 := hid (hx0)
 have B0 : Hid (Below w.heap.size w x0) := by rw [← hx0]; exact (Below.refl _ _).alloc (Nat.le_refl _) _
 have K0 : Hid (Blk x0 w.heap.size 25 [.int .i64 5, .int .i64 di, .slice S.cn.a S.cn.n S.cn.c, .slice S.sn.a S.sn.n S.sn.c, .int .i64 dt, .slice S.cookie.a S.cookie.n S.cookie.c, .slice S.proof.a S.proof.n S.proof.c, .int .i64 de, .int .i64 dq, .slice S.body.a S.body.n S.body.c, .slice S.tag.a S.tag.n S.tag.c]) := by rw [← hx0]; exact Blk.new w _ _
 clear hx0 h
 have q1 := ne5
 have q2 := mr5
 have q3 := mf5
 cases hr : ((((S.sn.n : Int) == 12) && (isIn de 0 4294967295 && (isIn dq 0 281474976710655 && ((S.tag.n : Int) == 16)))) && ((S.body.n : Int) == 12)) with
 | false =>
  have HRR : Hid (((((S.sn.n : Int) == 12) && (isIn de 0 4294967295 && (isIn dq 0 281474976710655 && ((S.tag.n : Int) == 16)))) && ((S.body.n : Int) == 12)) = false) := hr
  clear hr
  go_enter Tryz.func15, Tryz.ntmps15
  go_wp2_with fail
  rw [HW0.out]
  generalize hga : w.heap.size = ga at K0 ⊢
  refine (wordOf5 di S.cn S.sn dt S.cookie S.proof de dq S.body S.tag x0).mono ?_
  rintro e x1 ⟨rfl, b1⟩
  have B1 := hid (B0.out.trans (b1.mono B0.out.size))
  clear b1
  go_upto_region 2 with fail
  first | go_region_with ((go_at_call 141; refine (chalRight S.sn de dq S.tag S.body x1.drew).mono ?_; rw [HRR.out]; rintro e x2 ⟨rfl, b2⟩; have B2 := hid (B1.out.drew.trans (b2.mono B1.out.size)))) | fail
  all_goals first | (go_wp2; go_ret; exact ⟨rfl, hga ▸ B2.out⟩) | (go_ret; exact ⟨rfl, hga ▸ B2.out⟩)
 | true =>
  have HRR : Hid (((((S.sn.n : Int) == 12) && (isIn de 0 4294967295 && (isIn dq 0 281474976710655 && ((S.tag.n : Int) == 16)))) && ((S.body.n : Int) == 12)) = true) := hr
  clear hr
  generalize hsd : sameD ⟨5, 0, [], lsn, 0, [], [], de, dq, lbo, lta⟩ ⟨5, di, lcn, lsn, dt, lco, lpr, de, dq, lbo, lta⟩ = sd
  have HSD : Hid (sameD ⟨5, 0, [], lsn, 0, [], [], de, dq, lbo, lta⟩ ⟨5, di, lcn, lsn, dt, lco, lpr, de, dq, lbo, lta⟩ = sd) := hsd
  clear hsd
  go_enter Tryz.func15, Tryz.ntmps15
  go_wp2_with fail
  rw [HW0.out]
  generalize hga : w.heap.size = ga at K0 ⊢
  refine (wordOf5 di S.cn S.sn dt S.cookie S.proof de dq S.body S.tag x0).mono ?_
  rintro e x1 ⟨rfl, b1⟩
  have B1 := hid (B0.out.trans (b1.mono B0.out.size))
  have K1 := hid (K0.out.later b1)
  obtain ⟨c0, c1, c2, c3, c4, c5, c6, c7, c8, c9, c10⟩ := cells11 K1.out
  clear b1
  go_upto_region 2 with fail
  go_region_held3 (fun w' => w'.cell? ⟨ga, 0, none⟩ = some (.int .i64 5) ∧ w'.cell? ⟨ga, 1, none⟩ = some (.int .i64 di) ∧ w'.cell? ⟨ga, 2, none⟩ = some (.slice S.cn.a S.cn.n S.cn.c) ∧ w'.cell? ⟨ga, 3, none⟩ = some (.slice S.sn.a S.sn.n S.sn.c) ∧ w'.cell? ⟨ga, 4, none⟩ = some (.int .i64 dt) ∧ w'.cell? ⟨ga, 5, none⟩ = some (.slice S.cookie.a S.cookie.n S.cookie.c) ∧ w'.cell? ⟨ga, 6, none⟩ = some (.slice S.proof.a S.proof.n S.proof.c) ∧ w'.cell? ⟨ga, 7, none⟩ = some (.int .i64 de) ∧ w'.cell? ⟨ga, 8, none⟩ = some (.int .i64 dq) ∧ w'.cell? ⟨ga, 9, none⟩ = some (.slice S.body.a S.body.n S.body.c) ∧ w'.cell? ⟨ga, 10, none⟩ = some (.slice S.tag.a S.tag.n S.tag.c)) (first | exact ⟨s0, s1, s2, s3, s4, s5, s6, s7, s8, s9, s10⟩ | exact ⟨r0, r1, r2, r3, r4, r5, r6, r7, r8, r9, r10⟩ | exact ⟨p0, p1, p2, p3, p4, p5, p6, p7, p8, p9, p10⟩ | exact ⟨c0, c1, c2, c3, c4, c5, c6, c7, c8, c9, c10⟩ | go_keep)
   (first
    | (go_at_call 141; refine (chalRight S.sn de dq S.tag S.body x1.drew).mono ?_; rw [HRR.out]; rintro e x2 ⟨rfl, b2⟩; have B2 := hid (B1.out.drew.trans (b2.mono B1.out.size)); have K2 : Hid (Blk x2 ga 25 [.int .i64 5, .int .i64 di, .slice S.cn.a S.cn.n S.cn.c, .slice S.sn.a S.sn.n S.sn.c, .int .i64 dt, .slice S.cookie.a S.cookie.n S.cookie.c, .slice S.proof.a S.proof.n S.proof.c, .int .i64 de, .int .i64 dq, .slice S.body.a S.body.n S.body.c, .slice S.tag.a S.tag.n S.tag.c]) := Blk.later (w := x1.drew) K1.out b2; have KC := K2.out; have p0 := KC.cell 0 rfl; have p1 := KC.cell 1 rfl; have p2 := KC.cell 2 rfl; have p3 := KC.cell 3 rfl; have p4 := KC.cell 4 rfl; have p5 := KC.cell 5 rfl; have p6 := KC.cell 6 rfl; have p7 := KC.cell 7 rfl; have p8 := KC.cell 8 rfl; have p9 := KC.cell 9 rfl; have p10 := KC.cell 10 rfl; clear KC b2)
    | (go_at_call 140; refine (chalFrame S.sn de dq S.tag S.body x2).mono ?_; rintro e x3 ⟨rfl, b3⟩; have B3 := hid (B2.out.trans (b3.mono B2.out.size)); have K3 := hid (K2.out.later b3); have KC := K3.out; have r0 := KC.cell 0 rfl; have r1 := KC.cell 1 rfl; have r2 := KC.cell 2 rfl; have r3 := KC.cell 3 rfl; have r4 := KC.cell 4 rfl; have r5 := KC.cell 5 rfl; have r6 := KC.cell 6 rfl; have r7 := KC.cell 7 rfl; have r8 := KC.cell 8 rfl; have r9 := KC.cell 9 rfl; have r10 := KC.cell 10 rfl; clear KC b3)
    | (go_at_call 43; have B := B3.out; refine (implSame ⟨⟨none, 0, 0⟩, S.sn, ⟨none, 0, 0⟩, ⟨none, 0, 0⟩, S.body, S.tag⟩ S ⟨5, 0, [], lsn, 0, [], [], de, dq, lbo, lta⟩ ⟨5, di, lcn, lsn, dt, lco, lpr, de, dq, lbo, lta⟩ x3 ⟨nilRd _, (HR.out.later B).sn, nilRd _, nilRd _, (HR.out.later B).body, (HR.out.later B).tag⟩ (HR.out.later B)).mono ?_; rw [HSD.out]; rintro e x4 ⟨rfl, b4⟩; have B4 := hid (B3.out.trans (b4.mono B3.out.size)); have K4 := hid (K3.out.later b4); have KC := K4.out; have s0 := KC.cell 0 rfl; have s1 := KC.cell 1 rfl; have s2 := KC.cell 2 rfl; have s3 := KC.cell 3 rfl; have s4 := KC.cell 4 rfl; have s5 := KC.cell 5 rfl; have s6 := KC.cell 6 rfl; have s7 := KC.cell 7 rfl; have s8 := KC.cell 8 rfl; have s9 := KC.cell 9 rfl; have s10 := KC.cell 10 rfl; clear KC b4 B))
  go_wp2
  go_ret
  exact ⟨by simp, hga ▸ B4.out⟩

set_option maxHeartbeats 8000000 in
theorem implOk6 (S : FrS) (di : Int) (lcn lsn : List Int) (dt : Int) (lco lpr : List Int) (de dq : Int) (lbo lta : List Int) (w : World) (h : FrRd w S ⟨6, di, lcn, lsn, dt, lco, lpr, de, dq, lbo, lta⟩) :
  Calls Tryz.prog 15 #[.agg #[.int .i64 6, .int .i64 di, .slice S.cn.a S.cn.n S.cn.c, .slice S.sn.a S.sn.n S.sn.c, .int .i64 dt, .slice S.cookie.a S.cookie.n S.cookie.c, .slice S.proof.a S.proof.n S.proof.c, .int .i64 de, .int .i64 dq, .slice S.body.a S.body.n S.body.c, .slice S.tag.a S.tag.n S.tag.c]] w fun e w' => e = .returned (.bool (((((S.sn.n : Int) == 12) && (isIn de 0 4294967295 && (isIn dq 0 281474976710655 && ((S.tag.n : Int) == 16)))) && ((S.body.n : Int) == 12)) && sameD ⟨6, 0, [], lsn, 0, [], [], de, dq, lbo, lta⟩ ⟨6, di, lcn, lsn, dt, lco, lpr, de, dq, lbo, lta⟩)) ∧ Below w.heap.size w w' := by
 have HR := hid (h)
 obtain ⟨x0, hx0⟩ : ∃ x0, w.alloc (.cells #[.int .i64 6, .int .i64 di, .slice S.cn.a S.cn.n S.cn.c, .slice S.sn.a S.sn.n S.sn.c, .int .i64 dt, .slice S.cookie.a S.cookie.n S.cookie.c, .slice S.proof.a S.proof.n S.proof.c, .int .i64 de, .int .i64 dq, .slice S.body.a S.body.n S.body.c, .slice S.tag.a S.tag.n S.tag.c] 25) = x0 := ⟨_, rfl⟩
 have HW0 := hid (hx0)
 have B0 : Hid (Below w.heap.size w x0) := by rw [← hx0]; exact (Below.refl _ _).alloc (Nat.le_refl _) _
 have K0 : Hid (Blk x0 w.heap.size 25 [.int .i64 6, .int .i64 di, .slice S.cn.a S.cn.n S.cn.c, .slice S.sn.a S.sn.n S.sn.c, .int .i64 dt, .slice S.cookie.a S.cookie.n S.cookie.c, .slice S.proof.a S.proof.n S.proof.c, .int .i64 de, .int .i64 dq, .slice S.body.a S.body.n S.body.c, .slice S.tag.a S.tag.n S.tag.c]) := by rw [← hx0]; exact Blk.new w _ _
 clear hx0 h
 have q1 := ne6
 have q2 := mr6
 have q3 := mf6
 cases hr : ((((S.sn.n : Int) == 12) && (isIn de 0 4294967295 && (isIn dq 0 281474976710655 && ((S.tag.n : Int) == 16)))) && ((S.body.n : Int) == 12)) with
 | false =>
  have HRR : Hid (((((S.sn.n : Int) == 12) && (isIn de 0 4294967295 && (isIn dq 0 281474976710655 && ((S.tag.n : Int) == 16)))) && ((S.body.n : Int) == 12)) = false) := hr
  clear hr
  go_enter Tryz.func15, Tryz.ntmps15
  go_wp2_with fail
  rw [HW0.out]
  generalize hga : w.heap.size = ga at K0 ⊢
  refine (wordOf6 di S.cn S.sn dt S.cookie S.proof de dq S.body S.tag x0).mono ?_
  rintro e x1 ⟨rfl, b1⟩
  have B1 := hid (B0.out.trans (b1.mono B0.out.size))
  clear b1
  go_upto_region 2 with fail
  first | go_region_with ((go_at_call 143; refine (respRight S.sn de dq S.tag S.body x1.drew).mono ?_; rw [HRR.out]; rintro e x2 ⟨rfl, b2⟩; have B2 := hid (B1.out.drew.trans (b2.mono B1.out.size)))) | fail
  all_goals first | (go_wp2; go_ret; exact ⟨rfl, hga ▸ B2.out⟩) | (go_ret; exact ⟨rfl, hga ▸ B2.out⟩)
 | true =>
  have HRR : Hid (((((S.sn.n : Int) == 12) && (isIn de 0 4294967295 && (isIn dq 0 281474976710655 && ((S.tag.n : Int) == 16)))) && ((S.body.n : Int) == 12)) = true) := hr
  clear hr
  generalize hsd : sameD ⟨6, 0, [], lsn, 0, [], [], de, dq, lbo, lta⟩ ⟨6, di, lcn, lsn, dt, lco, lpr, de, dq, lbo, lta⟩ = sd
  have HSD : Hid (sameD ⟨6, 0, [], lsn, 0, [], [], de, dq, lbo, lta⟩ ⟨6, di, lcn, lsn, dt, lco, lpr, de, dq, lbo, lta⟩ = sd) := hsd
  clear hsd
  go_enter Tryz.func15, Tryz.ntmps15
  go_wp2_with fail
  rw [HW0.out]
  generalize hga : w.heap.size = ga at K0 ⊢
  refine (wordOf6 di S.cn S.sn dt S.cookie S.proof de dq S.body S.tag x0).mono ?_
  rintro e x1 ⟨rfl, b1⟩
  have B1 := hid (B0.out.trans (b1.mono B0.out.size))
  have K1 := hid (K0.out.later b1)
  obtain ⟨c0, c1, c2, c3, c4, c5, c6, c7, c8, c9, c10⟩ := cells11 K1.out
  clear b1
  go_upto_region 2 with fail
  go_region_held3 (fun w' => w'.cell? ⟨ga, 0, none⟩ = some (.int .i64 6) ∧ w'.cell? ⟨ga, 1, none⟩ = some (.int .i64 di) ∧ w'.cell? ⟨ga, 2, none⟩ = some (.slice S.cn.a S.cn.n S.cn.c) ∧ w'.cell? ⟨ga, 3, none⟩ = some (.slice S.sn.a S.sn.n S.sn.c) ∧ w'.cell? ⟨ga, 4, none⟩ = some (.int .i64 dt) ∧ w'.cell? ⟨ga, 5, none⟩ = some (.slice S.cookie.a S.cookie.n S.cookie.c) ∧ w'.cell? ⟨ga, 6, none⟩ = some (.slice S.proof.a S.proof.n S.proof.c) ∧ w'.cell? ⟨ga, 7, none⟩ = some (.int .i64 de) ∧ w'.cell? ⟨ga, 8, none⟩ = some (.int .i64 dq) ∧ w'.cell? ⟨ga, 9, none⟩ = some (.slice S.body.a S.body.n S.body.c) ∧ w'.cell? ⟨ga, 10, none⟩ = some (.slice S.tag.a S.tag.n S.tag.c)) (first | exact ⟨s0, s1, s2, s3, s4, s5, s6, s7, s8, s9, s10⟩ | exact ⟨r0, r1, r2, r3, r4, r5, r6, r7, r8, r9, r10⟩ | exact ⟨p0, p1, p2, p3, p4, p5, p6, p7, p8, p9, p10⟩ | exact ⟨c0, c1, c2, c3, c4, c5, c6, c7, c8, c9, c10⟩ | go_keep)
   (first
    | (go_at_call 143; refine (respRight S.sn de dq S.tag S.body x1.drew).mono ?_; rw [HRR.out]; rintro e x2 ⟨rfl, b2⟩; have B2 := hid (B1.out.drew.trans (b2.mono B1.out.size)); have K2 : Hid (Blk x2 ga 25 [.int .i64 6, .int .i64 di, .slice S.cn.a S.cn.n S.cn.c, .slice S.sn.a S.sn.n S.sn.c, .int .i64 dt, .slice S.cookie.a S.cookie.n S.cookie.c, .slice S.proof.a S.proof.n S.proof.c, .int .i64 de, .int .i64 dq, .slice S.body.a S.body.n S.body.c, .slice S.tag.a S.tag.n S.tag.c]) := Blk.later (w := x1.drew) K1.out b2; have KC := K2.out; have p0 := KC.cell 0 rfl; have p1 := KC.cell 1 rfl; have p2 := KC.cell 2 rfl; have p3 := KC.cell 3 rfl; have p4 := KC.cell 4 rfl; have p5 := KC.cell 5 rfl; have p6 := KC.cell 6 rfl; have p7 := KC.cell 7 rfl; have p8 := KC.cell 8 rfl; have p9 := KC.cell 9 rfl; have p10 := KC.cell 10 rfl; clear KC b2)
    | (go_at_call 142; refine (respFrame S.sn de dq S.tag S.body x2).mono ?_; rintro e x3 ⟨rfl, b3⟩; have B3 := hid (B2.out.trans (b3.mono B2.out.size)); have K3 := hid (K2.out.later b3); have KC := K3.out; have r0 := KC.cell 0 rfl; have r1 := KC.cell 1 rfl; have r2 := KC.cell 2 rfl; have r3 := KC.cell 3 rfl; have r4 := KC.cell 4 rfl; have r5 := KC.cell 5 rfl; have r6 := KC.cell 6 rfl; have r7 := KC.cell 7 rfl; have r8 := KC.cell 8 rfl; have r9 := KC.cell 9 rfl; have r10 := KC.cell 10 rfl; clear KC b3)
    | (go_at_call 43; have B := B3.out; refine (implSame ⟨⟨none, 0, 0⟩, S.sn, ⟨none, 0, 0⟩, ⟨none, 0, 0⟩, S.body, S.tag⟩ S ⟨6, 0, [], lsn, 0, [], [], de, dq, lbo, lta⟩ ⟨6, di, lcn, lsn, dt, lco, lpr, de, dq, lbo, lta⟩ x3 ⟨nilRd _, (HR.out.later B).sn, nilRd _, nilRd _, (HR.out.later B).body, (HR.out.later B).tag⟩ (HR.out.later B)).mono ?_; rw [HSD.out]; rintro e x4 ⟨rfl, b4⟩; have B4 := hid (B3.out.trans (b4.mono B3.out.size)); have K4 := hid (K3.out.later b4); have KC := K4.out; have s0 := KC.cell 0 rfl; have s1 := KC.cell 1 rfl; have s2 := KC.cell 2 rfl; have s3 := KC.cell 3 rfl; have s4 := KC.cell 4 rfl; have s5 := KC.cell 5 rfl; have s6 := KC.cell 6 rfl; have s7 := KC.cell 7 rfl; have s8 := KC.cell 8 rfl; have s9 := KC.cell 9 rfl; have s10 := KC.cell 10 rfl; clear KC b4 B))
  go_wp2
  go_ret
  exact ⟨by simp, hga ▸ B4.out⟩

set_option maxHeartbeats 8000000 in
theorem implOk7 (S : FrS) (di : Int) (lcn lsn : List Int) (dt : Int) (lco lpr : List Int) (de dq : Int) (lbo lta : List Int) (w : World) (h : FrRd w S ⟨7, di, lcn, lsn, dt, lco, lpr, de, dq, lbo, lta⟩) :
  Calls Tryz.prog 15 #[.agg #[.int .i64 7, .int .i64 di, .slice S.cn.a S.cn.n S.cn.c, .slice S.sn.a S.sn.n S.sn.c, .int .i64 dt, .slice S.cookie.a S.cookie.n S.cookie.c, .slice S.proof.a S.proof.n S.proof.c, .int .i64 de, .int .i64 dq, .slice S.body.a S.body.n S.body.c, .slice S.tag.a S.tag.n S.tag.c]] w fun e w' => e = .returned (.bool (((((S.sn.n : Int) == 12) && (isIn de 0 4294967295 && (isIn dq 0 281474976710655 && ((S.tag.n : Int) == 16)))) && ((S.body.n : Int) == 4)) && sameD ⟨7, 0, [], lsn, 0, [], [], de, dq, lbo, lta⟩ ⟨7, di, lcn, lsn, dt, lco, lpr, de, dq, lbo, lta⟩)) ∧ Below w.heap.size w w' := by
 have HR := hid (h)
 obtain ⟨x0, hx0⟩ : ∃ x0, w.alloc (.cells #[.int .i64 7, .int .i64 di, .slice S.cn.a S.cn.n S.cn.c, .slice S.sn.a S.sn.n S.sn.c, .int .i64 dt, .slice S.cookie.a S.cookie.n S.cookie.c, .slice S.proof.a S.proof.n S.proof.c, .int .i64 de, .int .i64 dq, .slice S.body.a S.body.n S.body.c, .slice S.tag.a S.tag.n S.tag.c] 25) = x0 := ⟨_, rfl⟩
 have HW0 := hid (hx0)
 have B0 : Hid (Below w.heap.size w x0) := by rw [← hx0]; exact (Below.refl _ _).alloc (Nat.le_refl _) _
 have K0 : Hid (Blk x0 w.heap.size 25 [.int .i64 7, .int .i64 di, .slice S.cn.a S.cn.n S.cn.c, .slice S.sn.a S.sn.n S.sn.c, .int .i64 dt, .slice S.cookie.a S.cookie.n S.cookie.c, .slice S.proof.a S.proof.n S.proof.c, .int .i64 de, .int .i64 dq, .slice S.body.a S.body.n S.body.c, .slice S.tag.a S.tag.n S.tag.c]) := by rw [← hx0]; exact Blk.new w _ _
 clear hx0 h
 have q1 := ne7
 have q2 := mr7
 have q3 := mf7
 cases hr : ((((S.sn.n : Int) == 12) && (isIn de 0 4294967295 && (isIn dq 0 281474976710655 && ((S.tag.n : Int) == 16)))) && ((S.body.n : Int) == 4)) with
 | false =>
  have HRR : Hid (((((S.sn.n : Int) == 12) && (isIn de 0 4294967295 && (isIn dq 0 281474976710655 && ((S.tag.n : Int) == 16)))) && ((S.body.n : Int) == 4)) = false) := hr
  clear hr
  go_enter Tryz.func15, Tryz.ntmps15
  go_wp2_with fail
  rw [HW0.out]
  generalize hga : w.heap.size = ga at K0 ⊢
  refine (wordOf7 di S.cn S.sn dt S.cookie S.proof de dq S.body S.tag x0).mono ?_
  rintro e x1 ⟨rfl, b1⟩
  have B1 := hid (B0.out.trans (b1.mono B0.out.size))
  clear b1
  go_upto_region 2 with fail
  first | go_region_with ((go_at_call 145; refine (rekRight S.sn de dq S.tag S.body x1.drew).mono ?_; rw [HRR.out]; rintro e x2 ⟨rfl, b2⟩; have B2 := hid (B1.out.drew.trans (b2.mono B1.out.size)))) | fail
  all_goals first | (go_wp2; go_ret; exact ⟨rfl, hga ▸ B2.out⟩) | (go_ret; exact ⟨rfl, hga ▸ B2.out⟩)
 | true =>
  have HRR : Hid (((((S.sn.n : Int) == 12) && (isIn de 0 4294967295 && (isIn dq 0 281474976710655 && ((S.tag.n : Int) == 16)))) && ((S.body.n : Int) == 4)) = true) := hr
  clear hr
  generalize hsd : sameD ⟨7, 0, [], lsn, 0, [], [], de, dq, lbo, lta⟩ ⟨7, di, lcn, lsn, dt, lco, lpr, de, dq, lbo, lta⟩ = sd
  have HSD : Hid (sameD ⟨7, 0, [], lsn, 0, [], [], de, dq, lbo, lta⟩ ⟨7, di, lcn, lsn, dt, lco, lpr, de, dq, lbo, lta⟩ = sd) := hsd
  clear hsd
  go_enter Tryz.func15, Tryz.ntmps15
  go_wp2_with fail
  rw [HW0.out]
  generalize hga : w.heap.size = ga at K0 ⊢
  refine (wordOf7 di S.cn S.sn dt S.cookie S.proof de dq S.body S.tag x0).mono ?_
  rintro e x1 ⟨rfl, b1⟩
  have B1 := hid (B0.out.trans (b1.mono B0.out.size))
  have K1 := hid (K0.out.later b1)
  obtain ⟨c0, c1, c2, c3, c4, c5, c6, c7, c8, c9, c10⟩ := cells11 K1.out
  clear b1
  go_upto_region 2 with fail
  go_region_held3 (fun w' => w'.cell? ⟨ga, 0, none⟩ = some (.int .i64 7) ∧ w'.cell? ⟨ga, 1, none⟩ = some (.int .i64 di) ∧ w'.cell? ⟨ga, 2, none⟩ = some (.slice S.cn.a S.cn.n S.cn.c) ∧ w'.cell? ⟨ga, 3, none⟩ = some (.slice S.sn.a S.sn.n S.sn.c) ∧ w'.cell? ⟨ga, 4, none⟩ = some (.int .i64 dt) ∧ w'.cell? ⟨ga, 5, none⟩ = some (.slice S.cookie.a S.cookie.n S.cookie.c) ∧ w'.cell? ⟨ga, 6, none⟩ = some (.slice S.proof.a S.proof.n S.proof.c) ∧ w'.cell? ⟨ga, 7, none⟩ = some (.int .i64 de) ∧ w'.cell? ⟨ga, 8, none⟩ = some (.int .i64 dq) ∧ w'.cell? ⟨ga, 9, none⟩ = some (.slice S.body.a S.body.n S.body.c) ∧ w'.cell? ⟨ga, 10, none⟩ = some (.slice S.tag.a S.tag.n S.tag.c)) (first | exact ⟨s0, s1, s2, s3, s4, s5, s6, s7, s8, s9, s10⟩ | exact ⟨r0, r1, r2, r3, r4, r5, r6, r7, r8, r9, r10⟩ | exact ⟨p0, p1, p2, p3, p4, p5, p6, p7, p8, p9, p10⟩ | exact ⟨c0, c1, c2, c3, c4, c5, c6, c7, c8, c9, c10⟩ | go_keep)
   (first
    | (go_at_call 145; refine (rekRight S.sn de dq S.tag S.body x1.drew).mono ?_; rw [HRR.out]; rintro e x2 ⟨rfl, b2⟩; have B2 := hid (B1.out.drew.trans (b2.mono B1.out.size)); have K2 : Hid (Blk x2 ga 25 [.int .i64 7, .int .i64 di, .slice S.cn.a S.cn.n S.cn.c, .slice S.sn.a S.sn.n S.sn.c, .int .i64 dt, .slice S.cookie.a S.cookie.n S.cookie.c, .slice S.proof.a S.proof.n S.proof.c, .int .i64 de, .int .i64 dq, .slice S.body.a S.body.n S.body.c, .slice S.tag.a S.tag.n S.tag.c]) := Blk.later (w := x1.drew) K1.out b2; have KC := K2.out; have p0 := KC.cell 0 rfl; have p1 := KC.cell 1 rfl; have p2 := KC.cell 2 rfl; have p3 := KC.cell 3 rfl; have p4 := KC.cell 4 rfl; have p5 := KC.cell 5 rfl; have p6 := KC.cell 6 rfl; have p7 := KC.cell 7 rfl; have p8 := KC.cell 8 rfl; have p9 := KC.cell 9 rfl; have p10 := KC.cell 10 rfl; clear KC b2)
    | (go_at_call 144; refine (rekFrame S.sn de dq S.tag S.body x2).mono ?_; rintro e x3 ⟨rfl, b3⟩; have B3 := hid (B2.out.trans (b3.mono B2.out.size)); have K3 := hid (K2.out.later b3); have KC := K3.out; have r0 := KC.cell 0 rfl; have r1 := KC.cell 1 rfl; have r2 := KC.cell 2 rfl; have r3 := KC.cell 3 rfl; have r4 := KC.cell 4 rfl; have r5 := KC.cell 5 rfl; have r6 := KC.cell 6 rfl; have r7 := KC.cell 7 rfl; have r8 := KC.cell 8 rfl; have r9 := KC.cell 9 rfl; have r10 := KC.cell 10 rfl; clear KC b3)
    | (go_at_call 43; have B := B3.out; refine (implSame ⟨⟨none, 0, 0⟩, S.sn, ⟨none, 0, 0⟩, ⟨none, 0, 0⟩, S.body, S.tag⟩ S ⟨7, 0, [], lsn, 0, [], [], de, dq, lbo, lta⟩ ⟨7, di, lcn, lsn, dt, lco, lpr, de, dq, lbo, lta⟩ x3 ⟨nilRd _, (HR.out.later B).sn, nilRd _, nilRd _, (HR.out.later B).body, (HR.out.later B).tag⟩ (HR.out.later B)).mono ?_; rw [HSD.out]; rintro e x4 ⟨rfl, b4⟩; have B4 := hid (B3.out.trans (b4.mono B3.out.size)); have K4 := hid (K3.out.later b4); have KC := K4.out; have s0 := KC.cell 0 rfl; have s1 := KC.cell 1 rfl; have s2 := KC.cell 2 rfl; have s3 := KC.cell 3 rfl; have s4 := KC.cell 4 rfl; have s5 := KC.cell 5 rfl; have s6 := KC.cell 6 rfl; have s7 := KC.cell 7 rfl; have s8 := KC.cell 8 rfl; have s9 := KC.cell 9 rfl; have s10 := KC.cell 10 rfl; clear KC b4 B))
  go_wp2
  go_ret
  exact ⟨by simp, hga ▸ B4.out⟩

set_option maxHeartbeats 8000000 in
theorem implOk8 (S : FrS) (di : Int) (lcn lsn : List Int) (dt : Int) (lco lpr : List Int) (de dq : Int) (lbo lta : List Int) (w : World) (h : FrRd w S ⟨8, di, lcn, lsn, dt, lco, lpr, de, dq, lbo, lta⟩) :
  Calls Tryz.prog 15 #[.agg #[.int .i64 8, .int .i64 di, .slice S.cn.a S.cn.n S.cn.c, .slice S.sn.a S.sn.n S.sn.c, .int .i64 dt, .slice S.cookie.a S.cookie.n S.cookie.c, .slice S.proof.a S.proof.n S.proof.c, .int .i64 de, .int .i64 dq, .slice S.body.a S.body.n S.body.c, .slice S.tag.a S.tag.n S.tag.c]] w fun e w' => e = .returned (.bool (((((S.sn.n : Int) == 12) && (isIn de 0 4294967295 && (isIn dq 0 281474976710655 && ((S.tag.n : Int) == 16)))) && ((S.body.n : Int) == 4)) && sameD ⟨8, 0, [], lsn, 0, [], [], de, dq, lbo, lta⟩ ⟨8, di, lcn, lsn, dt, lco, lpr, de, dq, lbo, lta⟩)) ∧ Below w.heap.size w w' := by
 have HR := hid (h)
 obtain ⟨x0, hx0⟩ : ∃ x0, w.alloc (.cells #[.int .i64 8, .int .i64 di, .slice S.cn.a S.cn.n S.cn.c, .slice S.sn.a S.sn.n S.sn.c, .int .i64 dt, .slice S.cookie.a S.cookie.n S.cookie.c, .slice S.proof.a S.proof.n S.proof.c, .int .i64 de, .int .i64 dq, .slice S.body.a S.body.n S.body.c, .slice S.tag.a S.tag.n S.tag.c] 25) = x0 := ⟨_, rfl⟩
 have HW0 := hid (hx0)
 have B0 : Hid (Below w.heap.size w x0) := by rw [← hx0]; exact (Below.refl _ _).alloc (Nat.le_refl _) _
 have K0 : Hid (Blk x0 w.heap.size 25 [.int .i64 8, .int .i64 di, .slice S.cn.a S.cn.n S.cn.c, .slice S.sn.a S.sn.n S.sn.c, .int .i64 dt, .slice S.cookie.a S.cookie.n S.cookie.c, .slice S.proof.a S.proof.n S.proof.c, .int .i64 de, .int .i64 dq, .slice S.body.a S.body.n S.body.c, .slice S.tag.a S.tag.n S.tag.c]) := by rw [← hx0]; exact Blk.new w _ _
 clear hx0 h
 have q1 := ne8
 have q2 := mr8
 have q3 := mf8
 cases hr : ((((S.sn.n : Int) == 12) && (isIn de 0 4294967295 && (isIn dq 0 281474976710655 && ((S.tag.n : Int) == 16)))) && ((S.body.n : Int) == 4)) with
 | false =>
  have HRR : Hid (((((S.sn.n : Int) == 12) && (isIn de 0 4294967295 && (isIn dq 0 281474976710655 && ((S.tag.n : Int) == 16)))) && ((S.body.n : Int) == 4)) = false) := hr
  clear hr
  go_enter Tryz.func15, Tryz.ntmps15
  go_wp2_with fail
  rw [HW0.out]
  generalize hga : w.heap.size = ga at K0 ⊢
  refine (wordOf8 di S.cn S.sn dt S.cookie S.proof de dq S.body S.tag x0).mono ?_
  rintro e x1 ⟨rfl, b1⟩
  have B1 := hid (B0.out.trans (b1.mono B0.out.size))
  clear b1
  go_upto_region 2 with fail
  first | go_region_with ((go_at_call 147; refine (ackRight S.sn de dq S.tag S.body x1.drew).mono ?_; rw [HRR.out]; rintro e x2 ⟨rfl, b2⟩; have B2 := hid (B1.out.drew.trans (b2.mono B1.out.size)))) | fail
  all_goals first | (go_wp2; go_ret; exact ⟨rfl, hga ▸ B2.out⟩) | (go_ret; exact ⟨rfl, hga ▸ B2.out⟩)
 | true =>
  have HRR : Hid (((((S.sn.n : Int) == 12) && (isIn de 0 4294967295 && (isIn dq 0 281474976710655 && ((S.tag.n : Int) == 16)))) && ((S.body.n : Int) == 4)) = true) := hr
  clear hr
  generalize hsd : sameD ⟨8, 0, [], lsn, 0, [], [], de, dq, lbo, lta⟩ ⟨8, di, lcn, lsn, dt, lco, lpr, de, dq, lbo, lta⟩ = sd
  have HSD : Hid (sameD ⟨8, 0, [], lsn, 0, [], [], de, dq, lbo, lta⟩ ⟨8, di, lcn, lsn, dt, lco, lpr, de, dq, lbo, lta⟩ = sd) := hsd
  clear hsd
  go_enter Tryz.func15, Tryz.ntmps15
  go_wp2_with fail
  rw [HW0.out]
  generalize hga : w.heap.size = ga at K0 ⊢
  refine (wordOf8 di S.cn S.sn dt S.cookie S.proof de dq S.body S.tag x0).mono ?_
  rintro e x1 ⟨rfl, b1⟩
  have B1 := hid (B0.out.trans (b1.mono B0.out.size))
  have K1 := hid (K0.out.later b1)
  obtain ⟨c0, c1, c2, c3, c4, c5, c6, c7, c8, c9, c10⟩ := cells11 K1.out
  clear b1
  go_upto_region 2 with fail
  go_region_held3 (fun w' => w'.cell? ⟨ga, 0, none⟩ = some (.int .i64 8) ∧ w'.cell? ⟨ga, 1, none⟩ = some (.int .i64 di) ∧ w'.cell? ⟨ga, 2, none⟩ = some (.slice S.cn.a S.cn.n S.cn.c) ∧ w'.cell? ⟨ga, 3, none⟩ = some (.slice S.sn.a S.sn.n S.sn.c) ∧ w'.cell? ⟨ga, 4, none⟩ = some (.int .i64 dt) ∧ w'.cell? ⟨ga, 5, none⟩ = some (.slice S.cookie.a S.cookie.n S.cookie.c) ∧ w'.cell? ⟨ga, 6, none⟩ = some (.slice S.proof.a S.proof.n S.proof.c) ∧ w'.cell? ⟨ga, 7, none⟩ = some (.int .i64 de) ∧ w'.cell? ⟨ga, 8, none⟩ = some (.int .i64 dq) ∧ w'.cell? ⟨ga, 9, none⟩ = some (.slice S.body.a S.body.n S.body.c) ∧ w'.cell? ⟨ga, 10, none⟩ = some (.slice S.tag.a S.tag.n S.tag.c)) (first | exact ⟨s0, s1, s2, s3, s4, s5, s6, s7, s8, s9, s10⟩ | exact ⟨r0, r1, r2, r3, r4, r5, r6, r7, r8, r9, r10⟩ | exact ⟨p0, p1, p2, p3, p4, p5, p6, p7, p8, p9, p10⟩ | exact ⟨c0, c1, c2, c3, c4, c5, c6, c7, c8, c9, c10⟩ | go_keep)
   (first
    | (go_at_call 147; refine (ackRight S.sn de dq S.tag S.body x1.drew).mono ?_; rw [HRR.out]; rintro e x2 ⟨rfl, b2⟩; have B2 := hid (B1.out.drew.trans (b2.mono B1.out.size)); have K2 : Hid (Blk x2 ga 25 [.int .i64 8, .int .i64 di, .slice S.cn.a S.cn.n S.cn.c, .slice S.sn.a S.sn.n S.sn.c, .int .i64 dt, .slice S.cookie.a S.cookie.n S.cookie.c, .slice S.proof.a S.proof.n S.proof.c, .int .i64 de, .int .i64 dq, .slice S.body.a S.body.n S.body.c, .slice S.tag.a S.tag.n S.tag.c]) := Blk.later (w := x1.drew) K1.out b2; have KC := K2.out; have p0 := KC.cell 0 rfl; have p1 := KC.cell 1 rfl; have p2 := KC.cell 2 rfl; have p3 := KC.cell 3 rfl; have p4 := KC.cell 4 rfl; have p5 := KC.cell 5 rfl; have p6 := KC.cell 6 rfl; have p7 := KC.cell 7 rfl; have p8 := KC.cell 8 rfl; have p9 := KC.cell 9 rfl; have p10 := KC.cell 10 rfl; clear KC b2)
    | (go_at_call 146; refine (ackFrame S.sn de dq S.tag S.body x2).mono ?_; rintro e x3 ⟨rfl, b3⟩; have B3 := hid (B2.out.trans (b3.mono B2.out.size)); have K3 := hid (K2.out.later b3); have KC := K3.out; have r0 := KC.cell 0 rfl; have r1 := KC.cell 1 rfl; have r2 := KC.cell 2 rfl; have r3 := KC.cell 3 rfl; have r4 := KC.cell 4 rfl; have r5 := KC.cell 5 rfl; have r6 := KC.cell 6 rfl; have r7 := KC.cell 7 rfl; have r8 := KC.cell 8 rfl; have r9 := KC.cell 9 rfl; have r10 := KC.cell 10 rfl; clear KC b3)
    | (go_at_call 43; have B := B3.out; refine (implSame ⟨⟨none, 0, 0⟩, S.sn, ⟨none, 0, 0⟩, ⟨none, 0, 0⟩, S.body, S.tag⟩ S ⟨8, 0, [], lsn, 0, [], [], de, dq, lbo, lta⟩ ⟨8, di, lcn, lsn, dt, lco, lpr, de, dq, lbo, lta⟩ x3 ⟨nilRd _, (HR.out.later B).sn, nilRd _, nilRd _, (HR.out.later B).body, (HR.out.later B).tag⟩ (HR.out.later B)).mono ?_; rw [HSD.out]; rintro e x4 ⟨rfl, b4⟩; have B4 := hid (B3.out.trans (b4.mono B3.out.size)); have K4 := hid (K3.out.later b4); have KC := K4.out; have s0 := KC.cell 0 rfl; have s1 := KC.cell 1 rfl; have s2 := KC.cell 2 rfl; have s3 := KC.cell 3 rfl; have s4 := KC.cell 4 rfl; have s5 := KC.cell 5 rfl; have s6 := KC.cell 6 rfl; have s7 := KC.cell 7 rfl; have s8 := KC.cell 8 rfl; have s9 := KC.cell 9 rfl; have s10 := KC.cell 10 rfl; clear KC b4 B))
  go_wp2
  go_ret
  exact ⟨by simp, hga ▸ B4.out⟩

end Go.Proofs.YtpenhliaelhnoaaGreatDoor.FrO
