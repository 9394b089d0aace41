/-
  What impl's putWord answers, kind by kind.
-/
import Derived.Test.YtfapehmbecgjaaaFrQ
import Derived.Test.YtfapehmbecgjaaaFrW3
namespace Go.Proofs.Ytfapehmbecgjaaa.FrQ2
open Go.RowKit Go.Proofs.Ytfapehmbecgjaaa.Mem Go.Proofs.Ytfapehmbecgjaaa.App Go.Proofs.Ytfapehmbecgjaaa.Blk Go.Proofs.Ytfapehmbecgjaaa.Words Go.Proofs.Ytfapehmbecgjaaa.Zone Go.Proofs.Ytfapehmbecgjaaa.Res Go.Proofs.Ytfapehmbecgjaaa.FrZ Go.Proofs.Ytfapehmbecgjaaa.FrP Go.Proofs.Ytfapehmbecgjaaa.FrB Go.Proofs.Ytfapehmbecgjaaa.FrT Go.Proofs.Ytfapehmbecgjaaa.FrW Go.Proofs.Ytfapehmbecgjaaa.FrW2 Go.Proofs.Ytfapehmbecgjaaa.FrQ

theorem nilRd (w : World) : SRd w ⟨none, 0, 0⟩ [] := ⟨rfl, (fun i hi => by cases hi), fun _ => rfl, Nat.le_refl _, (fun z hz => by cases hz)⟩
theorem putN1_len (k : Int) : (putN k 1).length = 1 := by show (num k 1).length = 1; rw [num_length]

set_option maxRecDepth 100000 in
set_option maxHeartbeats 8000000 in
theorem putWord1 (S : FrS) (D : FrD) (w : World) (h : FrRd w S D) (hs : FrShort D 100) :
    Calls Try.prog 36 #[.iface 65 (.agg #[.int .i64 D.id, .slice S.cn.a S.cn.n S.cn.c])] w (New w ([] ++ putN 1 1 ++ putN D.id 1 ++ D.cn ++ List.replicate 20 0)) := by
  have HF : Hid (FrRd w S D) := h
  have HS : Hid (FrShort D 100) := hs
  clear h hs
  have q3 := mf1
  have t1 := as1_1
  have t2 := as1_2
  have t3 := as1_3
  go_enter Try.func36, Try.ntmps36
  go_wp2_with fail
  refine (initFrame D.id S.cn w).mono ?_
  rintro e x1 ⟨rfl, b1⟩
  obtain ⟨x2, hx2⟩ : ∃ x2, x1.alloc (.cells #[.int .i64 1, .int .i64 D.id, .slice S.cn.a S.cn.n S.cn.c, .slice none 0 0, .int .i64 0, .slice none 0 0, .slice none 0 0, .int .i64 0, .int .i64 0, .slice none 0 0, .slice none 0 0] 25) = x2 := ⟨_, rfl⟩
  have HW2 : Hid (x1.alloc (.cells #[.int .i64 1, .int .i64 D.id, .slice S.cn.a S.cn.n S.cn.c, .slice none 0 0, .int .i64 0, .slice none 0 0, .slice none 0 0, .int .i64 0, .int .i64 0, .slice none 0 0, .slice none 0 0] 25) = x2) := hx2
  have B2 : Hid (Below w.heap.size w x2) := by rw [← hx2]; exact b1.alloc b1.size _
  have K2 : Hid (Blk x2 x1.heap.size 25 [.int .i64 1, .int .i64 D.id, .slice S.cn.a S.cn.n S.cn.c, .slice none 0 0, .int .i64 0, .slice none 0 0, .slice none 0 0, .int .i64 0, .int .i64 0, .slice none 0 0, .slice none 0 0]) := by rw [← hx2]; exact Blk.new x1 _ _
  clear hx2 b1
  go_wp2_with fail
  rw [HW2.out]
  generalize hgf : x1.heap.size = gf at K2 ⊢
  refine (putK ⟨none, 0, 0⟩ [] 1 1 x2 (nilRd x2) (by simp)).mono ?_
  rintro e x3 ⟨g3, m3, c3, rfl, em3, k3, r3, b3⟩
  have R3 : Hid (Row x3 g3 c3 ([] ++ putN 1 1)) := r3
  have EM3 : Hid (m3 = ([] ++ putN 1 1).length) := em3
  have BL3 : Hid (Bytes ([] ++ putN 1 1)) := putN_bytes 1 1
  have B3 : Hid (Below w.heap.size w x3) := B2.out.trans (b3.mono B2.out.size)
  have K3 : Hid (Blk x3 gf 25 [.int .i64 1, .int .i64 D.id, .slice S.cn.a S.cn.n S.cn.c, .slice none 0 0, .int .i64 0, .slice none 0 0, .slice none 0 0, .int .i64 0, .int .i64 0, .slice none 0 0, .slice none 0 0]) := K2.out.later b3
  have LN3 : Hid (([] ++ putN 1 1).length ≤ 10) := by show _ ≤ _; rw [List.length_append, putN1_len]; simp
  clear em3 k3 r3 b3 HW2
  go_upto_region 5 with fail
  have d3_1 := K3.out.cell 1 rfl
  have d3_2 := K3.out.cell 2 rfl
  go_region_held3 (fun w' => w'.cell? ⟨gf, 1, none⟩ = some (.int .i64 D.id) ∧ w'.cell? ⟨gf, 2, none⟩ = some (.slice S.cn.a S.cn.n S.cn.c)) (first | exact ⟨d5_1, d5_2⟩ | exact ⟨d4_1, d4_2⟩ | exact ⟨d3_1, d3_2⟩ | go_keep)
    (first
      | (go_at_call 53; refine (putB ⟨some ⟨g4, 0, none⟩, m4, c4⟩ S.cn ([] ++ putN 1 1 ++ putN D.id 1) D.cn x4 (rowRd R4.out EM4.out BL4.out) (HF.out.later B4.out).cn (by have := LN4.out; omega) (by have := HS.out.cn; omega)).mono ?_; rintro e x5 ⟨g5, m5, c5, rfl, em5, k5, r5, b5⟩; have R5 : Hid (Row x5 g5 c5 ([] ++ putN 1 1 ++ putN D.id 1 ++ D.cn)) := r5; have EM5 : Hid (m5 = ([] ++ putN 1 1 ++ putN D.id 1 ++ D.cn).length) := em5; have BL5 : Hid (Bytes ([] ++ putN 1 1 ++ putN D.id 1 ++ D.cn)) := FrB2.app BL4.out HF.out.cn.bytes; have B5 : Hid (Below w.heap.size w x5) := B4.out.trans (b5.mono B4.out.size); have K5 : Hid (Blk x5 gf 25 [.int .i64 1, .int .i64 D.id, .slice S.cn.a S.cn.n S.cn.c, .slice none 0 0, .int .i64 0, .slice none 0 0, .slice none 0 0, .int .i64 0, .int .i64 0, .slice none 0 0, .slice none 0 0]) := K4.out.later b5; have LN5 : Hid (([] ++ putN 1 1 ++ putN D.id 1 ++ D.cn).length ≤ 200) := (by show _ ≤ _; have h1 := LN4.out; have h2 := HS.out.cn; rw [List.length_append]; omega); have d5_1 := K5.out.cell 1 rfl; have d5_2 := K5.out.cell 2 rfl; clear em5 k5 r5 b5)
      | (go_at_call 52; refine (putK ⟨some ⟨g3, 0, none⟩, m3, c3⟩ ([] ++ putN 1 1) D.id 1 x3.drew (rowRd (w := x3.drew) R3.out EM3.out BL3.out) (by have := LN3.out; omega)).mono ?_; rintro e x4 ⟨g4, m4, c4, rfl, em4, k4, r4, b4⟩; have R4 : Hid (Row x4 g4 c4 ([] ++ putN 1 1 ++ putN D.id 1)) := r4; have EM4 : Hid (m4 = ([] ++ putN 1 1 ++ putN D.id 1).length) := em4; have BL4 : Hid (Bytes ([] ++ putN 1 1 ++ putN D.id 1)) := FrB2.app BL3.out (putN_bytes _ _); have B4 : Hid (Below w.heap.size w x4) := B3.out.drew.trans (b4.mono B3.out.size); have K4 : Hid (Blk x4 gf 25 [.int .i64 1, .int .i64 D.id, .slice S.cn.a S.cn.n S.cn.c, .slice none 0 0, .int .i64 0, .slice none 0 0, .slice none 0 0, .int .i64 0, .int .i64 0, .slice none 0 0, .slice none 0 0]) := Blk.later (w := x3.drew) K3.out b4; have LN4 : Hid (([] ++ putN 1 1 ++ putN D.id 1).length ≤ 20) := (by show _ ≤ _; have h1 := LN3.out; have h2 := putN_length D.id 1; rw [List.length_append]; omega); have d4_1 := K4.out.cell 1 rfl; have d4_2 := K4.out.cell 2 rfl; clear em4 k4 r4 b4))
  clear d3_1 d3_2 d4_1 d4_2 d5_1 d5_2
  obtain ⟨i0, hi, hz0, hz1, hz2⟩ := info_parts info8
  go_wp2_with (at_make; refine wpList_make_full _ rfl _ _ 22 rfl x5.heap.size 5 i0 (.int .u8 0) 1 Try.underlying22 hi hz0 hz1 _ _ _ _ 20 rfl rfl rfl rfl (by rw [hz2]; omega) (by unfold maxLen; omega) (Nat.le_refl _) ?_; intro x6 hown hgr)
  have b6 : Below x5.heap.size x5 x6 := (Below.refl _ _).grown hgr (Nat.le_refl _) (fun k h => by cases h)
  have r6 : Row x6 x5.heap.size 20 (List.replicate 20 0) := by
    have h1 : x6.ownsRow x5.heap.size 5 1 (.slice (some ⟨x5.heap.size, 0, none⟩) 20 20) 20 ((List.replicate 20 (0 : Int)).map (Value.int .u8)) := by
      simpa [Value.cells, toList_madeCells_one] using hown
    exact (Row.of h1).1
  have R6 : Hid (Row x6 x5.heap.size 20 (List.replicate 20 0)) := r6
  have B6 : Hid (Below w.heap.size w x6) := B5.out.trans (b6.mono B5.out.size)
  have R56 : Hid (Row x6 g5 c5 ([] ++ putN 1 1 ++ putN D.id 1 ++ D.cn)) := R5.out.later b6
  clear hown hgr b6 r6 hi hz0 hz1 hz2
  generalize x5.heap.size = gz at *
  go_wp2_with fail
  refine (putB ⟨some ⟨g5, 0, none⟩, m5, c5⟩ ⟨some ⟨gz, 0, none⟩, 20, 20⟩ ([] ++ putN 1 1 ++ putN D.id 1 ++ D.cn) (List.replicate 20 0) x6 (rowRd R56.out EM5.out BL5.out) (rowRd R6.out (by simp) (FrB2.rep 20)) (by have := LN5.out; omega) (by simp)).mono ?_
  rintro e x7 ⟨g7, m7, c7, rfl, em7, k7, r7, b7⟩
  have R7 : Hid (Row x7 g7 c7 ([] ++ putN 1 1 ++ putN D.id 1 ++ D.cn ++ List.replicate 20 0)) := r7
  have EM7 : Hid (m7 = ([] ++ putN 1 1 ++ putN D.id 1 ++ D.cn ++ List.replicate 20 0).length) := em7
  have GE7 : Hid (w.heap.size ≤ g7) := Nat.le_trans B6.out.size k7
  have B7 : Hid (Below w.heap.size w x7) := B6.out.trans (b7.mono B6.out.size)
  clear em7 k7 r7 b7
  go_wp2
  go_ret
  exact ⟨g7, m7, c7, by simp, EM7.out, GE7.out, R7.out, B7.out⟩

set_option maxRecDepth 100000 in
set_option maxHeartbeats 8000000 in
theorem putWord2 (S : FrS) (D : FrD) (w : World) (h : FrRd w S D) (hs : FrShort D 100) :
    Calls Try.prog 36 #[.iface 68 (.agg #[.slice S.cn.a S.cn.n S.cn.c, .slice S.sn.a S.sn.n S.sn.c, .int .i64 D.tick, .slice S.cookie.a S.cookie.n S.cookie.c])] w (New w ([] ++ putN 2 1 ++ D.cn ++ D.sn ++ putN D.tick 4 ++ D.cookie)) := by
  have HF : Hid (FrRd w S D) := h
  have HS : Hid (FrShort D 100) := hs
  clear h hs
  have q3 := mf2
  have t1 := as2_1
  have t2 := as2_2
  have t3 := as2_3
  go_enter Try.func36, Try.ntmps36
  go_wp2_with fail
  refine (cookFrame S.cn S.sn D.tick S.cookie w).mono ?_
  rintro e x1 ⟨rfl, b1⟩
  obtain ⟨x2, hx2⟩ : ∃ x2, x1.alloc (.cells #[.int .i64 2, .int .i64 0, .slice S.cn.a S.cn.n S.cn.c, .slice S.sn.a S.sn.n S.sn.c, .int .i64 D.tick, .slice S.cookie.a S.cookie.n S.cookie.c, .slice none 0 0, .int .i64 0, .int .i64 0, .slice none 0 0, .slice none 0 0] 25) = x2 := ⟨_, rfl⟩
  have HW2 : Hid (x1.alloc (.cells #[.int .i64 2, .int .i64 0, .slice S.cn.a S.cn.n S.cn.c, .slice S.sn.a S.sn.n S.sn.c, .int .i64 D.tick, .slice S.cookie.a S.cookie.n S.cookie.c, .slice none 0 0, .int .i64 0, .int .i64 0, .slice none 0 0, .slice none 0 0] 25) = x2) := hx2
  have B2 : Hid (Below w.heap.size w x2) := by rw [← hx2]; exact b1.alloc b1.size _
  have K2 : Hid (Blk x2 x1.heap.size 25 [.int .i64 2, .int .i64 0, .slice S.cn.a S.cn.n S.cn.c, .slice S.sn.a S.sn.n S.sn.c, .int .i64 D.tick, .slice S.cookie.a S.cookie.n S.cookie.c, .slice none 0 0, .int .i64 0, .int .i64 0, .slice none 0 0, .slice none 0 0]) := by rw [← hx2]; exact Blk.new x1 _ _
  clear hx2 b1
  go_wp2_with fail
  rw [HW2.out]
  generalize hgf : x1.heap.size = gf at K2 ⊢
  refine (putK ⟨none, 0, 0⟩ [] 2 1 x2 (nilRd x2) (by simp)).mono ?_
  rintro e x3 ⟨g3, m3, c3, rfl, em3, k3, r3, b3⟩
  have R3 : Hid (Row x3 g3 c3 ([] ++ putN 2 1)) := r3
  have EM3 : Hid (m3 = ([] ++ putN 2 1).length) := em3
  have BL3 : Hid (Bytes ([] ++ putN 2 1)) := putN_bytes 2 1
  have B3 : Hid (Below w.heap.size w x3) := B2.out.trans (b3.mono B2.out.size)
  have K3 : Hid (Blk x3 gf 25 [.int .i64 2, .int .i64 0, .slice S.cn.a S.cn.n S.cn.c, .slice S.sn.a S.sn.n S.sn.c, .int .i64 D.tick, .slice S.cookie.a S.cookie.n S.cookie.c, .slice none 0 0, .int .i64 0, .int .i64 0, .slice none 0 0, .slice none 0 0]) := K2.out.later b3
  have LN3 : Hid (([] ++ putN 2 1).length ≤ 10) := by show _ ≤ _; rw [List.length_append, putN1_len]; simp
  clear em3 k3 r3 b3 HW2
  have d3_0 := K3.out.cell 0 rfl
  have d3_1 := K3.out.cell 1 rfl
  have d3_2 := K3.out.cell 2 rfl
  have d3_3 := K3.out.cell 3 rfl
  have d3_4 := K3.out.cell 4 rfl
  have d3_5 := K3.out.cell 5 rfl
  have d3_6 := K3.out.cell 6 rfl
  have d3_7 := K3.out.cell 7 rfl
  have d3_8 := K3.out.cell 8 rfl
  have d3_9 := K3.out.cell 9 rfl
  have d3_10 := K3.out.cell 10 rfl
  go_wp2_with fail
  refine (putCookie ⟨some ⟨g3, 0, none⟩, m3, c3⟩ ([] ++ putN 2 1) ⟨S.cn, S.sn, S.cookie, ⟨none, 0, 0⟩, ⟨none, 0, 0⟩, ⟨none, 0, 0⟩⟩ ⟨2, 0, D.cn, D.sn, D.tick, D.cookie, [], 0, 0, [], []⟩ x3 (rowRd R3.out EM3.out BL3.out) (by have := LN3.out; omega) ⟨(HF.out.later B3.out).cn, (HF.out.later B3.out).sn, (HF.out.later B3.out).cookie, nilRd _, nilRd _, nilRd _⟩ ⟨HS.out.cn, HS.out.sn, HS.out.cookie, Nat.zero_le _, Nat.zero_le _, Nat.zero_le _⟩).mono ?_
  rintro e x4 ⟨g4, m4, c4, rfl, em4, k4, r4, b4⟩
  have R4 : Hid (Row x4 g4 c4 ([] ++ putN 2 1 ++ D.cn ++ D.sn ++ putN D.tick 4 ++ D.cookie)) := r4
  have EM4 : Hid (m4 = ([] ++ putN 2 1 ++ D.cn ++ D.sn ++ putN D.tick 4 ++ D.cookie).length) := em4
  have GE4 : Hid (w.heap.size ≤ g4) := Nat.le_trans B3.out.size k4
  have B4 : Hid (Below w.heap.size w x4) := B3.out.trans (b4.mono B3.out.size)
  clear em4 k4 r4 b4
  go_wp2
  go_ret
  exact ⟨g4, m4, c4, by simp, EM4.out, GE4.out, R4.out, B4.out⟩

set_option maxRecDepth 100000 in
set_option maxHeartbeats 8000000 in
theorem putWord3 (S : FrS) (D : FrD) (w : World) (h : FrRd w S D) (hs : FrShort D 100) :
    Calls Try.prog 36 #[.iface 71 (.agg #[.int .i64 D.id, .slice S.cn.a S.cn.n S.cn.c, .slice S.sn.a S.sn.n S.sn.c, .int .i64 D.tick, .slice S.cookie.a S.cookie.n S.cookie.c, .slice S.proof.a S.proof.n S.proof.c])] w (New w ([] ++ putN 3 1 ++ putN D.id 1 ++ D.cn ++ D.sn ++ putN D.tick 4 ++ D.cookie ++ D.proof)) := by
  have HF : Hid (FrRd w S D) := h
  have HS : Hid (FrShort D 100) := hs
  clear h hs
  have q3 := mf3
  have t1 := as3_1
  have t2 := as3_2
  have t3 := as3_3
  go_enter Try.func36, Try.ntmps36
  go_wp2_with fail
  refine (finFrame D.id S.cn S.sn D.tick S.cookie S.proof w).mono ?_
  rintro e x1 ⟨rfl, b1⟩
  obtain ⟨x2, hx2⟩ : ∃ x2, x1.alloc (.cells #[.int .i64 3, .int .i64 D.id, .slice S.cn.a S.cn.n S.cn.c, .slice S.sn.a S.sn.n S.sn.c, .int .i64 D.tick, .slice S.cookie.a S.cookie.n S.cookie.c, .slice S.proof.a S.proof.n S.proof.c, .int .i64 0, .int .i64 0, .slice none 0 0, .slice none 0 0] 25) = x2 := ⟨_, rfl⟩
  have HW2 : Hid (x1.alloc (.cells #[.int .i64 3, .int .i64 D.id, .slice S.cn.a S.cn.n S.cn.c, .slice S.sn.a S.sn.n S.sn.c, .int .i64 D.tick, .slice S.cookie.a S.cookie.n S.cookie.c, .slice S.proof.a S.proof.n S.proof.c, .int .i64 0, .int .i64 0, .slice none 0 0, .slice none 0 0] 25) = x2) := hx2
  have B2 : Hid (Below w.heap.size w x2) := by rw [← hx2]; exact b1.alloc b1.size _
  have K2 : Hid (Blk x2 x1.heap.size 25 [.int .i64 3, .int .i64 D.id, .slice S.cn.a S.cn.n S.cn.c, .slice S.sn.a S.sn.n S.sn.c, .int .i64 D.tick, .slice S.cookie.a S.cookie.n S.cookie.c, .slice S.proof.a S.proof.n S.proof.c, .int .i64 0, .int .i64 0, .slice none 0 0, .slice none 0 0]) := by rw [← hx2]; exact Blk.new x1 _ _
  clear hx2 b1
  go_wp2_with fail
  rw [HW2.out]
  generalize hgf : x1.heap.size = gf at K2 ⊢
  refine (putK ⟨none, 0, 0⟩ [] 3 1 x2 (nilRd x2) (by simp)).mono ?_
  rintro e x3 ⟨g3, m3, c3, rfl, em3, k3, r3, b3⟩
  have R3 : Hid (Row x3 g3 c3 ([] ++ putN 3 1)) := r3
  have EM3 : Hid (m3 = ([] ++ putN 3 1).length) := em3
  have BL3 : Hid (Bytes ([] ++ putN 3 1)) := putN_bytes 3 1
  have B3 : Hid (Below w.heap.size w x3) := B2.out.trans (b3.mono B2.out.size)
  have K3 : Hid (Blk x3 gf 25 [.int .i64 3, .int .i64 D.id, .slice S.cn.a S.cn.n S.cn.c, .slice S.sn.a S.sn.n S.sn.c, .int .i64 D.tick, .slice S.cookie.a S.cookie.n S.cookie.c, .slice S.proof.a S.proof.n S.proof.c, .int .i64 0, .int .i64 0, .slice none 0 0, .slice none 0 0]) := K2.out.later b3
  have LN3 : Hid (([] ++ putN 3 1).length ≤ 10) := by show _ ≤ _; rw [List.length_append, putN1_len]; simp
  clear em3 k3 r3 b3 HW2
  go_upto_region 10 with fail
  have d3_0 := K3.out.cell 0 rfl
  have d3_1 := K3.out.cell 1 rfl
  have d3_2 := K3.out.cell 2 rfl
  have d3_3 := K3.out.cell 3 rfl
  have d3_4 := K3.out.cell 4 rfl
  have d3_5 := K3.out.cell 5 rfl
  have d3_6 := K3.out.cell 6 rfl
  have d3_7 := K3.out.cell 7 rfl
  have d3_8 := K3.out.cell 8 rfl
  have d3_9 := K3.out.cell 9 rfl
  have d3_10 := K3.out.cell 10 rfl
  go_region_held3 (fun w' => w'.cell? ⟨gf, 0, none⟩ = some (.int .i64 3) ∧ w'.cell? ⟨gf, 1, none⟩ = some (.int .i64 D.id) ∧ w'.cell? ⟨gf, 2, none⟩ = some (.slice S.cn.a S.cn.n S.cn.c) ∧ w'.cell? ⟨gf, 3, none⟩ = some (.slice S.sn.a S.sn.n S.sn.c) ∧ w'.cell? ⟨gf, 4, none⟩ = some (.int .i64 D.tick) ∧ w'.cell? ⟨gf, 5, none⟩ = some (.slice S.cookie.a S.cookie.n S.cookie.c) ∧ w'.cell? ⟨gf, 6, none⟩ = some (.slice S.proof.a S.proof.n S.proof.c) ∧ w'.cell? ⟨gf, 7, none⟩ = some (.int .i64 0) ∧ w'.cell? ⟨gf, 8, none⟩ = some (.int .i64 0) ∧ w'.cell? ⟨gf, 9, none⟩ = some (.slice none 0 0) ∧ w'.cell? ⟨gf, 10, none⟩ = some (.slice none 0 0)) (first | exact ⟨d5_0, d5_1, d5_2, d5_3, d5_4, d5_5, d5_6, d5_7, d5_8, d5_9, d5_10⟩ | exact ⟨d4_0, d4_1, d4_2, d4_3, d4_4, d4_5, d4_6, d4_7, d4_8, d4_9, d4_10⟩ | exact ⟨d3_0, d3_1, d3_2, d3_3, d3_4, d3_5, d3_6, d3_7, d3_8, d3_9, d3_10⟩ | go_keep)
    (first
      | (go_at_call 54; refine (putCookie ⟨some ⟨g4, 0, none⟩, m4, c4⟩ ([] ++ putN 3 1 ++ putN D.id 1) ⟨S.cn, S.sn, S.cookie, S.proof, ⟨none, 0, 0⟩, ⟨none, 0, 0⟩⟩ ⟨3, D.id, D.cn, D.sn, D.tick, D.cookie, D.proof, 0, 0, [], []⟩ x4 (rowRd R4.out EM4.out BL4.out) (by have := LN4.out; omega) ⟨(HF.out.later B4.out).cn, (HF.out.later B4.out).sn, (HF.out.later B4.out).cookie, (HF.out.later B4.out).proof, nilRd _, nilRd _⟩ ⟨HS.out.cn, HS.out.sn, HS.out.cookie, HS.out.proof, Nat.zero_le _, Nat.zero_le _⟩).mono ?_; rintro e x5 ⟨g5, m5, c5, rfl, em5, k5, r5, b5⟩; have R5 : Hid (Row x5 g5 c5 ([] ++ putN 3 1 ++ putN D.id 1 ++ D.cn ++ D.sn ++ putN D.tick 4 ++ D.cookie)) := r5; have EM5 : Hid (m5 = ([] ++ putN 3 1 ++ putN D.id 1 ++ D.cn ++ D.sn ++ putN D.tick 4 ++ D.cookie).length) := em5; have BL5 : Hid (Bytes ([] ++ putN 3 1 ++ putN D.id 1 ++ D.cn ++ D.sn ++ putN D.tick 4 ++ D.cookie)) := (FrB2.app (FrB2.app (FrB2.app (FrB2.app BL4.out HF.out.cn.bytes) HF.out.sn.bytes) (putN_bytes _ _)) HF.out.cookie.bytes); have B5 : Hid (Below w.heap.size w x5) := B4.out.trans (b5.mono B4.out.size); have K5 : Hid (Blk x5 gf 25 [.int .i64 3, .int .i64 D.id, .slice S.cn.a S.cn.n S.cn.c, .slice S.sn.a S.sn.n S.sn.c, .int .i64 D.tick, .slice S.cookie.a S.cookie.n S.cookie.c, .slice S.proof.a S.proof.n S.proof.c, .int .i64 0, .int .i64 0, .slice none 0 0, .slice none 0 0]) := K4.out.later b5; have LN5 : Hid (([] ++ putN 3 1 ++ putN D.id 1 ++ D.cn ++ D.sn ++ putN D.tick 4 ++ D.cookie).length ≤ 400) := (by show _ ≤ _; have h1 := LN4.out; have h2 := HS.out.cn; have h3 := HS.out.sn; have h4 := HS.out.cookie; have h5 := putN_length D.tick 4; rw [List.length_append, List.length_append, List.length_append, List.length_append]; omega); have d5_0 := K5.out.cell 0 rfl; have d5_1 := K5.out.cell 1 rfl; have d5_2 := K5.out.cell 2 rfl; have d5_3 := K5.out.cell 3 rfl; have d5_4 := K5.out.cell 4 rfl; have d5_5 := K5.out.cell 5 rfl; have d5_6 := K5.out.cell 6 rfl; have d5_7 := K5.out.cell 7 rfl; have d5_8 := K5.out.cell 8 rfl; have d5_9 := K5.out.cell 9 rfl; have d5_10 := K5.out.cell 10 rfl; clear em5 k5 r5 b5)
      | (go_at_call 52; refine (putK ⟨some ⟨g3, 0, none⟩, m3, c3⟩ ([] ++ putN 3 1) D.id 1 x3.drew (rowRd (w := x3.drew) R3.out EM3.out BL3.out) (by have := LN3.out; omega)).mono ?_; rintro e x4 ⟨g4, m4, c4, rfl, em4, k4, r4, b4⟩; have R4 : Hid (Row x4 g4 c4 ([] ++ putN 3 1 ++ putN D.id 1)) := r4; have EM4 : Hid (m4 = ([] ++ putN 3 1 ++ putN D.id 1).length) := em4; have BL4 : Hid (Bytes ([] ++ putN 3 1 ++ putN D.id 1)) := FrB2.app BL3.out (putN_bytes _ _); have B4 : Hid (Below w.heap.size w x4) := B3.out.drew.trans (b4.mono B3.out.size); have K4 : Hid (Blk x4 gf 25 [.int .i64 3, .int .i64 D.id, .slice S.cn.a S.cn.n S.cn.c, .slice S.sn.a S.sn.n S.sn.c, .int .i64 D.tick, .slice S.cookie.a S.cookie.n S.cookie.c, .slice S.proof.a S.proof.n S.proof.c, .int .i64 0, .int .i64 0, .slice none 0 0, .slice none 0 0]) := Blk.later (w := x3.drew) K3.out b4; have LN4 : Hid (([] ++ putN 3 1 ++ putN D.id 1).length ≤ 20) := (by show _ ≤ _; have h1 := LN3.out; have h2 := putN_length D.id 1; rw [List.length_append]; omega); have d4_0 := K4.out.cell 0 rfl; have d4_1 := K4.out.cell 1 rfl; have d4_2 := K4.out.cell 2 rfl; have d4_3 := K4.out.cell 3 rfl; have d4_4 := K4.out.cell 4 rfl; have d4_5 := K4.out.cell 5 rfl; have d4_6 := K4.out.cell 6 rfl; have d4_7 := K4.out.cell 7 rfl; have d4_8 := K4.out.cell 8 rfl; have d4_9 := K4.out.cell 9 rfl; have d4_10 := K4.out.cell 10 rfl; clear em4 k4 r4 b4))
  clear d3_0 d3_1 d3_2 d3_3 d3_4 d3_5 d3_6 d3_7 d3_8 d3_9 d3_10 d4_0 d4_1 d4_2 d4_3 d4_4 d4_5 d4_6 d4_7 d4_8 d4_9 d4_10
  go_wp2_with fail
  refine (putB ⟨some ⟨g5, 0, none⟩, m5, c5⟩ S.proof ([] ++ putN 3 1 ++ putN D.id 1 ++ D.cn ++ D.sn ++ putN D.tick 4 ++ D.cookie) D.proof x5 (rowRd R5.out EM5.out BL5.out) (HF.out.later B5.out).proof (by have := LN5.out; omega) (by have := HS.out.proof; omega)).mono ?_
  rintro e x7 ⟨g7, m7, c7, rfl, em7, k7, r7, b7⟩
  have R7 : Hid (Row x7 g7 c7 ([] ++ putN 3 1 ++ putN D.id 1 ++ D.cn ++ D.sn ++ putN D.tick 4 ++ D.cookie ++ D.proof)) := r7
  have EM7 : Hid (m7 = ([] ++ putN 3 1 ++ putN D.id 1 ++ D.cn ++ D.sn ++ putN D.tick 4 ++ D.cookie ++ D.proof).length) := em7
  have GE7 : Hid (w.heap.size ≤ g7) := Nat.le_trans B5.out.size k7
  have B7 : Hid (Below w.heap.size w x7) := B5.out.trans (b7.mono B5.out.size)
  clear em7 k7 r7 b7
  go_wp2
  go_ret
  exact ⟨g7, m7, c7, by simp, EM7.out, GE7.out, R7.out, B7.out⟩

set_option maxRecDepth 100000 in
set_option maxHeartbeats 8000000 in
theorem putWord4 (S : FrS) (D : FrD) (w : World) (h : FrRd w S D) (hs : FrShort D 100) :
    Calls Try.prog 36 #[.iface 77 (.agg #[.slice S.sn.a S.sn.n S.sn.c, .int .i64 D.epoch, .int .i64 D.seq, .slice S.tag.a S.tag.n S.tag.c, .slice S.body.a S.body.n S.body.c])] w (New w ([] ++ putN 4 1 ++ D.sn ++ putN D.epoch 4 ++ putN D.seq 6 ++ D.tag ++ D.body)) := by
  have HF : Hid (FrRd w S D) := h
  have HS : Hid (FrShort D 100) := hs
  clear h hs
  have q3 := mf4
  have t1 := as4_1
  have t2 := as4_2
  have t3 := as4_3
  go_enter Try.func36, Try.ntmps36
  go_wp2_with fail
  refine (dataFrame S.sn D.epoch D.seq S.tag S.body w).mono ?_
  rintro e x1 ⟨rfl, b1⟩
  obtain ⟨x2, hx2⟩ : ∃ x2, x1.alloc (.cells #[.int .i64 4, .int .i64 0, .slice none 0 0, .slice S.sn.a S.sn.n S.sn.c, .int .i64 0, .slice none 0 0, .slice none 0 0, .int .i64 D.epoch, .int .i64 D.seq, .slice S.body.a S.body.n S.body.c, .slice S.tag.a S.tag.n S.tag.c] 25) = x2 := ⟨_, rfl⟩
  have HW2 : Hid (x1.alloc (.cells #[.int .i64 4, .int .i64 0, .slice none 0 0, .slice S.sn.a S.sn.n S.sn.c, .int .i64 0, .slice none 0 0, .slice none 0 0, .int .i64 D.epoch, .int .i64 D.seq, .slice S.body.a S.body.n S.body.c, .slice S.tag.a S.tag.n S.tag.c] 25) = x2) := hx2
  have B2 : Hid (Below w.heap.size w x2) := by rw [← hx2]; exact b1.alloc b1.size _
  have K2 : Hid (Blk x2 x1.heap.size 25 [.int .i64 4, .int .i64 0, .slice none 0 0, .slice S.sn.a S.sn.n S.sn.c, .int .i64 0, .slice none 0 0, .slice none 0 0, .int .i64 D.epoch, .int .i64 D.seq, .slice S.body.a S.body.n S.body.c, .slice S.tag.a S.tag.n S.tag.c]) := by rw [← hx2]; exact Blk.new x1 _ _
  clear hx2 b1
  go_wp2_with fail
  rw [HW2.out]
  generalize hgf : x1.heap.size = gf at K2 ⊢
  refine (putK ⟨none, 0, 0⟩ [] 4 1 x2 (nilRd x2) (by simp)).mono ?_
  rintro e x3 ⟨g3, m3, c3, rfl, em3, k3, r3, b3⟩
  have R3 : Hid (Row x3 g3 c3 ([] ++ putN 4 1)) := r3
  have EM3 : Hid (m3 = ([] ++ putN 4 1).length) := em3
  have BL3 : Hid (Bytes ([] ++ putN 4 1)) := putN_bytes 4 1
  have B3 : Hid (Below w.heap.size w x3) := B2.out.trans (b3.mono B2.out.size)
  have K3 : Hid (Blk x3 gf 25 [.int .i64 4, .int .i64 0, .slice none 0 0, .slice S.sn.a S.sn.n S.sn.c, .int .i64 0, .slice none 0 0, .slice none 0 0, .int .i64 D.epoch, .int .i64 D.seq, .slice S.body.a S.body.n S.body.c, .slice S.tag.a S.tag.n S.tag.c]) := K2.out.later b3
  have LN3 : Hid (([] ++ putN 4 1).length ≤ 10) := by show _ ≤ _; rw [List.length_append, putN1_len]; simp
  clear em3 k3 r3 b3 HW2
  have d3_0 := K3.out.cell 0 rfl
  have d3_1 := K3.out.cell 1 rfl
  have d3_2 := K3.out.cell 2 rfl
  have d3_3 := K3.out.cell 3 rfl
  have d3_4 := K3.out.cell 4 rfl
  have d3_5 := K3.out.cell 5 rfl
  have d3_6 := K3.out.cell 6 rfl
  have d3_7 := K3.out.cell 7 rfl
  have d3_8 := K3.out.cell 8 rfl
  have d3_9 := K3.out.cell 9 rfl
  have d3_10 := K3.out.cell 10 rfl
  go_wp2_with fail
  refine (putSealed ⟨some ⟨g3, 0, none⟩, m3, c3⟩ ([] ++ putN 4 1) ⟨⟨none, 0, 0⟩, S.sn, ⟨none, 0, 0⟩, ⟨none, 0, 0⟩, S.body, S.tag⟩ ⟨4, 0, [], D.sn, 0, [], [], D.epoch, D.seq, D.body, D.tag⟩ x3 (rowRd R3.out EM3.out BL3.out) (by have := LN3.out; omega) ⟨nilRd _, (HF.out.later B3.out).sn, nilRd _, nilRd _, (HF.out.later B3.out).body, (HF.out.later B3.out).tag⟩ ⟨Nat.zero_le _, HS.out.sn, Nat.zero_le _, Nat.zero_le _, HS.out.body, HS.out.tag⟩).mono ?_
  rintro e x4 ⟨g4, m4, c4, rfl, em4, k4, r4, b4⟩
  have R4 : Hid (Row x4 g4 c4 ([] ++ putN 4 1 ++ D.sn ++ putN D.epoch 4 ++ putN D.seq 6 ++ D.tag ++ D.body)) := r4
  have EM4 : Hid (m4 = ([] ++ putN 4 1 ++ D.sn ++ putN D.epoch 4 ++ putN D.seq 6 ++ D.tag ++ D.body).length) := em4
  have GE4 : Hid (w.heap.size ≤ g4) := Nat.le_trans B3.out.size k4
  have B4 : Hid (Below w.heap.size w x4) := B3.out.trans (b4.mono B3.out.size)
  clear em4 k4 r4 b4
  go_wp2
  go_ret
  exact ⟨g4, m4, c4, by simp, EM4.out, GE4.out, R4.out, B4.out⟩

set_option maxRecDepth 100000 in
set_option maxHeartbeats 8000000 in
theorem putWord5 (S : FrS) (D : FrD) (w : World) (h : FrRd w S D) (hs : FrShort D 100) :
    Calls Try.prog 36 #[.iface 78 (.agg #[.slice S.sn.a S.sn.n S.sn.c, .int .i64 D.epoch, .int .i64 D.seq, .slice S.tag.a S.tag.n S.tag.c, .slice S.body.a S.body.n S.body.c])] w (New w ([] ++ putN 5 1 ++ D.sn ++ putN D.epoch 4 ++ putN D.seq 6 ++ D.tag ++ D.body)) := by
  have HF : Hid (FrRd w S D) := h
  have HS : Hid (FrShort D 100) := hs
  clear h hs
  have q3 := mf5
  have t1 := as5_1
  have t2 := as5_2
  have t3 := as5_3
  go_enter Try.func36, Try.ntmps36
  go_wp2_with fail
  refine (chalFrame S.sn D.epoch D.seq S.tag S.body w).mono ?_
  rintro e x1 ⟨rfl, b1⟩
  obtain ⟨x2, hx2⟩ : ∃ x2, x1.alloc (.cells #[.int .i64 5, .int .i64 0, .slice none 0 0, .slice S.sn.a S.sn.n S.sn.c, .int .i64 0, .slice none 0 0, .slice none 0 0, .int .i64 D.epoch, .int .i64 D.seq, .slice S.body.a S.body.n S.body.c, .slice S.tag.a S.tag.n S.tag.c] 25) = x2 := ⟨_, rfl⟩
  have HW2 : Hid (x1.alloc (.cells #[.int .i64 5, .int .i64 0, .slice none 0 0, .slice S.sn.a S.sn.n S.sn.c, .int .i64 0, .slice none 0 0, .slice none 0 0, .int .i64 D.epoch, .int .i64 D.seq, .slice S.body.a S.body.n S.body.c, .slice S.tag.a S.tag.n S.tag.c] 25) = x2) := hx2
  have B2 : Hid (Below w.heap.size w x2) := by rw [← hx2]; exact b1.alloc b1.size _
  have K2 : Hid (Blk x2 x1.heap.size 25 [.int .i64 5, .int .i64 0, .slice none 0 0, .slice S.sn.a S.sn.n S.sn.c, .int .i64 0, .slice none 0 0, .slice none 0 0, .int .i64 D.epoch, .int .i64 D.seq, .slice S.body.a S.body.n S.body.c, .slice S.tag.a S.tag.n S.tag.c]) := by rw [← hx2]; exact Blk.new x1 _ _
  clear hx2 b1
  go_wp2_with fail
  rw [HW2.out]
  generalize hgf : x1.heap.size = gf at K2 ⊢
  refine (putK ⟨none, 0, 0⟩ [] 5 1 x2 (nilRd x2) (by simp)).mono ?_
  rintro e x3 ⟨g3, m3, c3, rfl, em3, k3, r3, b3⟩
  have R3 : Hid (Row x3 g3 c3 ([] ++ putN 5 1)) := r3
  have EM3 : Hid (m3 = ([] ++ putN 5 1).length) := em3
  have BL3 : Hid (Bytes ([] ++ putN 5 1)) := putN_bytes 5 1
  have B3 : Hid (Below w.heap.size w x3) := B2.out.trans (b3.mono B2.out.size)
  have K3 : Hid (Blk x3 gf 25 [.int .i64 5, .int .i64 0, .slice none 0 0, .slice S.sn.a S.sn.n S.sn.c, .int .i64 0, .slice none 0 0, .slice none 0 0, .int .i64 D.epoch, .int .i64 D.seq, .slice S.body.a S.body.n S.body.c, .slice S.tag.a S.tag.n S.tag.c]) := K2.out.later b3
  have LN3 : Hid (([] ++ putN 5 1).length ≤ 10) := by show _ ≤ _; rw [List.length_append, putN1_len]; simp
  clear em3 k3 r3 b3 HW2
  have d3_0 := K3.out.cell 0 rfl
  have d3_1 := K3.out.cell 1 rfl
  have d3_2 := K3.out.cell 2 rfl
  have d3_3 := K3.out.cell 3 rfl
  have d3_4 := K3.out.cell 4 rfl
  have d3_5 := K3.out.cell 5 rfl
  have d3_6 := K3.out.cell 6 rfl
  have d3_7 := K3.out.cell 7 rfl
  have d3_8 := K3.out.cell 8 rfl
  have d3_9 := K3.out.cell 9 rfl
  have d3_10 := K3.out.cell 10 rfl
  go_wp2_with fail
  refine (putSealed ⟨some ⟨g3, 0, none⟩, m3, c3⟩ ([] ++ putN 5 1) ⟨⟨none, 0, 0⟩, S.sn, ⟨none, 0, 0⟩, ⟨none, 0, 0⟩, S.body, S.tag⟩ ⟨5, 0, [], D.sn, 0, [], [], D.epoch, D.seq, D.body, D.tag⟩ x3 (rowRd R3.out EM3.out BL3.out) (by have := LN3.out; omega) ⟨nilRd _, (HF.out.later B3.out).sn, nilRd _, nilRd _, (HF.out.later B3.out).body, (HF.out.later B3.out).tag⟩ ⟨Nat.zero_le _, HS.out.sn, Nat.zero_le _, Nat.zero_le _, HS.out.body, HS.out.tag⟩).mono ?_
  rintro e x4 ⟨g4, m4, c4, rfl, em4, k4, r4, b4⟩
  have R4 : Hid (Row x4 g4 c4 ([] ++ putN 5 1 ++ D.sn ++ putN D.epoch 4 ++ putN D.seq 6 ++ D.tag ++ D.body)) := r4
  have EM4 : Hid (m4 = ([] ++ putN 5 1 ++ D.sn ++ putN D.epoch 4 ++ putN D.seq 6 ++ D.tag ++ D.body).length) := em4
  have GE4 : Hid (w.heap.size ≤ g4) := Nat.le_trans B3.out.size k4
  have B4 : Hid (Below w.heap.size w x4) := B3.out.trans (b4.mono B3.out.size)
  clear em4 k4 r4 b4
  go_wp2
  go_ret
  exact ⟨g4, m4, c4, by simp, EM4.out, GE4.out, R4.out, B4.out⟩

set_option maxRecDepth 100000 in
set_option maxHeartbeats 8000000 in
theorem putWord6 (S : FrS) (D : FrD) (w : World) (h : FrRd w S D) (hs : FrShort D 100) :
    Calls Try.prog 36 #[.iface 79 (.agg #[.slice S.sn.a S.sn.n S.sn.c, .int .i64 D.epoch, .int .i64 D.seq, .slice S.tag.a S.tag.n S.tag.c, .slice S.body.a S.body.n S.body.c])] w (New w ([] ++ putN 6 1 ++ D.sn ++ putN D.epoch 4 ++ putN D.seq 6 ++ D.tag ++ D.body)) := by
  have HF : Hid (FrRd w S D) := h
  have HS : Hid (FrShort D 100) := hs
  clear h hs
  have q3 := mf6
  have t1 := as6_1
  have t2 := as6_2
  have t3 := as6_3
  go_enter Try.func36, Try.ntmps36
  go_wp2_with fail
  refine (respFrame S.sn D.epoch D.seq S.tag S.body w).mono ?_
  rintro e x1 ⟨rfl, b1⟩
  obtain ⟨x2, hx2⟩ : ∃ x2, x1.alloc (.cells #[.int .i64 6, .int .i64 0, .slice none 0 0, .slice S.sn.a S.sn.n S.sn.c, .int .i64 0, .slice none 0 0, .slice none 0 0, .int .i64 D.epoch, .int .i64 D.seq, .slice S.body.a S.body.n S.body.c, .slice S.tag.a S.tag.n S.tag.c] 25) = x2 := ⟨_, rfl⟩
  have HW2 : Hid (x1.alloc (.cells #[.int .i64 6, .int .i64 0, .slice none 0 0, .slice S.sn.a S.sn.n S.sn.c, .int .i64 0, .slice none 0 0, .slice none 0 0, .int .i64 D.epoch, .int .i64 D.seq, .slice S.body.a S.body.n S.body.c, .slice S.tag.a S.tag.n S.tag.c] 25) = x2) := hx2
  have B2 : Hid (Below w.heap.size w x2) := by rw [← hx2]; exact b1.alloc b1.size _
  have K2 : Hid (Blk x2 x1.heap.size 25 [.int .i64 6, .int .i64 0, .slice none 0 0, .slice S.sn.a S.sn.n S.sn.c, .int .i64 0, .slice none 0 0, .slice none 0 0, .int .i64 D.epoch, .int .i64 D.seq, .slice S.body.a S.body.n S.body.c, .slice S.tag.a S.tag.n S.tag.c]) := by rw [← hx2]; exact Blk.new x1 _ _
  clear hx2 b1
  go_wp2_with fail
  rw [HW2.out]
  generalize hgf : x1.heap.size = gf at K2 ⊢
  refine (putK ⟨none, 0, 0⟩ [] 6 1 x2 (nilRd x2) (by simp)).mono ?_
  rintro e x3 ⟨g3, m3, c3, rfl, em3, k3, r3, b3⟩
  have R3 : Hid (Row x3 g3 c3 ([] ++ putN 6 1)) := r3
  have EM3 : Hid (m3 = ([] ++ putN 6 1).length) := em3
  have BL3 : Hid (Bytes ([] ++ putN 6 1)) := putN_bytes 6 1
  have B3 : Hid (Below w.heap.size w x3) := B2.out.trans (b3.mono B2.out.size)
  have K3 : Hid (Blk x3 gf 25 [.int .i64 6, .int .i64 0, .slice none 0 0, .slice S.sn.a S.sn.n S.sn.c, .int .i64 0, .slice none 0 0, .slice none 0 0, .int .i64 D.epoch, .int .i64 D.seq, .slice S.body.a S.body.n S.body.c, .slice S.tag.a S.tag.n S.tag.c]) := K2.out.later b3
  have LN3 : Hid (([] ++ putN 6 1).length ≤ 10) := by show _ ≤ _; rw [List.length_append, putN1_len]; simp
  clear em3 k3 r3 b3 HW2
  have d3_0 := K3.out.cell 0 rfl
  have d3_1 := K3.out.cell 1 rfl
  have d3_2 := K3.out.cell 2 rfl
  have d3_3 := K3.out.cell 3 rfl
  have d3_4 := K3.out.cell 4 rfl
  have d3_5 := K3.out.cell 5 rfl
  have d3_6 := K3.out.cell 6 rfl
  have d3_7 := K3.out.cell 7 rfl
  have d3_8 := K3.out.cell 8 rfl
  have d3_9 := K3.out.cell 9 rfl
  have d3_10 := K3.out.cell 10 rfl
  go_wp2_with fail
  refine (putSealed ⟨some ⟨g3, 0, none⟩, m3, c3⟩ ([] ++ putN 6 1) ⟨⟨none, 0, 0⟩, S.sn, ⟨none, 0, 0⟩, ⟨none, 0, 0⟩, S.body, S.tag⟩ ⟨6, 0, [], D.sn, 0, [], [], D.epoch, D.seq, D.body, D.tag⟩ x3 (rowRd R3.out EM3.out BL3.out) (by have := LN3.out; omega) ⟨nilRd _, (HF.out.later B3.out).sn, nilRd _, nilRd _, (HF.out.later B3.out).body, (HF.out.later B3.out).tag⟩ ⟨Nat.zero_le _, HS.out.sn, Nat.zero_le _, Nat.zero_le _, HS.out.body, HS.out.tag⟩).mono ?_
  rintro e x4 ⟨g4, m4, c4, rfl, em4, k4, r4, b4⟩
  have R4 : Hid (Row x4 g4 c4 ([] ++ putN 6 1 ++ D.sn ++ putN D.epoch 4 ++ putN D.seq 6 ++ D.tag ++ D.body)) := r4
  have EM4 : Hid (m4 = ([] ++ putN 6 1 ++ D.sn ++ putN D.epoch 4 ++ putN D.seq 6 ++ D.tag ++ D.body).length) := em4
  have GE4 : Hid (w.heap.size ≤ g4) := Nat.le_trans B3.out.size k4
  have B4 : Hid (Below w.heap.size w x4) := B3.out.trans (b4.mono B3.out.size)
  clear em4 k4 r4 b4
  go_wp2
  go_ret
  exact ⟨g4, m4, c4, by simp, EM4.out, GE4.out, R4.out, B4.out⟩

set_option maxRecDepth 100000 in
set_option maxHeartbeats 8000000 in
theorem putWord7 (S : FrS) (D : FrD) (w : World) (h : FrRd w S D) (hs : FrShort D 100) :
    Calls Try.prog 36 #[.iface 80 (.agg #[.slice S.sn.a S.sn.n S.sn.c, .int .i64 D.epoch, .int .i64 D.seq, .slice S.tag.a S.tag.n S.tag.c, .slice S.body.a S.body.n S.body.c])] w (New w ([] ++ putN 7 1 ++ D.sn ++ putN D.epoch 4 ++ putN D.seq 6 ++ D.tag ++ D.body)) := by
  have HF : Hid (FrRd w S D) := h
  have HS : Hid (FrShort D 100) := hs
  clear h hs
  have q3 := mf7
  have t1 := as7_1
  have t2 := as7_2
  have t3 := as7_3
  go_enter Try.func36, Try.ntmps36
  go_wp2_with fail
  refine (rekFrame S.sn D.epoch D.seq S.tag S.body w).mono ?_
  rintro e x1 ⟨rfl, b1⟩
  obtain ⟨x2, hx2⟩ : ∃ x2, x1.alloc (.cells #[.int .i64 7, .int .i64 0, .slice none 0 0, .slice S.sn.a S.sn.n S.sn.c, .int .i64 0, .slice none 0 0, .slice none 0 0, .int .i64 D.epoch, .int .i64 D.seq, .slice S.body.a S.body.n S.body.c, .slice S.tag.a S.tag.n S.tag.c] 25) = x2 := ⟨_, rfl⟩
  have HW2 : Hid (x1.alloc (.cells #[.int .i64 7, .int .i64 0, .slice none 0 0, .slice S.sn.a S.sn.n S.sn.c, .int .i64 0, .slice none 0 0, .slice none 0 0, .int .i64 D.epoch, .int .i64 D.seq, .slice S.body.a S.body.n S.body.c, .slice S.tag.a S.tag.n S.tag.c] 25) = x2) := hx2
  have B2 : Hid (Below w.heap.size w x2) := by rw [← hx2]; exact b1.alloc b1.size _
  have K2 : Hid (Blk x2 x1.heap.size 25 [.int .i64 7, .int .i64 0, .slice none 0 0, .slice S.sn.a S.sn.n S.sn.c, .int .i64 0, .slice none 0 0, .slice none 0 0, .int .i64 D.epoch, .int .i64 D.seq, .slice S.body.a S.body.n S.body.c, .slice S.tag.a S.tag.n S.tag.c]) := by rw [← hx2]; exact Blk.new x1 _ _
  clear hx2 b1
  go_wp2_with fail
  rw [HW2.out]
  generalize hgf : x1.heap.size = gf at K2 ⊢
  refine (putK ⟨none, 0, 0⟩ [] 7 1 x2 (nilRd x2) (by simp)).mono ?_
  rintro e x3 ⟨g3, m3, c3, rfl, em3, k3, r3, b3⟩
  have R3 : Hid (Row x3 g3 c3 ([] ++ putN 7 1)) := r3
  have EM3 : Hid (m3 = ([] ++ putN 7 1).length) := em3
  have BL3 : Hid (Bytes ([] ++ putN 7 1)) := putN_bytes 7 1
  have B3 : Hid (Below w.heap.size w x3) := B2.out.trans (b3.mono B2.out.size)
  have K3 : Hid (Blk x3 gf 25 [.int .i64 7, .int .i64 0, .slice none 0 0, .slice S.sn.a S.sn.n S.sn.c, .int .i64 0, .slice none 0 0, .slice none 0 0, .int .i64 D.epoch, .int .i64 D.seq, .slice S.body.a S.body.n S.body.c, .slice S.tag.a S.tag.n S.tag.c]) := K2.out.later b3
  have LN3 : Hid (([] ++ putN 7 1).length ≤ 10) := by show _ ≤ _; rw [List.length_append, putN1_len]; simp
  clear em3 k3 r3 b3 HW2
  have d3_0 := K3.out.cell 0 rfl
  have d3_1 := K3.out.cell 1 rfl
  have d3_2 := K3.out.cell 2 rfl
  have d3_3 := K3.out.cell 3 rfl
  have d3_4 := K3.out.cell 4 rfl
  have d3_5 := K3.out.cell 5 rfl
  have d3_6 := K3.out.cell 6 rfl
  have d3_7 := K3.out.cell 7 rfl
  have d3_8 := K3.out.cell 8 rfl
  have d3_9 := K3.out.cell 9 rfl
  have d3_10 := K3.out.cell 10 rfl
  go_wp2_with fail
  refine (putSealed ⟨some ⟨g3, 0, none⟩, m3, c3⟩ ([] ++ putN 7 1) ⟨⟨none, 0, 0⟩, S.sn, ⟨none, 0, 0⟩, ⟨none, 0, 0⟩, S.body, S.tag⟩ ⟨7, 0, [], D.sn, 0, [], [], D.epoch, D.seq, D.body, D.tag⟩ x3 (rowRd R3.out EM3.out BL3.out) (by have := LN3.out; omega) ⟨nilRd _, (HF.out.later B3.out).sn, nilRd _, nilRd _, (HF.out.later B3.out).body, (HF.out.later B3.out).tag⟩ ⟨Nat.zero_le _, HS.out.sn, Nat.zero_le _, Nat.zero_le _, HS.out.body, HS.out.tag⟩).mono ?_
  rintro e x4 ⟨g4, m4, c4, rfl, em4, k4, r4, b4⟩
  have R4 : Hid (Row x4 g4 c4 ([] ++ putN 7 1 ++ D.sn ++ putN D.epoch 4 ++ putN D.seq 6 ++ D.tag ++ D.body)) := r4
  have EM4 : Hid (m4 = ([] ++ putN 7 1 ++ D.sn ++ putN D.epoch 4 ++ putN D.seq 6 ++ D.tag ++ D.body).length) := em4
  have GE4 : Hid (w.heap.size ≤ g4) := Nat.le_trans B3.out.size k4
  have B4 : Hid (Below w.heap.size w x4) := B3.out.trans (b4.mono B3.out.size)
  clear em4 k4 r4 b4
  go_wp2
  go_ret
  exact ⟨g4, m4, c4, by simp, EM4.out, GE4.out, R4.out, B4.out⟩

set_option maxRecDepth 100000 in
set_option maxHeartbeats 8000000 in
theorem putWord8 (S : FrS) (D : FrD) (w : World) (h : FrRd w S D) (hs : FrShort D 100) :
    Calls Try.prog 36 #[.iface 81 (.agg #[.slice S.sn.a S.sn.n S.sn.c, .int .i64 D.epoch, .int .i64 D.seq, .slice S.tag.a S.tag.n S.tag.c, .slice S.body.a S.body.n S.body.c])] w (New w ([] ++ putN 8 1 ++ D.sn ++ putN D.epoch 4 ++ putN D.seq 6 ++ D.tag ++ D.body)) := by
  have HF : Hid (FrRd w S D) := h
  have HS : Hid (FrShort D 100) := hs
  clear h hs
  have q3 := mf8
  have t1 := as8_1
  have t2 := as8_2
  have t3 := as8_3
  go_enter Try.func36, Try.ntmps36
  go_wp2_with fail
  refine (ackFrame S.sn D.epoch D.seq S.tag S.body w).mono ?_
  rintro e x1 ⟨rfl, b1⟩
  obtain ⟨x2, hx2⟩ : ∃ x2, x1.alloc (.cells #[.int .i64 8, .int .i64 0, .slice none 0 0, .slice S.sn.a S.sn.n S.sn.c, .int .i64 0, .slice none 0 0, .slice none 0 0, .int .i64 D.epoch, .int .i64 D.seq, .slice S.body.a S.body.n S.body.c, .slice S.tag.a S.tag.n S.tag.c] 25) = x2 := ⟨_, rfl⟩
  have HW2 : Hid (x1.alloc (.cells #[.int .i64 8, .int .i64 0, .slice none 0 0, .slice S.sn.a S.sn.n S.sn.c, .int .i64 0, .slice none 0 0, .slice none 0 0, .int .i64 D.epoch, .int .i64 D.seq, .slice S.body.a S.body.n S.body.c, .slice S.tag.a S.tag.n S.tag.c] 25) = x2) := hx2
  have B2 : Hid (Below w.heap.size w x2) := by rw [← hx2]; exact b1.alloc b1.size _
  have K2 : Hid (Blk x2 x1.heap.size 25 [.int .i64 8, .int .i64 0, .slice none 0 0, .slice S.sn.a S.sn.n S.sn.c, .int .i64 0, .slice none 0 0, .slice none 0 0, .int .i64 D.epoch, .int .i64 D.seq, .slice S.body.a S.body.n S.body.c, .slice S.tag.a S.tag.n S.tag.c]) := by rw [← hx2]; exact Blk.new x1 _ _
  clear hx2 b1
  go_wp2_with fail
  rw [HW2.out]
  generalize hgf : x1.heap.size = gf at K2 ⊢
  refine (putK ⟨none, 0, 0⟩ [] 8 1 x2 (nilRd x2) (by simp)).mono ?_
  rintro e x3 ⟨g3, m3, c3, rfl, em3, k3, r3, b3⟩
  have R3 : Hid (Row x3 g3 c3 ([] ++ putN 8 1)) := r3
  have EM3 : Hid (m3 = ([] ++ putN 8 1).length) := em3
  have BL3 : Hid (Bytes ([] ++ putN 8 1)) := putN_bytes 8 1
  have B3 : Hid (Below w.heap.size w x3) := B2.out.trans (b3.mono B2.out.size)
  have K3 : Hid (Blk x3 gf 25 [.int .i64 8, .int .i64 0, .slice none 0 0, .slice S.sn.a S.sn.n S.sn.c, .int .i64 0, .slice none 0 0, .slice none 0 0, .int .i64 D.epoch, .int .i64 D.seq, .slice S.body.a S.body.n S.body.c, .slice S.tag.a S.tag.n S.tag.c]) := K2.out.later b3
  have LN3 : Hid (([] ++ putN 8 1).length ≤ 10) := by show _ ≤ _; rw [List.length_append, putN1_len]; simp
  clear em3 k3 r3 b3 HW2
  have d3_0 := K3.out.cell 0 rfl
  have d3_1 := K3.out.cell 1 rfl
  have d3_2 := K3.out.cell 2 rfl
  have d3_3 := K3.out.cell 3 rfl
  have d3_4 := K3.out.cell 4 rfl
  have d3_5 := K3.out.cell 5 rfl
  have d3_6 := K3.out.cell 6 rfl
  have d3_7 := K3.out.cell 7 rfl
  have d3_8 := K3.out.cell 8 rfl
  have d3_9 := K3.out.cell 9 rfl
  have d3_10 := K3.out.cell 10 rfl
  go_wp2_with fail
  refine (putSealed ⟨some ⟨g3, 0, none⟩, m3, c3⟩ ([] ++ putN 8 1) ⟨⟨none, 0, 0⟩, S.sn, ⟨none, 0, 0⟩, ⟨none, 0, 0⟩, S.body, S.tag⟩ ⟨8, 0, [], D.sn, 0, [], [], D.epoch, D.seq, D.body, D.tag⟩ x3 (rowRd R3.out EM3.out BL3.out) (by have := LN3.out; omega) ⟨nilRd _, (HF.out.later B3.out).sn, nilRd _, nilRd _, (HF.out.later B3.out).body, (HF.out.later B3.out).tag⟩ ⟨Nat.zero_le _, HS.out.sn, Nat.zero_le _, Nat.zero_le _, HS.out.body, HS.out.tag⟩).mono ?_
  rintro e x4 ⟨g4, m4, c4, rfl, em4, k4, r4, b4⟩
  have R4 : Hid (Row x4 g4 c4 ([] ++ putN 8 1 ++ D.sn ++ putN D.epoch 4 ++ putN D.seq 6 ++ D.tag ++ D.body)) := r4
  have EM4 : Hid (m4 = ([] ++ putN 8 1 ++ D.sn ++ putN D.epoch 4 ++ putN D.seq 6 ++ D.tag ++ D.body).length) := em4
  have GE4 : Hid (w.heap.size ≤ g4) := Nat.le_trans B3.out.size k4
  have B4 : Hid (Below w.heap.size w x4) := B3.out.trans (b4.mono B3.out.size)
  clear em4 k4 r4 b4
  go_wp2
  go_ret
  exact ⟨g4, m4, c4, by simp, EM4.out, GE4.out, R4.out, B4.out⟩

end Go.Proofs.Ytfapehmbecgjaaa.FrQ2
