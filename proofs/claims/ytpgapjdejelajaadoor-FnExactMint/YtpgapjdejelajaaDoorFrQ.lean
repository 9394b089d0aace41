/-
  What impl's putCookie and putSealed answer: bytes that are laid behind others.
-/
import Derived.Test.YtpgapjdejelajaaDoorFrB2
import Derived.Deep.RegionHeld3
namespace Go.Proofs.YtpgapjdejelajaaDoor.FrQ
open Go.RowKit Go.Proofs.YtpgapjdejelajaaDoor.Mem Go.Proofs.YtpgapjdejelajaaDoor.App Go.Proofs.YtpgapjdejelajaaDoor.Blk Go.Proofs.YtpgapjdejelajaaDoor.Words Go.Proofs.YtpgapjdejelajaaDoor.Zone Go.Proofs.YtpgapjdejelajaaDoor.Res Go.Proofs.YtpgapjdejelajaaDoor.FrZ Go.Proofs.YtpgapjdejelajaaDoor.FrP Go.Proofs.YtpgapjdejelajaaDoor.FrB Go.Proofs.YtpgapjdejelajaaDoor.FrB2

/-- A new slice of the bytes l. -/
def New (w : World) (l : List Int) : Ending → World → Prop := fun e w' => ∃ g m cap, e = .returned (.slice (some ⟨g, 0, none⟩) m cap) ∧ m = l.length ∧ w.heap.size ≤ g ∧ Row w' g cap l ∧ Below w.heap.size w w'
set_option maxRecDepth 100000 in
theorem rowRd {w : World} {g m cap : Nat} {l : List Int} (r : Row w g cap l) (em : m = l.length) (hb : Bytes l) : SRd w ⟨some ⟨g, 0, none⟩, m, cap⟩ l :=
  ⟨em, r.rd, (fun e => by cases e), by rw [em]; exact r.1, hb⟩
set_option maxRecDepth 100000 in
theorem putN_bytes (n k : Int) : Bytes (putN n k) := by
  unfold putN; split
  · exact num_bytes _ _
  · intro z hz; cases hz
set_option maxRecDepth 100000 in
theorem putB (s t : Sl) (x y : List Int) (w : World) (hx : SRd w s x) (hy : SRd w t y) (lx : x.length ≤ 100000) (ly : y.length ≤ 100000) :
    Calls Tryd.prog 53 #[.slice s.a s.n s.c, .slice t.a t.n t.c] w (New w (x ++ y)) := by
  refine (putBytes s.a t.a s.n s.c t.n t.c x y w hx.len hy.len hx.rd hy.rd hx.nil hy.nil (by omega) (by omega)).mono ?_
  rintro e w' ⟨rfl, r, b⟩
  exact ⟨_, _, _, rfl, by rw [List.length_append, hx.len, hy.len], Nat.le_refl _, r, b⟩
set_option maxRecDepth 100000 in
theorem putK (s : Sl) (x : List Int) (n k : Int) (w : World) (hx : SRd w s x) (lx : x.length ≤ 100000) :
    Calls Tryd.prog 39 #[.slice s.a s.n s.c, .int .i64 n, .int .i64 k] w (New w (x ++ putN n k)) :=
  implPutN s.a s.n s.c x n k w hx.len hx.rd hx.nil (by omega)

set_option maxRecDepth 100000 in
set_option maxHeartbeats 8000000 in
theorem putCookie (s : Sl) (l : List Int) (S : FrS) (D : FrD) (w : World) (hl : SRd w s l) (ll : l.length ≤ 1000) (h : FrRd w S D) (hs : FrShort D 100) :
    Calls Tryd.prog 38 #[.slice s.a s.n s.c, frV D S] w (New w (l ++ D.cn ++ D.sn ++ putN D.tick 4 ++ D.cookie)) := by
  have HF : Hid (FrRd w S D) := h
  have HS : Hid (FrShort D 100) := hs
  have HL : Hid (SRd w s l) := hl
  have LL : Hid (l.length ≤ 1000) := ll
  obtain ⟨x0, hx0⟩ : ∃ x0, w.alloc (.cells #[.int .i64 D.kind, .int .i64 D.id, .slice S.cn.a S.cn.n S.cn.c, .slice S.sn.a S.sn.n S.sn.c, .int .i64 D.tick, .slice S.cookie.a S.cookie.n S.cookie.c, .slice S.proof.a S.proof.n S.proof.c, .int .i64 D.epoch, .int .i64 D.seq, .slice S.body.a S.body.n S.body.c, .slice S.tag.a S.tag.n S.tag.c] 57) = x0 := ⟨_, rfl⟩
  have HW0 : Hid (w.alloc (.cells #[.int .i64 D.kind, .int .i64 D.id, .slice S.cn.a S.cn.n S.cn.c, .slice S.sn.a S.sn.n S.sn.c, .int .i64 D.tick, .slice S.cookie.a S.cookie.n S.cookie.c, .slice S.proof.a S.proof.n S.proof.c, .int .i64 D.epoch, .int .i64 D.seq, .slice S.body.a S.body.n S.body.c, .slice S.tag.a S.tag.n S.tag.c] 57) = x0) := hx0
  have B0 : Hid (Below w.heap.size w x0) := by rw [← hx0]; exact (Below.refl _ _).alloc (Nat.le_refl _) _
  have K0 : Hid (Blk x0 w.heap.size 57 [.int .i64 D.kind, .int .i64 D.id, .slice S.cn.a S.cn.n S.cn.c, .slice S.sn.a S.sn.n S.sn.c, .int .i64 D.tick, .slice S.cookie.a S.cookie.n S.cookie.c, .slice S.proof.a S.proof.n S.proof.c, .int .i64 D.epoch, .int .i64 D.seq, .slice S.body.a S.body.n S.body.c, .slice S.tag.a S.tag.n S.tag.c]) := by rw [← hx0]; exact Blk.new w _ _
  have BL0 : Hid (Bytes l) := hl.bytes
  clear hx0 hl h hs ll
  unfold frV
  go_enter Tryd.func38, Tryd.ntmps38
  go_upto_region 1 with fail
  rw [HW0.out]
  generalize hga : w.heap.size = ga at K0 ⊢
  have c0_2 := K0.out.cell 2 rfl
  have c0_3 := K0.out.cell 3 rfl
  go_region_held3 (fun w' => w'.cell? ⟨ga, 2, none⟩ = some (.slice S.cn.a S.cn.n S.cn.c) ∧ w'.cell? ⟨ga, 3, none⟩ = some (.slice S.sn.a S.sn.n S.sn.c)) (first | exact ⟨p2_2, p2_3⟩ | exact ⟨p1_2, p1_3⟩ | exact ⟨c0_2, c0_3⟩ | go_keep)
    (first
      | (go_at_call 53; refine (putB ⟨some ⟨g1, 0, none⟩, m1, c1⟩ S.sn (l ++ D.cn) D.sn x1 (rowRd (w := x1) R1.out EM1.out BL1.out) (HF.out.later B1.out).sn (by have := LN1.out; omega) (by have := HS.out.sn; omega)).mono ?_; rintro e x2 ⟨g2, m2, c2, rfl, em2, k2, r2, b2⟩; have R2 : Hid (Row x2 g2 c2 (l ++ D.cn ++ D.sn)) := r2; have EM2 : Hid (m2 = (l ++ D.cn ++ D.sn).length) := em2; have GE2 : Hid (w.heap.size ≤ g2) := Nat.le_trans (B1.out).size k2; have B2 : Hid (Below w.heap.size w x2) := (B1.out).trans (b2.mono (B1.out).size); have K2 : Hid (Blk x2 ga 57 [.int .i64 D.kind, .int .i64 D.id, .slice S.cn.a S.cn.n S.cn.c, .slice S.sn.a S.sn.n S.sn.c, .int .i64 D.tick, .slice S.cookie.a S.cookie.n S.cookie.c, .slice S.proof.a S.proof.n S.proof.c, .int .i64 D.epoch, .int .i64 D.seq, .slice S.body.a S.body.n S.body.c, .slice S.tag.a S.tag.n S.tag.c]) := Blk.later (w := x1) K1.out b2; have BL2 : Hid (Bytes (l ++ D.cn ++ D.sn)) := FrB2.app BL1.out HF.out.sn.bytes; have LN2 : Hid ((l ++ D.cn ++ D.sn).length ≤ 1220) := (by show _ ≤ _; have h1 := LN1.out; have h2 := HS.out.sn; rw [List.length_append]; omega); have p2_2 := K2.out.cell 2 rfl; have p2_3 := K2.out.cell 3 rfl; clear em2 k2 r2 b2)
      | (go_at_call 53; refine (putB s S.cn (l) D.cn x0.drew (HL.out.later B0.out.drew) (HF.out.later B0.out.drew).cn (by have := LL.out; omega) (by have := HS.out.cn; omega)).mono ?_; rintro e x1 ⟨g1, m1, c1, rfl, em1, k1, r1, b1⟩; have R1 : Hid (Row x1 g1 c1 (l ++ D.cn)) := r1; have EM1 : Hid (m1 = (l ++ D.cn).length) := em1; have GE1 : Hid (w.heap.size ≤ g1) := Nat.le_trans (B0.out.drew).size k1; have B1 : Hid (Below w.heap.size w x1) := (B0.out.drew).trans (b1.mono (B0.out.drew).size); have K1 : Hid (Blk x1 ga 57 [.int .i64 D.kind, .int .i64 D.id, .slice S.cn.a S.cn.n S.cn.c, .slice S.sn.a S.sn.n S.sn.c, .int .i64 D.tick, .slice S.cookie.a S.cookie.n S.cookie.c, .slice S.proof.a S.proof.n S.proof.c, .int .i64 D.epoch, .int .i64 D.seq, .slice S.body.a S.body.n S.body.c, .slice S.tag.a S.tag.n S.tag.c]) := Blk.later (w := x0.drew) K0.out b1; have BL1 : Hid (Bytes (l ++ D.cn)) := FrB2.app BL0.out HF.out.cn.bytes; have LN1 : Hid ((l ++ D.cn).length ≤ 1110) := (by show _ ≤ _; have h1 := LL.out; have h2 := HS.out.cn; rw [List.length_append]; omega); have p1_2 := K1.out.cell 2 rfl; have p1_3 := K1.out.cell 3 rfl; clear em1 k1 r1 b1))
  clear c0_2 c0_3 p1_2 p1_3 p2_2 p2_3
  go_upto_region 2 with fail
  have c2_4 := K2.out.cell 4 rfl
  have c2_5 := K2.out.cell 5 rfl
  go_region_held3 (fun w' => w'.cell? ⟨ga, 4, none⟩ = some (.int .i64 D.tick) ∧ w'.cell? ⟨ga, 5, none⟩ = some (.slice S.cookie.a S.cookie.n S.cookie.c)) (first | exact ⟨p4_4, p4_5⟩ | exact ⟨p3_4, p3_5⟩ | exact ⟨c2_4, c2_5⟩ | go_keep)
    (first
      | (go_at_call 53; refine (putB ⟨some ⟨g3, 0, none⟩, m3, c3⟩ S.cookie (l ++ D.cn ++ D.sn ++ putN D.tick 4) D.cookie x3 (rowRd (w := x3) R3.out EM3.out BL3.out) (HF.out.later B3.out).cookie (by have := LN3.out; omega) (by have := HS.out.cookie; omega)).mono ?_; rintro e x4 ⟨g4, m4, c4, rfl, em4, k4, r4, b4⟩; have R4 : Hid (Row x4 g4 c4 (l ++ D.cn ++ D.sn ++ putN D.tick 4 ++ D.cookie)) := r4; have EM4 : Hid (m4 = (l ++ D.cn ++ D.sn ++ putN D.tick 4 ++ D.cookie).length) := em4; have GE4 : Hid (w.heap.size ≤ g4) := Nat.le_trans (B3.out).size k4; have B4 : Hid (Below w.heap.size w x4) := (B3.out).trans (b4.mono (B3.out).size); have K4 : Hid (Blk x4 ga 57 [.int .i64 D.kind, .int .i64 D.id, .slice S.cn.a S.cn.n S.cn.c, .slice S.sn.a S.sn.n S.sn.c, .int .i64 D.tick, .slice S.cookie.a S.cookie.n S.cookie.c, .slice S.proof.a S.proof.n S.proof.c, .int .i64 D.epoch, .int .i64 D.seq, .slice S.body.a S.body.n S.body.c, .slice S.tag.a S.tag.n S.tag.c]) := Blk.later (w := x3) K3.out b4; have BL4 : Hid (Bytes (l ++ D.cn ++ D.sn ++ putN D.tick 4 ++ D.cookie)) := FrB2.app BL3.out HF.out.cookie.bytes; have LN4 : Hid ((l ++ D.cn ++ D.sn ++ putN D.tick 4 ++ D.cookie).length ≤ 1440) := (by show _ ≤ _; have h1 := LN3.out; have h2 := HS.out.cookie; rw [List.length_append]; omega); have p4_4 := K4.out.cell 4 rfl; have p4_5 := K4.out.cell 5 rfl; clear em4 k4 r4 b4)
      | (go_at_call 39; refine (putK ⟨some ⟨g2, 0, none⟩, m2, c2⟩ (l ++ D.cn ++ D.sn) D.tick 4 x2.drew (rowRd (w := x2.drew) R2.out EM2.out BL2.out) (by have := LN2.out; omega)).mono ?_; rintro e x3 ⟨g3, m3, c3, rfl, em3, k3, r3, b3⟩; have R3 : Hid (Row x3 g3 c3 (l ++ D.cn ++ D.sn ++ putN D.tick 4)) := r3; have EM3 : Hid (m3 = (l ++ D.cn ++ D.sn ++ putN D.tick 4).length) := em3; have GE3 : Hid (w.heap.size ≤ g3) := Nat.le_trans (B2.out.drew).size k3; have B3 : Hid (Below w.heap.size w x3) := (B2.out.drew).trans (b3.mono (B2.out.drew).size); have K3 : Hid (Blk x3 ga 57 [.int .i64 D.kind, .int .i64 D.id, .slice S.cn.a S.cn.n S.cn.c, .slice S.sn.a S.sn.n S.sn.c, .int .i64 D.tick, .slice S.cookie.a S.cookie.n S.cookie.c, .slice S.proof.a S.proof.n S.proof.c, .int .i64 D.epoch, .int .i64 D.seq, .slice S.body.a S.body.n S.body.c, .slice S.tag.a S.tag.n S.tag.c]) := Blk.later (w := x2.drew) K2.out b3; have BL3 : Hid (Bytes (l ++ D.cn ++ D.sn ++ putN D.tick 4)) := FrB2.app BL2.out (putN_bytes _ _); have LN3 : Hid ((l ++ D.cn ++ D.sn ++ putN D.tick 4).length ≤ 1330) := (by show _ ≤ _; have h1 := LN2.out; have h2 := putN_length D.tick 4; rw [List.length_append]; omega); have p3_4 := K3.out.cell 4 rfl; have p3_5 := K3.out.cell 5 rfl; clear em3 k3 r3 b3))
  clear c2_4 c2_5 p3_4 p3_5 p4_4 p4_5
  go_wp2
  go_ret
  exact ⟨g4, m4, c4, by simp, EM4.out, hga ▸ GE4.out, R4.out, hga ▸ B4.out⟩

end Go.Proofs.YtpgapjdejelajaaDoor.FrQ
