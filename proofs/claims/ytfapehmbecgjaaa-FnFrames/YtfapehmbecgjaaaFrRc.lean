/-
  What impl's readCookie and readSealed leave in a frame.
-/
import Derived.Test.YtfapehmbecgjaaaFrRd
set_option linter.unusedVariables false
namespace Go.Proofs.Ytfapehmbecgjaaa.FrRc
open Go.RowKit Go.Proofs.Ytfapehmbecgjaaa.Mem Go.Proofs.Ytfapehmbecgjaaa.App Go.Proofs.Ytfapehmbecgjaaa.Get Go.Proofs.Ytfapehmbecgjaaa.Cuts Go.Proofs.Ytfapehmbecgjaaa.Blk Go.Proofs.Ytfapehmbecgjaaa.Zone Go.Proofs.Ytfapehmbecgjaaa.Res Go.Proofs.Ytfapehmbecgjaaa.FrZ Go.Proofs.Ytfapehmbecgjaaa.FrM Go.Proofs.Ytfapehmbecgjaaa.FrN Go.Proofs.Ytfapehmbecgjaaa.FrRd

theorem cut_bytes {l : List Int} (h : Bytes l) (i k : Int) : Bytes (cutOf l i k) := by
  unfold cutOf; split
  · exact fun z hz => h z (List.mem_of_mem_drop (List.mem_of_mem_take hz))
  · intro z hz; cases hz

set_option maxRecDepth 100000 in
set_option maxHeartbeats 8000000 in
theorem readCookie (gq gf bb off N c : Nat) (p : Int) (l : List Int) (D : FrD) (S : FrS) (W0 w : World) (K : Blk w gq 84 [.slice (some ⟨bb, off, none⟩) N c, .int .i64 (p)]) (M : FrMk w gf (gf + 1) D S) (hg : gq < gf) (h0 : W0.heap.size ≤ gq) (bw : Below W0.heap.size W0 w)
    (hn : N = l.length) (hr : Rd W0 (some ⟨bb, off, none⟩) l) (hb : Bytes l) (hc : N ≤ c) (hm : N ≤ 2000000) (p0 : 0 ≤ p) (p1 : p ≤ 100) :
    Calls Try.prog 60 #[.pointer (some ⟨gq, 0, none⟩), .pointer (some ⟨gf, 0, none⟩)] w fun e w' => ∃ S' p', e = .returned (.tuple #[]) ∧ FrMk w' gf (gf + 1) { D with cn := cutOf l (p) 12, sn := cutOf l (p + 12) 12, tick := numAt l (p + 24) 4, cookie := cutOf l (p + 28) 16 } S' ∧ Blk w' gq 84 [.slice (some ⟨bb, off, none⟩) N c, .int .i64 (p')] ∧ p' = p + 44 ∧ Kept gq (gf + 1) w w' := by
  have HLen : Hid (N = l.length) := hn
  have HRd : Hid (Rd W0 (some ⟨bb, off, none⟩) l) := hr
  have HBy : Hid (Bytes l) := hb
  have HG : Hid (gq < gf) := hg
  have H0 : Hid (W0.heap.size ≤ gq) := h0
  obtain ⟨x0, hx0⟩ : ∃ x0, x0 = w := ⟨_, rfl⟩
  have M0 : Hid (FrMk x0 gf (gf + 1) D S) := by rw [hx0]; exact M
  have K0 : Hid (Blk x0 gq 84 [.slice (some ⟨bb, off, none⟩) N c, .int .i64 (p)]) := by rw [hx0]; exact K
  have BW0 : Hid (Below W0.heap.size W0 w) := bw
  have KS0 : Hid (Kept gq (gf + 1) w x0) := by rw [hx0]; exact Kept.refl _ _ _
  have hm : N ≤ 4194304 := by omega
  clear hn hr hb K M hg h0 bw
  rw [show Calls Try.prog 60 #[.pointer (some ⟨gq, 0, none⟩), .pointer (some ⟨gf, 0, none⟩)] w = Calls Try.prog 60 #[.pointer (some ⟨gq, 0, none⟩), .pointer (some ⟨gf, 0, none⟩)] x0 by rw [hx0]]
  have BW0' : Hid (Below W0.heap.size W0 x0) := by rw [hx0]; exact BW0.out
  clear hx0
  go_enter Try.func60, Try.ntmps60
  go_wp2_with fail
  refine (take gq bb off N c (p) 12 l x0 K0.out HLen.out (HRd.out.later BW0'.out (Nat.le_refl _)) HBy.out hc hm (by omega) (by omega) (by omega) (by omega)).mono ?_
  rintro e y1 ⟨q1, m1, c1, rfl, em1, kq1, r1, kb1, kp1⟩
  have KP1 : Hid (Kept gq (gq + 1) x0 y1) := kp1
  have BL1 : Blk y1 gf 25 [.int .i64 (D : FrD).kind, .int .i64 (D : FrD).id, .slice (S : FrS).cn.a (S : FrS).cn.n (S : FrS).cn.c, .slice (S : FrS).sn.a (S : FrS).sn.n (S : FrS).sn.c, .int .i64 (D : FrD).tick, .slice (S : FrS).cookie.a (S : FrS).cookie.n (S : FrS).cookie.c, .slice (S : FrS).proof.a (S : FrS).proof.n (S : FrS).proof.c, .int .i64 (D : FrD).epoch, .int .i64 (D : FrD).seq, .slice (S : FrS).body.a (S : FrS).body.n (S : FrS).body.c, .slice (S : FrS).tag.a (S : FrS).tag.n (S : FrS).tag.c] := M0.out.blk.keep (kp1.block gf M0.out.blk.lt (by have := HG.out; omega))
  have OW1 : FrOwn y1 (gf + 1) x0.heap.size S D := M0.out.own.carry kp1 (.inr (by have := HG.out; omega))
  have co : y1.cell? ⟨gf, 2, none⟩ = some (.slice S.cn.a S.cn.n S.cn.c) := BL1.cell 2 rfl
  have fo := BL1.frozen 2
  obtain ⟨x1, hx1⟩ : ∃ x1, y1.setCell ⟨gf, 2, none⟩ (.slice (some ⟨q1, 0, none⟩) m1 c1) = x1 := ⟨_, rfl⟩
  have HW1 : Hid (y1.setCell ⟨gf, 2, none⟩ (.slice (some ⟨q1, 0, none⟩) m1 c1) = x1) := hx1
  have M1 : Hid (FrMk x1 gf (gf + 1) { D with cn := cutOf l (p) 12 } { S with cn := ⟨some ⟨q1, 0, none⟩, m1, c1⟩ }) := by rw [← hx1]; exact FrMk.cn2 BL1 OW1 (Nat.lt_succ_self _) M0.out.blk.lt r1 em1 (cut_bytes HBy.out _ _) kq1
  have K1 : Hid (Blk x1 gq 84 [.slice (some ⟨bb, off, none⟩) N c, .int .i64 ((p) + 12)]) := by rw [← hx1]; exact kb1.other (by show gq ≠ gf; have := HG.out; omega) _
  clear r1 em1 kq1 kb1 kp1 BL1 OW1
  have KS1 : Hid (Kept gq (gf + 1) w x1) := by rw [← hx1]; exact (KS0.out.trans (KP1.out.mono (Nat.le_refl _) (by have := HG.out; omega))).trans ((Kept.setCell y1 gf 2 _).mono (by have := HG.out; omega) (Nat.le_refl _))
  have BW1 : Hid (Below W0.heap.size W0 x1) := BW0.out.trans (KS1.out.below H0.out BW0.out.size)
  have K1 : Hid (Blk x1 gq 84 [.slice (some ⟨bb, off, none⟩) N c, .int .i64 (p + 12)]) := by have := K1.out; rw [show (p) + 12 = p + 12 by omega] at this; exact this
  clear hx1 KP1
  go_upto_region 1 with fail
  rw [HW1.out]
  clear co fo HW1 M0 K0 KS0
  go_wp2_with fail
  refine (take gq bb off N c (p + 12) 12 l x1 K1.out HLen.out (HRd.out.later BW1.out (Nat.le_refl _)) HBy.out hc hm (by omega) (by omega) (by omega) (by omega)).mono ?_
  rintro e y2 ⟨q2, m2, c2, rfl, em2, kq2, r2, kb2, kp2⟩
  have KP2 : Hid (Kept gq (gq + 1) x1 y2) := kp2
  have BL2 : Blk y2 gf 25 [.int .i64 ({ D with cn := cutOf l (p) 12 } : FrD).kind, .int .i64 ({ D with cn := cutOf l (p) 12 } : FrD).id, .slice ({ S with cn := ⟨some ⟨q1, 0, none⟩, m1, c1⟩ } : FrS).cn.a ({ S with cn := ⟨some ⟨q1, 0, none⟩, m1, c1⟩ } : FrS).cn.n ({ S with cn := ⟨some ⟨q1, 0, none⟩, m1, c1⟩ } : FrS).cn.c, .slice ({ S with cn := ⟨some ⟨q1, 0, none⟩, m1, c1⟩ } : FrS).sn.a ({ S with cn := ⟨some ⟨q1, 0, none⟩, m1, c1⟩ } : FrS).sn.n ({ S with cn := ⟨some ⟨q1, 0, none⟩, m1, c1⟩ } : FrS).sn.c, .int .i64 ({ D with cn := cutOf l (p) 12 } : FrD).tick, .slice ({ S with cn := ⟨some ⟨q1, 0, none⟩, m1, c1⟩ } : FrS).cookie.a ({ S with cn := ⟨some ⟨q1, 0, none⟩, m1, c1⟩ } : FrS).cookie.n ({ S with cn := ⟨some ⟨q1, 0, none⟩, m1, c1⟩ } : FrS).cookie.c, .slice ({ S with cn := ⟨some ⟨q1, 0, none⟩, m1, c1⟩ } : FrS).proof.a ({ S with cn := ⟨some ⟨q1, 0, none⟩, m1, c1⟩ } : FrS).proof.n ({ S with cn := ⟨some ⟨q1, 0, none⟩, m1, c1⟩ } : FrS).proof.c, .int .i64 ({ D with cn := cutOf l (p) 12 } : FrD).epoch, .int .i64 ({ D with cn := cutOf l (p) 12 } : FrD).seq, .slice ({ S with cn := ⟨some ⟨q1, 0, none⟩, m1, c1⟩ } : FrS).body.a ({ S with cn := ⟨some ⟨q1, 0, none⟩, m1, c1⟩ } : FrS).body.n ({ S with cn := ⟨some ⟨q1, 0, none⟩, m1, c1⟩ } : FrS).body.c, .slice ({ S with cn := ⟨some ⟨q1, 0, none⟩, m1, c1⟩ } : FrS).tag.a ({ S with cn := ⟨some ⟨q1, 0, none⟩, m1, c1⟩ } : FrS).tag.n ({ S with cn := ⟨some ⟨q1, 0, none⟩, m1, c1⟩ } : FrS).tag.c] := M1.out.blk.keep (kp2.block gf M1.out.blk.lt (by have := HG.out; omega))
  have OW2 : FrOwn y2 (gf + 1) x1.heap.size { S with cn := ⟨some ⟨q1, 0, none⟩, m1, c1⟩ } { D with cn := cutOf l (p) 12 } := M1.out.own.carry kp2 (.inr (by have := HG.out; omega))
  have co : y2.cell? ⟨gf, 3, none⟩ = some (.slice S.sn.a S.sn.n S.sn.c) := BL2.cell 3 rfl
  have fo := BL2.frozen 3
  obtain ⟨x2, hx2⟩ : ∃ x2, y2.setCell ⟨gf, 3, none⟩ (.slice (some ⟨q2, 0, none⟩) m2 c2) = x2 := ⟨_, rfl⟩
  have HW2 : Hid (y2.setCell ⟨gf, 3, none⟩ (.slice (some ⟨q2, 0, none⟩) m2 c2) = x2) := hx2
  have M2 : Hid (FrMk x2 gf (gf + 1) { { D with cn := cutOf l (p) 12 } with sn := cutOf l (p + 12) 12 } { { S with cn := ⟨some ⟨q1, 0, none⟩, m1, c1⟩ } with sn := ⟨some ⟨q2, 0, none⟩, m2, c2⟩ }) := by rw [← hx2]; exact FrMk.sn2 BL2 OW2 (Nat.lt_succ_self _) M1.out.blk.lt r2 em2 (cut_bytes HBy.out _ _) kq2
  have K2 : Hid (Blk x2 gq 84 [.slice (some ⟨bb, off, none⟩) N c, .int .i64 ((p + 12) + 12)]) := by rw [← hx2]; exact kb2.other (by show gq ≠ gf; have := HG.out; omega) _
  clear r2 em2 kq2 kb2 kp2 BL2 OW2
  have KS2 : Hid (Kept gq (gf + 1) w x2) := by rw [← hx2]; exact (KS1.out.trans (KP2.out.mono (Nat.le_refl _) (by have := HG.out; omega))).trans ((Kept.setCell y2 gf 3 _).mono (by have := HG.out; omega) (Nat.le_refl _))
  have BW2 : Hid (Below W0.heap.size W0 x2) := BW0.out.trans (KS2.out.below H0.out BW0.out.size)
  have K2 : Hid (Blk x2 gq 84 [.slice (some ⟨bb, off, none⟩) N c, .int .i64 (p + 24)]) := by have := K2.out; rw [show (p + 12) + 12 = p + 24 by omega] at this; exact this
  clear hx2 KP2
  go_upto_region 2 with fail
  rw [HW2.out]
  clear co fo HW2 M1 K1 KS1 BW1
  go_wp2_with fail
  refine (number gq bb off N c (p + 24) 4 l x2 K2.out HLen.out (HRd.out.later BW2.out (Nat.le_refl _)) HBy.out hc hm (by omega) (by omega) (by omega) (by omega)).mono ?_
  rintro e y3 ⟨rfl, kb3, kp3⟩
  have KP3 : Hid (Kept gq (gq + 1) x2 y3) := kp3
  have MY3 : Hid (FrMk y3 gf (gf + 1) { { D with cn := cutOf l (p) 12 } with sn := cutOf l (p + 12) 12 } { { S with cn := ⟨some ⟨q1, 0, none⟩, m1, c1⟩ } with sn := ⟨some ⟨q2, 0, none⟩, m2, c2⟩ }) := FrMk.kept M2.out kp3 (by have := HG.out; omega) (by have := HG.out; omega)
  have co : y3.cell? ⟨gf, 4, none⟩ = some (.int .i64 D.tick) := MY3.out.blk.cell 4 rfl
  have fo := MY3.out.blk.frozen 4
  obtain ⟨x3, hx3⟩ : ∃ x3, y3.setCell ⟨gf, 4, none⟩ (.int .i64 (numAt l (p + 24) 4)) = x3 := ⟨_, rfl⟩
  have HW3 : Hid (y3.setCell ⟨gf, 4, none⟩ (.int .i64 (numAt l (p + 24) 4)) = x3) := hx3
  have M3 : Hid (FrMk x3 gf (gf + 1) { { { D with cn := cutOf l (p) 12 } with sn := cutOf l (p + 12) 12 } with tick := numAt l (p + 24) 4 } { { S with cn := ⟨some ⟨q1, 0, none⟩, m1, c1⟩ } with sn := ⟨some ⟨q2, 0, none⟩, m2, c2⟩ }) := by rw [← hx3]; exact MY3.out.tick _
  have K3 : Hid (Blk x3 gq 84 [.slice (some ⟨bb, off, none⟩) N c, .int .i64 ((p + 24) + 4)]) := by rw [← hx3]; exact kb3.other (by show gq ≠ gf; have := HG.out; omega) _
  clear kb3 kp3 MY3
  have KS3 : Hid (Kept gq (gf + 1) w x3) := by rw [← hx3]; exact (KS2.out.trans (KP3.out.mono (Nat.le_refl _) (by have := HG.out; omega))).trans ((Kept.setCell y3 gf 4 _).mono (by have := HG.out; omega) (Nat.le_refl _))
  have BW3 : Hid (Below W0.heap.size W0 x3) := BW0.out.trans (KS3.out.below H0.out BW0.out.size)
  have K3 : Hid (Blk x3 gq 84 [.slice (some ⟨bb, off, none⟩) N c, .int .i64 (p + 28)]) := by have := K3.out; rw [show (p + 24) + 4 = p + 28 by omega] at this; exact this
  clear hx3 KP3
  go_upto_region 3 with fail
  rw [HW3.out]
  clear co fo HW3 M2 K2 KS2 BW2
  go_wp2_with fail
  refine (take gq bb off N c (p + 28) 16 l x3 K3.out HLen.out (HRd.out.later BW3.out (Nat.le_refl _)) HBy.out hc hm (by omega) (by omega) (by omega) (by omega)).mono ?_
  rintro e y4 ⟨q4, m4, c4, rfl, em4, kq4, r4, kb4, kp4⟩
  have KP4 : Hid (Kept gq (gq + 1) x3 y4) := kp4
  have BL4 : Blk y4 gf 25 [.int .i64 ({ { { D with cn := cutOf l (p) 12 } with sn := cutOf l (p + 12) 12 } with tick := numAt l (p + 24) 4 } : FrD).kind, .int .i64 ({ { { D with cn := cutOf l (p) 12 } with sn := cutOf l (p + 12) 12 } with tick := numAt l (p + 24) 4 } : FrD).id, .slice ({ { S with cn := ⟨some ⟨q1, 0, none⟩, m1, c1⟩ } with sn := ⟨some ⟨q2, 0, none⟩, m2, c2⟩ } : FrS).cn.a ({ { S with cn := ⟨some ⟨q1, 0, none⟩, m1, c1⟩ } with sn := ⟨some ⟨q2, 0, none⟩, m2, c2⟩ } : FrS).cn.n ({ { S with cn := ⟨some ⟨q1, 0, none⟩, m1, c1⟩ } with sn := ⟨some ⟨q2, 0, none⟩, m2, c2⟩ } : FrS).cn.c, .slice ({ { S with cn := ⟨some ⟨q1, 0, none⟩, m1, c1⟩ } with sn := ⟨some ⟨q2, 0, none⟩, m2, c2⟩ } : FrS).sn.a ({ { S with cn := ⟨some ⟨q1, 0, none⟩, m1, c1⟩ } with sn := ⟨some ⟨q2, 0, none⟩, m2, c2⟩ } : FrS).sn.n ({ { S with cn := ⟨some ⟨q1, 0, none⟩, m1, c1⟩ } with sn := ⟨some ⟨q2, 0, none⟩, m2, c2⟩ } : FrS).sn.c, .int .i64 ({ { { D with cn := cutOf l (p) 12 } with sn := cutOf l (p + 12) 12 } with tick := numAt l (p + 24) 4 } : FrD).tick, .slice ({ { S with cn := ⟨some ⟨q1, 0, none⟩, m1, c1⟩ } with sn := ⟨some ⟨q2, 0, none⟩, m2, c2⟩ } : FrS).cookie.a ({ { S with cn := ⟨some ⟨q1, 0, none⟩, m1, c1⟩ } with sn := ⟨some ⟨q2, 0, none⟩, m2, c2⟩ } : FrS).cookie.n ({ { S with cn := ⟨some ⟨q1, 0, none⟩, m1, c1⟩ } with sn := ⟨some ⟨q2, 0, none⟩, m2, c2⟩ } : FrS).cookie.c, .slice ({ { S with cn := ⟨some ⟨q1, 0, none⟩, m1, c1⟩ } with sn := ⟨some ⟨q2, 0, none⟩, m2, c2⟩ } : FrS).proof.a ({ { S with cn := ⟨some ⟨q1, 0, none⟩, m1, c1⟩ } with sn := ⟨some ⟨q2, 0, none⟩, m2, c2⟩ } : FrS).proof.n ({ { S with cn := ⟨some ⟨q1, 0, none⟩, m1, c1⟩ } with sn := ⟨some ⟨q2, 0, none⟩, m2, c2⟩ } : FrS).proof.c, .int .i64 ({ { { D with cn := cutOf l (p) 12 } with sn := cutOf l (p + 12) 12 } with tick := numAt l (p + 24) 4 } : FrD).epoch, .int .i64 ({ { { D with cn := cutOf l (p) 12 } with sn := cutOf l (p + 12) 12 } with tick := numAt l (p + 24) 4 } : FrD).seq, .slice ({ { S with cn := ⟨some ⟨q1, 0, none⟩, m1, c1⟩ } with sn := ⟨some ⟨q2, 0, none⟩, m2, c2⟩ } : FrS).body.a ({ { S with cn := ⟨some ⟨q1, 0, none⟩, m1, c1⟩ } with sn := ⟨some ⟨q2, 0, none⟩, m2, c2⟩ } : FrS).body.n ({ { S with cn := ⟨some ⟨q1, 0, none⟩, m1, c1⟩ } with sn := ⟨some ⟨q2, 0, none⟩, m2, c2⟩ } : FrS).body.c, .slice ({ { S with cn := ⟨some ⟨q1, 0, none⟩, m1, c1⟩ } with sn := ⟨some ⟨q2, 0, none⟩, m2, c2⟩ } : FrS).tag.a ({ { S with cn := ⟨some ⟨q1, 0, none⟩, m1, c1⟩ } with sn := ⟨some ⟨q2, 0, none⟩, m2, c2⟩ } : FrS).tag.n ({ { S with cn := ⟨some ⟨q1, 0, none⟩, m1, c1⟩ } with sn := ⟨some ⟨q2, 0, none⟩, m2, c2⟩ } : FrS).tag.c] := M3.out.blk.keep (kp4.block gf M3.out.blk.lt (by have := HG.out; omega))
  have OW4 : FrOwn y4 (gf + 1) x3.heap.size { { S with cn := ⟨some ⟨q1, 0, none⟩, m1, c1⟩ } with sn := ⟨some ⟨q2, 0, none⟩, m2, c2⟩ } { { { D with cn := cutOf l (p) 12 } with sn := cutOf l (p + 12) 12 } with tick := numAt l (p + 24) 4 } := M3.out.own.carry kp4 (.inr (by have := HG.out; omega))
  have co : y4.cell? ⟨gf, 5, none⟩ = some (.slice S.cookie.a S.cookie.n S.cookie.c) := BL4.cell 5 rfl
  have fo := BL4.frozen 5
  obtain ⟨x4, hx4⟩ : ∃ x4, y4.setCell ⟨gf, 5, none⟩ (.slice (some ⟨q4, 0, none⟩) m4 c4) = x4 := ⟨_, rfl⟩
  have HW4 : Hid (y4.setCell ⟨gf, 5, none⟩ (.slice (some ⟨q4, 0, none⟩) m4 c4) = x4) := hx4
  have M4 : Hid (FrMk x4 gf (gf + 1) { { { { D with cn := cutOf l (p) 12 } with sn := cutOf l (p + 12) 12 } with tick := numAt l (p + 24) 4 } with cookie := cutOf l (p + 28) 16 } { { { S with cn := ⟨some ⟨q1, 0, none⟩, m1, c1⟩ } with sn := ⟨some ⟨q2, 0, none⟩, m2, c2⟩ } with cookie := ⟨some ⟨q4, 0, none⟩, m4, c4⟩ }) := by rw [← hx4]; exact FrMk.cookie2 BL4 OW4 (Nat.lt_succ_self _) M3.out.blk.lt r4 em4 (cut_bytes HBy.out _ _) kq4
  have K4 : Hid (Blk x4 gq 84 [.slice (some ⟨bb, off, none⟩) N c, .int .i64 ((p + 28) + 16)]) := by rw [← hx4]; exact kb4.other (by show gq ≠ gf; have := HG.out; omega) _
  clear r4 em4 kq4 kb4 kp4 BL4 OW4
  have KS4 : Hid (Kept gq (gf + 1) w x4) := by rw [← hx4]; exact (KS3.out.trans (KP4.out.mono (Nat.le_refl _) (by have := HG.out; omega))).trans ((Kept.setCell y4 gf 5 _).mono (by have := HG.out; omega) (Nat.le_refl _))
  have BW4 : Hid (Below W0.heap.size W0 x4) := BW0.out.trans (KS4.out.below H0.out BW0.out.size)
  have K4 : Hid (Blk x4 gq 84 [.slice (some ⟨bb, off, none⟩) N c, .int .i64 (p + 44)]) := by have := K4.out; rw [show (p + 28) + 16 = p + 44 by omega] at this; exact this
  clear hx4 KP4
  go_wp2
  rw [HW4.out]
  clear co fo HW4 M3 K3 KS3 BW3
  go_end0
  exact ⟨_, _, rfl, M4.out, K4.out, rfl, KS4.out⟩

set_option maxRecDepth 100000 in
set_option maxHeartbeats 8000000 in
theorem readSealed (gq gf bb off N c : Nat) (p : Int) (l : List Int) (D : FrD) (S : FrS) (W0 w : World) (K : Blk w gq 84 [.slice (some ⟨bb, off, none⟩) N c, .int .i64 (p)]) (M : FrMk w gf (gf + 1) D S) (hg : gq < gf) (h0 : W0.heap.size ≤ gq) (bw : Below W0.heap.size W0 w)
    (hn : N = l.length) (hr : Rd W0 (some ⟨bb, off, none⟩) l) (hb : Bytes l) (hc : N ≤ c) (hm : N ≤ 2000000) (p0 : 0 ≤ p) (p1 : p ≤ 100) :
    Calls Try.prog 61 #[.pointer (some ⟨gq, 0, none⟩), .pointer (some ⟨gf, 0, none⟩)] w fun e w' => ∃ S' p', e = .returned (.tuple #[]) ∧ FrMk w' gf (gf + 1) { D with sn := cutOf l (p) 12, epoch := numAt l (p + 12) 4, seq := numAt l (p + 16) 6, tag := cutOf l (p + 22) 16, body := cutOf l (p + 38) ((N : Int) - (p + 38)) } S' ∧ Blk w' gq 84 [.slice (some ⟨bb, off, none⟩) N c, .int .i64 (p')] ∧ Kept gq (gf + 1) w w' := by
  have HLen : Hid (N = l.length) := hn
  have HRd : Hid (Rd W0 (some ⟨bb, off, none⟩) l) := hr
  have HBy : Hid (Bytes l) := hb
  have HG : Hid (gq < gf) := hg
  have H0 : Hid (W0.heap.size ≤ gq) := h0
  obtain ⟨x0, hx0⟩ : ∃ x0, x0 = w := ⟨_, rfl⟩
  have M0 : Hid (FrMk x0 gf (gf + 1) D S) := by rw [hx0]; exact M
  have K0 : Hid (Blk x0 gq 84 [.slice (some ⟨bb, off, none⟩) N c, .int .i64 (p)]) := by rw [hx0]; exact K
  have BW0 : Hid (Below W0.heap.size W0 w) := bw
  have KS0 : Hid (Kept gq (gf + 1) w x0) := by rw [hx0]; exact Kept.refl _ _ _
  have hm : N ≤ 4194304 := by omega
  clear hn hr hb K M hg h0 bw
  rw [show Calls Try.prog 61 #[.pointer (some ⟨gq, 0, none⟩), .pointer (some ⟨gf, 0, none⟩)] w = Calls Try.prog 61 #[.pointer (some ⟨gq, 0, none⟩), .pointer (some ⟨gf, 0, none⟩)] x0 by rw [hx0]]
  have BW0' : Hid (Below W0.heap.size W0 x0) := by rw [hx0]; exact BW0.out
  clear hx0
  go_enter Try.func61, Try.ntmps61
  go_wp2_with fail
  refine (take gq bb off N c (p) 12 l x0 K0.out HLen.out (HRd.out.later BW0'.out (Nat.le_refl _)) HBy.out hc hm (by omega) (by omega) (by omega) (by omega)).mono ?_
  rintro e y1 ⟨q1, m1, c1, rfl, em1, kq1, r1, kb1, kp1⟩
  have KP1 : Hid (Kept gq (gq + 1) x0 y1) := kp1
  have BL1 : Blk y1 gf 25 [.int .i64 (D : FrD).kind, .int .i64 (D : FrD).id, .slice (S : FrS).cn.a (S : FrS).cn.n (S : FrS).cn.c, .slice (S : FrS).sn.a (S : FrS).sn.n (S : FrS).sn.c, .int .i64 (D : FrD).tick, .slice (S : FrS).cookie.a (S : FrS).cookie.n (S : FrS).cookie.c, .slice (S : FrS).proof.a (S : FrS).proof.n (S : FrS).proof.c, .int .i64 (D : FrD).epoch, .int .i64 (D : FrD).seq, .slice (S : FrS).body.a (S : FrS).body.n (S : FrS).body.c, .slice (S : FrS).tag.a (S : FrS).tag.n (S : FrS).tag.c] := M0.out.blk.keep (kp1.block gf M0.out.blk.lt (by have := HG.out; omega))
  have OW1 : FrOwn y1 (gf + 1) x0.heap.size S D := M0.out.own.carry kp1 (.inr (by have := HG.out; omega))
  have co : y1.cell? ⟨gf, 3, none⟩ = some (.slice S.sn.a S.sn.n S.sn.c) := BL1.cell 3 rfl
  have fo := BL1.frozen 3
  obtain ⟨x1, hx1⟩ : ∃ x1, y1.setCell ⟨gf, 3, none⟩ (.slice (some ⟨q1, 0, none⟩) m1 c1) = x1 := ⟨_, rfl⟩
  have HW1 : Hid (y1.setCell ⟨gf, 3, none⟩ (.slice (some ⟨q1, 0, none⟩) m1 c1) = x1) := hx1
  have M1 : Hid (FrMk x1 gf (gf + 1) { D with sn := cutOf l (p) 12 } { S with sn := ⟨some ⟨q1, 0, none⟩, m1, c1⟩ }) := by rw [← hx1]; exact FrMk.sn2 BL1 OW1 (Nat.lt_succ_self _) M0.out.blk.lt r1 em1 (cut_bytes HBy.out _ _) kq1
  have K1 : Hid (Blk x1 gq 84 [.slice (some ⟨bb, off, none⟩) N c, .int .i64 ((p) + 12)]) := by rw [← hx1]; exact kb1.other (by show gq ≠ gf; have := HG.out; omega) _
  clear r1 em1 kq1 kb1 kp1 BL1 OW1
  have KS1 : Hid (Kept gq (gf + 1) w x1) := by rw [← hx1]; exact (KS0.out.trans (KP1.out.mono (Nat.le_refl _) (by have := HG.out; omega))).trans ((Kept.setCell y1 gf 3 _).mono (by have := HG.out; omega) (Nat.le_refl _))
  have BW1 : Hid (Below W0.heap.size W0 x1) := BW0.out.trans (KS1.out.below H0.out BW0.out.size)
  have K1 : Hid (Blk x1 gq 84 [.slice (some ⟨bb, off, none⟩) N c, .int .i64 (p + 12)]) := by have := K1.out; rw [show (p) + 12 = p + 12 by omega] at this; exact this
  clear hx1 KP1
  go_upto_region 1 with fail
  rw [HW1.out]
  clear co fo HW1 M0 K0 KS0
  go_wp2_with fail
  refine (number gq bb off N c (p + 12) 4 l x1 K1.out HLen.out (HRd.out.later BW1.out (Nat.le_refl _)) HBy.out hc hm (by omega) (by omega) (by omega) (by omega)).mono ?_
  rintro e y2 ⟨rfl, kb2, kp2⟩
  have KP2 : Hid (Kept gq (gq + 1) x1 y2) := kp2
  have MY2 : Hid (FrMk y2 gf (gf + 1) { D with sn := cutOf l (p) 12 } { S with sn := ⟨some ⟨q1, 0, none⟩, m1, c1⟩ }) := FrMk.kept M1.out kp2 (by have := HG.out; omega) (by have := HG.out; omega)
  have co : y2.cell? ⟨gf, 7, none⟩ = some (.int .i64 D.epoch) := MY2.out.blk.cell 7 rfl
  have fo := MY2.out.blk.frozen 7
  obtain ⟨x2, hx2⟩ : ∃ x2, y2.setCell ⟨gf, 7, none⟩ (.int .i64 (numAt l (p + 12) 4)) = x2 := ⟨_, rfl⟩
  have HW2 : Hid (y2.setCell ⟨gf, 7, none⟩ (.int .i64 (numAt l (p + 12) 4)) = x2) := hx2
  have M2 : Hid (FrMk x2 gf (gf + 1) { { D with sn := cutOf l (p) 12 } with epoch := numAt l (p + 12) 4 } { S with sn := ⟨some ⟨q1, 0, none⟩, m1, c1⟩ }) := by rw [← hx2]; exact MY2.out.epoch _
  have K2 : Hid (Blk x2 gq 84 [.slice (some ⟨bb, off, none⟩) N c, .int .i64 ((p + 12) + 4)]) := by rw [← hx2]; exact kb2.other (by show gq ≠ gf; have := HG.out; omega) _
  clear kb2 kp2 MY2
  have KS2 : Hid (Kept gq (gf + 1) w x2) := by rw [← hx2]; exact (KS1.out.trans (KP2.out.mono (Nat.le_refl _) (by have := HG.out; omega))).trans ((Kept.setCell y2 gf 7 _).mono (by have := HG.out; omega) (Nat.le_refl _))
  have BW2 : Hid (Below W0.heap.size W0 x2) := BW0.out.trans (KS2.out.below H0.out BW0.out.size)
  have K2 : Hid (Blk x2 gq 84 [.slice (some ⟨bb, off, none⟩) N c, .int .i64 (p + 16)]) := by have := K2.out; rw [show (p + 12) + 4 = p + 16 by omega] at this; exact this
  clear hx2 KP2
  go_upto_region 2 with fail
  rw [HW2.out]
  clear co fo HW2 M1 K1 KS1 BW1
  go_wp2_with fail
  refine (number gq bb off N c (p + 16) 6 l x2 K2.out HLen.out (HRd.out.later BW2.out (Nat.le_refl _)) HBy.out hc hm (by omega) (by omega) (by omega) (by omega)).mono ?_
  rintro e y3 ⟨rfl, kb3, kp3⟩
  have KP3 : Hid (Kept gq (gq + 1) x2 y3) := kp3
  have MY3 : Hid (FrMk y3 gf (gf + 1) { { D with sn := cutOf l (p) 12 } with epoch := numAt l (p + 12) 4 } { S with sn := ⟨some ⟨q1, 0, none⟩, m1, c1⟩ }) := FrMk.kept M2.out kp3 (by have := HG.out; omega) (by have := HG.out; omega)
  have co : y3.cell? ⟨gf, 8, none⟩ = some (.int .i64 D.seq) := MY3.out.blk.cell 8 rfl
  have fo := MY3.out.blk.frozen 8
  obtain ⟨x3, hx3⟩ : ∃ x3, y3.setCell ⟨gf, 8, none⟩ (.int .i64 (numAt l (p + 16) 6)) = x3 := ⟨_, rfl⟩
  have HW3 : Hid (y3.setCell ⟨gf, 8, none⟩ (.int .i64 (numAt l (p + 16) 6)) = x3) := hx3
  have M3 : Hid (FrMk x3 gf (gf + 1) { { { D with sn := cutOf l (p) 12 } with epoch := numAt l (p + 12) 4 } with seq := numAt l (p + 16) 6 } { S with sn := ⟨some ⟨q1, 0, none⟩, m1, c1⟩ }) := by rw [← hx3]; exact MY3.out.seq _
  have K3 : Hid (Blk x3 gq 84 [.slice (some ⟨bb, off, none⟩) N c, .int .i64 ((p + 16) + 6)]) := by rw [← hx3]; exact kb3.other (by show gq ≠ gf; have := HG.out; omega) _
  clear kb3 kp3 MY3
  have KS3 : Hid (Kept gq (gf + 1) w x3) := by rw [← hx3]; exact (KS2.out.trans (KP3.out.mono (Nat.le_refl _) (by have := HG.out; omega))).trans ((Kept.setCell y3 gf 8 _).mono (by have := HG.out; omega) (Nat.le_refl _))
  have BW3 : Hid (Below W0.heap.size W0 x3) := BW0.out.trans (KS3.out.below H0.out BW0.out.size)
  have K3 : Hid (Blk x3 gq 84 [.slice (some ⟨bb, off, none⟩) N c, .int .i64 (p + 22)]) := by have := K3.out; rw [show (p + 16) + 6 = p + 22 by omega] at this; exact this
  clear hx3 KP3
  go_upto_region 3 with fail
  rw [HW3.out]
  clear co fo HW3 M2 K2 KS2 BW2
  go_wp2_with fail
  refine (take gq bb off N c (p + 22) 16 l x3 K3.out HLen.out (HRd.out.later BW3.out (Nat.le_refl _)) HBy.out hc hm (by omega) (by omega) (by omega) (by omega)).mono ?_
  rintro e y4 ⟨q4, m4, c4, rfl, em4, kq4, r4, kb4, kp4⟩
  have KP4 : Hid (Kept gq (gq + 1) x3 y4) := kp4
  have BL4 : Blk y4 gf 25 [.int .i64 ({ { { D with sn := cutOf l (p) 12 } with epoch := numAt l (p + 12) 4 } with seq := numAt l (p + 16) 6 } : FrD).kind, .int .i64 ({ { { D with sn := cutOf l (p) 12 } with epoch := numAt l (p + 12) 4 } with seq := numAt l (p + 16) 6 } : FrD).id, .slice ({ S with sn := ⟨some ⟨q1, 0, none⟩, m1, c1⟩ } : FrS).cn.a ({ S with sn := ⟨some ⟨q1, 0, none⟩, m1, c1⟩ } : FrS).cn.n ({ S with sn := ⟨some ⟨q1, 0, none⟩, m1, c1⟩ } : FrS).cn.c, .slice ({ S with sn := ⟨some ⟨q1, 0, none⟩, m1, c1⟩ } : FrS).sn.a ({ S with sn := ⟨some ⟨q1, 0, none⟩, m1, c1⟩ } : FrS).sn.n ({ S with sn := ⟨some ⟨q1, 0, none⟩, m1, c1⟩ } : FrS).sn.c, .int .i64 ({ { { D with sn := cutOf l (p) 12 } with epoch := numAt l (p + 12) 4 } with seq := numAt l (p + 16) 6 } : FrD).tick, .slice ({ S with sn := ⟨some ⟨q1, 0, none⟩, m1, c1⟩ } : FrS).cookie.a ({ S with sn := ⟨some ⟨q1, 0, none⟩, m1, c1⟩ } : FrS).cookie.n ({ S with sn := ⟨some ⟨q1, 0, none⟩, m1, c1⟩ } : FrS).cookie.c, .slice ({ S with sn := ⟨some ⟨q1, 0, none⟩, m1, c1⟩ } : FrS).proof.a ({ S with sn := ⟨some ⟨q1, 0, none⟩, m1, c1⟩ } : FrS).proof.n ({ S with sn := ⟨some ⟨q1, 0, none⟩, m1, c1⟩ } : FrS).proof.c, .int .i64 ({ { { D with sn := cutOf l (p) 12 } with epoch := numAt l (p + 12) 4 } with seq := numAt l (p + 16) 6 } : FrD).epoch, .int .i64 ({ { { D with sn := cutOf l (p) 12 } with epoch := numAt l (p + 12) 4 } with seq := numAt l (p + 16) 6 } : FrD).seq, .slice ({ S with sn := ⟨some ⟨q1, 0, none⟩, m1, c1⟩ } : FrS).body.a ({ S with sn := ⟨some ⟨q1, 0, none⟩, m1, c1⟩ } : FrS).body.n ({ S with sn := ⟨some ⟨q1, 0, none⟩, m1, c1⟩ } : FrS).body.c, .slice ({ S with sn := ⟨some ⟨q1, 0, none⟩, m1, c1⟩ } : FrS).tag.a ({ S with sn := ⟨some ⟨q1, 0, none⟩, m1, c1⟩ } : FrS).tag.n ({ S with sn := ⟨some ⟨q1, 0, none⟩, m1, c1⟩ } : FrS).tag.c] := M3.out.blk.keep (kp4.block gf M3.out.blk.lt (by have := HG.out; omega))
  have OW4 : FrOwn y4 (gf + 1) x3.heap.size { S with sn := ⟨some ⟨q1, 0, none⟩, m1, c1⟩ } { { { D with sn := cutOf l (p) 12 } with epoch := numAt l (p + 12) 4 } with seq := numAt l (p + 16) 6 } := M3.out.own.carry kp4 (.inr (by have := HG.out; omega))
  have co : y4.cell? ⟨gf, 10, none⟩ = some (.slice S.tag.a S.tag.n S.tag.c) := BL4.cell 10 rfl
  have fo := BL4.frozen 10
  obtain ⟨x4, hx4⟩ : ∃ x4, y4.setCell ⟨gf, 10, none⟩ (.slice (some ⟨q4, 0, none⟩) m4 c4) = x4 := ⟨_, rfl⟩
  have HW4 : Hid (y4.setCell ⟨gf, 10, none⟩ (.slice (some ⟨q4, 0, none⟩) m4 c4) = x4) := hx4
  have M4 : Hid (FrMk x4 gf (gf + 1) { { { { D with sn := cutOf l (p) 12 } with epoch := numAt l (p + 12) 4 } with seq := numAt l (p + 16) 6 } with tag := cutOf l (p + 22) 16 } { { S with sn := ⟨some ⟨q1, 0, none⟩, m1, c1⟩ } with tag := ⟨some ⟨q4, 0, none⟩, m4, c4⟩ }) := by rw [← hx4]; exact FrMk.tag2 BL4 OW4 (Nat.lt_succ_self _) M3.out.blk.lt r4 em4 (cut_bytes HBy.out _ _) kq4
  have K4 : Hid (Blk x4 gq 84 [.slice (some ⟨bb, off, none⟩) N c, .int .i64 ((p + 22) + 16)]) := by rw [← hx4]; exact kb4.other (by show gq ≠ gf; have := HG.out; omega) _
  clear r4 em4 kq4 kb4 kp4 BL4 OW4
  have KS4 : Hid (Kept gq (gf + 1) w x4) := by rw [← hx4]; exact (KS3.out.trans (KP4.out.mono (Nat.le_refl _) (by have := HG.out; omega))).trans ((Kept.setCell y4 gf 10 _).mono (by have := HG.out; omega) (Nat.le_refl _))
  have BW4 : Hid (Below W0.heap.size W0 x4) := BW0.out.trans (KS4.out.below H0.out BW0.out.size)
  have K4 : Hid (Blk x4 gq 84 [.slice (some ⟨bb, off, none⟩) N c, .int .i64 (p + 38)]) := by have := K4.out; rw [show (p + 22) + 16 = p + 38 by omega] at this; exact this
  clear hx4 KP4
  go_upto_region 4 with fail
  rw [HW4.out]
  clear co fo HW4 M3 K3 KS3 BW3
  go_wp2_with fail
  refine (rest gq bb off N c (p + 38) l x4 K4.out HLen.out (HRd.out.later BW4.out (Nat.le_refl _)) HBy.out hc hm (by omega) (by omega)).mono ?_
  rintro e y5 ⟨q5, m5, c5, rfl, em5, kq5, r5, kb5, kp5⟩
  have KP5 : Hid (Kept gq (gq + 1) x4 y5) := kp5
  have BL5 : Blk y5 gf 25 [.int .i64 ({ { { { D with sn := cutOf l (p) 12 } with epoch := numAt l (p + 12) 4 } with seq := numAt l (p + 16) 6 } with tag := cutOf l (p + 22) 16 } : FrD).kind, .int .i64 ({ { { { D with sn := cutOf l (p) 12 } with epoch := numAt l (p + 12) 4 } with seq := numAt l (p + 16) 6 } with tag := cutOf l (p + 22) 16 } : FrD).id, .slice ({ { S with sn := ⟨some ⟨q1, 0, none⟩, m1, c1⟩ } with tag := ⟨some ⟨q4, 0, none⟩, m4, c4⟩ } : FrS).cn.a ({ { S with sn := ⟨some ⟨q1, 0, none⟩, m1, c1⟩ } with tag := ⟨some ⟨q4, 0, none⟩, m4, c4⟩ } : FrS).cn.n ({ { S with sn := ⟨some ⟨q1, 0, none⟩, m1, c1⟩ } with tag := ⟨some ⟨q4, 0, none⟩, m4, c4⟩ } : FrS).cn.c, .slice ({ { S with sn := ⟨some ⟨q1, 0, none⟩, m1, c1⟩ } with tag := ⟨some ⟨q4, 0, none⟩, m4, c4⟩ } : FrS).sn.a ({ { S with sn := ⟨some ⟨q1, 0, none⟩, m1, c1⟩ } with tag := ⟨some ⟨q4, 0, none⟩, m4, c4⟩ } : FrS).sn.n ({ { S with sn := ⟨some ⟨q1, 0, none⟩, m1, c1⟩ } with tag := ⟨some ⟨q4, 0, none⟩, m4, c4⟩ } : FrS).sn.c, .int .i64 ({ { { { D with sn := cutOf l (p) 12 } with epoch := numAt l (p + 12) 4 } with seq := numAt l (p + 16) 6 } with tag := cutOf l (p + 22) 16 } : FrD).tick, .slice ({ { S with sn := ⟨some ⟨q1, 0, none⟩, m1, c1⟩ } with tag := ⟨some ⟨q4, 0, none⟩, m4, c4⟩ } : FrS).cookie.a ({ { S with sn := ⟨some ⟨q1, 0, none⟩, m1, c1⟩ } with tag := ⟨some ⟨q4, 0, none⟩, m4, c4⟩ } : FrS).cookie.n ({ { S with sn := ⟨some ⟨q1, 0, none⟩, m1, c1⟩ } with tag := ⟨some ⟨q4, 0, none⟩, m4, c4⟩ } : FrS).cookie.c, .slice ({ { S with sn := ⟨some ⟨q1, 0, none⟩, m1, c1⟩ } with tag := ⟨some ⟨q4, 0, none⟩, m4, c4⟩ } : FrS).proof.a ({ { S with sn := ⟨some ⟨q1, 0, none⟩, m1, c1⟩ } with tag := ⟨some ⟨q4, 0, none⟩, m4, c4⟩ } : FrS).proof.n ({ { S with sn := ⟨some ⟨q1, 0, none⟩, m1, c1⟩ } with tag := ⟨some ⟨q4, 0, none⟩, m4, c4⟩ } : FrS).proof.c, .int .i64 ({ { { { D with sn := cutOf l (p) 12 } with epoch := numAt l (p + 12) 4 } with seq := numAt l (p + 16) 6 } with tag := cutOf l (p + 22) 16 } : FrD).epoch, .int .i64 ({ { { { D with sn := cutOf l (p) 12 } with epoch := numAt l (p + 12) 4 } with seq := numAt l (p + 16) 6 } with tag := cutOf l (p + 22) 16 } : FrD).seq, .slice ({ { S with sn := ⟨some ⟨q1, 0, none⟩, m1, c1⟩ } with tag := ⟨some ⟨q4, 0, none⟩, m4, c4⟩ } : FrS).body.a ({ { S with sn := ⟨some ⟨q1, 0, none⟩, m1, c1⟩ } with tag := ⟨some ⟨q4, 0, none⟩, m4, c4⟩ } : FrS).body.n ({ { S with sn := ⟨some ⟨q1, 0, none⟩, m1, c1⟩ } with tag := ⟨some ⟨q4, 0, none⟩, m4, c4⟩ } : FrS).body.c, .slice ({ { S with sn := ⟨some ⟨q1, 0, none⟩, m1, c1⟩ } with tag := ⟨some ⟨q4, 0, none⟩, m4, c4⟩ } : FrS).tag.a ({ { S with sn := ⟨some ⟨q1, 0, none⟩, m1, c1⟩ } with tag := ⟨some ⟨q4, 0, none⟩, m4, c4⟩ } : FrS).tag.n ({ { S with sn := ⟨some ⟨q1, 0, none⟩, m1, c1⟩ } with tag := ⟨some ⟨q4, 0, none⟩, m4, c4⟩ } : FrS).tag.c] := M4.out.blk.keep (kp5.block gf M4.out.blk.lt (by have := HG.out; omega))
  have OW5 : FrOwn y5 (gf + 1) x4.heap.size { { S with sn := ⟨some ⟨q1, 0, none⟩, m1, c1⟩ } with tag := ⟨some ⟨q4, 0, none⟩, m4, c4⟩ } { { { { D with sn := cutOf l (p) 12 } with epoch := numAt l (p + 12) 4 } with seq := numAt l (p + 16) 6 } with tag := cutOf l (p + 22) 16 } := M4.out.own.carry kp5 (.inr (by have := HG.out; omega))
  have co : y5.cell? ⟨gf, 9, none⟩ = some (.slice S.body.a S.body.n S.body.c) := BL5.cell 9 rfl
  have fo := BL5.frozen 9
  obtain ⟨x5, hx5⟩ : ∃ x5, y5.setCell ⟨gf, 9, none⟩ (.slice (some ⟨q5, 0, none⟩) m5 c5) = x5 := ⟨_, rfl⟩
  have HW5 : Hid (y5.setCell ⟨gf, 9, none⟩ (.slice (some ⟨q5, 0, none⟩) m5 c5) = x5) := hx5
  have M5 : Hid (FrMk x5 gf (gf + 1) { { { { { D with sn := cutOf l (p) 12 } with epoch := numAt l (p + 12) 4 } with seq := numAt l (p + 16) 6 } with tag := cutOf l (p + 22) 16 } with body := cutOf l (p + 38) ((N : Int) - (p + 38)) } { { { S with sn := ⟨some ⟨q1, 0, none⟩, m1, c1⟩ } with tag := ⟨some ⟨q4, 0, none⟩, m4, c4⟩ } with body := ⟨some ⟨q5, 0, none⟩, m5, c5⟩ }) := by rw [← hx5]; exact FrMk.body2 BL5 OW5 (Nat.lt_succ_self _) M4.out.blk.lt r5 em5 (cut_bytes HBy.out _ _) kq5
  have K5 : Hid (Blk x5 gq 84 [.slice (some ⟨bb, off, none⟩) N c, .int .i64 ((p + 38) + ((N : Int) - (p + 38)))]) := by rw [← hx5]; exact kb5.other (by show gq ≠ gf; have := HG.out; omega) _
  clear r5 em5 kq5 kb5 kp5 BL5 OW5
  have KS5 : Hid (Kept gq (gf + 1) w x5) := by rw [← hx5]; exact (KS4.out.trans (KP5.out.mono (Nat.le_refl _) (by have := HG.out; omega))).trans ((Kept.setCell y5 gf 9 _).mono (by have := HG.out; omega) (Nat.le_refl _))
  have BW5 : Hid (Below W0.heap.size W0 x5) := BW0.out.trans (KS5.out.below H0.out BW0.out.size)
  clear hx5 KP5
  go_wp2
  rw [HW5.out]
  clear co fo HW5 M4 K4 KS4 BW4
  go_end0
  exact ⟨_, _, rfl, M5.out, K5.out, KS5.out⟩

end Go.Proofs.Ytfapehmbecgjaaa.FrRc
