/-
  What impl's PutFrame and SizeOf answer.
-/
import Derived.Test.YtfapehmbecgjaaaFrQ2
import Derived.Test.YtfapehmbecgjaaaFrO2
namespace Go.Proofs.Ytfapehmbecgjaaa.FrQ3
open Go.RowKit Go.Proofs.Ytfapehmbecgjaaa.Mem Go.Proofs.Ytfapehmbecgjaaa.App Go.Proofs.Ytfapehmbecgjaaa.Blk Go.Proofs.Ytfapehmbecgjaaa.Words Go.Proofs.Ytfapehmbecgjaaa.Zone Go.Proofs.Ytfapehmbecgjaaa.Res Go.Proofs.Ytfapehmbecgjaaa.FrZ Go.Proofs.Ytfapehmbecgjaaa.FrP Go.Proofs.Ytfapehmbecgjaaa.FrB Go.Proofs.Ytfapehmbecgjaaa.FrT Go.Proofs.Ytfapehmbecgjaaa.FrW Go.Proofs.Ytfapehmbecgjaaa.FrW2 Go.Proofs.Ytfapehmbecgjaaa.FrW3 Go.Proofs.Ytfapehmbecgjaaa.FrQ Go.Proofs.Ytfapehmbecgjaaa.FrQ2 Go.Proofs.Ytfapehmbecgjaaa.FrO2

theorem putN_one (x : Int) (h0 : 0 ≤ x) (h1 : x ≤ 255) : putN x 1 = [x] := by
  show num x 1 = [x]
  show [x / 2 ^ (8 * 0) % 256] = [x]
  congr 1
  simp
  omega
theorem short_ok (D : FrD) (h : frameOk D = true) : FrShort D 100 := by
  obtain ⟨h1, h2, h3, h4, h5, h6⟩ := ok_lens D h
  exact ⟨by omega, by omega, by omega, by omega, by omega, by omega⟩

theorem lay1 (D : FrD) (h : frameOk D = true) (k : D.kind = 1) : [] ++ putN 1 1 ++ putN D.id 1 ++ D.cn ++ List.replicate 20 0 = putF D := by
  rw [putF_1 D h (by rw [k]; rfl), k, putN_one 1 (by omega) (by omega), putN_one D.id (by have := ok_id1 D h (by rw [k]; rfl); omega) (by have := ok_id1 D h (by rw [k]; rfl); omega)]; rfl
theorem lay2 (D : FrD) (h : frameOk D = true) (k : D.kind = 2) : [] ++ putN 2 1 ++ D.cn ++ D.sn ++ putN D.tick 4 ++ D.cookie = putF D := by
  rw [putF_2 D h (by rw [k]; rfl) (by rw [k]; rfl), k]; rfl
theorem lay3 (D : FrD) (h : frameOk D = true) (k : D.kind = 3) : [] ++ putN 3 1 ++ putN D.id 1 ++ D.cn ++ D.sn ++ putN D.tick 4 ++ D.cookie ++ D.proof = putF D := by
  rw [putF_3 D h (by rw [k]; rfl) (by rw [k]; rfl) (by rw [k]; rfl), k, putN_one D.id (by have := ok_id3 D h (by rw [k]; rfl); omega) (by have := ok_id3 D h (by rw [k]; rfl); omega)]; rfl
theorem lay4 (D : FrD) (h : frameOk D = true) (k : D.kind = 4) : [] ++ putN 4 1 ++ D.sn ++ putN D.epoch 4 ++ putN D.seq 6 ++ D.tag ++ D.body = putF D := by
  rw [putF_s D h (by rw [k]; rfl) (by rw [k]; rfl) (by rw [k]; rfl), k]; rfl
theorem lay5 (D : FrD) (h : frameOk D = true) (k : D.kind = 5) : [] ++ putN 5 1 ++ D.sn ++ putN D.epoch 4 ++ putN D.seq 6 ++ D.tag ++ D.body = putF D := by
  rw [putF_s D h (by rw [k]; rfl) (by rw [k]; rfl) (by rw [k]; rfl), k]; rfl
theorem lay6 (D : FrD) (h : frameOk D = true) (k : D.kind = 6) : [] ++ putN 6 1 ++ D.sn ++ putN D.epoch 4 ++ putN D.seq 6 ++ D.tag ++ D.body = putF D := by
  rw [putF_s D h (by rw [k]; rfl) (by rw [k]; rfl) (by rw [k]; rfl), k]; rfl
theorem lay7 (D : FrD) (h : frameOk D = true) (k : D.kind = 7) : [] ++ putN 7 1 ++ D.sn ++ putN D.epoch 4 ++ putN D.seq 6 ++ D.tag ++ D.body = putF D := by
  rw [putF_s D h (by rw [k]; rfl) (by rw [k]; rfl) (by rw [k]; rfl), k]; rfl
theorem lay8 (D : FrD) (h : frameOk D = true) (k : D.kind = 8) : [] ++ putN 8 1 ++ D.sn ++ putN D.epoch 4 ++ putN D.seq 6 ++ D.tag ++ D.body = putF D := by
  rw [putF_s D h (by rw [k]; rfl) (by rw [k]; rfl) (by rw [k]; rfl), k]; rfl

set_option maxRecDepth 100000 in
set_option maxHeartbeats 8000000 in
theorem implPutFrame (S : FrS) (D : FrD) (w : World) (h : FrRd w S D) :
    Calls Try.prog 12 #[frV D S] w fun e w' => ∃ g m c, e = .returned (.slice (some ⟨g, 0, none⟩) m c) ∧ m = (putF D).length ∧ w.heap.size ≤ g ∧ Row w' g c (putF D) ∧ Below w.heap.size w w' := by
  have HR : Hid (FrRd w S D) := h
  obtain ⟨x0, hx0⟩ : ∃ x0, w.alloc (.cells #[.int .i64 D.kind, .int .i64 D.id, .slice S.cn.a S.cn.n S.cn.c, .slice S.sn.a S.sn.n S.sn.c, .int .i64 D.tick, .slice S.cookie.a S.cookie.n S.cookie.c, .slice S.proof.a S.proof.n S.proof.c, .int .i64 D.epoch, .int .i64 D.seq, .slice S.body.a S.body.n S.body.c, .slice S.tag.a S.tag.n S.tag.c] 25) = x0 := ⟨_, rfl⟩
  have HW0 : Hid (w.alloc (.cells #[.int .i64 D.kind, .int .i64 D.id, .slice S.cn.a S.cn.n S.cn.c, .slice S.sn.a S.sn.n S.sn.c, .int .i64 D.tick, .slice S.cookie.a S.cookie.n S.cookie.c, .slice S.proof.a S.proof.n S.proof.c, .int .i64 D.epoch, .int .i64 D.seq, .slice S.body.a S.body.n S.body.c, .slice S.tag.a S.tag.n S.tag.c] 25) = x0) := hx0
  have B0 : Hid (Below w.heap.size w x0) := by rw [← hx0]; exact (Below.refl _ _).alloc (Nat.le_refl _) _
  have K0 : Hid (Blk x0 w.heap.size 25 [.int .i64 D.kind, .int .i64 D.id, .slice S.cn.a S.cn.n S.cn.c, .slice S.sn.a S.sn.n S.sn.c, .int .i64 D.tick, .slice S.cookie.a S.cookie.n S.cookie.c, .slice S.proof.a S.proof.n S.proof.c, .int .i64 D.epoch, .int .i64 D.seq, .slice S.body.a S.body.n S.body.c, .slice S.tag.a S.tag.n S.tag.c]) := by rw [← hx0]; exact Blk.new w _ _
  clear hx0 h
  unfold frV
  cases hok : frameOk D with
  | false =>
    have HOK : Hid (frameOk D = false) := hok
    have HP : Hid (putF D = []) := putF_no D hok
    clear hok
    go_enter Try.func12, Try.ntmps12
    go_wp2_with fail
    rw [HW0.out]
    refine (implFrameOk S D x0 (HR.out.later B0.out)).mono ?_
    rw [HOK.out]
    rintro e x1 ⟨rfl, b1⟩
    have B1 : Hid (Below w.heap.size w x1) := B0.out.trans (b1.mono B0.out.size)
    clear b1
    go_wp2
    go_ret
    have r : Row (x1.alloc (.cells #[] 5)) x1.heap.size 0 [] := ⟨Nat.le_refl _, by unfold maxLen; omega, #[], heap_alloc_new x1 _, rfl, rfl⟩
    refine ⟨x1.heap.size, 0, 0, rfl, ?_, B1.out.size, ?_, B1.out.alloc B1.out.size _⟩
    · rw [HP.out]; rfl
    · rw [HP.out]; exact r
  | true =>
    have HOK : Hid (frameOk D = true) := hok
    have HS : Hid (FrShort D 100) := short_ok D hok
    have hk := ok_kind D hok
    have hc : D.kind = 1 ∨ D.kind = 2 ∨ D.kind = 3 ∨ D.kind = 4 ∨ D.kind = 5 ∨ D.kind = 6 ∨ D.kind = 7 ∨ D.kind = 8 := by omega
    clear hok hk
    go_enter Try.func12, Try.ntmps12
    go_wp2_with fail
    rw [HW0.out]
    generalize hga : w.heap.size = ga at K0 ⊢
    refine (implFrameOk S D x0 (HR.out.later B0.out)).mono ?_
    rw [HOK.out]
    rintro e x1 ⟨rfl, b1⟩
    have B1 : Hid (Below w.heap.size w x1) := B0.out.trans (b1.mono B0.out.size)
    have K1 : Hid (Blk x1 ga 25 [.int .i64 D.kind, .int .i64 D.id, .slice S.cn.a S.cn.n S.cn.c, .slice S.sn.a S.sn.n S.sn.c, .int .i64 D.tick, .slice S.cookie.a S.cookie.n S.cookie.c, .slice S.proof.a S.proof.n S.proof.c, .int .i64 D.epoch, .int .i64 D.seq, .slice S.body.a S.body.n S.body.c, .slice S.tag.a S.tag.n S.tag.c]) := K0.out.later b1
    clear b1
    have c0 := K1.out.cell 0 rfl
    have c1 := K1.out.cell 1 rfl
    have c2 := K1.out.cell 2 rfl
    have c3 := K1.out.cell 3 rfl
    have c4 := K1.out.cell 4 rfl
    have c5 := K1.out.cell 5 rfl
    have c6 := K1.out.cell 6 rfl
    have c7 := K1.out.cell 7 rfl
    have c8 := K1.out.cell 8 rfl
    have c9 := K1.out.cell 9 rfl
    have c10 := K1.out.cell 10 rfl
    go_wp2_with fail
    rcases hc with hk | hk | hk | hk | hk | hk | hk | hk
    · have HL : Hid (_ = putF D) := lay1 D HOK.out hk
      rw [hk]
      refine (wordOf1 D.id S.cn S.sn D.tick S.cookie S.proof D.epoch D.seq S.body S.tag x1).mono ?_
      rintro e x2 ⟨rfl, b2⟩
      have B2 : Hid (Below w.heap.size w x2) := B1.out.trans (b2.mono B1.out.size)
      clear b2 c0 c1 c2 c3 c4 c5 c6 c7 c8 c9 c10 hk
      go_wp2_with fail
      refine (putWord1 S D x2 (HR.out.later B2.out) HS.out).mono ?_
      rw [HL.out]
      rintro e x3 ⟨g3, m3, c3, rfl, em3, k3, r3, b3⟩
      have R3 : Hid (Row x3 g3 c3 (putF D)) := r3
      have EM3 : Hid (m3 = (putF D).length) := em3
      have GE3 : Hid (w.heap.size ≤ g3) := Nat.le_trans B2.out.size k3
      have B3 : Hid (Below w.heap.size w x3) := B2.out.trans (b3.mono B2.out.size)
      clear em3 k3 r3 b3
      go_wp2
      go_ret
      exact ⟨g3, m3, c3, by simp, EM3.out, hga ▸ GE3.out, R3.out, hga ▸ B3.out⟩
    · have HL : Hid (_ = putF D) := lay2 D HOK.out hk
      rw [hk]
      refine (wordOf2 D.id S.cn S.sn D.tick S.cookie S.proof D.epoch D.seq S.body S.tag x1).mono ?_
      rintro e x2 ⟨rfl, b2⟩
      have B2 : Hid (Below w.heap.size w x2) := B1.out.trans (b2.mono B1.out.size)
      clear b2 c0 c1 c2 c3 c4 c5 c6 c7 c8 c9 c10 hk
      go_wp2_with fail
      refine (putWord2 S D x2 (HR.out.later B2.out) HS.out).mono ?_
      rw [HL.out]
      rintro e x3 ⟨g3, m3, c3, rfl, em3, k3, r3, b3⟩
      have R3 : Hid (Row x3 g3 c3 (putF D)) := r3
      have EM3 : Hid (m3 = (putF D).length) := em3
      have GE3 : Hid (w.heap.size ≤ g3) := Nat.le_trans B2.out.size k3
      have B3 : Hid (Below w.heap.size w x3) := B2.out.trans (b3.mono B2.out.size)
      clear em3 k3 r3 b3
      go_wp2
      go_ret
      exact ⟨g3, m3, c3, by simp, EM3.out, hga ▸ GE3.out, R3.out, hga ▸ B3.out⟩
    · have HL : Hid (_ = putF D) := lay3 D HOK.out hk
      rw [hk]
      refine (wordOf3 D.id S.cn S.sn D.tick S.cookie S.proof D.epoch D.seq S.body S.tag x1).mono ?_
      rintro e x2 ⟨rfl, b2⟩
      have B2 : Hid (Below w.heap.size w x2) := B1.out.trans (b2.mono B1.out.size)
      clear b2 c0 c1 c2 c3 c4 c5 c6 c7 c8 c9 c10 hk
      go_wp2_with fail
      refine (putWord3 S D x2 (HR.out.later B2.out) HS.out).mono ?_
      rw [HL.out]
      rintro e x3 ⟨g3, m3, c3, rfl, em3, k3, r3, b3⟩
      have R3 : Hid (Row x3 g3 c3 (putF D)) := r3
      have EM3 : Hid (m3 = (putF D).length) := em3
      have GE3 : Hid (w.heap.size ≤ g3) := Nat.le_trans B2.out.size k3
      have B3 : Hid (Below w.heap.size w x3) := B2.out.trans (b3.mono B2.out.size)
      clear em3 k3 r3 b3
      go_wp2
      go_ret
      exact ⟨g3, m3, c3, by simp, EM3.out, hga ▸ GE3.out, R3.out, hga ▸ B3.out⟩
    · have HL : Hid (_ = putF D) := lay4 D HOK.out hk
      rw [hk]
      refine (wordOf4 D.id S.cn S.sn D.tick S.cookie S.proof D.epoch D.seq S.body S.tag x1).mono ?_
      rintro e x2 ⟨rfl, b2⟩
      have B2 : Hid (Below w.heap.size w x2) := B1.out.trans (b2.mono B1.out.size)
      clear b2 c0 c1 c2 c3 c4 c5 c6 c7 c8 c9 c10 hk
      go_wp2_with fail
      refine (putWord4 S D x2 (HR.out.later B2.out) HS.out).mono ?_
      rw [HL.out]
      rintro e x3 ⟨g3, m3, c3, rfl, em3, k3, r3, b3⟩
      have R3 : Hid (Row x3 g3 c3 (putF D)) := r3
      have EM3 : Hid (m3 = (putF D).length) := em3
      have GE3 : Hid (w.heap.size ≤ g3) := Nat.le_trans B2.out.size k3
      have B3 : Hid (Below w.heap.size w x3) := B2.out.trans (b3.mono B2.out.size)
      clear em3 k3 r3 b3
      go_wp2
      go_ret
      exact ⟨g3, m3, c3, by simp, EM3.out, hga ▸ GE3.out, R3.out, hga ▸ B3.out⟩
    · have HL : Hid (_ = putF D) := lay5 D HOK.out hk
      rw [hk]
      refine (wordOf5 D.id S.cn S.sn D.tick S.cookie S.proof D.epoch D.seq S.body S.tag x1).mono ?_
      rintro e x2 ⟨rfl, b2⟩
      have B2 : Hid (Below w.heap.size w x2) := B1.out.trans (b2.mono B1.out.size)
      clear b2 c0 c1 c2 c3 c4 c5 c6 c7 c8 c9 c10 hk
      go_wp2_with fail
      refine (putWord5 S D x2 (HR.out.later B2.out) HS.out).mono ?_
      rw [HL.out]
      rintro e x3 ⟨g3, m3, c3, rfl, em3, k3, r3, b3⟩
      have R3 : Hid (Row x3 g3 c3 (putF D)) := r3
      have EM3 : Hid (m3 = (putF D).length) := em3
      have GE3 : Hid (w.heap.size ≤ g3) := Nat.le_trans B2.out.size k3
      have B3 : Hid (Below w.heap.size w x3) := B2.out.trans (b3.mono B2.out.size)
      clear em3 k3 r3 b3
      go_wp2
      go_ret
      exact ⟨g3, m3, c3, by simp, EM3.out, hga ▸ GE3.out, R3.out, hga ▸ B3.out⟩
    · have HL : Hid (_ = putF D) := lay6 D HOK.out hk
      rw [hk]
      refine (wordOf6 D.id S.cn S.sn D.tick S.cookie S.proof D.epoch D.seq S.body S.tag x1).mono ?_
      rintro e x2 ⟨rfl, b2⟩
      have B2 : Hid (Below w.heap.size w x2) := B1.out.trans (b2.mono B1.out.size)
      clear b2 c0 c1 c2 c3 c4 c5 c6 c7 c8 c9 c10 hk
      go_wp2_with fail
      refine (putWord6 S D x2 (HR.out.later B2.out) HS.out).mono ?_
      rw [HL.out]
      rintro e x3 ⟨g3, m3, c3, rfl, em3, k3, r3, b3⟩
      have R3 : Hid (Row x3 g3 c3 (putF D)) := r3
      have EM3 : Hid (m3 = (putF D).length) := em3
      have GE3 : Hid (w.heap.size ≤ g3) := Nat.le_trans B2.out.size k3
      have B3 : Hid (Below w.heap.size w x3) := B2.out.trans (b3.mono B2.out.size)
      clear em3 k3 r3 b3
      go_wp2
      go_ret
      exact ⟨g3, m3, c3, by simp, EM3.out, hga ▸ GE3.out, R3.out, hga ▸ B3.out⟩
    · have HL : Hid (_ = putF D) := lay7 D HOK.out hk
      rw [hk]
      refine (wordOf7 D.id S.cn S.sn D.tick S.cookie S.proof D.epoch D.seq S.body S.tag x1).mono ?_
      rintro e x2 ⟨rfl, b2⟩
      have B2 : Hid (Below w.heap.size w x2) := B1.out.trans (b2.mono B1.out.size)
      clear b2 c0 c1 c2 c3 c4 c5 c6 c7 c8 c9 c10 hk
      go_wp2_with fail
      refine (putWord7 S D x2 (HR.out.later B2.out) HS.out).mono ?_
      rw [HL.out]
      rintro e x3 ⟨g3, m3, c3, rfl, em3, k3, r3, b3⟩
      have R3 : Hid (Row x3 g3 c3 (putF D)) := r3
      have EM3 : Hid (m3 = (putF D).length) := em3
      have GE3 : Hid (w.heap.size ≤ g3) := Nat.le_trans B2.out.size k3
      have B3 : Hid (Below w.heap.size w x3) := B2.out.trans (b3.mono B2.out.size)
      clear em3 k3 r3 b3
      go_wp2
      go_ret
      exact ⟨g3, m3, c3, by simp, EM3.out, hga ▸ GE3.out, R3.out, hga ▸ B3.out⟩
    · have HL : Hid (_ = putF D) := lay8 D HOK.out hk
      rw [hk]
      refine (wordOf8 D.id S.cn S.sn D.tick S.cookie S.proof D.epoch D.seq S.body S.tag x1).mono ?_
      rintro e x2 ⟨rfl, b2⟩
      have B2 : Hid (Below w.heap.size w x2) := B1.out.trans (b2.mono B1.out.size)
      clear b2 c0 c1 c2 c3 c4 c5 c6 c7 c8 c9 c10 hk
      go_wp2_with fail
      refine (putWord8 S D x2 (HR.out.later B2.out) HS.out).mono ?_
      rw [HL.out]
      rintro e x3 ⟨g3, m3, c3, rfl, em3, k3, r3, b3⟩
      have R3 : Hid (Row x3 g3 c3 (putF D)) := r3
      have EM3 : Hid (m3 = (putF D).length) := em3
      have GE3 : Hid (w.heap.size ≤ g3) := Nat.le_trans B2.out.size k3
      have B3 : Hid (Below w.heap.size w x3) := B2.out.trans (b3.mono B2.out.size)
      clear em3 k3 r3 b3
      go_wp2
      go_ret
      exact ⟨g3, m3, c3, by simp, EM3.out, hga ▸ GE3.out, R3.out, hga ▸ B3.out⟩

set_option maxRecDepth 100000 in
set_option maxHeartbeats 1600000 in
theorem implSizeOf (S : FrS) (D : FrD) (w : World) (h : FrRd w S D) :
    Calls Try.prog 15 #[frV D S] w fun e w' => e = .returned (.int .i64 ((putF D).length : Int)) ∧ Below w.heap.size w w' := by
  have HR : Hid (FrRd w S D) := h
  obtain ⟨x0, hx0⟩ : ∃ x0, w.alloc (.cells #[.int .i64 D.kind, .int .i64 D.id, .slice S.cn.a S.cn.n S.cn.c, .slice S.sn.a S.sn.n S.sn.c, .int .i64 D.tick, .slice S.cookie.a S.cookie.n S.cookie.c, .slice S.proof.a S.proof.n S.proof.c, .int .i64 D.epoch, .int .i64 D.seq, .slice S.body.a S.body.n S.body.c, .slice S.tag.a S.tag.n S.tag.c] 25) = x0 := ⟨_, rfl⟩
  have HW0 : Hid (w.alloc (.cells #[.int .i64 D.kind, .int .i64 D.id, .slice S.cn.a S.cn.n S.cn.c, .slice S.sn.a S.sn.n S.sn.c, .int .i64 D.tick, .slice S.cookie.a S.cookie.n S.cookie.c, .slice S.proof.a S.proof.n S.proof.c, .int .i64 D.epoch, .int .i64 D.seq, .slice S.body.a S.body.n S.body.c, .slice S.tag.a S.tag.n S.tag.c] 25) = x0) := hx0
  have B0 : Hid (Below w.heap.size w x0) := by rw [← hx0]; exact (Below.refl _ _).alloc (Nat.le_refl _) _
  clear hx0 h
  unfold frV
  go_enter Try.func15, Try.ntmps15
  go_wp2_with fail
  rw [HW0.out]
  refine (implPutFrame S D x0 (HR.out.later B0.out)).mono ?_
  rintro e x1 ⟨g, m, c, rfl, em, k1, r1, b1⟩
  have EM : Hid (m = (putF D).length) := em
  have B1 : Hid (Below w.heap.size w x1) := B0.out.trans (b1.mono B0.out.size)
  clear em k1 r1 b1
  go_wp2
  go_ret
  exact ⟨by simp [EM.out], B1.out⟩

end Go.Proofs.Ytfapehmbecgjaaa.FrQ3
