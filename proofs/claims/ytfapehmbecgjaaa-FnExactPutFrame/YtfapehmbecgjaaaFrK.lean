/-
  What spec's SizeOf, KindName and KindOf answer.
-/
import Derived.Test.YtfapehmbecgjaaaFrPut
import Derived.Test.YtfapehmbecgjaaaStrs
namespace Go.Proofs.Ytfapehmbecgjaaa.FrK
open Go.RowKit Go.Proofs.Ytfapehmbecgjaaa.Mem Go.Proofs.Ytfapehmbecgjaaa.App Go.Proofs.Ytfapehmbecgjaaa.Blk Go.Proofs.Ytfapehmbecgjaaa.Words Go.Proofs.Ytfapehmbecgjaaa.Zone Go.Proofs.Ytfapehmbecgjaaa.FrZ Go.Proofs.Ytfapehmbecgjaaa.FrP Go.Proofs.Ytfapehmbecgjaaa.FrB Go.Proofs.Ytfapehmbecgjaaa.FrPut Go.Proofs.Ytfapehmbecgjaaa.Strs

def names : List ByteArray := [⟨#[105, 110, 105, 116]⟩, ⟨#[99, 111, 111, 107, 105, 101]⟩, ⟨#[102, 105, 110, 105, 115, 104]⟩, ⟨#[100, 97, 116, 97]⟩, ⟨#[99, 104, 97, 108, 108, 101, 110, 103, 101]⟩, ⟨#[114, 101, 115, 112, 111, 110, 115, 101]⟩, ⟨#[114, 101, 107, 101, 121]⟩, ⟨#[114, 101, 107, 101, 121, 97, 99, 107]⟩]
def nameOf (k : Int) : ByteArray := if isIn k 1 8 = true then names.getD (k - 1).toNat ⟨#[]⟩ else ⟨#[]⟩
/-- The kind of a name. -/
def IsKind (s : ByteArray) (k : Int) : Prop := (1 ≤ k ∧ k ≤ 8 ∧ nameOf k = s) ∨ (k = 0 ∧ ∀ j : Int, 1 ≤ j → j ≤ 8 → nameOf j ≠ s)
theorem nameOf_inj (j k : Int) (h1 : 1 ≤ j) (h2 : j ≤ 8) (h3 : 1 ≤ k) (h4 : k ≤ 8) (h : nameOf j = nameOf k) : j = k := by
  have hj : j = 1 ∨ j = 2 ∨ j = 3 ∨ j = 4 ∨ j = 5 ∨ j = 6 ∨ j = 7 ∨ j = 8 := by omega
  have hk : k = 1 ∨ k = 2 ∨ k = 3 ∨ k = 4 ∨ k = 5 ∨ k = 6 ∨ k = 7 ∨ k = 8 := by omega
  rcases hj with rfl | rfl | rfl | rfl | rfl | rfl | rfl | rfl <;> rcases hk with rfl | rfl | rfl | rfl | rfl | rfl | rfl | rfl <;> first | rfl | exact absurd h (by decide)
theorem IsKind.unique {s : ByteArray} {j k : Int} (a : IsKind s j) (b : IsKind s k) : j = k := by
  rcases a with ⟨a1, a2, a3⟩ | ⟨rfl, a2⟩
  · rcases b with ⟨b1, b2, b3⟩ | ⟨rfl, b2⟩
    · exact nameOf_inj j k a1 a2 b1 b2 (a3.trans b3.symm)
    · exact absurd a3 (b2 j a1 a2)
  · rcases b with ⟨b1, b2, b3⟩ | ⟨rfl, _⟩
    · exact absurd b3 (a2 k b1 b2)
    · rfl
theorem eq_of_data {a b : ByteArray} (h : (a.toList == b.toList) = true) : a = b := by
  have h := eq_of_beq h
  obtain ⟨⟨x⟩⟩ := a
  obtain ⟨⟨y⟩⟩ := b
  simpa using h

set_option maxRecDepth 100000 in
set_option maxHeartbeats 1600000 in
theorem specSizeOf (S : FrS) (D : FrD) (w : World) (h : FrRd w S D) :
    Calls Try.prog 33 #[frV D S] w fun e w' => e = .returned (.int .i64 ((putF D).length : Int)) ∧ Below w.heap.size w w' := by
  have HR : Hid (FrRd w S D) := h
  obtain ⟨x0, hx0⟩ : ∃ x0, w.alloc (.cells #[.int .i64 D.kind, .int .i64 D.id, .slice S.cn.a S.cn.n S.cn.c, .slice S.sn.a S.sn.n S.sn.c, .int .i64 D.tick, .slice S.cookie.a S.cookie.n S.cookie.c, .slice S.proof.a S.proof.n S.proof.c, .int .i64 D.epoch, .int .i64 D.seq, .slice S.body.a S.body.n S.body.c, .slice S.tag.a S.tag.n S.tag.c] 25) = x0 := ⟨_, rfl⟩
  have HW0 : Hid (w.alloc (.cells #[.int .i64 D.kind, .int .i64 D.id, .slice S.cn.a S.cn.n S.cn.c, .slice S.sn.a S.sn.n S.sn.c, .int .i64 D.tick, .slice S.cookie.a S.cookie.n S.cookie.c, .slice S.proof.a S.proof.n S.proof.c, .int .i64 D.epoch, .int .i64 D.seq, .slice S.body.a S.body.n S.body.c, .slice S.tag.a S.tag.n S.tag.c] 25) = x0) := hx0
  have B0 : Hid (Below w.heap.size w x0) := by rw [← hx0]; exact (Below.refl _ _).alloc (Nat.le_refl _) _
  have KA0 : Hid (Blk x0 w.heap.size 25 [.int .i64 D.kind, .int .i64 D.id, .slice S.cn.a S.cn.n S.cn.c, .slice S.sn.a S.sn.n S.sn.c, .int .i64 D.tick, .slice S.cookie.a S.cookie.n S.cookie.c, .slice S.proof.a S.proof.n S.proof.c, .int .i64 D.epoch, .int .i64 D.seq, .slice S.body.a S.body.n S.body.c, .slice S.tag.a S.tag.n S.tag.c]) := by rw [← hx0]; exact Blk.new w _ _
  clear hx0 h
  unfold frV
  go_enter Try.func33, Try.ntmps33
  go_upto_region 1 with fail
  rw [HW0.out]
  generalize w.heap.size = ga at KA0 ⊢
  clear HW0
  have c0 := KA0.out.cell 0 rfl
  have c1 := KA0.out.cell 1 rfl
  have c2 := KA0.out.cell 2 rfl
  have c3 := KA0.out.cell 3 rfl
  have c4 := KA0.out.cell 4 rfl
  have c5 := KA0.out.cell 5 rfl
  have c6 := KA0.out.cell 6 rfl
  have c7 := KA0.out.cell 7 rfl
  have c8 := KA0.out.cell 8 rfl
  have c9 := KA0.out.cell 9 rfl
  have c10 := KA0.out.cell 10 rfl
  go_wp2_with fail
  refine (specPutFrame S D x0 (HR.out.later B0.out)).mono ?_
  rintro e x1 ⟨g, m, c, rfl, em, k1, r1, b1⟩
  have EM : Hid (m = (putF D).length) := em
  have B1 : Hid (Below w.heap.size w x1) := B0.out.trans (b1.mono B0.out.size)
  clear em k1 r1 b1
  go_wp2
  go_ret
  exact ⟨by simp [EM.out], B1.out⟩

end Go.Proofs.Ytfapehmbecgjaaa.FrK
