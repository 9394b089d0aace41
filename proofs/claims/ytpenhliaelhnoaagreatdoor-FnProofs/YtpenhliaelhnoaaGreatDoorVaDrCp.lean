/-
  What spec.l7Copy answers: the frame, in memory of its own.
-/
import Derived.Test.YtpenhliaelhnoaaGreatDoorVaGz16
import Derived.Test.YtpenhliaelhnoaaGreatDoorVaGz6
import Derived.Test.YtpenhliaelhnoaaGreatDoorVaGz1
import Derived.Test.YtpenhliaelhnoaaGreatDoorVaGz7
set_option maxRecDepth 100000
namespace Go.Proofs.YtpenhliaelhnoaaGreatDoor.DrCp
open Go.RowKit Mem App Blk Zone Res FrZ FrL
structure FrIn (w : World) (lo hi : Nat) (S : FrS) (D : FrD) : Prop where
 cn : SOwn w lo hi S.cn D.cn
 sn : SOwn w lo hi S.sn D.sn
 cookie : SOwn w lo hi S.cookie D.cookie
 proof : SOwn w lo hi S.proof D.proof
 body : SOwn w lo hi S.body D.body
 tag : SOwn w lo hi S.tag D.tag
theorem FrIn.carry {w w' : World} {lo hi a b : Nat} {S : FrS} {D : FrD} (h : FrIn w lo hi S D) (k : Kept a b w w') (d : hi ≤ a ∨ b ≤ lo) : FrIn w' lo hi S D := ⟨h.cn.carry k d, h.sn.carry k d, h.cookie.carry k d, h.proof.carry k d, h.body.carry k d, h.tag.carry k d⟩
theorem FrIn.mono {w : World} {lo hi lo' hi' : Nat} {S : FrS} {D : FrD} (h : FrIn w lo hi S D) (h1 : lo' ≤ lo) (h2 : hi ≤ hi') : FrIn w lo' hi' S D := ⟨h.cn.mono h1 h2, h.sn.mono h1 h2, h.cookie.mono h1 h2, h.proof.mono h1 h2, h.body.mono h1 h2, h.tag.mono h1 h2⟩
theorem fr_low {a w : World} {B g : Nat} (h : Below B a w) (hg : B ≤ g) (v0 v1 v2 v3 v4 v5 v6 v7 v8 v9 v10 : Value) : Below B a (((((((((((w.setCell ⟨g, 0, none⟩ v0).setCell ⟨g, 1, none⟩ v1).setCell ⟨g, 2, none⟩ v2).setCell ⟨g, 3, none⟩ v3).setCell ⟨g, 4, none⟩ v4).setCell ⟨g, 5, none⟩ v5).setCell ⟨g, 6, none⟩ v6).setCell ⟨g, 7, none⟩ v7).setCell ⟨g, 8, none⟩ v8).setCell ⟨g, 9, none⟩ v9).setCell ⟨g, 10, none⟩ v10) := (((((((((((h.setCell hg _).setCell hg _).setCell hg _).setCell hg _).setCell hg _).setCell hg _).setCell hg _).setCell hg _).setCell hg _).setCell hg _).setCell hg _)
theorem fr_put {w : World} {g : Nat} {t : TypeId} {u0 u1 u2 u3 u4 u5 u6 u7 u8 u9 u10 : Value} (k : Blk w g t [u0, u1, u2, u3, u4, u5, u6, u7, u8, u9, u10]) (v0 v1 v2 v3 v4 v5 v6 v7 v8 v9 v10 : Value) : Blk (((((((((((w.setCell ⟨g, 0, none⟩ v0).setCell ⟨g, 1, none⟩ v1).setCell ⟨g, 2, none⟩ v2).setCell ⟨g, 3, none⟩ v3).setCell ⟨g, 4, none⟩ v4).setCell ⟨g, 5, none⟩ v5).setCell ⟨g, 6, none⟩ v6).setCell ⟨g, 7, none⟩ v7).setCell ⟨g, 8, none⟩ v8).setCell ⟨g, 9, none⟩ v9).setCell ⟨g, 10, none⟩ v10) g t [v0, v1, v2, v3, v4, v5, v6, v7, v8, v9, v10] := (((((((((((k.set 0 _ (by simp [maxLen])).set 1 _ (by simp [maxLen])).set 2 _ (by simp [maxLen])).set 3 _ (by simp [maxLen])).set 4 _ (by simp [maxLen])).set 5 _ (by simp [maxLen])).set 6 _ (by simp [maxLen])).set 7 _ (by simp [maxLen])).set 8 _ (by simp [maxLen])).set 9 _ (by simp [maxLen])).set 10 _ (by simp [maxLen]))
theorem wpList_cp (w0 : World) {ops : Array Oper} {rest : List Oper} {o : Oper} {a : Act} {Q : Exit → Act → World → Prop} (hgd : o.guard = none) (s x : Operand)
  (ho : o.op = .call { callee := .builtin .append, args := #[s, x], argTypes := #[22, 22] })
  (hs : a.eval s = .slice (some ⟨w0.heap.size, 0, none⟩) 0 0) (S : Sl) (y : List Int) (hx : a.eval x = .slice S.a S.n S.c) (hrd : SRd w0 S y) (hsum : y.length ≤ 1000000)
  (h : ∀ g' c' w', Row w' g' c' y → w0.heap.size ≤ g' → Below w0.heap.size w0 w' → wpList Tryz.prog ops Q rest (a.put o.dst (.slice (some ⟨g', 0, none⟩) S.n c')) w') :
  wpList Tryz.prog ops Q (o :: rest) a (w0.alloc (.cells #[] 5)) := by
 have b0 : Below w0.heap.size w0 (w0.alloc (.cells #[] 5)) := (Below.refl _ _).alloc (Nat.le_refl _) _
 refine wpList_app _ hgd s x ho w0.heap.size w0.heap.size 0 0 [] y hs rfl (row_new w0 [] (by simp)) (Nat.le_refl _) S.a S.n S.c hx hrd.len (hrd.later b0).rd hrd.nil (by simp; omega) ?_
 intro g' c' w' h1 h2 h3 h4
 rw [Nat.zero_add]
 exact h g' c' w' (by simpa using h1) h2 (b0.grown h4 b0.size (fun k e => by cases e; exact Nat.le_refl _))
end Go.Proofs.YtpenhliaelhnoaaGreatDoor.DrCp
