/-
  'append' of bytes to a row of the call's own, as one step of a region that draws its order; and where it lies then.
  What spec lays as a head, and as what a tag is of.
  What spec's BlockOf, Stream and Mix answer.
-/
import Derived.Test.YtpenhliaelhnoaaGreatDoorGz15
import Derived.Deep.RegionHeld3
import Derived.Laws.AppendOwnNone
import Derived.Test.YtpenhliaelhnoaaGreatDoorGz13
import Derived.Test.YtpenhliaelhnoaaGreatDoorFrS
import Derived.Test.YtpenhliaelhnoaaGreatDoorGz12
import Derived.Test.YtpenhliaelhnoaaGreatDoorGz5
import Derived.Test.YtpenhliaelhnoaaGreatDoorGz17
import Derived.Test.YtpenhliaelhnoaaGreatDoorGz3
set_option linter.unusedVariables false
namespace Go.Proofs.YtpenhliaelhnoaaGreatDoor.AppStep
open Go.RowKit Go.Proofs.YtpenhliaelhnoaaGreatDoor.Mem Go.Proofs.YtpenhliaelhnoaaGreatDoor.App

set_option maxRecDepth 100000 in
theorem bstep_at {ops : Array Oper} {o : Oper} {a : Act} {w : World} {K : Act → World → Prop} {Q : Exit → Act → World → Prop} {E : Prop}
    (hgd : o.guard = none) (s x : Operand) (hop : o.op = .call { callee := .builtin .append, args := #[s, x], argTypes := #[22, 22] })
    (base g n cap : Nat) (l y : List Int) (hs : a.eval s = .slice (some ⟨g, 0, none⟩) n cap) (hn : n = l.length) (hrow : Row w g cap l) (hbg : base ≤ g)
    (ad : Addr) (m c : Nat) (hx : a.eval x = .slice (some ad) m c) (hm : m = y.length) (hrd : Rd w (some ad) y) (hsum : l.length + y.length ≤ 100000000)
    (hK : ∀ g' cap' w', Row w' g' cap' (l ++ y) → base ≤ g' → (g' = g ∨ w.heap.size ≤ g') → w.grownBy w' (some g) → K (a.put o.dst (.slice (some ⟨g', 0, none⟩) (n + m) cap')) w') :
    if Region.wanted o (yielded ops a.tmps) = true then Oper.wp Tryz.prog o a w K Q else E := by
  have hw : Region.wanted o (yielded ops a.tmps) = true := by simp [Region.wanted, hgd]
  rw [if_pos hw]
  obtain ⟨i0, hi, hz0, hz1, hz2⟩ := info_parts info8
  subst hn hm
  have hlt := hrow.lt
  obtain ⟨v', w', hrun, hown, hgr, hiff, hat⟩ := run_append_own_at (P := Tryz.prog) w base 22 o.type 5 i0 (.int .u8 0) 1 1 Tryz.underlying22 hi hz0 hz1 hz2 rfl (by decide) _ _ _ (hrow.owns hbg) ad y.length c (y.map (Value.int .u8)) (by simp) (Rd.cells hrd) (ints_oneCell _ _) (by unfold maxLen; omega) (by omega) (by omega)
  rcases hown.2 with ⟨hv, _⟩ | ⟨g', cap', cur, rfl, hb, hg', _⟩
  · exact absurd (hiff.1 hv).1 (by simp)
  · rw [← List.map_append] at hown
    obtain ⟨r1, r2, _, r4⟩ := Row.of hown
    unfold Oper.wp
    simp [execOp, hop, resolve, invoke, builtin, hs, hx, hrun, Result.andThen]
    refine hK g' cap' w' r1 r2 ?_ hgr
    rcases hat with e | e
    · simp only [Value.ownBlock, Option.some.injEq] at e; exact .inl e
    · simp only [Value.ownBlock, Option.some.injEq] at e; exact .inr (by omega)

set_option maxRecDepth 100000 in
/-- The same where what is appended may be no slice at all. -/
theorem bstep_any {ops : Array Oper} {o : Oper} {a : Act} {w : World} {K : Act → World → Prop} {Q : Exit → Act → World → Prop} {E : Prop}
    (hgd : o.guard = none) (s x : Operand) (hop : o.op = .call { callee := .builtin .append, args := #[s, x], argTypes := #[22, 22] })
    (base g n cap : Nat) (l y : List Int) (hs : a.eval s = .slice (some ⟨g, 0, none⟩) n cap) (hn : n = l.length) (hrow : Row w g cap l) (hbg : base ≤ g)
    (ao : Option Addr) (m c : Nat) (hx : a.eval x = .slice ao m c) (hm : m = y.length) (hrd : Rd w ao y) (hnone : ao = none → c = 0) (hsum : l.length + y.length ≤ 100000000)
    (hK : ∀ g' cap' w', Row w' g' cap' (l ++ y) → base ≤ g' → (g' = g ∨ w.heap.size ≤ g') → w.grownBy w' (some g) → K (a.put o.dst (.slice (some ⟨g', 0, none⟩) (n + m) cap')) w') :
    if Region.wanted o (yielded ops a.tmps) = true then Oper.wp Tryz.prog o a w K Q else E := by
  cases ao with
  | some ad => exact bstep_at hgd s x hop base g n cap l y hs hn hrow hbg ad m c hx hm hrd hsum hK
  | none =>
    have hy : y = [] := by
      cases y with
      | nil => rfl
      | cons z r => obtain ⟨_, _, e, _⟩ := hrd 0 (by simp); cases e
    subst hy
    have hc0 := hnone rfl
    have hm0 : m = 0 := hm
    subst hc0 hm0 hn
    have hw : Region.wanted o (yielded ops a.tmps) = true := by simp [Region.wanted, hgd]
    rw [if_pos hw]
    obtain ⟨i0, hi, hz0, hz1, hz2⟩ := info_parts info8
    have hrun := run_append_owned_none (P := Tryz.prog) (w := w) base 22 o.type 5 i0 1 Tryz.underlying22 hi _ _ _ (hrow.owns hbg)
    have hK' : K (a.put o.dst (.slice (some ⟨g, 0, none⟩) l.length cap)) w := hK g cap w (by simpa using hrow) hbg (.inl rfl) (World.grownBy.refl _ _)
    unfold Oper.wp
    simp [execOp, hop, resolve, invoke, builtin, hs, hx, hrun, Result.andThen]
    exact hK'
end Go.Proofs.YtpenhliaelhnoaaGreatDoor.AppStep

namespace Go.Proofs.YtpenhliaelhnoaaGreatDoor.SlS
open Go.RowKit Go.Proofs.YtpenhliaelhnoaaGreatDoor.Mem Go.Proofs.YtpenhliaelhnoaaGreatDoor.App Go.Proofs.YtpenhliaelhnoaaGreatDoor.AppAt Go.Proofs.YtpenhliaelhnoaaGreatDoor.AppStep Go.Proofs.YtpenhliaelhnoaaGreatDoor.Blk Go.Proofs.YtpenhliaelhnoaaGreatDoor.Words Go.Proofs.YtpenhliaelhnoaaGreatDoor.Zone Go.Proofs.YtpenhliaelhnoaaGreatDoor.Res Go.Proofs.YtpenhliaelhnoaaGreatDoor.FrZ Go.Proofs.YtpenhliaelhnoaaGreatDoor.FrP Go.Proofs.YtpenhliaelhnoaaGreatDoor.FrG Go.Proofs.YtpenhliaelhnoaaGreatDoor.FrQ Go.Proofs.YtpenhliaelhnoaaGreatDoor.FrS Go.Proofs.YtpenhliaelhnoaaGreatDoor.FrQ2 Go.Proofs.YtpenhliaelhnoaaGreatDoor.SlP

set_option maxRecDepth 100000 in
theorem new_nil {w x : World} (b : Below w.heap.size w x) : New w [] (.returned (.slice (some ⟨x.heap.size, 0, none⟩) 0 0)) (x.alloc (.cells #[] 5)) :=
  ⟨x.heap.size, 0, 0, rfl, rfl, b.size, ⟨Nat.le_refl _, by unfold maxLen; omega, #[], heap_alloc_new x _, rfl, rfl⟩, b.alloc b.size _⟩
set_option maxRecDepth 100000 in
theorem putNum (n : Int) (k : Nat) (h : 1 ≤ k) (h6 : k ≤ 6) : putN n (k : Int) = num n k := by unfold putN; rw [if_pos (by omega)]; rfl
set_option maxRecDepth 100000 in
theorem lay_head {role : Int} {l : List Int} {epoch seq : Int} (h : headOk role l.length epoch seq = true) : [role] ++ l ++ putN epoch 4 ++ putN seq 6 = headL role l epoch seq := by
  rw [headL_yes _ _ _ _ h]; rfl
set_option maxRecDepth 100000 in
theorem sputK (s : Sl) (x : List Int) (n k : Int) (w : World) (hx : SRd w s x) (lx : x.length ≤ 100000) :
    Calls Tryz.prog 77 #[.slice s.a s.n s.c, .int .i64 n, .int .i64 k] w (New w (x ++ putN n k)) := specPutN s.a s.n s.c x n k w hx.len hx.rd hx.nil (by omega)

set_option maxRecDepth 100000 in
theorem lay_tag {role : Int} {D : FrD} (h : canTag role D = true) : [116] ++ headL role D.sn D.epoch D.seq ++ [D.kind] ++ D.body = tagIn role D := (tagIn_yes _ _ h).symm
end Go.Proofs.YtpenhliaelhnoaaGreatDoor.SlS

namespace Go.Proofs.YtpenhliaelhnoaaGreatDoor.StrS
open Go.RowKit Go.Proofs.YtpenhliaelhnoaaGreatDoor.Mem Go.Proofs.YtpenhliaelhnoaaGreatDoor.App Go.Proofs.YtpenhliaelhnoaaGreatDoor.AppAt Go.Proofs.YtpenhliaelhnoaaGreatDoor.AppStep Go.Proofs.YtpenhliaelhnoaaGreatDoor.ShaP Go.Proofs.YtpenhliaelhnoaaGreatDoor.Words Go.Proofs.YtpenhliaelhnoaaGreatDoor.DiffP Go.Proofs.YtpenhliaelhnoaaGreatDoor.MacP Go.Proofs.YtpenhliaelhnoaaGreatDoor.MacS Go.Proofs.YtpenhliaelhnoaaGreatDoor.KdfP

set_option maxRecDepth 100000 in
theorem blockI_nat (k h : List Int) (i : Nat) (hi : i ≤ 6) (hh : h.length ≤ 100) : blockI k h (i : Int) = sblk k h i := by
  unfold blockI; rw [if_pos ⟨by omega, by omega, hh⟩, Int.toNat_natCast]

set_option maxRecDepth 100000 in
theorem xors_take (a b : List Int) (q : Nat) (h1 : q < a.length) (h2 : q < b.length) : (xors a b).take (q + 1) = (xors a b).take q ++ [bits .xor .u8 (a.getD q 0) (b.getD q 0)] := by
  have hx : q < (xors a b).length := by rw [xors_length]; omega
  have e := xors_at a b q h1 h2
  rw [List.getElem?_eq_getElem hx, Option.some.injEq] at e
  rw [List.take_succ_eq_append_getElem hx, e]
  simp [List.getD, h1, h2]

end Go.Proofs.YtpenhliaelhnoaaGreatDoor.StrS
