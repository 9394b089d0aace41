/-
  'append' of bytes to a row of the call's own, as one step of a region that draws its order; and where it lies then.
-/
import Derived.Test.YtmcflfpckpjphaaGreatDoorAppAt
import Derived.Deep.RegionHeld3
import Derived.Laws.AppendOwnNone
namespace Go.Proofs.YtmcflfpckpjphaaGreatDoor.AppStep
open Go.RowKit Go.Proofs.YtmcflfpckpjphaaGreatDoor.Mem Go.Proofs.YtmcflfpckpjphaaGreatDoor.App

set_option maxRecDepth 100000 in
theorem bstep_at {ops : Array Oper} {o : Oper} {a : Act} {w : World} {K : Act → World → Prop} {Q : Exit → Act → World → Prop} {E : Prop}
    (hgd : o.guard = none) (s x : Operand) (hop : o.op = .call { callee := .builtin .append, args := #[s, x], argTypes := #[22, 22] })
    (base g n cap : Nat) (l y : List Int) (hs : a.eval s = .slice (some ⟨g, 0, none⟩) n cap) (hn : n = l.length) (hrow : Row w g cap l) (hbg : base ≤ g)
    (ad : Addr) (m c : Nat) (hx : a.eval x = .slice (some ad) m c) (hm : m = y.length) (hrd : Rd w (some ad) y) (hsum : l.length + y.length ≤ 100000000)
    (hK : ∀ g' cap' w', Row w' g' cap' (l ++ y) → base ≤ g' → (g' = g ∨ w.heap.size ≤ g') → w.grownBy w' (some g) → K (a.put o.dst (.slice (some ⟨g', 0, none⟩) (n + m) cap')) w') :
    if Region.wanted o (yielded ops a.tmps) = true then Oper.wp Tryz.prog o a w K Q else E := by
  have hw : Region.wanted o (yielded ops a.tmps) = true := by simp [Region.wanted, hgd]
  rw [if_pos hw]
  obtain ⟨i0, hi, hz0, hz1, hz2⟩ := info_parts info8
  subst hn hm
  have hlt := hrow.lt
  obtain ⟨v', w', hrun, hown, hgr, hiff, hat⟩ := run_append_own_at (P := Tryz.prog) w base 22 o.type 5 i0 (.int .u8 0) 1 1 Tryz.underlying22 hi hz0 hz1 hz2 rfl (by decide) _ _ _ (hrow.owns hbg) ad y.length c (y.map (Value.int .u8)) (by simp) (Rd.cells hrd) (ints_oneCell _ _) (by unfold maxLen; omega) (by omega) (by omega)
  rcases hown.2 with ⟨hv, _⟩ | ⟨g', cap', cur, rfl, hb, hg', _⟩
  · exact absurd (hiff.1 hv).1 (by simp)
  · rw [← List.map_append] at hown
    obtain ⟨r1, r2, _, r4⟩ := Row.of hown
    unfold Oper.wp
    simp [execOp, hop, resolve, invoke, builtin, hs, hx, hrun, Result.andThen]
    refine hK g' cap' w' r1 r2 ?_ hgr
    rcases hat with e | e
    · simp only [Value.ownBlock, Option.some.injEq] at e; exact .inl e
    · simp only [Value.ownBlock, Option.some.injEq] at e; exact .inr (by omega)

set_option maxRecDepth 100000 in
/-- The same where what is appended may be no slice at all. -/
theorem bstep_any {ops : Array Oper} {o : Oper} {a : Act} {w : World} {K : Act → World → Prop} {Q : Exit → Act → World → Prop} {E : Prop}
    (hgd : o.guard = none) (s x : Operand) (hop : o.op = .call { callee := .builtin .append, args := #[s, x], argTypes := #[22, 22] })
    (base g n cap : Nat) (l y : List Int) (hs : a.eval s = .slice (some ⟨g, 0, none⟩) n cap) (hn : n = l.length) (hrow : Row w g cap l) (hbg : base ≤ g)
    (ao : Option Addr) (m c : Nat) (hx : a.eval x = .slice ao m c) (hm : m = y.length) (hrd : Rd w ao y) (hnone : ao = none → c = 0) (hsum : l.length + y.length ≤ 100000000)
    (hK : ∀ g' cap' w', Row w' g' cap' (l ++ y) → base ≤ g' → (g' = g ∨ w.heap.size ≤ g') → w.grownBy w' (some g) → K (a.put o.dst (.slice (some ⟨g', 0, none⟩) (n + m) cap')) w') :
    if Region.wanted o (yielded ops a.tmps) = true then Oper.wp Tryz.prog o a w K Q else E := by
  cases ao with
  | some ad => exact bstep_at hgd s x hop base g n cap l y hs hn hrow hbg ad m c hx hm hrd hsum hK
  | none =>
    have hy : y = [] := by
      cases y with
      | nil => rfl
      | cons z r => obtain ⟨_, _, e, _⟩ := hrd 0 (by simp); cases e
    subst hy
    have hc0 := hnone rfl
    have hm0 : m = 0 := hm
    subst hc0 hm0 hn
    have hw : Region.wanted o (yielded ops a.tmps) = true := by simp [Region.wanted, hgd]
    rw [if_pos hw]
    obtain ⟨i0, hi, hz0, hz1, hz2⟩ := info_parts info8
    have hrun := run_append_owned_none (P := Tryz.prog) (w := w) base 22 o.type 5 i0 1 Tryz.underlying22 hi _ _ _ (hrow.owns hbg)
    have hK' : K (a.put o.dst (.slice (some ⟨g, 0, none⟩) l.length cap)) w := hK g cap w (by simpa using hrow) hbg (.inl rfl) (World.grownBy.refl _ _)
    unfold Oper.wp
    simp [execOp, hop, resolve, invoke, builtin, hs, hx, hrun, Result.andThen]
    exact hK'
end Go.Proofs.YtmcflfpckpjphaaGreatDoor.AppStep
