/-
  A string's bytes appended to a row.
-/
import Derived.Test.YtmcflfpckpjphaaGreatDoorVaBas1
import Derived.Lib.AppendStr
set_option maxRecDepth 100000
namespace Go.Proofs.YtmcflfpckpjphaaGreatDoor.AppS
open Go.RowKit Mem App

def nums (s : ByteArray) : List Int := s.data.toList.map fun b => (b.toNat : Int)
theorem nums_cells (s : ByteArray) : Lib.strCells s = (nums s).map (Value.int .u8) := by
 unfold Lib.strCells nums; simp
theorem wpList_appS (w : World) {ops : Array Oper} {rest : List Oper} {o : Oper} {a : Act} {Q : Exit → Act → World → Prop} (hgd : o.guard = none) (s x : Operand)
  (ho : o.op = .call { callee := .builtin .append, args := #[s, x], argTypes := #[22, 9] })
  (base g n cap : Nat) (l : List Int) (hs : a.eval s = .slice (some ⟨g, 0, none⟩) n cap) (hn : n = l.length) (hrow : Row w g cap l) (hbg : base ≤ g)
  (st : ByteArray) (hx : a.eval x = .string st) (hsum : l.length + st.size ≤ 100000000)
  (h : ∀ g' cap' w', Row w' g' cap' (l ++ nums st) → base ≤ g' → g' < w'.heap.size → w.grownBy w' (some g) → wpList Tryz.prog ops Q rest (a.put o.dst (.slice (some ⟨g', 0, none⟩) (n + st.size) cap')) w') :
  wpList Tryz.prog ops Q (o :: rest) a w := by
 obtain ⟨i0, hi, hz0, hz1, hz2⟩ := info_parts info8
 subst hn
 have hlt := hrow.lt
 refine Lib.wpList_append_own_string w hgd s x 22 9 ho base 5 i0 Tryz.underlying22 Tryz.underlying9 hi hz0 hz1 hz2 _ _ _ hs (hrow.owns hbg) st hx (by unfold maxLen; omega) (by omega) (by omega) ?_
 intro v' w' hown hgr hiff
 rcases hown.2 with ⟨hv, _⟩ | ⟨g', cap', cur, rfl, hb, hg', _⟩
 ·
  exact absurd (hiff.1 hv).1 (by simp)
 ·
  rw [nums_cells, ← List.map_append] at hown
  obtain ⟨r1, r2, r3, r4⟩ := Row.of (n := l.length + st.size) hown
  exact h g' cap' w' r1 r2 r4 hgr
theorem wpList_appC (w : World) {ops : Array Oper} {rest : List Oper} {o : Oper} {a : Act} {Q : Exit → Act → World → Prop} (hgd : o.guard = none) (s x : Operand)
  (ho : o.op = .call { callee := .builtin .append, args := #[s, x], argTypes := #[22, 9] })
  (base g : Nat) (hs : a.eval s = .slice (some ⟨g, 0, none⟩) 0 0) (hrow : Row w g 0 []) (hbg : base ≤ g)
  (st : ByteArray) (hx : a.eval x = .string st) (m : Nat) (tw : List Int) (hm : st.size = m) (hm1 : m ≤ 1000) (htw : nums st = tw)
  (h : ∀ g' cap' w', Row w' g' cap' tw → base ≤ g' → g' < w'.heap.size → w.grownBy w' (some g) → wpList Tryz.prog ops Q rest (a.put o.dst (.slice (some ⟨g', 0, none⟩) m cap')) w') :
  wpList Tryz.prog ops Q (o :: rest) a w := by
 subst hm htw
 refine wpList_appS w hgd s x ho base g 0 0 [] hs rfl hrow hbg st hx (by simp; omega) ?_
 intro g' c' w' h1 h2 h3 h4
 rw [Nat.zero_add]
 exact h g' c' w' (by simpa using h1) h2 h3 h4
end Go.Proofs.YtmcflfpckpjphaaGreatDoor.AppS
