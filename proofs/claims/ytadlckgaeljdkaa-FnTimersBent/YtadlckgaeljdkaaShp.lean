/-
  Slices that came in, as slices that read; answers in new memory, as slices that own theirs.
-/
import Derived.Test.YtadlckgaeljdkaaZone
import Derived.Test.YtadlckgaeljdkaaZoneI
namespace Go.Proofs.Ytadlckgaeljdkaa.Zone
open Go.RowKit Go.Proofs.Ytadlckgaeljdkaa.Mem
set_option maxRecDepth 100000 in
theorem SOwn.later {w w' : World} {lo hi : Nat} {s : Sl} {l : List Int} (h : SOwn w lo hi s l) (k : Below w.heap.size w w') : SOwn w' lo hi s l := h.carry (Kept.of_below k hi) (.inl (Nat.le_refl _))
end Go.Proofs.Ytadlckgaeljdkaa.Zone
namespace Go.Proofs.Ytadlckgaeljdkaa.Shp
open Go.RowKit Go.Proofs.Ytadlckgaeljdkaa.Mem Go.Proofs.Ytadlckgaeljdkaa.MemI Go.Proofs.Ytadlckgaeljdkaa.Zone Go.Proofs.Ytadlckgaeljdkaa.ZoneI
set_option maxRecDepth 100000 in
theorem row_cap {k : IntKind} {w : World} {a : Option Addr} {n c : Nat} {z : List Int} (h : IsRow k w a n c z) : n ≤ c := by
  rcases h with ⟨_, rfl, rfl, _⟩ | ⟨_, _, h, _⟩
  · exact Nat.le_refl _
  · exact h
set_option maxRecDepth 100000 in
theorem row_sl {w : World} {a : Option Addr} {n c : Nat} {z : List Int} (h : IsRow .u8 w a n c z) : ∃ l, SRd w ⟨a, n, c⟩ l := by
  obtain ⟨l, h1, h2, h3, h4⟩ := h.read
  exact ⟨l, h1, h2, h3, row_cap h, h4⟩
set_option maxRecDepth 100000 in
theorem row_isl {w : World} {a : Option Addr} {n c : Nat} {z : List Int} (h : IsRow .i64 w a n c z) : ∃ l, ISRd w ⟨a, n, c⟩ l := by
  obtain ⟨l, h1, h2, h3, _⟩ := readI h
  exact ⟨l, h1, h2, h3, row_cap h⟩
/-- A list of bytes in new memory. -/
def AnsB (l : List Int) (w : World) : Ending → World → Prop := fun e w' => ∃ S0 : Sl, e = .returned (.slice S0.a S0.n S0.c) ∧ SOwn w' w.heap.size w'.heap.size S0 l ∧ Below w.heap.size w w'
set_option maxRecDepth 100000 in
theorem AnsB.of {l : List Int} {w : World} {e : Ending} {w' : World} (hb : Bytes l) (h : ∃ g m cap, e = .returned (.slice (some ⟨g, 0, none⟩) m cap) ∧ m = l.length ∧ w.heap.size ≤ g ∧ Row w' g cap l ∧ Below w.heap.size w w') : AnsB l w e w' := by
  obtain ⟨g, m, c, h1, h2, h3, h4, h5⟩ := h
  exact ⟨⟨some ⟨g, 0, none⟩, m, c⟩, h1, SOwn.row h4 h2 hb h3 h4.lt, h5⟩
end Go.Proofs.Ytadlckgaeljdkaa.Shp
