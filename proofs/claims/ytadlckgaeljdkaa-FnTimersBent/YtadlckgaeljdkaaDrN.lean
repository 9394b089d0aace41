/-
  How what stands ahead of a draw is carried on.
-/
import Derived.Test.YtadlckgaeljdkaaDrawB
import Derived.Test.YtadlckgaeljdkaaZone
namespace Go.Proofs.Ytadlckgaeljdkaa.DrN
open Go.RowKit Go.Proofs.Ytadlckgaeljdkaa.Mem Go.Proofs.Ytadlckgaeljdkaa.App Go.Proofs.Ytadlckgaeljdkaa.Blk Go.Proofs.Ytadlckgaeljdkaa.Zone Go.Proofs.Ytadlckgaeljdkaa.Draw

set_option maxRecDepth 100000 in
theorem rdyL {W0 : World} {a : Option Addr} {len cap : Nat} {l : List Int} {p : Nat} {w w' : World} (h : Ready W0 a len cap l p w) (b : Below w.heap.size w w') : Ready W0 a len cap l p w' :=
  ⟨h.hl, h.hr, h.hb, h.hlen, h.hB.trans (b.mono h.hB.size), h.hp, h.hc.keep (b.block p h.hc.lt)⟩
set_option maxRecDepth 100000 in
theorem butL {p : Nat} {a b c : World} (h : But p a b) (k : Below b.heap.size b c) : But p a c :=
  ⟨k.os.trans h.os, k.tape.trans h.tape, k.output.trans h.output, Nat.le_trans h.size k.size, fun i hi hne => (k.block i (Nat.lt_of_lt_of_le hi h.size)).trans (h.block i hi hne)⟩
set_option maxRecDepth 100000 in
theorem butK {p : Nat} {a b c : World} (h : But p a b) {lo hi : Nat} (k : Kept lo hi b c) (hl : a.heap.size ≤ lo) : But p a c :=
  ⟨k.os.trans h.os, k.tape.trans h.tape, k.output.trans h.output, Nat.le_trans h.size k.size, fun i hi hne => (k.block i (Nat.lt_of_lt_of_le hi h.size) (.inl (by omega))).trans (h.block i hi hne)⟩
set_option maxRecDepth 100000 in
theorem rdyK {W0 : World} {a : Option Addr} {len cap : Nat} {l : List Int} {p : Nat} {w w' : World} (h : Ready W0 a len cap l p w) {lo hi : Nat} (k : Kept lo hi w w') (hl : p < lo) : Ready W0 a len cap l p w' :=
  ⟨h.hl, h.hr, h.hb, h.hlen, h.hB.trans (k.below (by have := h.hp; omega) h.hB.size), h.hp, h.hc.keep (k.block p h.hc.lt (.inl hl))⟩
set_option maxRecDepth 100000 in
/-- The slice as it came in, ahead of the cursor. -/
theorem code {W0 : World} {a : Option Addr} {len cap : Nat} {l : List Int} {p : Nat} {w : World} (h : Ready W0 a len cap l p w) : Below W0.heap.size W0 w := h.hB
end Go.Proofs.Ytadlckgaeljdkaa.DrN
