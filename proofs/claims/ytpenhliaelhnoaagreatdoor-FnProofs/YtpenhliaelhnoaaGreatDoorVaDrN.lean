/-
  How what stands ahead of a draw is carried on.
-/
import Derived.Test.YtpenhliaelhnoaaGreatDoorVaDrawB
import Derived.Test.YtpenhliaelhnoaaGreatDoorVaGz6
set_option maxRecDepth 100000
namespace Go.Proofs.YtpenhliaelhnoaaGreatDoor.DrN
open Go.RowKit Mem App Blk Zone Draw

theorem rdyL {W0 : World} {a : Option Addr} {len cap : Nat} {l : List Int} {p : Nat} {w w' : World} (h : Ready W0 a len cap l p w) (b : Below w.heap.size w w') : Ready W0 a len cap l p w' :=
 ⟨h.hl, h.hr, h.hb, h.hlen, h.hB.trans (b.mono h.hB.size), h.hp, h.hc.keep (b.block p h.hc.lt)⟩
theorem butL {p : Nat} {a b c : World} (h : But p a b) (k : Below b.heap.size b c) : But p a c :=
 ⟨k.os.trans h.os, k.tape.trans h.tape, k.output.trans h.output, Nat.le_trans h.size k.size, fun i hi hne => (k.block i (Nat.lt_of_lt_of_le hi h.size)).trans (h.block i hi hne)⟩
theorem butK {p : Nat} {a b c : World} (h : But p a b) {lo hi : Nat} (k : Kept lo hi b c) (hl : a.heap.size ≤ lo) : But p a c :=
 ⟨k.os.trans h.os, k.tape.trans h.tape, k.output.trans h.output, Nat.le_trans h.size k.size, fun i hi hne => (k.block i (Nat.lt_of_lt_of_le hi h.size) (.inl (by omega))).trans (h.block i hi hne)⟩
theorem rdyK {W0 : World} {a : Option Addr} {len cap : Nat} {l : List Int} {p : Nat} {w w' : World} (h : Ready W0 a len cap l p w) {lo hi : Nat} (k : Kept lo hi w w') (hl : p < lo) : Ready W0 a len cap l p w' :=
 ⟨h.hl, h.hr, h.hb, h.hlen, h.hB.trans (k.below (by have := h.hp; omega) h.hB.size), h.hp, h.hc.keep (k.block p h.hc.lt (.inl hl))⟩
end Go.Proofs.YtpenhliaelhnoaaGreatDoor.DrN
