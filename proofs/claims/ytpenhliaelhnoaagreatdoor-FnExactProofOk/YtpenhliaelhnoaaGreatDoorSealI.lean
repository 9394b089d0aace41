/-
  What impl seals, and opens.
-/
import Derived.Test.YtpenhliaelhnoaaGreatDoorGz14
import Derived.Test.YtpenhliaelhnoaaGreatDoorGz16
import Derived.Test.YtpenhliaelhnoaaGreatDoorGz7
namespace Go.Proofs.YtpenhliaelhnoaaGreatDoor.SealI
open Go.RowKit Go.Proofs.YtpenhliaelhnoaaGreatDoor.Mem Go.Proofs.YtpenhliaelhnoaaGreatDoor.App Go.Proofs.YtpenhliaelhnoaaGreatDoor.Blk Go.Proofs.YtpenhliaelhnoaaGreatDoor.Words Go.Proofs.YtpenhliaelhnoaaGreatDoor.Zone Go.Proofs.YtpenhliaelhnoaaGreatDoor.Res Go.Proofs.YtpenhliaelhnoaaGreatDoor.Comp Go.Proofs.YtpenhliaelhnoaaGreatDoor.DiffP Go.Proofs.YtpenhliaelhnoaaGreatDoor.Diffs Go.Proofs.YtpenhliaelhnoaaGreatDoor.MacP Go.Proofs.YtpenhliaelhnoaaGreatDoor.MacI Go.Proofs.YtpenhliaelhnoaaGreatDoor.KdfP Go.Proofs.YtpenhliaelhnoaaGreatDoor.StrI Go.Proofs.YtpenhliaelhnoaaGreatDoor.FrZ Go.Proofs.YtpenhliaelhnoaaGreatDoor.FrL Go.Proofs.YtpenhliaelhnoaaGreatDoor.FrP Go.Proofs.YtpenhliaelhnoaaGreatDoor.FrG Go.Proofs.YtpenhliaelhnoaaGreatDoor.FrQ Go.Proofs.YtpenhliaelhnoaaGreatDoor.FrQ2 Go.Proofs.YtpenhliaelhnoaaGreatDoor.SlP Go.Proofs.YtpenhliaelhnoaaGreatDoor.SlI Go.Proofs.YtpenhliaelhnoaaGreatDoor.SlQ Go.Proofs.YtpenhliaelhnoaaGreatDoor.Shp Go.Proofs.YtpenhliaelhnoaaGreatDoor.Each Go.Proofs.YtpenhliaelhnoaaGreatDoor.Copy Go.Proofs.YtpenhliaelhnoaaGreatDoor.Ops Go.Proofs.YtpenhliaelhnoaaGreatDoor.Guard

/-- A draft's slices. -/
def draftS (s p t : Sl) : FrS := ⟨⟨none, 0, 0⟩, s, ⟨none, 0, 0⟩, ⟨none, 0, 0⟩, p, t⟩
set_option maxRecDepth 100000 in
theorem draft_rd {w : World} {s p t : Sl} {l pl u : List Int} {epoch seq kind : Int} (h1 : SRd w s l) (h2 : SRd w p pl) (h3 : SRd w t u) : FrRd w (draftS s p t) (draftD l epoch seq kind pl u) :=
  ⟨nilRd w, h1, nilRd w, nilRd w, h2, h3⟩
set_option maxRecDepth 100000 in
theorem zeros_bytes (n : Nat) : Bytes (List.replicate n (0 : Int)) := fun z hz => by have := List.eq_of_mem_replicate hz; omega

set_option maxRecDepth 100000 in
theorem sown_block {w : World} {lo hi : Nat} {s : Sl} {l : List Int} (h : SOwn w lo hi s l) : s.a = none ∨ ∃ g, s.a = some ⟨g, 0, none⟩ ∧ lo ≤ g ∧ g < hi := by
  obtain ⟨_, ⟨rfl, _⟩ | ⟨g, h1, _, h3, h4, _⟩⟩ := h
  · exact .inl rfl
  · exact .inr ⟨g, h1, h3, h4⟩
set_option maxRecDepth 100000 in
theorem sown_apart {w : World} {a b c d : Nat} {s t : Sl} {l u : List Int} (h : SOwn w a b s l) (k : SOwn w c d t u) (z : b ≤ c ∨ d ≤ a) : s.a = none ∨ s.a ≠ t.a := by
  rcases sown_block h with h | ⟨g, h1, h2, h3⟩
  · exact .inl h
  · refine .inr ?_
    rcases sown_block k with k | ⟨g', k1, k2, k3⟩
    · rw [h1, k]; intro e; cases e
    · rw [h1, k1]; intro e; simp only [Option.some.injEq, Addr.mk.injEq, and_true] at e; omega
set_option maxRecDepth 100000 in
theorem draft_own {w : World} {lo hi a b c d e f : Nat} {s p t : Sl} {l u v : List Int} {epoch seq kind : Int} (h1 : SOwn w a b s l) (h2 : SOwn w c d p u) (h3 : SOwn w e f t v) (z1 : lo ≤ a ∧ b ≤ hi) (z2 : lo ≤ c ∧ d ≤ hi) (z3 : lo ≤ e ∧ f ≤ hi) (z4 : b ≤ c) (z5 : b ≤ e ∧ d ≤ e) : FrOwn w lo hi (draftS s p t) (draftD l epoch seq kind u v) :=
  ⟨SOwn.nil _ _ _, h1.mono z1.1 z1.2, SOwn.nil _ _ _, SOwn.nil _ _ _, h2.mono z2.1 z2.2, h3.mono z3.1 z3.2, by
    have q1 := sown_apart h1 h2 (.inl z4)
    have q2 := sown_apart h1 h3 (.inl z5.1)
    have q3 := sown_apart h2 h3 (.inl z5.2)
    have n1 : s.a = none ∨ s.a ≠ none := by cases s.a <;> simp
    constructor <;> first | exact .inl rfl | exact q1 | exact q2 | exact q3 | exact n1⟩

/-- What sealing answers. -/
def AnsS (D : FrD) (ok : Bool) (w : World) : Ending → World → Prop := fun e w' => ∃ S0 : FrS, e = .returned (.tuple #[frV D S0, .bool ok]) ∧ FrOwn w' w.heap.size w'.heap.size S0 D ∧ Below w.heap.size w w'
set_option maxRecDepth 100000 in
theorem own_nil (w : World) (lo hi : Nat) : FrOwn w lo hi ⟨⟨none, 0, 0⟩, ⟨none, 0, 0⟩, ⟨none, 0, 0⟩, ⟨none, 0, 0⟩, ⟨none, 0, 0⟩, ⟨none, 0, 0⟩⟩ zeroF :=
  ⟨SOwn.nil _ _ _, SOwn.nil _ _ _, SOwn.nil _ _ _, SOwn.nil _ _ _, SOwn.nil _ _ _, SOwn.nil _ _ _, ⟨.inl rfl, .inl rfl, .inl rfl, .inl rfl, .inl rfl, .inl rfl, .inl rfl, .inl rfl, .inl rfl, .inl rfl, .inl rfl, .inl rfl, .inl rfl, .inl rfl, .inl rfl⟩⟩

end Go.Proofs.YtpenhliaelhnoaaGreatDoor.SealI
