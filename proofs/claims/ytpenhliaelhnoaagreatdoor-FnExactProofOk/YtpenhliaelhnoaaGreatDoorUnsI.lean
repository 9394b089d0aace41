/-
  What impl opens.
-/
import Derived.Test.YtpenhliaelhnoaaGreatDoorSealI
namespace Go.Proofs.YtpenhliaelhnoaaGreatDoor.UnsI
open Go.RowKit Go.Proofs.YtpenhliaelhnoaaGreatDoor.Mem Go.Proofs.YtpenhliaelhnoaaGreatDoor.App Go.Proofs.YtpenhliaelhnoaaGreatDoor.Blk Go.Proofs.YtpenhliaelhnoaaGreatDoor.Words Go.Proofs.YtpenhliaelhnoaaGreatDoor.Zone Go.Proofs.YtpenhliaelhnoaaGreatDoor.Res Go.Proofs.YtpenhliaelhnoaaGreatDoor.Comp Go.Proofs.YtpenhliaelhnoaaGreatDoor.DiffP Go.Proofs.YtpenhliaelhnoaaGreatDoor.Diffs Go.Proofs.YtpenhliaelhnoaaGreatDoor.MacP Go.Proofs.YtpenhliaelhnoaaGreatDoor.KdfP Go.Proofs.YtpenhliaelhnoaaGreatDoor.FrZ Go.Proofs.YtpenhliaelhnoaaGreatDoor.FrL Go.Proofs.YtpenhliaelhnoaaGreatDoor.FrP Go.Proofs.YtpenhliaelhnoaaGreatDoor.FrG Go.Proofs.YtpenhliaelhnoaaGreatDoor.FrQ Go.Proofs.YtpenhliaelhnoaaGreatDoor.FrQ2 Go.Proofs.YtpenhliaelhnoaaGreatDoor.SlP Go.Proofs.YtpenhliaelhnoaaGreatDoor.SlQ Go.Proofs.YtpenhliaelhnoaaGreatDoor.Shp Go.Proofs.YtpenhliaelhnoaaGreatDoor.Each Go.Proofs.YtpenhliaelhnoaaGreatDoor.Copy Go.Proofs.YtpenhliaelhnoaaGreatDoor.Ops Go.Proofs.YtpenhliaelhnoaaGreatDoor.Guard Go.Proofs.YtpenhliaelhnoaaGreatDoor.MacI Go.Proofs.YtpenhliaelhnoaaGreatDoor.StrI Go.Proofs.YtpenhliaelhnoaaGreatDoor.SlI Go.Proofs.YtpenhliaelhnoaaGreatDoor.SealI

set_option maxRecDepth 100000 in
theorem same_dec {x y : List Int} (hx : Bytes x) (hy : Bytes y) (h : x.length = 16) : sameI x y = decide (x = y) := by
  rw [sameI_yes x y h]
  by_cases e : x = y
  · rw [decide_eq_true e, (diffI_zero x y hx hy).2 e]; rfl
  · rw [decide_eq_false e]
    have := mt (diffI_zero x y hx hy).1 e
    simpa using this
set_option maxRecDepth 100000 in
theorem sameTagV (s t : Sl) (x y : List Int) (v : Bool) (w : World) (h : SRd w s x) (k : SRd w t y) (lx : x.length ≤ 4194304) (ly : y.length ≤ 4194304) (hv : sameI x y = v) :
    Calls Tryz.prog 39 #[.slice s.a s.n s.c, .slice t.a t.n t.c] w fun e w' => e = .returned (.bool v) ∧ Below w.heap.size w w' := by
  subst hv
  refine (implSameTag s.a t.a s.n s.c t.n t.c x y w h.len k.len h.rd k.rd h.bytes k.bytes (by rw [h.len]; exact lx) (by rw [k.len]; exact ly)).mono ?_
  rintro e w' ⟨rfl, m, rfl⟩
  exact ⟨rfl, ⟨rfl, rfl, rfl, Nat.le_refl _, fun _ _ => rfl⟩⟩
set_option maxRecDepth 100000 in
theorem tagN (k t : Sl) (lk l : List Int) (w : World) (hT : Tab w) (hk : SRd w k lk) (h : SRd w t l) (h1 : lk.length ≤ 2000000) (h2 : l.length ≤ 2000000) :
    Calls Tryz.prog 50 #[.slice k.a k.n k.c, .slice t.a t.n t.c] w (AnsB (tagI lk l) w) := (implTag k.a k.n k.c t.a t.n t.c lk l w hT hk.len h.len hk.rd h.rd hk.nil h.nil hk.bytes h.bytes (by rw [hk.len]; omega) (by rw [h.len]; omega)).mono fun _ _ h' => AnsB.of (tagI_bytes _ _) h'
/-- What opening answers. -/
def AnsBb (l : List Int) (ok : Bool) (w : World) : Ending → World → Prop := fun e w' => ∃ S0 : Sl, e = .returned (.tuple #[.slice S0.a S0.n S0.c, .bool ok]) ∧ SOwn w' w.heap.size w'.heap.size S0 l ∧ Below w.heap.size w w'
set_option maxRecDepth 100000 in
theorem ans_no {w x : World} (b : Below w.heap.size w x) : AnsBb [] false w (.returned (.tuple #[.slice (some ⟨x.heap.size, 0, none⟩) 0 0, .bool false])) (x.alloc (.cells #[] 5)) :=
  ⟨⟨some ⟨x.heap.size, 0, none⟩, 0, 0⟩, rfl, SOwn.row ⟨Nat.le_refl _, by unfold maxLen; omega, #[], heap_alloc_new x _, rfl, rfl⟩ rfl (fun z hz => by cases hz) b.size (by simp), b.alloc b.size _⟩

end Go.Proofs.YtpenhliaelhnoaaGreatDoor.UnsI
