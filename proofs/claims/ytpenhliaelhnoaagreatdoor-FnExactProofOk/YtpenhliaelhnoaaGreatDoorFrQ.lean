/-
  What impl's putCookie and putSealed answer: bytes that are laid behind others.
-/
import Derived.Test.YtpenhliaelhnoaaGreatDoorGz10
import Derived.Deep.RegionHeld3
namespace Go.Proofs.YtpenhliaelhnoaaGreatDoor.FrQ
open Go.RowKit Go.Proofs.YtpenhliaelhnoaaGreatDoor.Mem Go.Proofs.YtpenhliaelhnoaaGreatDoor.App Go.Proofs.YtpenhliaelhnoaaGreatDoor.Blk Go.Proofs.YtpenhliaelhnoaaGreatDoor.Words Go.Proofs.YtpenhliaelhnoaaGreatDoor.Zone Go.Proofs.YtpenhliaelhnoaaGreatDoor.Res Go.Proofs.YtpenhliaelhnoaaGreatDoor.FrZ Go.Proofs.YtpenhliaelhnoaaGreatDoor.FrP Go.Proofs.YtpenhliaelhnoaaGreatDoor.FrB Go.Proofs.YtpenhliaelhnoaaGreatDoor.FrB2

/-- A new slice of the bytes l. -/
def New (w : World) (l : List Int) : Ending → World → Prop := fun e w' => ∃ g m cap, e = .returned (.slice (some ⟨g, 0, none⟩) m cap) ∧ m = l.length ∧ w.heap.size ≤ g ∧ Row w' g cap l ∧ Below w.heap.size w w'
set_option maxRecDepth 100000 in
theorem rowRd {w : World} {g m cap : Nat} {l : List Int} (r : Row w g cap l) (em : m = l.length) (hb : Bytes l) : SRd w ⟨some ⟨g, 0, none⟩, m, cap⟩ l :=
  ⟨em, r.rd, (fun e => by cases e), by rw [em]; exact r.1, hb⟩
set_option maxRecDepth 100000 in
theorem putN_bytes (n k : Int) : Bytes (putN n k) := by
  unfold putN; split
  · exact num_bytes _ _
  · intro z hz; cases hz
set_option maxRecDepth 100000 in
theorem putB (s t : Sl) (x y : List Int) (w : World) (hx : SRd w s x) (hy : SRd w t y) (lx : x.length ≤ 100000) (ly : y.length ≤ 100000) :
    Calls Tryz.prog 51 #[.slice s.a s.n s.c, .slice t.a t.n t.c] w (New w (x ++ y)) := by
  refine (putBytes s.a t.a s.n s.c t.n t.c x y w hx.len hy.len hx.rd hy.rd hx.nil hy.nil (by omega) (by omega)).mono ?_
  rintro e w' ⟨rfl, r, b⟩
  exact ⟨_, _, _, rfl, by rw [List.length_append, hx.len, hy.len], Nat.le_refl _, r, b⟩
set_option maxRecDepth 100000 in
theorem putK (s : Sl) (x : List Int) (n k : Int) (w : World) (hx : SRd w s x) (lx : x.length ≤ 100000) :
    Calls Tryz.prog 71 #[.slice s.a s.n s.c, .int .i64 n, .int .i64 k] w (New w (x ++ putN n k)) :=
  implPutN s.a s.n s.c x n k w hx.len hx.rd hx.nil (by omega)

end Go.Proofs.YtpenhliaelhnoaaGreatDoor.FrQ
