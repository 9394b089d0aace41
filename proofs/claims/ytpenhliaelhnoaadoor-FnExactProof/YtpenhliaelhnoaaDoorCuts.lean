/-
  What impl's and spec's Cut answer at every slice of at most 4,194,304 bytes that is not nil and every two ints: the same bytes, in new memory, and the same word on whether they were there.
-/
import Derived.Test.YtpenhliaelhnoaaDoorGet
namespace Go.Proofs.YtpenhliaelhnoaaDoor.Cuts
open Go.RowKit Go.Proofs.YtpenhliaelhnoaaDoor.Mem Go.Proofs.YtpenhliaelhnoaaDoor.App Go.Proofs.YtpenhliaelhnoaaDoor.Get

/-- What is cut out: the bytes, where they are there; else none. -/
def cutOf (l : List Int) (i k : Int) : List Int := if there l.length i k = true then piece l i.toNat k.toNat else []
set_option maxRecDepth 100000 in
theorem cutOf_length (l : List Int) (i k : Int) : (cutOf l i k).length ≤ l.length := by
  unfold cutOf piece; split
  · rw [List.length_take, List.length_drop]; omega
  · simp

set_option maxRecDepth 100000 in
theorem rd_piece {w : World} {b off : Nat} {l : List Int} (h : Rd w (some ⟨b, off, none⟩) l) (i k : Nat) (hk : i + k ≤ l.length) : Rd w (some ⟨b, off + i, none⟩) (piece l i k) := by
  intro j hj
  rw [piece_length l i k hk] at hj
  obtain ⟨b', off', e, h1, h2⟩ := h (i + j) (by omega)
  simp only [Option.some.injEq, Addr.mk.injEq, and_true] at e
  obtain ⟨rfl, rfl⟩ := e
  refine ⟨b, off + i, rfl, h1, ?_⟩
  have e : (piece l i k).getD j 0 = l.getD (i + j) 0 := by simp [piece, List.getD, hj]
  rw [e, Nat.add_assoc]
  exact h2

set_option maxRecDepth 100000 in
set_option maxHeartbeats 800000 in
theorem implCut (b off len cap : Nat) (l : List Int) (i k : Int) (w : World) (hl : len = l.length) (hr : Rd w (some ⟨b, off, none⟩) l) (hlc : len ≤ cap) (hlen : len ≤ 4194304) (hi : i ≤ 9223372036854775807) :
    Calls Tryd.prog 60 #[.slice (some ⟨b, off, none⟩) len cap, .int .i64 i, .int .i64 k] w fun e w' =>
      ∃ g m c, e = .returned (.tuple #[.slice (some ⟨g, 0, none⟩) m c, .bool (there len i k)]) ∧ m = (cutOf l i k).length ∧ w.heap.size ≤ g ∧ Row w' g c (cutOf l i k) ∧ Below w.heap.size w w' := by
  have HR : Hid (Rd w (some ⟨b, off, none⟩) l) := hr
  have HL : Hid (len = l.length) := hl
  clear hr hl
  by_cases ht : there len i k = true
  · have HC : Hid (cutOf l i k = piece l i.toNat k.toNat) := by
      show cutOf l i k = _
      unfold cutOf; rw [if_pos (by rw [← HL.out]; exact ht)]
    have ht' : 0 ≤ i ∧ 0 ≤ k ∧ k ≤ (len : Int) - i := by simpa [there] using ht
    obtain ⟨I, rfl⟩ := Int.eq_ofNat_of_zero_le ht'.1
    obtain ⟨K, rfl⟩ := Int.eq_ofNat_of_zero_le ht'.2.1
    rw [Int.toNat_natCast, Int.toNat_natCast] at HC
    have k3 : I + K ≤ len := by omega
    have HK : Hid (I + K ≤ l.length) := by show _ ≤ _; rw [← HL.out]; exact k3
    have HP : Hid (Rd w (some ⟨b, off + I, none⟩) (piece l I K)) := rd_piece HR.out I K HK.out
    have HN : Hid (K = (piece l I K).length) := by show _ = _; rw [piece_length l I K HK.out]
    have HM : Hid (I + K - I = (piece l I K).length) := by show _ = _; rw [piece_length l I K HK.out]; omega
    clear ht'
    by_cases hc : cap = I
    · have hk0 : K = 0 := by omega
      subst hk0
      subst hc
      have ht0 : there len (cap : Int) 0 = true := by simpa using ht
      have HC0 : Hid (cutOf l (cap : Int) ((0 : Nat) : Int) = []) := by show _ = _; rw [HC.out]; simp [piece]
      clear ht HC
      go_enter Tryd.func60, Tryd.ntmps60
      go_wp2_with fail
      refine (allThere _ len _ _ _ _ hlen hi).mono ?_
      rintro e w1 ⟨rfl, rfl⟩
      go_wp2_with fail
      refine (putBytes _ none 0 0 0 0 [] [] w rfl rfl (by intro i hi; cases hi) (by intro i hi; cases hi) (fun _ => rfl) (fun _ => rfl) (by simp) (by simp)).mono ?_
      rintro e w2 ⟨rfl, h3, h4⟩
      go_wp2
      go_ret2
      exact ⟨w.heap.size, 0, 0, by simp [ht0], by rw [HC0.out]; rfl, Nat.le_refl _, by rw [HC0.out]; exact h3, h4⟩
    · go_enter Tryd.func60, Tryd.ntmps60
      go_wp2_with fail
      refine (allThere _ len cap _ _ _ hlen hi).mono ?_
      rintro e w1 ⟨rfl, rfl⟩
      go_wp2_with fail
      refine (putBytes _ none _ _ 0 0 (piece l I K) [] w HN.out rfl HP.out (by intro i hi; cases hi) (by intro h; cases h) (fun _ => rfl) (by rw [← HN.out]; omega) (by simp)).mono ?_
      rintro e w2 ⟨rfl, h3, h4⟩
      go_wp2
      go_ret2
      exact ⟨w.heap.size, K, K, by simp [ht], by rw [HC.out, ← HN.out], Nat.le_refl _, by rw [HC.out]; simpa using h3, h4⟩
  · have hf : there len i k = false := by simpa using ht
    have HC : Hid (cutOf l i k = []) := by
      show cutOf l i k = _
      unfold cutOf; rw [if_neg (by rw [← HL.out]; exact ht)]
    clear ht
    go_enter Tryd.func60, Tryd.ntmps60
    go_wp2_with fail
    refine (allThere _ len cap _ _ _ hlen hi).mono ?_
    rintro e w1 ⟨rfl, rfl⟩
    go_wp2
    go_ret2
    exact ⟨w.heap.size, 0, 0, by simp [hf], by rw [HC.out]; rfl, Nat.le_refl _, by rw [HC.out]; exact row_new w [] (by simp), (Below.refl _ _).alloc (Nat.le_refl _) _⟩

set_option maxRecDepth 100000 in
theorem there_flip (len : Nat) (i k : Int) (h : k < 0 ∨ i < 0 ∨ (len : Int) < k ∨ (len : Int) - k < i) : there len i k = false := there_no (by omega)

end Go.Proofs.YtpenhliaelhnoaaDoor.Cuts
