/-
  What impl reads of a right frame's bytes is that frame.
-/
import Derived.Test.YtfapehmbecgjaaaFrH
import Derived.Test.YtfapehmbecgjaaaFrRd
namespace Go.Proofs.Ytfapehmbecgjaaa.FrR
open Go.RowKit Go.Proofs.Ytfapehmbecgjaaa.Mem Go.Proofs.Ytfapehmbecgjaaa.App Go.Proofs.Ytfapehmbecgjaaa.Get Go.Proofs.Ytfapehmbecgjaaa.Cuts Go.Proofs.Ytfapehmbecgjaaa.FrZ Go.Proofs.Ytfapehmbecgjaaa.FrP Go.Proofs.Ytfapehmbecgjaaa.FrB Go.Proofs.Ytfapehmbecgjaaa.FrG Go.Proofs.Ytfapehmbecgjaaa.FrH Go.Proofs.Ytfapehmbecgjaaa.FrRd

theorem numAt_yes (l : List Int) (i k : Nat) (hk : isSize k = true) (h : i + k ≤ l.length) : numAt l i k = val (piece l i k) := by
  unfold numAt
  rw [if_pos ⟨hk, there_yes ⟨by omega, by omega, by omega⟩⟩, Int.toNat_natCast, Int.toNat_natCast]
theorem cutOf_yes (l : List Int) (i k : Nat) (h : i + k ≤ l.length) : cutOf l i k = piece l i k := by
  unfold cutOf
  rw [if_pos (there_yes ⟨by omega, by omega, by omega⟩), Int.toNat_natCast, Int.toNat_natCast]
theorem cutOf_rest (l : List Int) (i k : Nat) (h : i + k = l.length) : cutOf l i k = l.drop i := by
  rw [cutOf_yes l i k (by omega)]
  unfold piece
  exact List.take_of_length_le (by rw [List.length_drop]; omega)
theorem numAt_one (l : List Int) (i : Nat) (h : i < l.length) : numAt l i 1 = l.getD i 0 := by
  rw [show (1 : Int) = ((1 : Nat) : Int) from rfl, numAt_yes l i 1 rfl (by omega)]
  have e : piece l i 1 = [l.getD i 0] := by
    unfold piece
    apply List.ext_getElem?
    intro j
    cases j with
    | zero => simp [List.getD, h]
    | succ j => simp; omega
  rw [e]
  unfold val
  simp
theorem kind_num {E : FrD} (ok : frameOk E = true) : numAt (putF E) 0 1 = E.kind := by
  have h := kind_at E ok
  have h0 : 0 < (putF E).length := List.length_pos_iff.2 h.2
  rw [show (0 : Int) = ((0 : Nat) : Int) from rfl, numAt_one _ 0 h0]
  exact h.1

theorem cand1 {l : List Int} (hk : numAt l 0 1 = 1) (E : FrD) (ok : frameOk E = true) (e : putF E = l) : E = ⟨1, numAt l 1 1, cutOf l 2 12, [], 0, [], [], 0, 0, [], []⟩ := by
  subst e
  have k1 : E.kind = 1 := by rw [← kind_num ok]; exact hk
  obtain ⟨len, g⟩ := back1 E ok k1
  have k0 := (kind_at E ok).1
  generalize putF E = l at *
  rw [← g]
  unfold get1
  have q0 : numAt l 1 1 = l.getD 1 0 := numAt_one l 1 (by omega)
  have q1 : cutOf l 2 12 = piece l 2 12 := cutOf_yes l 2 12 (by omega)
  rw [q0, q1, k0, k1]

theorem cand2 {l : List Int} (hk : numAt l 0 1 = 2) (E : FrD) (ok : frameOk E = true) (e : putF E = l) : E = ⟨2, 0, cutOf l 1 12, cutOf l (1 + 12) 12, numAt l (1 + 24) 4, cutOf l (1 + 28) 16, [], 0, 0, [], []⟩ := by
  subst e
  have k1 : E.kind = 2 := by rw [← kind_num ok]; exact hk
  obtain ⟨len, g⟩ := back2 E ok k1
  have k0 := (kind_at E ok).1
  generalize putF E = l at *
  rw [← g]
  unfold get2
  have q1 : cutOf l 1 12 = piece l 1 12 := cutOf_yes l 1 12 (by omega)
  have q2 : cutOf l (1 + 12) 12 = piece l 13 12 := cutOf_yes l 13 12 (by omega)
  have q3 : numAt l (1 + 24) 4 = val (piece l 25 4) := numAt_yes l 25 4 rfl (by omega)
  have q4 : cutOf l (1 + 28) 16 = l.drop 29 := cutOf_rest l 29 16 (by omega)
  rw [q1, q2, q3, q4, k0, k1]

theorem cand3 {l : List Int} (hk : numAt l 0 1 = 3) (E : FrD) (ok : frameOk E = true) (e : putF E = l) : E = ⟨3, numAt l 1 1, cutOf l 2 12, cutOf l (2 + 12) 12, numAt l (2 + 24) 4, cutOf l (2 + 28) 16, cutOf l (2 + 44) 16, 0, 0, [], []⟩ := by
  subst e
  have k1 : E.kind = 3 := by rw [← kind_num ok]; exact hk
  obtain ⟨len, g⟩ := back3 E ok k1
  have k0 := (kind_at E ok).1
  generalize putF E = l at *
  rw [← g]
  unfold get3
  have q0 : numAt l 1 1 = l.getD 1 0 := numAt_one l 1 (by omega)
  have q1 : cutOf l 2 12 = piece l 2 12 := cutOf_yes l 2 12 (by omega)
  have q2 : cutOf l (2 + 12) 12 = piece l 14 12 := cutOf_yes l 14 12 (by omega)
  have q3 : numAt l (2 + 24) 4 = val (piece l 26 4) := numAt_yes l 26 4 rfl (by omega)
  have q4 : cutOf l (2 + 28) 16 = piece l 30 16 := cutOf_yes l 30 16 (by omega)
  have q5 : cutOf l (2 + 44) 16 = l.drop 46 := cutOf_rest l 46 16 (by omega)
  rw [q0, q1, q2, q3, q4, q5, k0, k1]

theorem candS {l : List Int} {k : Int} {N : Nat} (hN : N = l.length) (hk : numAt l 0 1 = k) (n1 : k ≠ 1) (n2 : k ≠ 2) (n3 : k ≠ 3) (E : FrD) (ok : frameOk E = true) (e : putF E = l) : E = ⟨k, 0, [], cutOf l 1 12, 0, [], [], numAt l (1 + 12) 4, numAt l (1 + 16) 6, cutOf l (1 + 38) ((N : Int) - (1 + 38)), cutOf l (1 + 22) 16⟩ := by
  subst e
  have k1 : E.kind = k := by rw [← kind_num ok]; exact hk
  obtain ⟨len, g⟩ := backS E ok (by rw [k1]; exact n1) (by rw [k1]; exact n2) (by rw [k1]; exact n3)
  have k0 := (kind_at E ok).1
  generalize putF E = l at *
  rw [← g]
  unfold getS
  have q1 : cutOf l 1 12 = piece l 1 12 := cutOf_yes l 1 12 (by omega)
  have q2 : numAt l (1 + 12) 4 = val (piece l 13 4) := numAt_yes l 13 4 rfl (by omega)
  have q3 : numAt l (1 + 16) 6 = val (piece l 17 6) := numAt_yes l 17 6 rfl (by omega)
  have q4 : cutOf l (1 + 22) 16 = piece l 23 16 := cutOf_yes l 23 16 (by omega)
  have q5 : cutOf l (1 + 38) ((N : Int) - (1 + 38)) = l.drop 39 := by
    rw [show (N : Int) - (1 + 38) = ((N - 39 : Nat) : Int) by omega]
    exact cutOf_rest l 39 (N - 39) (by omega)
  rw [q1, q2, q3, q4, q5, k0, k1]
theorem cand0 {l : List Int} {v : Int} (hk : numAt l 0 1 = v) (h : v < 1 ∨ 8 < v) (E : FrD) (ok : frameOk E = true) (e : putF E = l) : False := by
  subst e
  have k1 : E.kind = v := by rw [← kind_num ok]; exact hk
  have := ok_kind E ok
  omega
end Go.Proofs.Ytfapehmbecgjaaa.FrR
