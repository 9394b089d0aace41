/-
  A Frame that came in, opened: numbers and slices of bytes.
-/
import Derived.Test.YtpenhliaelhnoaaGreatDoorVbFrZ
import Derived.ProofKit
import Derived.OpenShut
import Derived.Deep.Strs
set_option maxRecDepth 100000
namespace Go.Proofs.YtpenhliaelhnoaaGreatDoor.FrF
open Go.ChangeShapes Go.WideShapes Go.ChangeAt Go.RowKit Mem Zone FrZ

theorem cellsT : Tryz.prog.cellsOf 37 = 11 := by kernel_rfl
theorem cellsI : Tryz.prog.cellsOf 3 = 1 := by kernel_rfl
theorem cellsB : Tryz.prog.cellsOf 22 = 1 := by kernel_rfl

theorem row_open {H : Type} {enc : TypeId × Value → H} {W : World} {fuel : Nat} {c : Value} {x : DataW H × List MemPlace} (h : DataW.trod enc Tryz.prog W 0 (fun _ => true) true fuel 22 [c] = some x) :
  ∃ (s : Sl) (l : List Int), c = .slice s.a s.n s.c ∧ SRd W s l ∧ s.n ≤ 9223372036854775807 := by
 have key : ∃ a len cap zs, c = .slice a len cap ∧ IsRow .u8 W a len cap zs := by
  rcases open_ints Tryz.underlying22 Tryz.underlying5 (by kernel_rfl) h with ⟨hcs, _⟩ | ⟨y, l, cc, zs, hcs, _, hl, hm, hz, _, hcell, hwz⟩
  ·
   simp at hcs
   exact ⟨none, 0, 0, [], hcs, .inl ⟨rfl, rfl, rfl, rfl⟩⟩
  ·
   simp at hcs
   exact ⟨some y, l, cc, zs, hcs, .inr ⟨_, rfl, hl, hm, by simpa using hz, hcell, hwz⟩⟩
 obtain ⟨a, len, cap, zs, rfl, hr⟩ := key
 have hcap : len ≤ cap ∧ cap ≤ maxLen ∧ (a = none → cap = 0) := by
  rcases hr with ⟨rfl, rfl, rfl, _⟩ | ⟨x, rfl, h1, h2, _⟩
  ·
   exact ⟨Nat.le_refl _, by simp, fun _ => rfl⟩
  ·
   exact ⟨h1, h2, fun e => by cases e⟩
 obtain ⟨l, h1, h2, _, h4⟩ := hr.read
 exact ⟨⟨a, len, cap⟩, l, rfl, ⟨h1, h2, hcap.2.2, hcap.1, h4⟩, by have := hcap.1; have := hcap.2.1; unfold maxLen at *; show len ≤ _; omega⟩

set_option maxHeartbeats 1600000 in
theorem open_it {H : Type} {enc : TypeId × Value → H} {W : World} {base : Nat} {v : Value} {d : DataW H} {p : List MemPlace} (hval : Value.okWide Tryz.prog W .any base 37 v)
  (h : DataW.Trod enc Tryz.prog W 0 (fun _ => true) true 37 v d p) :
  ∃ (D : FrD) (S : FrS), v = frV D S ∧ FrRd W S D ∧ FrSmall S := by
 obtain ⟨cs, rfl, hsz⟩ := okWide_struct Tryz.underlying37 hval
 rw [cellsT] at hsz
 obtain ⟨fuel, hf⟩ := h
 obtain ⟨xs, n, _, _, _, hlen, hfs⟩ := DataW.trod_struct Tryz.underlying37 hf
 obtain ⟨y0, y1, y2, y3, y4, y5, y6, y7, y8, y9, y10, rfl⟩ : ∃ y0 y1 y2 y3 y4 y5 y6 y7 y8 y9 y10, xs = [y0, y1, y2, y3, y4, y5, y6, y7, y8, y9, y10] := by
  match xs, hlen with
  | [y0, y1, y2, y3, y4, y5, y6, y7, y8, y9, y10], _ => exact ⟨y0, y1, y2, y3, y4, y5, y6, y7, y8, y9, y10, rfl⟩
 obtain ⟨v0, v1, v2, v3, v4, v5, v6, v7, v8, v9, v10, rfl⟩ : ∃ v0 v1 v2 v3 v4 v5 v6 v7 v8 v9 v10, cs = #[v0, v1, v2, v3, v4, v5, v6, v7, v8, v9, v10] := by
  obtain ⟨l⟩ := cs
  match l, hsz with
  | [v0, v1, v2, v3, v4, v5, v6, v7, v8, v9, v10], _ => exact ⟨v0, v1, v2, v3, v4, v5, v6, v7, v8, v9, v10, rfl⟩
 have f0 : DataW.trod enc Tryz.prog W 0 (fun _ => true) true n 3 (([v0, v1, v2, v3, v4, v5, v6, v7, v8, v9, v10].drop 0).take (Tryz.prog.cellsOf 3)) = some y0 := hfs 0 _ rfl
 rw [cellsI] at f0
 have f1 : DataW.trod enc Tryz.prog W 0 (fun _ => true) true n 3 (([v0, v1, v2, v3, v4, v5, v6, v7, v8, v9, v10].drop 1).take (Tryz.prog.cellsOf 3)) = some y1 := hfs 1 _ rfl
 rw [cellsI] at f1
 have f2 : DataW.trod enc Tryz.prog W 0 (fun _ => true) true n 22 (([v0, v1, v2, v3, v4, v5, v6, v7, v8, v9, v10].drop 2).take (Tryz.prog.cellsOf 22)) = some y2 := hfs 2 _ rfl
 rw [cellsB] at f2
 have f3 : DataW.trod enc Tryz.prog W 0 (fun _ => true) true n 22 (([v0, v1, v2, v3, v4, v5, v6, v7, v8, v9, v10].drop 3).take (Tryz.prog.cellsOf 22)) = some y3 := hfs 3 _ rfl
 rw [cellsB] at f3
 have f4 : DataW.trod enc Tryz.prog W 0 (fun _ => true) true n 3 (([v0, v1, v2, v3, v4, v5, v6, v7, v8, v9, v10].drop 4).take (Tryz.prog.cellsOf 3)) = some y4 := hfs 4 _ rfl
 rw [cellsI] at f4
 have f5 : DataW.trod enc Tryz.prog W 0 (fun _ => true) true n 22 (([v0, v1, v2, v3, v4, v5, v6, v7, v8, v9, v10].drop 5).take (Tryz.prog.cellsOf 22)) = some y5 := hfs 5 _ rfl
 rw [cellsB] at f5
 have f6 : DataW.trod enc Tryz.prog W 0 (fun _ => true) true n 22 (([v0, v1, v2, v3, v4, v5, v6, v7, v8, v9, v10].drop 6).take (Tryz.prog.cellsOf 22)) = some y6 := hfs 6 _ rfl
 rw [cellsB] at f6
 have f7 : DataW.trod enc Tryz.prog W 0 (fun _ => true) true n 3 (([v0, v1, v2, v3, v4, v5, v6, v7, v8, v9, v10].drop 7).take (Tryz.prog.cellsOf 3)) = some y7 := hfs 7 _ rfl
 rw [cellsI] at f7
 have f8 : DataW.trod enc Tryz.prog W 0 (fun _ => true) true n 3 (([v0, v1, v2, v3, v4, v5, v6, v7, v8, v9, v10].drop 8).take (Tryz.prog.cellsOf 3)) = some y8 := hfs 8 _ rfl
 rw [cellsI] at f8
 have f9 : DataW.trod enc Tryz.prog W 0 (fun _ => true) true n 22 (([v0, v1, v2, v3, v4, v5, v6, v7, v8, v9, v10].drop 9).take (Tryz.prog.cellsOf 22)) = some y9 := hfs 9 _ rfl
 rw [cellsB] at f9
 have f10 : DataW.trod enc Tryz.prog W 0 (fun _ => true) true n 22 (([v0, v1, v2, v3, v4, v5, v6, v7, v8, v9, v10].drop 10).take (Tryz.prog.cellsOf 22)) = some y10 := hfs 10 _ rfl
 rw [cellsB] at f10
 obtain ⟨a0, e0, _, _⟩ := DataW.trod_int Tryz.underlying3 f0
 simp at e0
 subst e0
 obtain ⟨a1, e1, _, _⟩ := DataW.trod_int Tryz.underlying3 f1
 simp at e1
 subst e1
 obtain ⟨s2, l2, e2, r2, m2⟩ := row_open f2
 subst e2
 obtain ⟨s3, l3, e3, r3, m3⟩ := row_open f3
 subst e3
 obtain ⟨a4, e4, _, _⟩ := DataW.trod_int Tryz.underlying3 f4
 simp at e4
 subst e4
 obtain ⟨s5, l5, e5, r5, m5⟩ := row_open f5
 subst e5
 obtain ⟨s6, l6, e6, r6, m6⟩ := row_open f6
 subst e6
 obtain ⟨a7, e7, _, _⟩ := DataW.trod_int Tryz.underlying3 f7
 simp at e7
 subst e7
 obtain ⟨a8, e8, _, _⟩ := DataW.trod_int Tryz.underlying3 f8
 simp at e8
 subst e8
 obtain ⟨s9, l9, e9, r9, m9⟩ := row_open f9
 subst e9
 obtain ⟨s10, l10, e10, r10, m10⟩ := row_open f10
 subst e10
 exact ⟨⟨a0, a1, l2, l3, a4, l5, l6, a7, a8, l9, l10⟩, ⟨s2, s3, s5, s6, s9, s10⟩, rfl, ⟨r2, r3, r5, r6, r9, r10⟩, ⟨m2, m3, m5, m6, m9, m10⟩⟩
end Go.Proofs.YtpenhliaelhnoaaGreatDoor.FrF
