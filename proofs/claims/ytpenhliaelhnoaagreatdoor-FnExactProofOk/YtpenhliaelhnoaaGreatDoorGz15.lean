/-
  Each.region_each inside a fence (a round of a range over a function among them): each operation is shown once.
  'append' of bytes to a row of the call's own: what it holds then, and where it lies: where it lay, or behind all that was there.
  What the laws' own 'at' and 'bent' hand back: a byte's number; a copy in new memory, of which one byte is turned.
-/
import Derived.Test.YtpenhliaelhnoaaGreatDoorGz8
import Derived.OrdersIn
import Derived.TacticsIn
import Derived.OwnWalkIn
import Derived.Test.YtpenhliaelhnoaaGreatDoorGz1
import Derived.Maps.AppendAt
import Derived.Test.YtpenhliaelhnoaaGreatDoorGz5
import Derived.Deep.CutBlock
import Derived.Deep.RegionWith
set_option linter.unusedVariables false
namespace Go.Proofs.YtpenhliaelhnoaaGreatDoor.EachIn
open Go.RowKit Go.Proofs.YtpenhliaelhnoaaGreatDoor.Mem Go.Proofs.YtpenhliaelhnoaaGreatDoor.App Go.Proofs.YtpenhliaelhnoaaGreatDoor.Blk Go.Proofs.YtpenhliaelhnoaaGreatDoor.Each Go.Proofs.YtpenhliaelhnoaaGreatDoor.Copy

set_option maxRecDepth 100000 in
theorem region_each_in {F' : Fence} {m' : Nat} {P : Program} {ops : Array Oper} {Q : Exit → Act → World → Prop} {id : Nat} {a0 : Act} {w0 : World}
    (hm : P.follows .mixedOrders = true) (D : List Nat) (last : Nat) (dst : Nat → Nat) (cls : Nat → Nat)
    (F : Nat → Nat → Value → World → Prop) (B : World → Prop) (hfit : fitB ops last D dst = true)
    (hB : B w0.drew)
    (hkeep : ∀ i g v w w', i < last → F i g v w → Below w.heap.size w w' → B w' → F i g v w')
    (hstep : ∀ i, i < last → ∀ (t : Nat → Value) (ρ : Nat → Nat) (w : World), B w → (∀ j ∈ pre ops i, F j (ρ j) (t (dst j)) w) → (∀ x y, x ∈ pre ops i → y ∈ pre ops i → cls x ≠ 0 → cls y ≠ 0 → cls x ≠ cls y → ρ x ≠ ρ y) →
      wpOpIn F' m' P ops Q i (fun a' w' => ∃ v g, a' = (fr D a0 t).put (some (dst i)) v ∧ B w' ∧ Below w.heap.size w w' ∧ F i g v w' ∧ (cls i = 0 ∨ g < w'.heap.size ∧ (w.heap.size ≤ g ∨ ∃ j ∈ pre ops i, cls j = cls i ∧ g = ρ j))) (fr D a0 t) w)
    (hlast : ∀ (t : Nat → Value) (ρ : Nat → Nat) (w : World), B w → (∀ j, j < last → F j (ρ j) (t (dst j)) w) →
      (∀ i j, i < last → j < last → cls i ≠ 0 → cls j ≠ 0 → cls i ≠ cls j → ρ i ≠ ρ j) →
      wpOpIn F' m' P ops Q last (fun a' w' => Q .normal a' w') (fr D a0 t) w) :
    (Code.region id ops true).wpIn F' m' P Q a0 w0 := by
  unfold fitB at hfit
  simp only [Bool.and_eq_true, beq_iff_eq, List.all_eq_true, List.mem_range, decide_eq_true_eq, List.any_eq_true, Bool.or_eq_true, bne_iff_ne, ne_eq] at hfit
  obtain ⟨⟨⟨hsz, hord⟩, hcov⟩, hdst⟩ := hfit
  have main : ∀ (fuel : Nat) (listed : Array Bool) (a : Act) (w : World), listed.size = ops.size → listed.getD last true = false → listed.toList.count false ≤ fuel →
      (∀ i, i < last + 1 → listed.getD i true = true → ∀ j ∈ pre ops i, listed.getD j true = true) →
      (∃ (t : Nat → Value) (ρ : Nat → Nat), a = fr D a0 t ∧ B w ∧ (∀ i, i < last → listed.getD i true = true → F i (ρ i) (t (dst i)) w ∧ (cls i = 0 ∨ ρ i < w.heap.size)) ∧
        (∀ i j, i < last → j < last → listed.getD i true = true → listed.getD j true = true → cls i ≠ 0 → cls j ≠ 0 → cls i ≠ cls j → ρ i ≠ ρ j)) →
      wpAnyIn F' m' P .any ops Q fuel listed a w := by
    intro fuel
    induction fuel with
    | zero =>
      intro listed a w hls hl hc _ _
      exfalso
      have hlt : last < listed.size := by omega
      have : false ∈ listed.toList := by
        rw [Array.mem_toList_iff]
        have : listed[last] = false := by simpa [Array.getD, hlt] using hl
        rw [← this]; exact Array.getElem_mem hlt
      have := List.count_pos_iff.2 this
      omega
    | succ fuel ih =>
      intro listed a w hls hl hc hcl ⟨t, ρ, ha, hBw, hF, hne⟩
      have hop : ∀ i, i < last + 1 → ∃ o, ops[i]? = some o := fun i hi => ⟨ops[i]'(by omega), by simp⟩
      refine ⟨fun h0 => ?_, fun i hi => ?_⟩
      · exfalso
        -- the least that is not listed may come up
        have : ∃ i, i < last + 1 ∧ listed.getD i true = false ∧ ∀ j, j < i → listed.getD j true = true := by
          have aux : ∀ m, m ≤ last + 1 → (∀ j, j < m → listed.getD j true = true) ∨ ∃ i, i < m ∧ listed.getD i true = false ∧ ∀ j, j < i → listed.getD j true = true := by
            intro m
            induction m with
            | zero => intro _; exact .inl fun j hj => by omega
            | succ m ihm =>
              intro hm1
              rcases ihm (by omega) with h | ⟨i, h1, h2, h3⟩
              · cases hv : listed.getD m true with
                | false => exact .inr ⟨m, by omega, hv, h⟩
                | true =>
                  left; intro j hj
                  rcases Nat.lt_or_ge j m with h' | h'
                  · exact h j h'
                  · obtain rfl : j = m := by omega
                    exact hv
              · exact .inr ⟨i, by omega, h2, h3⟩
          rcases aux (last + 1) (Nat.le_refl _) with h | h
          · have := h last (by omega); rw [hl] at this; cases this
          · exact h
        obtain ⟨i, hi, hu, hb⟩ := this
        obtain ⟨o, ho⟩ := hop i hi
        have : i ∈ Region.ready .any ops listed := mem_ready.2 ⟨hu, o, ho, fun e he hbi => by
          have hj := hord i hi e.on ((mem_pre ho).2 ⟨e, he, hbi, rfl⟩)
          have := hb e.on hj
          have hlt : e.on < listed.size := by omega
          simpa [Array.getD, hlt] using this⟩
        rw [h0] at this; cases this
      · obtain ⟨hu, o, ho, hpre⟩ := mem_ready.1 hi
        have hil : i < last + 1 := by
          have := (Array.getElem?_eq_some_iff.1 ho).1; omega
        have hpre' : ∀ j ∈ pre ops i, listed.getD j true = true := fun j hj => by
          obtain ⟨e, he, hbi, rfl⟩ := (mem_pre ho).1 hj
          have h1 := hpre e he hbi
          have hlt : e.on < listed.size := by
            have := hord i hil e.on hj; omega
          simpa [Array.getD, hlt] using h1
        have hset : ∀ j, (listed.setIfInBounds i true).getD j true = true ↔ j = i ∨ listed.getD j true = true := fun j => by
          by_cases hji : j = i
          · subst hji
            have hlt : j < listed.size := by omega
            simp [Array.getD, hlt]
          · simp only [hji, false_or]
            rw [getD_set_ne true (Ne.symm hji)]
        by_cases hlast' : i = last
        · subst hlast'
          have hall : ∀ d j, j + d = i → j < i → listed.getD j true = true := by
            intro d
            induction d using Nat.strongRecOn with
            | ind d ihd =>
              intro j hjd hji
              obtain ⟨k, hk, hjk, hmem⟩ := hcov j hji
              have hmem' : j ∈ pre ops k := by simpa using hmem
              by_cases hki : k = i
              · subst hki; exact hpre' j hmem'
              · exact hcl k hk (ihd (i - k) (by omega) k (by omega) (by omega)) j hmem'
          have hl2 := hlast t ρ w hBw (fun j hj => (hF j hj (hall (i - j) j (by omega) hj)).1) (fun x y hx hy => hne x y hx hy (hall (i - x) x (by omega) hx) (hall (i - y) y (by omega) hy))
          rw [ha]
          refine wpOpIn_mono (fun a' w' hQ => wpAnyIn_done ?_ hQ fuel) hl2
          apply List.eq_nil_iff_forall_not_mem.2
          intro k hk
          obtain ⟨hku, ok, hok, _⟩ := mem_ready.1 hk
          have hkl : k < i + 1 := by have := (Array.getElem?_eq_some_iff.1 hok).1; omega
          have : (listed.setIfInBounds i true).getD k true = true := (hset k).2 (by
            by_cases hki : k = i
            · exact .inl hki
            · exact .inr (hall (i - k) k (by omega) (by omega)))
          rw [hku] at this; cases this
        · have hilt : i < last := by omega
          have hs := hstep i hilt t ρ w hBw (fun j hj => (hF j (by have := hord i hil j hj; omega) (hpre' j hj)).1) (fun x y hx hy => hne x y (by have := hord i hil x hx; omega) (by have := hord i hil y hy; omega) (hpre' x hx) (hpre' y hy))
          rw [ha]
          refine wpOpIn_mono (fun a' w' h => ?_) hs
          obtain ⟨v, g, rfl, hB', hbe, hFi, hg⟩ := h
          rw [fr_put D a0 t (dst i) v (hdst i hilt).1]
          apply ih
          · simp [hls]
          · cases hx : (listed.setIfInBounds i true).getD last true with
            | false => rfl
            | true =>
              rcases (hset last).1 hx with h | h
              · exact absurd h.symm hlast'
              · rw [hl] at h; cases h
          · have hlt : i < listed.toList.length := by simp; omega
            have hfi : listed.toList[i] = false := by
              have hlt' : i < listed.size := by omega
              simpa [Array.getD, hlt'] using hu
            rw [Array.toList_setIfInBounds, List.count_set hlt, hfi]
            have : 0 < listed.toList.count false := List.count_pos_iff.2 (by rw [← hfi]; exact List.getElem_mem hlt)
            rw [if_pos (by rfl), if_neg (by decide)]
            omega
          · intro k hk hkl j hj
            rcases (hset k).1 hkl with rfl | h
            · exact (hset j).2 (.inr (hpre' j hj))
            · exact (hset j).2 (.inr (hcl k hk h j hj))
          · refine ⟨upd t (dst i) v, fun k => if k = i then g else ρ k, rfl, hB', ?_, ?_⟩
            · intro k hk hkl
              by_cases hki : k = i
              · subst hki
                simp only [if_true, upd_same]
                exact ⟨hFi, hg.imp (fun h => h) And.left⟩
              · have hdk : dst k ≠ dst i := by
                  have := (hdst k hk).2 i hilt
                  rcases this with h | h
                  · exact absurd h hki
                  · exact h
                have := hF k hk (((hset k).1 hkl).resolve_left hki)
                simp only [hki, if_false, upd_other _ _ _ _ hdk]
                exact ⟨hkeep k _ _ w w' hk this.1 hbe hB', this.2.imp (fun h => h) (fun h => Nat.lt_of_lt_of_le h hbe.size)⟩
            · intro x y hx hy hxl hyl cx cy cxy
              have key : ∀ y, y < last → y ≠ i → (listed.setIfInBounds i true).getD y true = true → cls i ≠ 0 → cls y ≠ 0 → cls i ≠ cls y → g ≠ ρ y := by
                intro y hy hyi hyl ci cy ciy
                have hyl' := ((hset y).1 hyl).resolve_left hyi
                rcases hg with h | ⟨_, h | ⟨j, hj, hcj, rfl⟩⟩
                · exact absurd h ci
                · have := (hF y hy hyl').2
                  rcases this with h' | h'
                  · exact absurd h' cy
                  · omega
                · have hjl : j < last := by have := hord i hil j hj; omega
                  exact hne j y hjl hy (hpre' j hj) hyl' (by rw [hcj]; exact ci) cy (by rw [hcj]; exact ciy)
              by_cases hxi : x = i
              · subst hxi
                have hyx : y ≠ x := fun h => cxy (by rw [h])
                simp only [if_true, hyx, if_false]
                exact key y hy hyx hyl cx cy cxy
              · by_cases hyi : y = i
                · subst hyi
                  simp only [if_true, hxi, if_false]
                  exact Ne.symm (key x hx hxi hxl cy cx (Ne.symm cxy))
                · simp only [hxi, hyi, if_false]
                  exact hne x y hx hy (((hset x).1 hxl).resolve_left hxi) (((hset y).1 hyl).resolve_left hyi) cx cy cxy
  refine wpIn_region_any hm ?_
  have hrep : ∀ i, i < last + 1 → (Array.replicate ops.size false).getD i true = false := fun i hi => by
    have : i < ops.size := by omega
    simp [Array.getD, this]
  refine main ops.size (Array.replicate ops.size false) a0 w0.drew (by simp) (hrep last (by omega)) (by simp) (fun i hi h => by rw [hrep i hi] at h; cases h) ?_
  exact ⟨_, fun _ => 0, (fr_start D a0).symm, hB, (fun i hi h => by rw [hrep i (by omega)] at h; cases h), (fun i j hi _ h => by rw [hrep i (by omega)] at h; cases h)⟩

/-- Two operations behind all the others. -/
def fitB2 (ops : Array Oper) (last : Nat) (D : List Nat) (dst : Nat → Nat) : Bool :=
  ops.size == last + 2 &&
  (List.range (last + 2)).all (fun i => (pre ops i).all (fun j => decide (j < i))) &&
  (List.range last).all (fun j => (List.range (last + 1)).any (fun k => decide (j < k) && (pre ops k).contains j)) &&
  (List.range last).all (fun i => D.contains (dst i) && (List.range last).all (fun j => i == j || dst i != dst j)) &&
  (pre ops (last + 1)).contains last

set_option maxRecDepth 100000 in
theorem region_two_in {F' : Fence} {m' : Nat} {P : Program} {ops : Array Oper} {Q : Exit → Act → World → Prop} {id : Nat} {a0 : Act} {w0 : World}
    (hm : P.follows .mixedOrders = true) (D : List Nat) (last : Nat) (dst : Nat → Nat) (cls : Nat → Nat)
    (F : Nat → Nat → Value → World → Prop) (B : World → Prop) (hfit : fitB2 ops last D dst = true)
    (hB : B w0.drew)
    (hkeep : ∀ i g v w w', i < last → F i g v w → Below w.heap.size w w' → B w' → F i g v w')
    (hstep : ∀ i, i < last → ∀ (t : Nat → Value) (ρ : Nat → Nat) (w : World), B w → (∀ j ∈ pre ops i, F j (ρ j) (t (dst j)) w) → (∀ x y, x ∈ pre ops i → y ∈ pre ops i → cls x ≠ 0 → cls y ≠ 0 → cls x ≠ cls y → ρ x ≠ ρ y) →
      wpOpIn F' m' P ops Q i (fun a' w' => ∃ v g, a' = (fr D a0 t).put (some (dst i)) v ∧ B w' ∧ Below w.heap.size w w' ∧ F i g v w' ∧ (cls i = 0 ∨ g < w'.heap.size ∧ (w.heap.size ≤ g ∨ ∃ j ∈ pre ops i, cls j = cls i ∧ g = ρ j))) (fr D a0 t) w)
    (hlast : ∀ (t : Nat → Value) (ρ : Nat → Nat) (w : World), B w → (∀ j, j < last → F j (ρ j) (t (dst j)) w) →
      (∀ i j, i < last → j < last → cls i ≠ 0 → cls j ≠ 0 → cls i ≠ cls j → ρ i ≠ ρ j) →
      wpOpIn F' m' P ops Q last (fun a' w' => wpOpIn F' m' P ops Q (last + 1) (fun a'' w'' => Q .normal a'' w'') a' w') (fr D a0 t) w) :
    (Code.region id ops true).wpIn F' m' P Q a0 w0 := by
  unfold fitB2 at hfit
  simp only [Bool.and_eq_true, beq_iff_eq, List.all_eq_true, List.mem_range, decide_eq_true_eq, List.any_eq_true, Bool.or_eq_true, bne_iff_ne, ne_eq] at hfit
  obtain ⟨⟨⟨⟨hsz, hord⟩, hcov⟩, hdst⟩, hlst⟩ := hfit
  have hlst' : last ∈ pre ops (last + 1) := by simpa using hlst
  have main : ∀ (fuel : Nat) (listed : Array Bool) (a : Act) (w : World), listed.size = ops.size → listed.getD last true = false → listed.getD (last + 1) true = false → listed.toList.count false ≤ fuel →
      (∀ i, i < last + 2 → listed.getD i true = true → ∀ j ∈ pre ops i, listed.getD j true = true) →
      (∃ (t : Nat → Value) (ρ : Nat → Nat), a = fr D a0 t ∧ B w ∧ (∀ i, i < last → listed.getD i true = true → F i (ρ i) (t (dst i)) w ∧ (cls i = 0 ∨ ρ i < w.heap.size)) ∧
        (∀ i j, i < last → j < last → listed.getD i true = true → listed.getD j true = true → cls i ≠ 0 → cls j ≠ 0 → cls i ≠ cls j → ρ i ≠ ρ j)) →
      wpAnyIn F' m' P .any ops Q fuel listed a w := by
    intro fuel
    induction fuel with
    | zero =>
      intro listed a w hls hl hl2 hc _ _
      exfalso
      have hlt : last < listed.size := by omega
      have : false ∈ listed.toList := by
        rw [Array.mem_toList_iff]
        have : listed[last] = false := by simpa [Array.getD, hlt] using hl
        rw [← this]; exact Array.getElem_mem hlt
      have := List.count_pos_iff.2 this
      omega
    | succ fuel ih =>
      intro listed a w hls hl hl2 hc hcl ⟨t, ρ, ha, hBw, hF, hne⟩
      have hop : ∀ i, i < last + 2 → ∃ o, ops[i]? = some o := fun i hi => ⟨ops[i]'(by omega), by simp⟩
      refine ⟨fun h0 => ?_, fun i hi => ?_⟩
      · exfalso
        -- the least that is not listed may come up
        have : ∃ i, i < last + 1 ∧ listed.getD i true = false ∧ ∀ j, j < i → listed.getD j true = true := by
          have aux : ∀ m, m ≤ last + 1 → (∀ j, j < m → listed.getD j true = true) ∨ ∃ i, i < m ∧ listed.getD i true = false ∧ ∀ j, j < i → listed.getD j true = true := by
            intro m
            induction m with
            | zero => intro _; exact .inl fun j hj => by omega
            | succ m ihm =>
              intro hm1
              rcases ihm (by omega) with h | ⟨i, h1, h2, h3⟩
              · cases hv : listed.getD m true with
                | false => exact .inr ⟨m, by omega, hv, h⟩
                | true =>
                  left; intro j hj
                  rcases Nat.lt_or_ge j m with h' | h'
                  · exact h j h'
                  · obtain rfl : j = m := by omega
                    exact hv
              · exact .inr ⟨i, by omega, h2, h3⟩
          rcases aux (last + 1) (Nat.le_refl _) with h | h
          · have := h last (by omega); rw [hl] at this; cases this
          · exact h
        obtain ⟨i, hi, hu, hb⟩ := this
        obtain ⟨o, ho⟩ := hop i (by omega)
        have : i ∈ Region.ready .any ops listed := mem_ready.2 ⟨hu, o, ho, fun e he hbi => by
          have hj := hord i (by omega) e.on ((mem_pre ho).2 ⟨e, he, hbi, rfl⟩)
          have := hb e.on hj
          have hlt : e.on < listed.size := by omega
          simpa [Array.getD, hlt] using this⟩
        rw [h0] at this; cases this
      · obtain ⟨hu, o, ho, hpre⟩ := mem_ready.1 hi
        have hil0 : i < last + 2 := by
          have := (Array.getElem?_eq_some_iff.1 ho).1; omega
        have hpre' : ∀ j ∈ pre ops i, listed.getD j true = true := fun j hj => by
          obtain ⟨e, he, hbi, rfl⟩ := (mem_pre ho).1 hj
          have h1 := hpre e he hbi
          have hlt : e.on < listed.size := by
            have := hord i hil0 e.on hj; omega
          simpa [Array.getD, hlt] using h1
        have hil : i < last + 1 := by
          rcases Nat.lt_or_ge i (last + 1) with h | h
          · exact h
          · obtain rfl : i = last + 1 := by omega
            have := hpre' last hlst'; rw [hl] at this; cases this
        have hset : ∀ j, (listed.setIfInBounds i true).getD j true = true ↔ j = i ∨ listed.getD j true = true := fun j => by
          by_cases hji : j = i
          · subst hji
            have hlt : j < listed.size := by omega
            simp [Array.getD, hlt]
          · simp only [hji, false_or]
            rw [getD_set_ne true (Ne.symm hji)]
        by_cases hlast' : i = last
        · subst hlast'
          have hall : ∀ d j, j + d = i → j < i → listed.getD j true = true := by
            intro d
            induction d using Nat.strongRecOn with
            | ind d ihd =>
              intro j hjd hji
              obtain ⟨k, hk, hjk, hmem⟩ := hcov j hji
              have hmem' : j ∈ pre ops k := by simpa using hmem
              by_cases hki : k = i
              · subst hki; exact hpre' j hmem'
              · exact hcl k (by omega) (ihd (i - k) (by omega) k (by omega) (by omega)) j hmem'
          have hl3 := hlast t ρ w hBw (fun j hj => (hF j hj (hall (i - j) j (by omega) hj)).1) (fun x y hx hy => hne x y hx hy (hall (i - x) x (by omega) hx) (hall (i - y) y (by omega) hy))
          rw [ha]
          have hS : ∀ k, k < i + 1 → (listed.setIfInBounds i true).getD k true = true := fun k hk => (hset k).2 (by
            by_cases hki : k = i
            · exact .inl hki
            · exact .inr (hall (i - k) k (by omega) (by omega)))
          have hU : (listed.setIfInBounds i true).getD (i + 1) true = false := by
            cases hx : (listed.setIfInBounds i true).getD (i + 1) true with
            | false => rfl
            | true =>
              rcases (hset (i + 1)).1 hx with h | h
              · omega
              · rw [hl2] at h; cases h
          have hT : ∀ k, ((listed.setIfInBounds i true).setIfInBounds (i + 1) true).getD k true = true := fun k => by
            by_cases hk1 : k = i + 1
            · subst hk1
              have hlt : i + 1 < (listed.setIfInBounds i true).size := by simp; omega
              simp [Array.getD]
            · rw [getD_set_ne true (Ne.symm hk1)]
              rcases Nat.lt_or_ge k (i + 1) with h | h
              · exact hS k h
              · have : ¬ k < (listed.setIfInBounds i true).size := by simp; omega
                rw [Array.getD, dif_neg this]
          refine wpOpIn_mono (fun a' w' hQ => ?_) hl3
          cases fuel with
          | zero =>
            exfalso
            have q1 : i < listed.toList.length := by simp; omega
            have q2 : i + 1 < listed.toList.length := by simp; omega
            have v1 : listed.toList[i] = false := by
              have h' : i < listed.size := by omega
              simpa [Array.getD, h'] using hu
            have v2 : listed.toList[i + 1] = false := by
              have h' : i + 1 < listed.size := by omega
              simpa [Array.getD, h'] using hl2
            have hc2 : (listed.toList.set i true).count false + 1 = listed.toList.count false := by
              rw [List.count_set q1, v1]
              have : 0 < listed.toList.count false := List.count_pos_iff.2 (by rw [← v1]; exact List.getElem_mem q1)
              rw [if_pos (by rfl), if_neg (by decide)]
              omega
            have : 0 < (listed.toList.set i true).count false := List.count_pos_iff.2 (by
              have q3 : i + 1 < (listed.toList.set i true).length := by simpa using q2
              have : (listed.toList.set i true)[i + 1] = false := by rw [List.getElem_set_ne (by omega)]; exact v2
              rw [← this]; exact List.getElem_mem q3)
            omega
          | succ fuel =>
            obtain ⟨o2, ho2⟩ := hop (i + 1) (by omega)
            refine ⟨fun h0 => ?_, fun j hj => ?_⟩
            · exfalso
              have : i + 1 ∈ Region.ready .any ops (listed.setIfInBounds i true) := mem_ready.2 ⟨hU, o2, ho2, fun e he hbi => by
                have hj := hord (i + 1) (by omega) e.on ((mem_pre ho2).2 ⟨e, he, hbi, rfl⟩)
                have := hS e.on hj
                have hlt : e.on < listed.size := by omega
                simpa [Array.getD, hlt] using this⟩
              rw [h0] at this; cases this
            · obtain ⟨hju, oj, hoj, _⟩ := mem_ready.1 hj
              have hj2 : j < i + 2 := by have := (Array.getElem?_eq_some_iff.1 hoj).1; omega
              obtain rfl : j = i + 1 := by
                rcases Nat.lt_or_ge j (i + 1) with h | h
                · rw [hS j h] at hju; cases hju
                · omega
              refine wpOpIn_mono (fun a'' w'' hQ2 => wpAnyIn_done ?_ hQ2 fuel) hQ
              apply List.eq_nil_iff_forall_not_mem.2
              intro k hk
              obtain ⟨hku, _⟩ := mem_ready.1 hk
              rw [hT k] at hku; cases hku
        · have hilt : i < last := by omega
          have hs := hstep i hilt t ρ w hBw (fun j hj => (hF j (by have := hord i (by omega) j hj; omega) (hpre' j hj)).1) (fun x y hx hy => hne x y (by have := hord i (by omega) x hx; omega) (by have := hord i (by omega) y hy; omega) (hpre' x hx) (hpre' y hy))
          rw [ha]
          refine wpOpIn_mono (fun a' w' h => ?_) hs
          obtain ⟨v, g, rfl, hB', hbe, hFi, hg⟩ := h
          rw [fr_put D a0 t (dst i) v (hdst i hilt).1]
          apply ih
          · simp [hls]
          · cases hx : (listed.setIfInBounds i true).getD last true with
            | false => rfl
            | true =>
              rcases (hset last).1 hx with h | h
              · exact absurd h.symm hlast'
              · rw [hl] at h; cases h
          · cases hx : (listed.setIfInBounds i true).getD (last + 1) true with
            | false => rfl
            | true =>
              rcases (hset (last + 1)).1 hx with h | h
              · omega
              · rw [hl2] at h; cases h
          · have hlt : i < listed.toList.length := by simp; omega
            have hfi : listed.toList[i] = false := by
              have hlt' : i < listed.size := by omega
              simpa [Array.getD, hlt'] using hu
            rw [Array.toList_setIfInBounds, List.count_set hlt, hfi]
            have : 0 < listed.toList.count false := List.count_pos_iff.2 (by rw [← hfi]; exact List.getElem_mem hlt)
            rw [if_pos (by rfl), if_neg (by decide)]
            omega
          · intro k hk hkl j hj
            rcases (hset k).1 hkl with rfl | h
            · exact (hset j).2 (.inr (hpre' j hj))
            · exact (hset j).2 (.inr (hcl k hk h j hj))
          · refine ⟨upd t (dst i) v, fun k => if k = i then g else ρ k, rfl, hB', ?_, ?_⟩
            · intro k hk hkl
              by_cases hki : k = i
              · subst hki
                simp only [if_true, upd_same]
                exact ⟨hFi, hg.imp (fun h => h) And.left⟩
              · have hdk : dst k ≠ dst i := by
                  have := (hdst k hk).2 i hilt
                  rcases this with h | h
                  · exact absurd h hki
                  · exact h
                have := hF k hk (((hset k).1 hkl).resolve_left hki)
                simp only [hki, if_false, upd_other _ _ _ _ hdk]
                exact ⟨hkeep k _ _ w w' hk this.1 hbe hB', this.2.imp (fun h => h) (fun h => Nat.lt_of_lt_of_le h hbe.size)⟩
            · intro x y hx hy hxl hyl cx cy cxy
              have key : ∀ y, y < last → y ≠ i → (listed.setIfInBounds i true).getD y true = true → cls i ≠ 0 → cls y ≠ 0 → cls i ≠ cls y → g ≠ ρ y := by
                intro y hy hyi hyl ci cy ciy
                have hyl' := ((hset y).1 hyl).resolve_left hyi
                rcases hg with h | ⟨_, h | ⟨j, hj, hcj, rfl⟩⟩
                · exact absurd h ci
                · have := (hF y hy hyl').2
                  rcases this with h' | h'
                  · exact absurd h' cy
                  · omega
                · have hjl : j < last := by have := hord i (by omega) j hj; omega
                  exact hne j y hjl hy (hpre' j hj) hyl' (by rw [hcj]; exact ci) cy (by rw [hcj]; exact ciy)
              by_cases hxi : x = i
              · subst hxi
                have hyx : y ≠ x := fun h => cxy (by rw [h])
                simp only [if_true, hyx, if_false]
                exact key y hy hyx hyl cx cy cxy
              · by_cases hyi : y = i
                · subst hyi
                  simp only [if_true, hxi, if_false]
                  exact Ne.symm (key x hx hxi hxl cy cx (Ne.symm cxy))
                · simp only [hxi, hyi, if_false]
                  exact hne x y hx hy (((hset x).1 hxl).resolve_left hxi) (((hset y).1 hyl).resolve_left hyi) cx cy cxy
  refine wpIn_region_any hm ?_
  have hrep : ∀ i, i < last + 2 → (Array.replicate ops.size false).getD i true = false := fun i hi => by
    have : i < ops.size := by omega
    simp [Array.getD, this]
  refine main ops.size (Array.replicate ops.size false) a0 w0.drew (by simp) (hrep last (by omega)) (hrep (last + 1) (by omega)) (by simp) (fun i hi h => by rw [hrep i hi] at h; cases h) ?_
  exact ⟨_, fun _ => 0, (fr_start D a0).symm, hB, (fun i hi h => by rw [hrep i (by omega)] at h; cases h), (fun i j hi _ h => by rw [hrep i (by omega)] at h; cases h)⟩

set_option maxRecDepth 100000 in
theorem op_wp_in {F : Fence} {n : Nat} {P : Program} {ops : Array Oper} {Q : Exit → Act → World → Prop} {i : Nat} {o : Oper} {K : Act → World → Prop} {a : Act} {w : World}
    (hi : ops[i]? = some o) (hg : o.guard = none) (h : Oper.wpIn F n P o a w K Q) : wpOpIn F n P ops Q i K a w := by
  unfold wpOpIn
  rw [hi]
  have hw : Region.wanted o (yielded ops a.tmps) = true := by simp [Region.wanted, hg]
  simp only [hw, if_true]
  exact h
set_option maxRecDepth 100000 in
theorem op_run_in {F : Fence} {n : Nat} {P : Program} {ops : Array Oper} {Q : Exit → Act → World → Prop} {i : Nat} {o : Oper} {K : Act → World → Prop} {a : Act} {w w' : World} {v : Value}
    (hi : ops[i]? = some o) (hg : o.guard = none) (ha : ∀ f, o.about P w a.eval = some f → F.fn f) (hs : o.semAt F.round a.eval = execOp a.eval o) (hr : (execOp a.eval o).run P w = .ok (.value v) w') (hk : K (a.put o.dst v) w') : wpOpIn F n P ops Q i K a w := by
  refine op_wp_in hi hg ⟨ha, ?_⟩
  rw [hs, hr]
  exact hk
set_option maxRecDepth 100000 in
/-- append of bytes where there is room. -/
theorem op_fit_in {F : Fence} {n : Nat} {ops : Array Oper} {Q : Exit → Act → World → Prop} {i : Nat} {o : Oper} {K : Act → World → Prop} {a : Act} {w : World}
    (hi : ops[i]? = some o) (hgd : o.guard = none) (s x : Operand) (hop : o.op = .call { callee := .builtin .append, args := #[s, x], argTypes := #[22, 22] })
    (g k cap : Nat) (l y : List Int) (hs : a.eval s = .slice (some ⟨g, 0, none⟩) k cap) (hk : k = l.length) (hrow : Row w g cap l)
    (ad : Addr) (m c : Nat) (hx : a.eval x = .slice (some ad) m c) (hm : m = y.length) (hrd : Rd w (some ad) y) (hsum : l.length + y.length ≤ cap)
    (hK : ∀ w', Row w' g cap (l ++ y) → w.grownBy w' (some g) → K (a.put o.dst (.slice (some ⟨g, 0, none⟩) (k + m) cap)) w') : wpOpIn F n Tryz.prog ops Q i K a w := by
  obtain ⟨i0, h2, hz0, hz1, hz2⟩ := info_parts info8
  subst hk hm
  obtain ⟨w', hrun, r1, r2⟩ := run_append_fits (P := Tryz.prog) w g 22 o.type 5 i0 1 Tryz.underlying22 h2 hz1 g l.length cap _ (hrow.owns (Nat.le_refl _)) ad y.length c (y.map (Value.int .u8)) (by simp) (Rd.cells hrd) (ints_oneCell _ _) hsum
  refine op_wp_in hi hgd ⟨?_, ?_⟩
  · simp [Oper.about, hop, resolve, Target.leads, Sem.run_pure]
  · rw [Oper.semAt_plain F _ _ (by rw [hop]; intro c hc'; cases hc')]
    simp [execOp, hop, resolve, invoke, builtin, hs, hx, hrun, Result.andThen]
    rw [← List.map_append] at r1
    exact hK w' (Row.of r1).1 r2
end Go.Proofs.YtpenhliaelhnoaaGreatDoor.EachIn

namespace Go.Proofs.YtpenhliaelhnoaaGreatDoor.AppAt
open Go.RowKit Go.Proofs.YtpenhliaelhnoaaGreatDoor.Mem Go.Proofs.YtpenhliaelhnoaaGreatDoor.App

set_option maxRecDepth 100000 in
theorem wpList_app_at (w : World) {ops : Array Oper} {rest : List Oper} {o : Oper} {a : Act} {Q : Exit → Act → World → Prop} (hgd : o.guard = none) (s x : Operand)
    (ho : o.op = .call { callee := .builtin .append, args := #[s, x], argTypes := #[22, 22] })
    (base g n cap : Nat) (l y : List Int) (hs : a.eval s = .slice (some ⟨g, 0, none⟩) n cap) (hn : n = l.length) (hrow : Row w g cap l) (hbg : base ≤ g)
    (ao : Option Addr) (m c : Nat) (hx : a.eval x = .slice ao m c) (hm : m = y.length) (hrd : Rd w ao y) (hnone : ao = none → c = 0) (hsum : l.length + y.length ≤ 100000000)
    (h : ∀ g' cap' w', Row w' g' cap' (l ++ y) → base ≤ g' → (g' = g ∨ w.heap.size ≤ g') → w.grownBy w' (some g) → wpList Tryz.prog ops Q rest (a.put o.dst (.slice (some ⟨g', 0, none⟩) (n + m) cap')) w') :
    wpList Tryz.prog ops Q (o :: rest) a w := by
  obtain ⟨i0, hi, hz0, hz1, hz2⟩ := info_parts info8
  subst hn hm
  have hlt := hrow.lt
  cases ao with
  | none =>
    have hy : y = [] := by
      cases y with
      | nil => rfl
      | cons z r => obtain ⟨_, _, e, _⟩ := hrd 0 (by simp); cases e
    subst hy
    have hc0 := hnone rfl
    subst hc0
    refine wpList_append_own_none hgd s x 22 ho base 5 i0 1 Tryz.underlying22 hi _ _ _ hs (hrow.owns hbg) hx ?_
    simpa using h g cap w (by simpa using hrow) hbg (.inl rfl) (World.grownBy.refl _ _)
  | some ad =>
    refine wpList_append_own_at w hgd s x 22 ho base 5 i0 (.int .u8 0) 1 1 Tryz.underlying22 hi hz0 hz1 hz2 rfl (by decide) _ _ _ hs (hrow.owns hbg) ad y.length c (y.map (Value.int .u8)) hx (by simp) (Rd.cells hrd) (ints_oneCell _ _) (by unfold maxLen; omega) (by omega) (by omega) ?_
    intro v' w' hown hgr hiff hat
    rcases hown.2 with ⟨hv, _⟩ | ⟨g', cap', cur, rfl, hb, hg', _⟩
    · exact absurd (hiff.1 hv).1 (by simp)
    · rw [← List.map_append] at hown
      obtain ⟨r1, r2, _, r4⟩ := Row.of hown
      refine h g' cap' w' r1 r2 ?_ hgr
      rcases hat with e | e
      · simp only [Value.ownBlock, Option.some.injEq] at e; exact .inl e
      · simp only [Value.ownBlock, Option.some.injEq] at e; exact .inr (by omega)
end Go.Proofs.YtpenhliaelhnoaaGreatDoor.AppAt

namespace Go.Proofs.YtpenhliaelhnoaaGreatDoor.Bent
open Go.RowKit Go.Proofs.YtpenhliaelhnoaaGreatDoor.Mem Go.Proofs.YtpenhliaelhnoaaGreatDoor.App Go.Proofs.YtpenhliaelhnoaaGreatDoor.AppAt Go.Proofs.YtpenhliaelhnoaaGreatDoor.DiffP

set_option maxRecDepth 100000 in
theorem row_set {w : World} {g c : Nat} {l : List Int} (h : Row w g c l) (k : Nat) (z : Int) : Row (w.setCell ⟨g, k, none⟩ (.int .u8 z)) g c (l.set k z) ∧ w.grownBy (w.setCell ⟨g, k, none⟩ (.int .u8 z)) (some g) := by
  have hst := (h.owns (Nat.le_refl g)).stored k (.int .u8 z)
  rw [← List.map_set] at hst
  refine ⟨?_, hst.2⟩
  have e : l.length = (l.set k z).length := by simp
  have := hst.1
  rw [e] at this
  exact (Row.of (l := l.set k z) (n := (l.set k z).length) this).1
set_option maxRecDepth 100000 in
theorem xor_ne (z d : Int) (h1 : 0 ≤ z) (h2 : z ≤ 255) (h3 : 1 ≤ d) (h4 : d ≤ 255) : bits .xor .u8 z d ≠ z := by
  rw [u8_xor z d h1 (by omega) (by omega) (by omega)]
  intro h
  have h5 : z.toNat ^^^ d.toNat = z.toNat := by omega
  have h6 := congrArg (fun x => z.toNat ^^^ x) h5
  simp only [← Nat.xor_assoc, Nat.xor_self, Nat.zero_xor] at h6
  omega
set_option maxRecDepth 100000 in
theorem set_ne (l : List Int) (p : Nat) (v : Int) (hp : p < l.length) (h : v ≠ l.getD p 0) : l.set p v ≠ l := by
  intro e
  apply h
  have : (l.set p v).getD p 0 = v := by simp [List.getD, hp]
  rw [← this, e]
set_option maxRecDepth 100000 in
theorem set_bytes {l : List Int} (h : Bytes l) (p : Nat) (v : Int) (h0 : 0 ≤ v) (h1 : v ≤ 255) : Bytes (l.set p v) := by
  intro z hz
  rcases List.mem_or_eq_of_mem_set hz with h' | rfl
  · exact h z h'
  · exact ⟨h0, h1⟩

set_option maxRecDepth 100000 in
theorem atN (a : Option Addr) (len cap : Nat) (l : List Int) (i : Nat) (w : World) (hl : len = l.length) (hr : Rd w a l) (hb : Bytes l) (hlen : len ≤ 1048576) (hi : i ≤ 1000) :
    Calls Tryz.prog 41 #[.slice a len cap, .int .i64 (i : Int)] w fun e w' => ∃ x : Int, e = .returned (.int .i64 x) ∧ 0 ≤ x ∧ x ≤ 255 ∧ w = w' := by
  by_cases h : i < len
  · obtain ⟨b, off, rfl, _, hc⟩ := hr i (by omega)
    have hz := hb.at i
    clear hr hb
    generalize l.getD i 0 = z at *
    have hI : (i : Int) < (len : Int) := by omega
    obtain ⟨z0, z1⟩ := hz
    go_enter Tryz.func41, Tryz.ntmps41
    go_wp2
    go_ret
    exact ⟨z, rfl, z0, z1, rfl⟩
  · have hI : ¬ ((i : Int) < (len : Int)) := by omega
    clear hr hb
    go_enter Tryz.func41, Tryz.ntmps41
    go_wp2
    go_ret
    exact ⟨_, rfl, by omega, by omega, rfl⟩

set_option maxRecDepth 100000 in
set_option maxHeartbeats 1600000 in
theorem bent (a : Option Addr) (len cap : Nat) (l : List Int) (ab : Option Addr) (nb cb : Nat) (b : List Int) (w : World) (hl : len = l.length) (hr : Rd w a l) (hb : Bytes l) (hlen : len ≤ 1048576) (eb : nb = b.length) (rb : Rd w ab b) (nab : ab = none → cb = 0) (hbb : Bytes b) (lb : nb ≤ 1048576) :
    Calls Tryz.prog 14 #[.slice a len cap, .slice ab nb cb] w fun e w' =>
      ∃ (g c : Nat) (y : List Int), e = .returned (.slice (some ⟨g, 0, none⟩) nb c) ∧ nb = y.length ∧ Bytes y ∧ (0 < nb → y ≠ b) ∧ w.heap.size ≤ g ∧ Row w' g c y ∧ Below w.heap.size w w' := by
  have HL : Hid (len = l.length) := hl
  have HR : Hid (Rd w a l) := hr
  have HB : Hid (Bytes l) := hb
  have EB : Hid (nb = b.length) := eb
  have RB : Hid (Rd w ab b) := rb
  have HBB : Hid (Bytes b) := hbb
  have A0 : Hid (Below w.heap.size w (w.alloc (.cells #[] 5))) := (Below.refl _ _).alloc (Nat.le_refl _) _
  have R0 : Hid (Row (w.alloc (.cells #[] 5)) w.heap.size 0 []) := row_new w [] (by simp)
  clear hl hr hb eb rb hbb
  by_cases h0 : nb = 0
  · subst h0
    go_enter Tryz.func14, Tryz.ntmps14
    go_wp2_with (at_builtin; refine wpList_app _ rfl (.tmp 7) (.tmp 8) rfl w.heap.size w.heap.size 0 0 [] b rfl rfl R0.out (Nat.le_refl _) ab 0 cb rfl EB.out (RB.out.later A0.out (Nat.le_refl _)) nab (by rw [← EB.out]; simp) ?_; intro g1 c1 w1 r1 b1 l1 gr1; have R1 : Hid (Row w1 g1 c1 b) := (List.nil_append b) ▸ r1; have G1 : Hid (w.heap.size ≤ g1) := b1; have B1 : Hid (Below w.heap.size w w1) := A0.out.grown gr1 A0.out.size (fun k h => by cases h; exact Nat.le_refl _); clear r1 b1 l1 gr1)
    go_ret
    exact ⟨g1, c1, b, rfl, EB.out, HBB.out, fun h => by omega, G1.out, R1.out, B1.out⟩
  · have h1I : (nb : Int) > 0 := by omega
    go_enter Tryz.func14, Tryz.ntmps14
    go_wp2_with (at_builtin; refine wpList_app _ rfl (.tmp 7) (.tmp 8) rfl w.heap.size w.heap.size 0 0 [] b rfl rfl R0.out (Nat.le_refl _) ab nb cb rfl EB.out (RB.out.later A0.out (Nat.le_refl _)) nab (by rw [← EB.out]; simp; omega) ?_; intro g1 c1 w1 r1 b1 l1 gr1; have R1 : Hid (Row w1 g1 c1 b) := (List.nil_append b) ▸ r1; have G1 : Hid (w.heap.size ≤ g1) := b1; have B1 : Hid (Below w.heap.size w w1) := A0.out.grown gr1 A0.out.size (fun k h => by cases h; exact Nat.le_refl _); clear r1 b1 l1 gr1)
    refine (atN a len cap l 2 w1 HL.out (HR.out.later B1.out (Nat.le_refl _)) HB.out hlen (by omega)).mono ?_
    rintro e w2 ⟨x2, rfl, p0, p1, rfl⟩
    go_wp2_with fail
    refine (atN a len cap l 3 w1 HL.out (HR.out.later B1.out (Nat.le_refl _)) HB.out hlen (by omega)).mono ?_
    rintro e w2 ⟨x3, rfl, q0, q1, rfl⟩
    go_upto_region 4 with fail
    obtain ⟨p, hp⟩ := Int.eq_ofNat_of_zero_le (Int.emod_nonneg (x2 * 256 + x3) (by omega : (nb : Int) ≠ 0))
    have hp2 := Int.emod_lt_of_pos (x2 * 256 + x3) (by omega : (0 : Int) < (nb : Int))
    rw [hp] at hp2 ⊢
    have i0 : (0 : Int) ≤ (p : Int) := by omega
    have hpn : p < nb := by omega
    clear hp p0 p1 q0 q1
    obtain ⟨z, hz⟩ : ∃ z, b.getD p 0 = z := ⟨_, rfl⟩
    have zb := HBB.out.at p
    rw [hz] at zb
    have HZ : Hid (z = b.getD p 0) := hz.symm
    obtain ⟨z0, z1⟩ := zb
    have hc : w1.drew.cell? ⟨g1, p, none⟩ = some (.int .u8 z) := by
      rw [← hz]; exact R1.out.cell p (by rw [← EB.out]; exact hpn)
    have hf : w1.drew.frozen? ⟨g1, p, none⟩ = false := (R1.out.owns (Nat.le_refl _)).frozenAt p
    clear hz
    go_region_with (go_at_call 41; refine (atN a len cap l 4 w1.drew HL.out (HR.out.later B1.out.drew (Nat.le_refl _)) HB.out hlen (by omega)).mono ?_; rintro e w2 ⟨x4, rfl, t0, t1, rfl⟩)
    all_goals
      obtain ⟨d, hd⟩ : ∃ d, IntKind.u8.wrap (IntKind.i64.wrap (1 + x4.tmod 255)) = d := ⟨_, rfl⟩
      have hdb : 1 ≤ d ∧ d ≤ 255 := by
        rw [← hd, Int.tmod_eq_emod_of_nonneg t0, IntKind.wrap_u8', IntKind.wrap_i64]; omega
      rw [hd]
      obtain ⟨w3, hw3⟩ : ∃ w3, w1.setCell ⟨g1, p, none⟩ (.int .u8 (bits .xor .u8 z d)) = w3 := ⟨_, rfl⟩
      have hs := row_set R1.out p (bits .xor .u8 z d)
      have R3 : Hid (Row w3.drew g1 c1 (b.set p (bits .xor .u8 z d))) := by rw [← hw3]; exact hs.1
      have B3 : Hid (Below w.heap.size w w3.drew) := by rw [← hw3]; exact (B1.out.grown hs.2 B1.out.size (fun k h => by cases h; exact G1.out)).drew
      have hxb := xor_byte z d z0 z1 (by omega) hdb.2
      have Y3 : Hid (Bytes (b.set p (bits .xor .u8 z d))) := set_bytes HBB.out p _ hxb.1 hxb.2
      have N3 : Hid (b.set p (bits .xor .u8 z d) ≠ b) := set_ne b p _ (by rw [← EB.out]; exact hpn) (by rw [← HZ.out]; exact xor_ne z d z0 z1 hdb.1 hdb.2)
      have L3 : Hid (nb = (b.set p (bits .xor .u8 z d)).length) := by show _ = _; rw [List.length_set]; exact EB.out
      rw [hw3]
      clear hw3 hs hxb hdb hd hc hf
      go_wp2
      go_ret
      exact ⟨g1, c1, _, rfl, L3.out, Y3.out, fun _ => N3.out, G1.out, R3.out, B3.out⟩
end Go.Proofs.YtpenhliaelhnoaaGreatDoor.Bent
