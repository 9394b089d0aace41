/-
  Each.region_each inside a fence (a round of a range over a function among them): each operation is shown once.
  What impl's Stream and Mix answer, where the table of round words holds what the program's text lays into it.
  What Diff and SameTag answer, impl's and spec's.
  One operation of a region that draws its order, under a guard: it runs where its guard holds; else its slot is left undefined.
  What impl seals, and opens.
  What impl opens.
-/
import Derived.Test.YtpgapjdejelajaaGreatDoorGr4
import Derived.OrdersIn
import Derived.TacticsIn
import Derived.OwnWalkIn
import Derived.Test.YtpgapjdejelajaaGreatDoorGr15
import Derived.Test.YtpgapjdejelajaaGreatDoorGr12
import Derived.Test.YtpgapjdejelajaaGreatDoorGr8
set_option linter.unusedVariables false
namespace Go.Proofs.YtpgapjdejelajaaGreatDoor.EachIn
open Go.RowKit Go.Proofs.YtpgapjdejelajaaGreatDoor.Mem Go.Proofs.YtpgapjdejelajaaGreatDoor.App Go.Proofs.YtpgapjdejelajaaGreatDoor.Blk Go.Proofs.YtpgapjdejelajaaGreatDoor.Each Go.Proofs.YtpgapjdejelajaaGreatDoor.Copy

set_option maxRecDepth 100000 in
theorem region_each_in {F' : Fence} {m' : Nat} {P : Program} {ops : Array Oper} {Q : Exit → Act → World → Prop} {id : Nat} {a0 : Act} {w0 : World}
    (hm : P.follows .mixedOrders = true) (D : List Nat) (last : Nat) (dst : Nat → Nat) (cls : Nat → Nat)
    (F : Nat → Nat → Value → World → Prop) (B : World → Prop) (hfit : fitB ops last D dst = true)
    (hB : B w0.drew)
    (hkeep : ∀ i g v w w', i < last → F i g v w → Below w.heap.size w w' → B w' → F i g v w')
    (hstep : ∀ i, i < last → ∀ (t : Nat → Value) (ρ : Nat → Nat) (w : World), B w → (∀ j ∈ pre ops i, F j (ρ j) (t (dst j)) w) → (∀ x y, x ∈ pre ops i → y ∈ pre ops i → cls x ≠ 0 → cls y ≠ 0 → cls x ≠ cls y → ρ x ≠ ρ y) →
      wpOpIn F' m' P ops Q i (fun a' w' => ∃ v g, a' = (fr D a0 t).put (some (dst i)) v ∧ B w' ∧ Below w.heap.size w w' ∧ F i g v w' ∧ (cls i = 0 ∨ g < w'.heap.size ∧ (w.heap.size ≤ g ∨ ∃ j ∈ pre ops i, cls j = cls i ∧ g = ρ j))) (fr D a0 t) w)
    (hlast : ∀ (t : Nat → Value) (ρ : Nat → Nat) (w : World), B w → (∀ j, j < last → F j (ρ j) (t (dst j)) w) →
      (∀ i j, i < last → j < last → cls i ≠ 0 → cls j ≠ 0 → cls i ≠ cls j → ρ i ≠ ρ j) →
      wpOpIn F' m' P ops Q last (fun a' w' => Q .normal a' w') (fr D a0 t) w) :
    (Code.region id ops true).wpIn F' m' P Q a0 w0 := by
  unfold fitB at hfit
  simp only [Bool.and_eq_true, beq_iff_eq, List.all_eq_true, List.mem_range, decide_eq_true_eq, List.any_eq_true, Bool.or_eq_true, bne_iff_ne, ne_eq] at hfit
  obtain ⟨⟨⟨hsz, hord⟩, hcov⟩, hdst⟩ := hfit
  have main : ∀ (fuel : Nat) (listed : Array Bool) (a : Act) (w : World), listed.size = ops.size → listed.getD last true = false → listed.toList.count false ≤ fuel →
      (∀ i, i < last + 1 → listed.getD i true = true → ∀ j ∈ pre ops i, listed.getD j true = true) →
      (∃ (t : Nat → Value) (ρ : Nat → Nat), a = fr D a0 t ∧ B w ∧ (∀ i, i < last → listed.getD i true = true → F i (ρ i) (t (dst i)) w ∧ (cls i = 0 ∨ ρ i < w.heap.size)) ∧
        (∀ i j, i < last → j < last → listed.getD i true = true → listed.getD j true = true → cls i ≠ 0 → cls j ≠ 0 → cls i ≠ cls j → ρ i ≠ ρ j)) →
      wpAnyIn F' m' P .any ops Q fuel listed a w := by
    intro fuel
    induction fuel with
    | zero =>
      intro listed a w hls hl hc _ _
      exfalso
      have hlt : last < listed.size := by omega
      have : false ∈ listed.toList := by
        rw [Array.mem_toList_iff]
        have : listed[last] = false := by simpa [Array.getD, hlt] using hl
        rw [← this]; exact Array.getElem_mem hlt
      have := List.count_pos_iff.2 this
      omega
    | succ fuel ih =>
      intro listed a w hls hl hc hcl ⟨t, ρ, ha, hBw, hF, hne⟩
      have hop : ∀ i, i < last + 1 → ∃ o, ops[i]? = some o := fun i hi => ⟨ops[i]'(by omega), by simp⟩
      refine ⟨fun h0 => ?_, fun i hi => ?_⟩
      · exfalso
        -- the least that is not listed may come up
        have : ∃ i, i < last + 1 ∧ listed.getD i true = false ∧ ∀ j, j < i → listed.getD j true = true := by
          have aux : ∀ m, m ≤ last + 1 → (∀ j, j < m → listed.getD j true = true) ∨ ∃ i, i < m ∧ listed.getD i true = false ∧ ∀ j, j < i → listed.getD j true = true := by
            intro m
            induction m with
            | zero => intro _; exact .inl fun j hj => by omega
            | succ m ihm =>
              intro hm1
              rcases ihm (by omega) with h | ⟨i, h1, h2, h3⟩
              · cases hv : listed.getD m true with
                | false => exact .inr ⟨m, by omega, hv, h⟩
                | true =>
                  left; intro j hj
                  rcases Nat.lt_or_ge j m with h' | h'
                  · exact h j h'
                  · obtain rfl : j = m := by omega
                    exact hv
              · exact .inr ⟨i, by omega, h2, h3⟩
          rcases aux (last + 1) (Nat.le_refl _) with h | h
          · have := h last (by omega); rw [hl] at this; cases this
          · exact h
        obtain ⟨i, hi, hu, hb⟩ := this
        obtain ⟨o, ho⟩ := hop i hi
        have : i ∈ Region.ready .any ops listed := mem_ready.2 ⟨hu, o, ho, fun e he hbi => by
          have hj := hord i hi e.on ((mem_pre ho).2 ⟨e, he, hbi, rfl⟩)
          have := hb e.on hj
          have hlt : e.on < listed.size := by omega
          simpa [Array.getD, hlt] using this⟩
        rw [h0] at this; cases this
      · obtain ⟨hu, o, ho, hpre⟩ := mem_ready.1 hi
        have hil : i < last + 1 := by
          have := (Array.getElem?_eq_some_iff.1 ho).1; omega
        have hpre' : ∀ j ∈ pre ops i, listed.getD j true = true := fun j hj => by
          obtain ⟨e, he, hbi, rfl⟩ := (mem_pre ho).1 hj
          have h1 := hpre e he hbi
          have hlt : e.on < listed.size := by
            have := hord i hil e.on hj; omega
          simpa [Array.getD, hlt] using h1
        have hset : ∀ j, (listed.setIfInBounds i true).getD j true = true ↔ j = i ∨ listed.getD j true = true := fun j => by
          by_cases hji : j = i
          · subst hji
            have hlt : j < listed.size := by omega
            simp [Array.getD, hlt]
          · simp only [hji, false_or]
            rw [getD_set_ne true (Ne.symm hji)]
        by_cases hlast' : i = last
        · subst hlast'
          have hall : ∀ d j, j + d = i → j < i → listed.getD j true = true := by
            intro d
            induction d using Nat.strongRecOn with
            | ind d ihd =>
              intro j hjd hji
              obtain ⟨k, hk, hjk, hmem⟩ := hcov j hji
              have hmem' : j ∈ pre ops k := by simpa using hmem
              by_cases hki : k = i
              · subst hki; exact hpre' j hmem'
              · exact hcl k hk (ihd (i - k) (by omega) k (by omega) (by omega)) j hmem'
          have hl2 := hlast t ρ w hBw (fun j hj => (hF j hj (hall (i - j) j (by omega) hj)).1) (fun x y hx hy => hne x y hx hy (hall (i - x) x (by omega) hx) (hall (i - y) y (by omega) hy))
          rw [ha]
          refine wpOpIn_mono (fun a' w' hQ => wpAnyIn_done ?_ hQ fuel) hl2
          apply List.eq_nil_iff_forall_not_mem.2
          intro k hk
          obtain ⟨hku, ok, hok, _⟩ := mem_ready.1 hk
          have hkl : k < i + 1 := by have := (Array.getElem?_eq_some_iff.1 hok).1; omega
          have : (listed.setIfInBounds i true).getD k true = true := (hset k).2 (by
            by_cases hki : k = i
            · exact .inl hki
            · exact .inr (hall (i - k) k (by omega) (by omega)))
          rw [hku] at this; cases this
        · have hilt : i < last := by omega
          have hs := hstep i hilt t ρ w hBw (fun j hj => (hF j (by have := hord i hil j hj; omega) (hpre' j hj)).1) (fun x y hx hy => hne x y (by have := hord i hil x hx; omega) (by have := hord i hil y hy; omega) (hpre' x hx) (hpre' y hy))
          rw [ha]
          refine wpOpIn_mono (fun a' w' h => ?_) hs
          obtain ⟨v, g, rfl, hB', hbe, hFi, hg⟩ := h
          rw [fr_put D a0 t (dst i) v (hdst i hilt).1]
          apply ih
          · simp [hls]
          · cases hx : (listed.setIfInBounds i true).getD last true with
            | false => rfl
            | true =>
              rcases (hset last).1 hx with h | h
              · exact absurd h.symm hlast'
              · rw [hl] at h; cases h
          · have hlt : i < listed.toList.length := by simp; omega
            have hfi : listed.toList[i] = false := by
              have hlt' : i < listed.size := by omega
              simpa [Array.getD, hlt'] using hu
            rw [Array.toList_setIfInBounds, List.count_set hlt, hfi]
            have : 0 < listed.toList.count false := List.count_pos_iff.2 (by rw [← hfi]; exact List.getElem_mem hlt)
            rw [if_pos (by rfl), if_neg (by decide)]
            omega
          · intro k hk hkl j hj
            rcases (hset k).1 hkl with rfl | h
            · exact (hset j).2 (.inr (hpre' j hj))
            · exact (hset j).2 (.inr (hcl k hk h j hj))
          · refine ⟨upd t (dst i) v, fun k => if k = i then g else ρ k, rfl, hB', ?_, ?_⟩
            · intro k hk hkl
              by_cases hki : k = i
              · subst hki
                simp only [if_true, upd_same]
                exact ⟨hFi, hg.imp (fun h => h) And.left⟩
              · have hdk : dst k ≠ dst i := by
                  have := (hdst k hk).2 i hilt
                  rcases this with h | h
                  · exact absurd h hki
                  · exact h
                have := hF k hk (((hset k).1 hkl).resolve_left hki)
                simp only [hki, if_false, upd_other _ _ _ _ hdk]
                exact ⟨hkeep k _ _ w w' hk this.1 hbe hB', this.2.imp (fun h => h) (fun h => Nat.lt_of_lt_of_le h hbe.size)⟩
            · intro x y hx hy hxl hyl cx cy cxy
              have key : ∀ y, y < last → y ≠ i → (listed.setIfInBounds i true).getD y true = true → cls i ≠ 0 → cls y ≠ 0 → cls i ≠ cls y → g ≠ ρ y := by
                intro y hy hyi hyl ci cy ciy
                have hyl' := ((hset y).1 hyl).resolve_left hyi
                rcases hg with h | ⟨_, h | ⟨j, hj, hcj, rfl⟩⟩
                · exact absurd h ci
                · have := (hF y hy hyl').2
                  rcases this with h' | h'
                  · exact absurd h' cy
                  · omega
                · have hjl : j < last := by have := hord i hil j hj; omega
                  exact hne j y hjl hy (hpre' j hj) hyl' (by rw [hcj]; exact ci) cy (by rw [hcj]; exact ciy)
              by_cases hxi : x = i
              · subst hxi
                have hyx : y ≠ x := fun h => cxy (by rw [h])
                simp only [if_true, hyx, if_false]
                exact key y hy hyx hyl cx cy cxy
              · by_cases hyi : y = i
                · subst hyi
                  simp only [if_true, hxi, if_false]
                  exact Ne.symm (key x hx hxi hxl cy cx (Ne.symm cxy))
                · simp only [hxi, hyi, if_false]
                  exact hne x y hx hy (((hset x).1 hxl).resolve_left hxi) (((hset y).1 hyl).resolve_left hyi) cx cy cxy
  refine wpIn_region_any hm ?_
  have hrep : ∀ i, i < last + 1 → (Array.replicate ops.size false).getD i true = false := fun i hi => by
    have : i < ops.size := by omega
    simp [Array.getD, this]
  refine main ops.size (Array.replicate ops.size false) a0 w0.drew (by simp) (hrep last (by omega)) (by simp) (fun i hi h => by rw [hrep i hi] at h; cases h) ?_
  exact ⟨_, fun _ => 0, (fr_start D a0).symm, hB, (fun i hi h => by rw [hrep i (by omega)] at h; cases h), (fun i j hi _ h => by rw [hrep i (by omega)] at h; cases h)⟩

/-- Two operations behind all the others. -/
def fitB2 (ops : Array Oper) (last : Nat) (D : List Nat) (dst : Nat → Nat) : Bool :=
  ops.size == last + 2 &&
  (List.range (last + 2)).all (fun i => (pre ops i).all (fun j => decide (j < i))) &&
  (List.range last).all (fun j => (List.range (last + 1)).any (fun k => decide (j < k) && (pre ops k).contains j)) &&
  (List.range last).all (fun i => D.contains (dst i) && (List.range last).all (fun j => i == j || dst i != dst j)) &&
  (pre ops (last + 1)).contains last

set_option maxRecDepth 100000 in
theorem region_two_in {F' : Fence} {m' : Nat} {P : Program} {ops : Array Oper} {Q : Exit → Act → World → Prop} {id : Nat} {a0 : Act} {w0 : World}
    (hm : P.follows .mixedOrders = true) (D : List Nat) (last : Nat) (dst : Nat → Nat) (cls : Nat → Nat)
    (F : Nat → Nat → Value → World → Prop) (B : World → Prop) (hfit : fitB2 ops last D dst = true)
    (hB : B w0.drew)
    (hkeep : ∀ i g v w w', i < last → F i g v w → Below w.heap.size w w' → B w' → F i g v w')
    (hstep : ∀ i, i < last → ∀ (t : Nat → Value) (ρ : Nat → Nat) (w : World), B w → (∀ j ∈ pre ops i, F j (ρ j) (t (dst j)) w) → (∀ x y, x ∈ pre ops i → y ∈ pre ops i → cls x ≠ 0 → cls y ≠ 0 → cls x ≠ cls y → ρ x ≠ ρ y) →
      wpOpIn F' m' P ops Q i (fun a' w' => ∃ v g, a' = (fr D a0 t).put (some (dst i)) v ∧ B w' ∧ Below w.heap.size w w' ∧ F i g v w' ∧ (cls i = 0 ∨ g < w'.heap.size ∧ (w.heap.size ≤ g ∨ ∃ j ∈ pre ops i, cls j = cls i ∧ g = ρ j))) (fr D a0 t) w)
    (hlast : ∀ (t : Nat → Value) (ρ : Nat → Nat) (w : World), B w → (∀ j, j < last → F j (ρ j) (t (dst j)) w) →
      (∀ i j, i < last → j < last → cls i ≠ 0 → cls j ≠ 0 → cls i ≠ cls j → ρ i ≠ ρ j) →
      wpOpIn F' m' P ops Q last (fun a' w' => wpOpIn F' m' P ops Q (last + 1) (fun a'' w'' => Q .normal a'' w'') a' w') (fr D a0 t) w) :
    (Code.region id ops true).wpIn F' m' P Q a0 w0 := by
  unfold fitB2 at hfit
  simp only [Bool.and_eq_true, beq_iff_eq, List.all_eq_true, List.mem_range, decide_eq_true_eq, List.any_eq_true, Bool.or_eq_true, bne_iff_ne, ne_eq] at hfit
  obtain ⟨⟨⟨⟨hsz, hord⟩, hcov⟩, hdst⟩, hlst⟩ := hfit
  have hlst' : last ∈ pre ops (last + 1) := by simpa using hlst
  have main : ∀ (fuel : Nat) (listed : Array Bool) (a : Act) (w : World), listed.size = ops.size → listed.getD last true = false → listed.getD (last + 1) true = false → listed.toList.count false ≤ fuel →
      (∀ i, i < last + 2 → listed.getD i true = true → ∀ j ∈ pre ops i, listed.getD j true = true) →
      (∃ (t : Nat → Value) (ρ : Nat → Nat), a = fr D a0 t ∧ B w ∧ (∀ i, i < last → listed.getD i true = true → F i (ρ i) (t (dst i)) w ∧ (cls i = 0 ∨ ρ i < w.heap.size)) ∧
        (∀ i j, i < last → j < last → listed.getD i true = true → listed.getD j true = true → cls i ≠ 0 → cls j ≠ 0 → cls i ≠ cls j → ρ i ≠ ρ j)) →
      wpAnyIn F' m' P .any ops Q fuel listed a w := by
    intro fuel
    induction fuel with
    | zero =>
      intro listed a w hls hl hl2 hc _ _
      exfalso
      have hlt : last < listed.size := by omega
      have : false ∈ listed.toList := by
        rw [Array.mem_toList_iff]
        have : listed[last] = false := by simpa [Array.getD, hlt] using hl
        rw [← this]; exact Array.getElem_mem hlt
      have := List.count_pos_iff.2 this
      omega
    | succ fuel ih =>
      intro listed a w hls hl hl2 hc hcl ⟨t, ρ, ha, hBw, hF, hne⟩
      have hop : ∀ i, i < last + 2 → ∃ o, ops[i]? = some o := fun i hi => ⟨ops[i]'(by omega), by simp⟩
      refine ⟨fun h0 => ?_, fun i hi => ?_⟩
      · exfalso
        -- the least that is not listed may come up
        have : ∃ i, i < last + 1 ∧ listed.getD i true = false ∧ ∀ j, j < i → listed.getD j true = true := by
          have aux : ∀ m, m ≤ last + 1 → (∀ j, j < m → listed.getD j true = true) ∨ ∃ i, i < m ∧ listed.getD i true = false ∧ ∀ j, j < i → listed.getD j true = true := by
            intro m
            induction m with
            | zero => intro _; exact .inl fun j hj => by omega
            | succ m ihm =>
              intro hm1
              rcases ihm (by omega) with h | ⟨i, h1, h2, h3⟩
              · cases hv : listed.getD m true with
                | false => exact .inr ⟨m, by omega, hv, h⟩
                | true =>
                  left; intro j hj
                  rcases Nat.lt_or_ge j m with h' | h'
                  · exact h j h'
                  · obtain rfl : j = m := by omega
                    exact hv
              · exact .inr ⟨i, by omega, h2, h3⟩
          rcases aux (last + 1) (Nat.le_refl _) with h | h
          · have := h last (by omega); rw [hl] at this; cases this
          · exact h
        obtain ⟨i, hi, hu, hb⟩ := this
        obtain ⟨o, ho⟩ := hop i (by omega)
        have : i ∈ Region.ready .any ops listed := mem_ready.2 ⟨hu, o, ho, fun e he hbi => by
          have hj := hord i (by omega) e.on ((mem_pre ho).2 ⟨e, he, hbi, rfl⟩)
          have := hb e.on hj
          have hlt : e.on < listed.size := by omega
          simpa [Array.getD, hlt] using this⟩
        rw [h0] at this; cases this
      · obtain ⟨hu, o, ho, hpre⟩ := mem_ready.1 hi
        have hil0 : i < last + 2 := by
          have := (Array.getElem?_eq_some_iff.1 ho).1; omega
        have hpre' : ∀ j ∈ pre ops i, listed.getD j true = true := fun j hj => by
          obtain ⟨e, he, hbi, rfl⟩ := (mem_pre ho).1 hj
          have h1 := hpre e he hbi
          have hlt : e.on < listed.size := by
            have := hord i hil0 e.on hj; omega
          simpa [Array.getD, hlt] using h1
        have hil : i < last + 1 := by
          rcases Nat.lt_or_ge i (last + 1) with h | h
          · exact h
          · obtain rfl : i = last + 1 := by omega
            have := hpre' last hlst'; rw [hl] at this; cases this
        have hset : ∀ j, (listed.setIfInBounds i true).getD j true = true ↔ j = i ∨ listed.getD j true = true := fun j => by
          by_cases hji : j = i
          · subst hji
            have hlt : j < listed.size := by omega
            simp [Array.getD, hlt]
          · simp only [hji, false_or]
            rw [getD_set_ne true (Ne.symm hji)]
        by_cases hlast' : i = last
        · subst hlast'
          have hall : ∀ d j, j + d = i → j < i → listed.getD j true = true := by
            intro d
            induction d using Nat.strongRecOn with
            | ind d ihd =>
              intro j hjd hji
              obtain ⟨k, hk, hjk, hmem⟩ := hcov j hji
              have hmem' : j ∈ pre ops k := by simpa using hmem
              by_cases hki : k = i
              · subst hki; exact hpre' j hmem'
              · exact hcl k (by omega) (ihd (i - k) (by omega) k (by omega) (by omega)) j hmem'
          have hl3 := hlast t ρ w hBw (fun j hj => (hF j hj (hall (i - j) j (by omega) hj)).1) (fun x y hx hy => hne x y hx hy (hall (i - x) x (by omega) hx) (hall (i - y) y (by omega) hy))
          rw [ha]
          have hS : ∀ k, k < i + 1 → (listed.setIfInBounds i true).getD k true = true := fun k hk => (hset k).2 (by
            by_cases hki : k = i
            · exact .inl hki
            · exact .inr (hall (i - k) k (by omega) (by omega)))
          have hU : (listed.setIfInBounds i true).getD (i + 1) true = false := by
            cases hx : (listed.setIfInBounds i true).getD (i + 1) true with
            | false => rfl
            | true =>
              rcases (hset (i + 1)).1 hx with h | h
              · omega
              · rw [hl2] at h; cases h
          have hT : ∀ k, ((listed.setIfInBounds i true).setIfInBounds (i + 1) true).getD k true = true := fun k => by
            by_cases hk1 : k = i + 1
            · subst hk1
              have hlt : i + 1 < (listed.setIfInBounds i true).size := by simp; omega
              simp [Array.getD]
            · rw [getD_set_ne true (Ne.symm hk1)]
              rcases Nat.lt_or_ge k (i + 1) with h | h
              · exact hS k h
              · have : ¬ k < (listed.setIfInBounds i true).size := by simp; omega
                rw [Array.getD, dif_neg this]
          refine wpOpIn_mono (fun a' w' hQ => ?_) hl3
          cases fuel with
          | zero =>
            exfalso
            have q1 : i < listed.toList.length := by simp; omega
            have q2 : i + 1 < listed.toList.length := by simp; omega
            have v1 : listed.toList[i] = false := by
              have h' : i < listed.size := by omega
              simpa [Array.getD, h'] using hu
            have v2 : listed.toList[i + 1] = false := by
              have h' : i + 1 < listed.size := by omega
              simpa [Array.getD, h'] using hl2
            have hc2 : (listed.toList.set i true).count false + 1 = listed.toList.count false := by
              rw [List.count_set q1, v1]
              have : 0 < listed.toList.count false := List.count_pos_iff.2 (by rw [← v1]; exact List.getElem_mem q1)
              rw [if_pos (by rfl), if_neg (by decide)]
              omega
            have : 0 < (listed.toList.set i true).count false := List.count_pos_iff.2 (by
              have q3 : i + 1 < (listed.toList.set i true).length := by simpa using q2
              have : (listed.toList.set i true)[i + 1] = false := by rw [List.getElem_set_ne (by omega)]; exact v2
              rw [← this]; exact List.getElem_mem q3)
            omega
          | succ fuel =>
            obtain ⟨o2, ho2⟩ := hop (i + 1) (by omega)
            refine ⟨fun h0 => ?_, fun j hj => ?_⟩
            · exfalso
              have : i + 1 ∈ Region.ready .any ops (listed.setIfInBounds i true) := mem_ready.2 ⟨hU, o2, ho2, fun e he hbi => by
                have hj := hord (i + 1) (by omega) e.on ((mem_pre ho2).2 ⟨e, he, hbi, rfl⟩)
                have := hS e.on hj
                have hlt : e.on < listed.size := by omega
                simpa [Array.getD, hlt] using this⟩
              rw [h0] at this; cases this
            · obtain ⟨hju, oj, hoj, _⟩ := mem_ready.1 hj
              have hj2 : j < i + 2 := by have := (Array.getElem?_eq_some_iff.1 hoj).1; omega
              obtain rfl : j = i + 1 := by
                rcases Nat.lt_or_ge j (i + 1) with h | h
                · rw [hS j h] at hju; cases hju
                · omega
              refine wpOpIn_mono (fun a'' w'' hQ2 => wpAnyIn_done ?_ hQ2 fuel) hQ
              apply List.eq_nil_iff_forall_not_mem.2
              intro k hk
              obtain ⟨hku, _⟩ := mem_ready.1 hk
              rw [hT k] at hku; cases hku
        · have hilt : i < last := by omega
          have hs := hstep i hilt t ρ w hBw (fun j hj => (hF j (by have := hord i (by omega) j hj; omega) (hpre' j hj)).1) (fun x y hx hy => hne x y (by have := hord i (by omega) x hx; omega) (by have := hord i (by omega) y hy; omega) (hpre' x hx) (hpre' y hy))
          rw [ha]
          refine wpOpIn_mono (fun a' w' h => ?_) hs
          obtain ⟨v, g, rfl, hB', hbe, hFi, hg⟩ := h
          rw [fr_put D a0 t (dst i) v (hdst i hilt).1]
          apply ih
          · simp [hls]
          · cases hx : (listed.setIfInBounds i true).getD last true with
            | false => rfl
            | true =>
              rcases (hset last).1 hx with h | h
              · exact absurd h.symm hlast'
              · rw [hl] at h; cases h
          · cases hx : (listed.setIfInBounds i true).getD (last + 1) true with
            | false => rfl
            | true =>
              rcases (hset (last + 1)).1 hx with h | h
              · omega
              · rw [hl2] at h; cases h
          · have hlt : i < listed.toList.length := by simp; omega
            have hfi : listed.toList[i] = false := by
              have hlt' : i < listed.size := by omega
              simpa [Array.getD, hlt'] using hu
            rw [Array.toList_setIfInBounds, List.count_set hlt, hfi]
            have : 0 < listed.toList.count false := List.count_pos_iff.2 (by rw [← hfi]; exact List.getElem_mem hlt)
            rw [if_pos (by rfl), if_neg (by decide)]
            omega
          · intro k hk hkl j hj
            rcases (hset k).1 hkl with rfl | h
            · exact (hset j).2 (.inr (hpre' j hj))
            · exact (hset j).2 (.inr (hcl k hk h j hj))
          · refine ⟨upd t (dst i) v, fun k => if k = i then g else ρ k, rfl, hB', ?_, ?_⟩
            · intro k hk hkl
              by_cases hki : k = i
              · subst hki
                simp only [if_true, upd_same]
                exact ⟨hFi, hg.imp (fun h => h) And.left⟩
              · have hdk : dst k ≠ dst i := by
                  have := (hdst k hk).2 i hilt
                  rcases this with h | h
                  · exact absurd h hki
                  · exact h
                have := hF k hk (((hset k).1 hkl).resolve_left hki)
                simp only [hki, if_false, upd_other _ _ _ _ hdk]
                exact ⟨hkeep k _ _ w w' hk this.1 hbe hB', this.2.imp (fun h => h) (fun h => Nat.lt_of_lt_of_le h hbe.size)⟩
            · intro x y hx hy hxl hyl cx cy cxy
              have key : ∀ y, y < last → y ≠ i → (listed.setIfInBounds i true).getD y true = true → cls i ≠ 0 → cls y ≠ 0 → cls i ≠ cls y → g ≠ ρ y := by
                intro y hy hyi hyl ci cy ciy
                have hyl' := ((hset y).1 hyl).resolve_left hyi
                rcases hg with h | ⟨_, h | ⟨j, hj, hcj, rfl⟩⟩
                · exact absurd h ci
                · have := (hF y hy hyl').2
                  rcases this with h' | h'
                  · exact absurd h' cy
                  · omega
                · have hjl : j < last := by have := hord i (by omega) j hj; omega
                  exact hne j y hjl hy (hpre' j hj) hyl' (by rw [hcj]; exact ci) cy (by rw [hcj]; exact ciy)
              by_cases hxi : x = i
              · subst hxi
                have hyx : y ≠ x := fun h => cxy (by rw [h])
                simp only [if_true, hyx, if_false]
                exact key y hy hyx hyl cx cy cxy
              · by_cases hyi : y = i
                · subst hyi
                  simp only [if_true, hxi, if_false]
                  exact Ne.symm (key x hx hxi hxl cy cx (Ne.symm cxy))
                · simp only [hxi, hyi, if_false]
                  exact hne x y hx hy (((hset x).1 hxl).resolve_left hxi) (((hset y).1 hyl).resolve_left hyi) cx cy cxy
  refine wpIn_region_any hm ?_
  have hrep : ∀ i, i < last + 2 → (Array.replicate ops.size false).getD i true = false := fun i hi => by
    have : i < ops.size := by omega
    simp [Array.getD, this]
  refine main ops.size (Array.replicate ops.size false) a0 w0.drew (by simp) (hrep last (by omega)) (hrep (last + 1) (by omega)) (by simp) (fun i hi h => by rw [hrep i hi] at h; cases h) ?_
  exact ⟨_, fun _ => 0, (fr_start D a0).symm, hB, (fun i hi h => by rw [hrep i (by omega)] at h; cases h), (fun i j hi _ h => by rw [hrep i (by omega)] at h; cases h)⟩

set_option maxRecDepth 100000 in
theorem op_wp_in {F : Fence} {n : Nat} {P : Program} {ops : Array Oper} {Q : Exit → Act → World → Prop} {i : Nat} {o : Oper} {K : Act → World → Prop} {a : Act} {w : World}
    (hi : ops[i]? = some o) (hg : o.guard = none) (h : Oper.wpIn F n P o a w K Q) : wpOpIn F n P ops Q i K a w := by
  unfold wpOpIn
  rw [hi]
  have hw : Region.wanted o (yielded ops a.tmps) = true := by simp [Region.wanted, hg]
  simp only [hw, if_true]
  exact h
set_option maxRecDepth 100000 in
theorem op_run_in {F : Fence} {n : Nat} {P : Program} {ops : Array Oper} {Q : Exit → Act → World → Prop} {i : Nat} {o : Oper} {K : Act → World → Prop} {a : Act} {w w' : World} {v : Value}
    (hi : ops[i]? = some o) (hg : o.guard = none) (ha : ∀ f, o.about P w a.eval = some f → F.fn f) (hs : o.semAt F.round a.eval = execOp a.eval o) (hr : (execOp a.eval o).run P w = .ok (.value v) w') (hk : K (a.put o.dst v) w') : wpOpIn F n P ops Q i K a w := by
  refine op_wp_in hi hg ⟨ha, ?_⟩
  rw [hs, hr]
  exact hk
set_option maxRecDepth 100000 in
/-- append of bytes where there is room. -/
theorem op_fit_in {F : Fence} {n : Nat} {ops : Array Oper} {Q : Exit → Act → World → Prop} {i : Nat} {o : Oper} {K : Act → World → Prop} {a : Act} {w : World}
    (hi : ops[i]? = some o) (hgd : o.guard = none) (s x : Operand) (hop : o.op = .call { callee := .builtin .append, args := #[s, x], argTypes := #[22, 22] })
    (g k cap : Nat) (l y : List Int) (hs : a.eval s = .slice (some ⟨g, 0, none⟩) k cap) (hk : k = l.length) (hrow : Row w g cap l)
    (ad : Addr) (m c : Nat) (hx : a.eval x = .slice (some ad) m c) (hm : m = y.length) (hrd : Rd w (some ad) y) (hsum : l.length + y.length ≤ cap)
    (hK : ∀ w', Row w' g cap (l ++ y) → w.grownBy w' (some g) → K (a.put o.dst (.slice (some ⟨g, 0, none⟩) (k + m) cap)) w') : wpOpIn F n Tryz.prog ops Q i K a w := by
  obtain ⟨i0, h2, hz0, hz1, hz2⟩ := info_parts info8
  subst hk hm
  obtain ⟨w', hrun, r1, r2⟩ := run_append_fits (P := Tryz.prog) w g 22 o.type 5 i0 1 Tryz.underlying22 h2 hz1 g l.length cap _ (hrow.owns (Nat.le_refl _)) ad y.length c (y.map (Value.int .u8)) (by simp) (Rd.cells hrd) (ints_oneCell _ _) hsum
  refine op_wp_in hi hgd ⟨?_, ?_⟩
  · simp [Oper.about, hop, resolve, Target.leads, Sem.run_pure]
  · rw [Oper.semAt_plain F _ _ (by rw [hop]; intro c hc'; cases hc')]
    simp [execOp, hop, resolve, invoke, builtin, hs, hx, hrun, Result.andThen]
    rw [← List.map_append] at r1
    exact hK w' (Row.of r1).1 r2
end Go.Proofs.YtpgapjdejelajaaGreatDoor.EachIn

namespace Go.Proofs.YtpgapjdejelajaaGreatDoor.StrI
open Go.RowKit Go.Proofs.YtpgapjdejelajaaGreatDoor.Mem Go.Proofs.YtpgapjdejelajaaGreatDoor.App Go.Proofs.YtpgapjdejelajaaGreatDoor.Blk Go.Proofs.YtpgapjdejelajaaGreatDoor.Pads Go.Proofs.YtpgapjdejelajaaGreatDoor.ShaP Go.Proofs.YtpgapjdejelajaaGreatDoor.Comp Go.Proofs.YtpgapjdejelajaaGreatDoor.MacP Go.Proofs.YtpgapjdejelajaaGreatDoor.MacI Go.Proofs.YtpgapjdejelajaaGreatDoor.KdfP Go.Proofs.YtpgapjdejelajaaGreatDoor.Ranges Go.Proofs.YtpgapjdejelajaaGreatDoor.StrB Go.Proofs.YtpgapjdejelajaaGreatDoor.Each Go.Proofs.YtpgapjdejelajaaGreatDoor.EachIn Go.Proofs.YtpgapjdejelajaaGreatDoor.Bent
attribute [local go_sem] Oper.semAt_some

set_option maxRecDepth 100000 in
theorem keyI_full (k : List Int) (h : k.length = 64) : keyI k = k := by
  have hs : short k = k := by unfold short; rw [if_pos (by omega)]
  unfold keyI; rw [if_pos (by omega), hs, h]; simp
set_option maxRecDepth 100000 in
/-- The block of a key is as good as the key. -/
theorem hmacI_key (k b : List Int) (h : k.length ≤ 1048576) : hmacI (keyI k) b = hmacI k b := by
  have e := keyI_full _ (keyI_len k h)
  have e2 := keyI_len k h
  unfold hmacI
  by_cases hb : b.length ≤ 1048512
  · rw [if_pos ⟨by omega, hb⟩, if_pos ⟨h, hb⟩, e]
  · rw [if_neg (fun x => hb x.2), if_neg (fun x => hb x.2)]
set_option maxRecDepth 100000 in
theorem sblk_key (k h : List Int) (i : Nat) (hk : k.length ≤ 1048576) : sblk (keyI k) h i = sblk k h i := hmacI_key k _ hk

set_option maxRecDepth 100000 in
theorem last_blocks (k h : List Int) (i N p : Nat) (hi0 : i = 0 ∨ 32 * i < N) (hN : 32 * i + p = N) (hp : p ≤ 32) (h32 : (sblk k h i).length = 32) (hl : (sblks k h i).length = 32 * i) :
    (sblks k h ((N + 31) / 32)).take N = sblks k h i ++ (sblk k h i).take p := by
  by_cases hp0 : p = 0
  · obtain rfl : i = 0 := by omega
    have : N = 0 := by omega
    subst this hp0
    rfl
  · have : (N + 31) / 32 = i + 1 := by omega
    rw [this]
    show (sblks k h i ++ sblk k h i).take N = _
    rw [List.take_append, hl, List.take_of_length_le (by omega), show N - 32 * i = p by omega]

set_option maxRecDepth 100000 in
theorem row_celled {W W' : World} {g c : Nat} {l : List Int} (h : Row W g c l) (hk : CellsKept W W') : Row W' g c l := by
  obtain ⟨h1, h2, cs, h3, h4⟩ := h
  exact ⟨h1, h2, cs, hk.same _ _ h3 rfl, h4⟩
set_option maxRecDepth 100000 in
theorem blk_celled {W W' : World} {g : Nat} {t : TypeId} {vs : List Value} (h : Blk W g t vs) (hk : CellsKept W W') : Blk W' g t vs := hk.same _ _ h rfl

/-- The first q mixed, the others as they were. -/
def mid (b s : List Int) (q : Nat) : List Int := (xors b s).take q ++ s.drop q
set_option maxRecDepth 100000 in
theorem mid_len (b s : List Int) (q : Nat) (h : s.length ≤ b.length) (hq : q ≤ s.length) : (mid b s q).length = s.length := by
  unfold mid; rw [List.length_append, List.length_take, List.length_drop, xors_length]; omega
set_option maxRecDepth 100000 in
theorem mid_at (b s : List Int) (q : Nat) (h : s.length ≤ b.length) (hq : q < s.length) : (mid b s q).getD q 0 = s.getD q 0 := by
  have hl : ((xors b s).take q).length = q := by rw [List.length_take, xors_length]; omega
  unfold mid
  simp only [List.getD]
  rw [List.getElem?_append_right (by omega), hl, Nat.sub_self, List.getElem?_drop, Nat.add_zero]
set_option maxRecDepth 100000 in
theorem mid_set (b s : List Int) (q : Nat) (hb : Bytes b) (hs : Bytes s) (h : s.length ≤ b.length) (hq : q < s.length) : (mid b s q).set q (bits .xor .u8 (s.getD q 0) (b.getD q 0)) = mid b s (q + 1) := by
  have hl : ((xors b s).take q).length = q := by rw [List.length_take, xors_length]; omega
  have hx : q < (xors b s).length := by rw [xors_length]; omega
  have hqb : q < b.length := by omega
  have e := xors_at b s q hqb hq
  rw [List.getElem?_eq_getElem hx, Option.some.injEq] at e
  have e1 : s.getD q 0 = s[q] := by simp [List.getD, hq]
  have e2 : b.getD q 0 = b[q] := by simp [List.getD, hqb]
  have p1 := hs _ (List.getElem_mem hq)
  have p2 := hb _ (List.getElem_mem hqb)
  unfold mid
  rw [List.set_append_right _ _ (by omega), hl, Nat.sub_self, List.take_succ_eq_append_getElem hx, e, e1, e2, DiffP.bits_xor_comm _ _ p1.1 p1.2 p2.1 p2.2, List.append_assoc, List.drop_eq_getElem_cons hq]
  rfl
set_option maxRecDepth 100000 in
theorem mid_all (b s : List Int) (h : s.length ≤ b.length) : mid b s s.length = xors b s := by
  unfold mid
  rw [List.drop_length, List.append_nil, List.take_of_length_le (by rw [xors_length]; omega)]

end Go.Proofs.YtpgapjdejelajaaGreatDoor.StrI

namespace Go.Proofs.YtpgapjdejelajaaGreatDoor.Diffs
open Go.RowKit Go.Proofs.YtpgapjdejelajaaGreatDoor.Mem Go.Proofs.YtpgapjdejelajaaGreatDoor.DiffP

set_option maxRecDepth 100000 in
theorem wrap_byte (x : Int) (h0 : 0 ≤ x) (h1 : x ≤ 255) : IntKind.i64.wrap x = x := by rw [IntKind.wrap_i64]; omega

set_option maxRecDepth 100000 in
set_option maxHeartbeats 800000 in
theorem implDiff (a0 a1 : Option Addr) (n0 c0 n1 c1 : Nat) (x y : List Int) (w : World) (e0 : n0 = x.length) (e1 : n1 = y.length) (r0 : Rd w a0 x) (r1 : Rd w a1 y) (hb0 : Bytes x) (hb1 : Bytes y) (l0 : n0 ≤ 4194304) (l1 : n1 ≤ 4194304) :
    Calls Tryz.prog 79 #[.slice a0 n0 c0, .slice a1 n1 c1] w fun e w' => e = .returned (.int .i64 (diffI x y)) ∧ ∃ m, w' = w.drewN m := by
  have E0 : Hid (n0 = x.length) := e0
  have E1 : Hid (n1 = y.length) := e1
  have R0 : Hid (Rd w a0 x) := r0
  have R1 : Hid (Rd w a1 y) := r1
  have B0 : Hid (Bytes x) := hb0
  have B1 : Hid (Bytes y) := hb1
  clear e0 e1 r0 r1 hb0 hb1
  by_cases hl : n0 = n1
  · subst hl
    have hne : ((n0 : Int) != (n0 : Int)) = false := by simp
    have HD : Hid (diffI x y = diffN x y n0) := by show _ = _; unfold diffI; rw [if_pos (by rw [← E0.out, ← E1.out]), ← E0.out]
    go_enter Tryz.func79, Tryz.ntmps79
    go_wp2
    go_loop [5, 15] (fun v i => ∃ k : Nat, k ≤ n0 ∧ i = .int .i64 k ∧ v = .int .u8 (diffN x y k)) (fun _ i => n0 - (intOf i).toNat)
    case atStart => exact ⟨0, Nat.zero_le _, rfl, rfl⟩
    case round =>
      obtain ⟨k, hk, rfl, rfl⟩ := hrel
      by_cases hlt : k < n0
      · obtain ⟨b1, o1, rfl, _, p1⟩ := R0.out k (by rw [← E0.out]; exact hlt)
        obtain ⟨b2, o2, rfl, _, p2⟩ := R1.out k (by rw [← E1.out]; exact hlt)
        have HT : Hid (diffN x y (k + 1) = bits .or .u8 (diffN x y k) (bits .xor .u8 (x.getD k 0) (y.getD k 0))) := rfl
        generalize diffN x y k = d at *
        generalize x.getD k 0 = z1 at *
        generalize y.getD k 0 = z2 at *
        go_wp2
        go_round
        case rel => exact ⟨k + 1, by omega, by go_num, by rw [HT.out]⟩
        case measure => simp [intOf]; omega
      · obtain rfl : k = n0 := by omega
        have hd := diffN_bd x y B0.out B1.out k
        generalize diffN x y k = d at *
        obtain ⟨d0, d1⟩ := hd
        go_wp2
        go_ret
        exact ⟨by rw [HD.out]; rfl, 0, rfl⟩
  · have hne : ((n0 : Int) != (n1 : Int)) = true := by simp; omega
    have HD : Hid (diffI x y = -1) := by show _ = _; unfold diffI; rw [if_neg (by rw [← E0.out, ← E1.out]; exact hl)]
    clear hl
    go_enter Tryz.func79, Tryz.ntmps79
    go_wp2
    go_ret
    exact ⟨by rw [HD.out]; rfl, 0, rfl⟩

set_option maxRecDepth 100000 in
set_option maxHeartbeats 800000 in
theorem specDiff (a0 a1 : Option Addr) (n0 c0 n1 c1 : Nat) (x y : List Int) (w : World) (e0 : n0 = x.length) (e1 : n1 = y.length) (r0 : Rd w a0 x) (r1 : Rd w a1 y) (hb0 : Bytes x) (hb1 : Bytes y) (l0 : n0 ≤ 4194304) (l1 : n1 ≤ 4194304) :
    Calls Tryz.prog 83 #[.slice a0 n0 c0, .slice a1 n1 c1] w fun e w' => e = .returned (.int .i64 (diffI x y)) ∧ ∃ m, w' = w.drewN m := by
  have E0 : Hid (n0 = x.length) := e0
  have E1 : Hid (n1 = y.length) := e1
  have R0 : Hid (Rd w a0 x) := r0
  have R1 : Hid (Rd w a1 y) := r1
  have B0 : Hid (Bytes x) := hb0
  have B1 : Hid (Bytes y) := hb1
  clear e0 e1 r0 r1 hb0 hb1
  by_cases hl : n0 = n1
  · subst hl
    have hne : ((n0 : Int) != (n0 : Int)) = false := by simp
    have HD : Hid (diffI x y = diffN x y n0) := by show _ = _; unfold diffI; rw [if_pos (by rw [← E0.out, ← E1.out]), ← E0.out]
    go_enter Tryz.func83, Tryz.ntmps83
    go_wp2
    go_loopw [5, 6] (fun v i wr => ∃ k m : Nat, k ≤ n0 ∧ i = .int .i64 k ∧ v = .int .i64 (diffN x y k) ∧ wr = w.drewN m) (fun _ i _ => n0 - (intOf i).toNat)
    case atStart => exact ⟨0, 0, Nat.zero_le _, rfl, rfl, rfl⟩
    case round =>
      obtain ⟨k, m, hk, rfl, rfl, rfl⟩ := hrel
      by_cases hlt : k < n0
      · obtain ⟨b1, o1, rfl, _, p1⟩ := R0.out k (by rw [← E0.out]; exact hlt)
        obtain ⟨b2, o2, rfl, _, p2⟩ := R1.out k (by rw [← E1.out]; exact hlt)
        have hx := xor_byte (x.getD k 0) (y.getD k 0) (B0.out.at k).1 (B0.out.at k).2 (B1.out.at k).1 (B1.out.at k).2
        have hd := diffN_bd x y B0.out B1.out k
        have HT : Hid (diffN x y (k + 1) = bits .or .i64 (diffN x y k) (bits .xor .u8 (x.getD k 0) (y.getD k 0))) := (or_wide _ _ hd.1 hd.2 hx.1 hx.2).symm
        generalize diffN x y k = d at *
        generalize x.getD k 0 = z1 at *
        generalize y.getD k 0 = z2 at *
        have hwr := wrap_byte _ hx.1 hx.2
        obtain ⟨hx0, hx1⟩ := hx
        clear hd
        have kI : (k : Int) < (n0 : Int) := by omega
        go_wp2
        go_quiet (fail)
        go_wp2
        go_roundw
        case rel => exact ⟨k + 1, _, by omega, by go_num, by rw [HT.out], rfl⟩
        case measure => simp [intOf]; omega
      · obtain rfl : k = n0 := by omega
        go_wp2
        go_ret
        exact ⟨by rw [HD.out]; rfl, _, rfl⟩
  · have hne : ((n0 : Int) != (n1 : Int)) = true := by simp; omega
    have HD : Hid (diffI x y = -1) := by show _ = _; unfold diffI; rw [if_neg (by rw [← E0.out, ← E1.out]; exact hl)]
    clear hl
    go_enter Tryz.func83, Tryz.ntmps83
    go_wp2
    go_ret
    exact ⟨by rw [HD.out]; rfl, 0, rfl⟩

set_option maxRecDepth 100000 in
theorem sameI_no (x y : List Int) (h : x.length ≠ 16) : sameI x y = false := by simp [sameI, h]
set_option maxRecDepth 100000 in
theorem sameI_yes (x y : List Int) (h : x.length = 16) : sameI x y = (diffI x y == 0) := by
  simp [sameI, h, Bool.beq_eq_decide_eq]

set_option maxRecDepth 100000 in
set_option maxHeartbeats 800000 in
theorem implSameTag (a0 a1 : Option Addr) (n0 c0 n1 c1 : Nat) (x y : List Int) (w : World) (e0 : n0 = x.length) (e1 : n1 = y.length) (r0 : Rd w a0 x) (r1 : Rd w a1 y) (hb0 : Bytes x) (hb1 : Bytes y) (l0 : n0 ≤ 4194304) (l1 : n1 ≤ 4194304) :
    Calls Tryz.prog 47 #[.slice a0 n0 c0, .slice a1 n1 c1] w fun e w' => e = .returned (.bool (sameI x y)) ∧ ∃ m, w' = w.drewN m := by
  have E0 : Hid (n0 = x.length) := e0
  have E1 : Hid (n1 = y.length) := e1
  have R0 : Hid (Rd w a0 x) := r0
  have R1 : Hid (Rd w a1 y) := r1
  have B0 : Hid (Bytes x) := hb0
  have B1 : Hid (Bytes y) := hb1
  clear e0 e1 r0 r1 hb0 hb1
  by_cases h : n0 = 16
  · have HS : Hid (sameI x y = (diffI x y == 0)) := sameI_yes x y (by rw [← E0.out]; exact h)
    subst h
    go_enter Tryz.func47, Tryz.ntmps47
    go_wp2_with fail
    refine (implDiff a0 a1 16 c0 n1 c1 x y w E0.out E1.out R0.out R1.out B0.out B1.out l0 l1).mono ?_
    rintro e w1 ⟨rfl, m, rfl⟩
    generalize diffI x y = d at *
    cases hd : (d == 0)
    all_goals (go_wp2; go_ret; exact ⟨by rw [HS.out, hd]; rfl, _, rfl⟩)
  · have HS : Hid (sameI x y = false) := sameI_no x y (by rw [← E0.out]; exact h)
    have hb : ((n0 : Int) == 16) = false := by simp; omega
    clear h
    go_enter Tryz.func47, Tryz.ntmps47
    go_wp2
    go_ret
    exact ⟨by rw [HS.out]; rfl, 0, rfl⟩
set_option maxRecDepth 100000 in
set_option maxHeartbeats 800000 in
theorem specSameTag (a0 a1 : Option Addr) (n0 c0 n1 c1 : Nat) (x y : List Int) (w : World) (e0 : n0 = x.length) (e1 : n1 = y.length) (r0 : Rd w a0 x) (r1 : Rd w a1 y) (hb0 : Bytes x) (hb1 : Bytes y) (l0 : n0 ≤ 4194304) (l1 : n1 ≤ 4194304) :
    Calls Tryz.prog 58 #[.slice a0 n0 c0, .slice a1 n1 c1] w fun e w' => e = .returned (.bool (sameI x y)) ∧ ∃ m, w' = w.drewN m := by
  have E0 : Hid (n0 = x.length) := e0
  have E1 : Hid (n1 = y.length) := e1
  have R0 : Hid (Rd w a0 x) := r0
  have R1 : Hid (Rd w a1 y) := r1
  have B0 : Hid (Bytes x) := hb0
  have B1 : Hid (Bytes y) := hb1
  clear e0 e1 r0 r1 hb0 hb1
  by_cases h : n0 = 16
  · have HS : Hid (sameI x y = (diffI x y == 0)) := sameI_yes x y (by rw [← E0.out]; exact h)
    subst h
    go_enter Tryz.func58, Tryz.ntmps58
    go_wp2_with fail
    refine (specDiff a0 a1 16 c0 n1 c1 x y w E0.out E1.out R0.out R1.out B0.out B1.out l0 l1).mono ?_
    rintro e w1 ⟨rfl, m, rfl⟩
    generalize diffI x y = d at *
    cases hd : (d == 0)
    all_goals (go_wp2; go_ret; exact ⟨by rw [HS.out, hd]; rfl, _, rfl⟩)
  · have HS : Hid (sameI x y = false) := sameI_no x y (by rw [← E0.out]; exact h)
    have hb : ((n0 : Int) == 16) = false := by simp; omega
    clear h
    go_enter Tryz.func58, Tryz.ntmps58
    go_wp2
    go_ret
    exact ⟨by rw [HS.out]; rfl, 0, rfl⟩
end Go.Proofs.YtpgapjdejelajaaGreatDoor.Diffs

namespace Go.Proofs.YtpgapjdejelajaaGreatDoor.Guard
open Go.RowKit Go.Proofs.YtpgapjdejelajaaGreatDoor.Each Go.Proofs.YtpgapjdejelajaaGreatDoor.Copy

set_option maxRecDepth 100000 in
theorem wanted_eval {ops : Array Oper} {o : Oper} {a : Act} {j d : Nat} {want b : Bool} (hg : o.guard = some (j, want)) (hd : (ops[j]?).bind (·.dst) = some d) (hv : a.eval (.tmp d) = .bool b) :
    Region.wanted o (yielded ops a.tmps) = (b == want) := by
  have hv' : a.tmps.getD d undef = .bool b := hv
  have ht : a.tmps[d]? = some (.bool b) := by
    cases h : a.tmps[d]? with
    | none =>
      rw [Array.getD_eq_getD_getElem?, h] at hv'
      cases hv'
    | some v =>
      rw [Array.getD_eq_getD_getElem?, h] at hv'
      have hv2 : v = .bool b := hv'
      rw [hv2]
  have hy : yielded ops a.tmps j = some b := by
    unfold yielded
    generalize hx : (ops[j]?).bind (·.dst) = x at *
    subst hd
    simp [ht]
  unfold Region.wanted
  rw [hg]
  show (yielded ops a.tmps j == some want) = _
  rw [hy]
  cases b <;> cases want <;> rfl
set_option maxRecDepth 100000 in
theorem wanted_true {ops : Array Oper} {o : Oper} {a : Act} {j d : Nat} {want : Bool} (hg : o.guard = some (j, want)) (hd : (ops[j]?).bind (·.dst) = some d) (hv : a.eval (.tmp d) = .bool want) :
    Region.wanted o (yielded ops a.tmps) = true := by
  rw [wanted_eval hg hd hv]
  cases want <;> rfl
set_option maxRecDepth 100000 in
theorem wanted_false {ops : Array Oper} {o : Oper} {a : Act} {j d : Nat} {want b : Bool} (hg : o.guard = some (j, want)) (hd : (ops[j]?).bind (·.dst) = some d) (hv : a.eval (.tmp d) = .bool b) (hn : (b == want) = false) :
    Region.wanted o (yielded ops a.tmps) = false := by
  rw [wanted_eval hg hd hv, hn]
set_option maxRecDepth 100000 in
theorem op_wp_g {P : Program} {ops : Array Oper} {Q : Exit → Act → World → Prop} {i : Nat} {o : Oper} {K : Act → World → Prop} {a : Act} {w : World}
    (hi : ops[i]? = some o) (hw : Region.wanted o (yielded ops a.tmps) = true) (h : Oper.wp P o a w K Q) : wpOp P ops Q i K a w := by
  unfold wpOp
  rw [hi]
  simp only [hw, if_true]
  exact .inl h
set_option maxRecDepth 100000 in
theorem op_run_g {P : Program} {ops : Array Oper} {Q : Exit → Act → World → Prop} {i : Nat} {o : Oper} {K : Act → World → Prop} {a : Act} {w w' : World} {v : Value}
    (hi : ops[i]? = some o) (hw : Region.wanted o (yielded ops a.tmps) = true) (hr : (execOp a.eval o).run P w = .ok (.value v) w') (hk : K (a.put o.dst v) w') : wpOp P ops Q i K a w := by
  refine op_wp_g hi hw ?_
  unfold Oper.wp
  rw [hr]
  exact hk
set_option maxRecDepth 100000 in
theorem op_call_g {P : Program} {ops : Array Oper} {Q : Exit → Act → World → Prop} {i : Nat} {o : Oper} {K : Act → World → Prop} {a : Act} {w : World} {f : FuncId} {args : Array Value} {R : Ending → World → Prop}
    (hi : ops[i]? = some o) (hw : Region.wanted o (yielded ops a.tmps) = true) (hr : (execOp a.eval o).run P w = .ok (.enter f args) w) (hc : Calls P f args w R)
    (hk : ∀ e w', R e w' → ∃ v, e = .returned v ∧ K (a.put o.dst v) w') : wpOp P ops Q i K a w := by
  refine op_wp_g hi hw ?_
  unfold Oper.wp
  rw [hr]
  refine hc.mono ?_
  intro e w' h
  obtain ⟨v, rfl, h2⟩ := hk e w' h
  exact h2
set_option maxRecDepth 100000 in
theorem op_skip {P : Program} {ops : Array Oper} {Q : Exit → Act → World → Prop} {i : Nat} {o : Oper} {K : Act → World → Prop} {a : Act} {w : World}
    (hi : ops[i]? = some o) (hw : Region.wanted o (yielded ops a.tmps) = false) (hk : K (a.put o.dst undef) w) : wpOp P ops Q i K a w := by
  unfold wpOp
  rw [hi]
  simp only [hw]
  exact hk
end Go.Proofs.YtpgapjdejelajaaGreatDoor.Guard

namespace Go.Proofs.YtpgapjdejelajaaGreatDoor.SealI
open Go.RowKit Go.Proofs.YtpgapjdejelajaaGreatDoor.Mem Go.Proofs.YtpgapjdejelajaaGreatDoor.App Go.Proofs.YtpgapjdejelajaaGreatDoor.Blk Go.Proofs.YtpgapjdejelajaaGreatDoor.Words Go.Proofs.YtpgapjdejelajaaGreatDoor.Zone Go.Proofs.YtpgapjdejelajaaGreatDoor.Res Go.Proofs.YtpgapjdejelajaaGreatDoor.Comp Go.Proofs.YtpgapjdejelajaaGreatDoor.DiffP Go.Proofs.YtpgapjdejelajaaGreatDoor.Diffs Go.Proofs.YtpgapjdejelajaaGreatDoor.MacP Go.Proofs.YtpgapjdejelajaaGreatDoor.MacI Go.Proofs.YtpgapjdejelajaaGreatDoor.KdfP Go.Proofs.YtpgapjdejelajaaGreatDoor.StrI Go.Proofs.YtpgapjdejelajaaGreatDoor.FrZ Go.Proofs.YtpgapjdejelajaaGreatDoor.FrL Go.Proofs.YtpgapjdejelajaaGreatDoor.FrP Go.Proofs.YtpgapjdejelajaaGreatDoor.FrG Go.Proofs.YtpgapjdejelajaaGreatDoor.FrQ Go.Proofs.YtpgapjdejelajaaGreatDoor.FrQ2 Go.Proofs.YtpgapjdejelajaaGreatDoor.SlP Go.Proofs.YtpgapjdejelajaaGreatDoor.SlI Go.Proofs.YtpgapjdejelajaaGreatDoor.SlQ Go.Proofs.YtpgapjdejelajaaGreatDoor.Shp Go.Proofs.YtpgapjdejelajaaGreatDoor.Each Go.Proofs.YtpgapjdejelajaaGreatDoor.Copy Go.Proofs.YtpgapjdejelajaaGreatDoor.Ops Go.Proofs.YtpgapjdejelajaaGreatDoor.Guard

/-- A draft's slices. -/
def draftS (s p t : Sl) : FrS := ⟨⟨none, 0, 0⟩, s, ⟨none, 0, 0⟩, ⟨none, 0, 0⟩, p, t⟩
set_option maxRecDepth 100000 in
theorem draft_rd {w : World} {s p t : Sl} {l pl u : List Int} {epoch seq kind : Int} (h1 : SRd w s l) (h2 : SRd w p pl) (h3 : SRd w t u) : FrRd w (draftS s p t) (draftD l epoch seq kind pl u) :=
  ⟨nilRd w, h1, nilRd w, nilRd w, h2, h3⟩
set_option maxRecDepth 100000 in
theorem zeros_bytes (n : Nat) : Bytes (List.replicate n (0 : Int)) := fun z hz => by have := List.eq_of_mem_replicate hz; omega

set_option maxRecDepth 100000 in
theorem sown_block {w : World} {lo hi : Nat} {s : Sl} {l : List Int} (h : SOwn w lo hi s l) : s.a = none ∨ ∃ g, s.a = some ⟨g, 0, none⟩ ∧ lo ≤ g ∧ g < hi := by
  obtain ⟨_, ⟨rfl, _⟩ | ⟨g, h1, _, h3, h4, _⟩⟩ := h
  · exact .inl rfl
  · exact .inr ⟨g, h1, h3, h4⟩
set_option maxRecDepth 100000 in
theorem sown_apart {w : World} {a b c d : Nat} {s t : Sl} {l u : List Int} (h : SOwn w a b s l) (k : SOwn w c d t u) (z : b ≤ c ∨ d ≤ a) : s.a = none ∨ s.a ≠ t.a := by
  rcases sown_block h with h | ⟨g, h1, h2, h3⟩
  · exact .inl h
  · refine .inr ?_
    rcases sown_block k with k | ⟨g', k1, k2, k3⟩
    · rw [h1, k]; intro e; cases e
    · rw [h1, k1]; intro e; simp only [Option.some.injEq, Addr.mk.injEq, and_true] at e; omega
set_option maxRecDepth 100000 in
theorem draft_own {w : World} {lo hi a b c d e f : Nat} {s p t : Sl} {l u v : List Int} {epoch seq kind : Int} (h1 : SOwn w a b s l) (h2 : SOwn w c d p u) (h3 : SOwn w e f t v) (z1 : lo ≤ a ∧ b ≤ hi) (z2 : lo ≤ c ∧ d ≤ hi) (z3 : lo ≤ e ∧ f ≤ hi) (z4 : b ≤ c) (z5 : b ≤ e ∧ d ≤ e) : FrOwn w lo hi (draftS s p t) (draftD l epoch seq kind u v) :=
  ⟨SOwn.nil _ _ _, h1.mono z1.1 z1.2, SOwn.nil _ _ _, SOwn.nil _ _ _, h2.mono z2.1 z2.2, h3.mono z3.1 z3.2, by
    have q1 := sown_apart h1 h2 (.inl z4)
    have q2 := sown_apart h1 h3 (.inl z5.1)
    have q3 := sown_apart h2 h3 (.inl z5.2)
    have n1 : s.a = none ∨ s.a ≠ none := by cases s.a <;> simp
    constructor <;> first | exact .inl rfl | exact q1 | exact q2 | exact q3 | exact n1⟩

/-- What sealing answers. -/
def AnsS (D : FrD) (ok : Bool) (w : World) : Ending → World → Prop := fun e w' => ∃ S0 : FrS, e = .returned (.tuple #[frV D S0, .bool ok]) ∧ FrOwn w' w.heap.size w'.heap.size S0 D ∧ Below w.heap.size w w'
set_option maxRecDepth 100000 in
theorem own_nil (w : World) (lo hi : Nat) : FrOwn w lo hi ⟨⟨none, 0, 0⟩, ⟨none, 0, 0⟩, ⟨none, 0, 0⟩, ⟨none, 0, 0⟩, ⟨none, 0, 0⟩, ⟨none, 0, 0⟩⟩ zeroF :=
  ⟨SOwn.nil _ _ _, SOwn.nil _ _ _, SOwn.nil _ _ _, SOwn.nil _ _ _, SOwn.nil _ _ _, SOwn.nil _ _ _, ⟨.inl rfl, .inl rfl, .inl rfl, .inl rfl, .inl rfl, .inl rfl, .inl rfl, .inl rfl, .inl rfl, .inl rfl, .inl rfl, .inl rfl, .inl rfl, .inl rfl, .inl rfl⟩⟩

end Go.Proofs.YtpgapjdejelajaaGreatDoor.SealI

namespace Go.Proofs.YtpgapjdejelajaaGreatDoor.UnsI
open Go.RowKit Go.Proofs.YtpgapjdejelajaaGreatDoor.Mem Go.Proofs.YtpgapjdejelajaaGreatDoor.App Go.Proofs.YtpgapjdejelajaaGreatDoor.Blk Go.Proofs.YtpgapjdejelajaaGreatDoor.Words Go.Proofs.YtpgapjdejelajaaGreatDoor.Zone Go.Proofs.YtpgapjdejelajaaGreatDoor.Res Go.Proofs.YtpgapjdejelajaaGreatDoor.Comp Go.Proofs.YtpgapjdejelajaaGreatDoor.DiffP Go.Proofs.YtpgapjdejelajaaGreatDoor.Diffs Go.Proofs.YtpgapjdejelajaaGreatDoor.MacP Go.Proofs.YtpgapjdejelajaaGreatDoor.KdfP Go.Proofs.YtpgapjdejelajaaGreatDoor.FrZ Go.Proofs.YtpgapjdejelajaaGreatDoor.FrL Go.Proofs.YtpgapjdejelajaaGreatDoor.FrP Go.Proofs.YtpgapjdejelajaaGreatDoor.FrG Go.Proofs.YtpgapjdejelajaaGreatDoor.FrQ Go.Proofs.YtpgapjdejelajaaGreatDoor.FrQ2 Go.Proofs.YtpgapjdejelajaaGreatDoor.SlP Go.Proofs.YtpgapjdejelajaaGreatDoor.SlQ Go.Proofs.YtpgapjdejelajaaGreatDoor.Shp Go.Proofs.YtpgapjdejelajaaGreatDoor.Each Go.Proofs.YtpgapjdejelajaaGreatDoor.Copy Go.Proofs.YtpgapjdejelajaaGreatDoor.Ops Go.Proofs.YtpgapjdejelajaaGreatDoor.Guard Go.Proofs.YtpgapjdejelajaaGreatDoor.MacI Go.Proofs.YtpgapjdejelajaaGreatDoor.StrI Go.Proofs.YtpgapjdejelajaaGreatDoor.SlI Go.Proofs.YtpgapjdejelajaaGreatDoor.SealI

set_option maxRecDepth 100000 in
theorem same_dec {x y : List Int} (hx : Bytes x) (hy : Bytes y) (h : x.length = 16) : sameI x y = decide (x = y) := by
  rw [sameI_yes x y h]
  by_cases e : x = y
  · rw [decide_eq_true e, (diffI_zero x y hx hy).2 e]; rfl
  · rw [decide_eq_false e]
    have := mt (diffI_zero x y hx hy).1 e
    simpa using this
set_option maxRecDepth 100000 in
theorem sameTagV (s t : Sl) (x y : List Int) (v : Bool) (w : World) (h : SRd w s x) (k : SRd w t y) (lx : x.length ≤ 4194304) (ly : y.length ≤ 4194304) (hv : sameI x y = v) :
    Calls Tryz.prog 47 #[.slice s.a s.n s.c, .slice t.a t.n t.c] w fun e w' => e = .returned (.bool v) ∧ Below w.heap.size w w' := by
  subst hv
  refine (implSameTag s.a t.a s.n s.c t.n t.c x y w h.len k.len h.rd k.rd h.bytes k.bytes (by rw [h.len]; exact lx) (by rw [k.len]; exact ly)).mono ?_
  rintro e w' ⟨rfl, m, rfl⟩
  exact ⟨rfl, ⟨rfl, rfl, rfl, Nat.le_refl _, fun _ _ => rfl⟩⟩
set_option maxRecDepth 100000 in
theorem tagN (k t : Sl) (lk l : List Int) (w : World) (hT : Tab w) (hk : SRd w k lk) (h : SRd w t l) (h1 : lk.length ≤ 2000000) (h2 : l.length ≤ 2000000) :
    Calls Tryz.prog 35 #[.slice k.a k.n k.c, .slice t.a t.n t.c] w (AnsB (tagI lk l) w) := (implTag k.a k.n k.c t.a t.n t.c lk l w hT hk.len h.len hk.rd h.rd hk.nil h.nil hk.bytes h.bytes (by rw [hk.len]; omega) (by rw [h.len]; omega)).mono fun _ _ h' => AnsB.of (tagI_bytes _ _) h'
set_option maxRecDepth 100000 in
theorem isKeyV (a : Option Addr) (n c : Nat) (v : Bool) (w : World) (h : ((n : Int) == 32) = v) : Calls Tryz.prog 39 #[.slice a n c] w fun e w' => e = .returned (.bool v) ∧ w = w' := by
  subst h; exact isKey a n c w
/-- What opening answers. -/
def AnsBb (l : List Int) (ok : Bool) (w : World) : Ending → World → Prop := fun e w' => ∃ S0 : Sl, e = .returned (.tuple #[.slice S0.a S0.n S0.c, .bool ok]) ∧ SOwn w' w.heap.size w'.heap.size S0 l ∧ Below w.heap.size w w'
set_option maxRecDepth 100000 in
theorem ans_no {w x : World} (b : Below w.heap.size w x) : AnsBb [] false w (.returned (.tuple #[.slice (some ⟨x.heap.size, 0, none⟩) 0 0, .bool false])) (x.alloc (.cells #[] 5)) :=
  ⟨⟨some ⟨x.heap.size, 0, none⟩, 0, 0⟩, rfl, SOwn.row ⟨Nat.le_refl _, by unfold maxLen; omega, #[], heap_alloc_new x _, rfl, rfl⟩ rfl (fun z hz => by cases hz) b.size (by simp), b.alloc b.size _⟩

end Go.Proofs.YtpgapjdejelajaaGreatDoor.UnsI
