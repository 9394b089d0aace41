/-
  A region that draws its order, told by what each of its operations leaves: each operation is shown once, from what those that it waits for have left; the last one, for which all wait, from what all have left.
-/
import Derived.Test.YtadlckgaeljdkaaBlk
import Derived.Deep.RegionLaw
namespace Go.Proofs.Ytadlckgaeljdkaa.Each
open Go.RowKit

/-- A list whose places D, counted from i on, are told by t, all others as in l. -/
def frL (D : List Nat) (t : Nat → Value) : Nat → List Value → List Value
  | _, [] => []
  | i, v :: r => (if D.contains i then t i else v) :: frL D t (i + 1) r
/-- A frame whose temporaries D are told by t, all others as in a. -/
def fr (D : List Nat) (a : Act) (t : Nat → Value) : Act := { tmps := (frL D t 0 a.tmps.toList).toArray, defers := a.defers }
set_option maxRecDepth 100000 in
theorem frL_at (D : List Nat) (t : Nat → Value) (l : List Value) : ∀ i k, (frL D t i l)[k]? = (l[k]?).map (fun v => if D.contains (i + k) then t (i + k) else v) := by
  induction l with
  | nil => intro i k; simp [frL]
  | cons v r ih =>
    intro i k
    cases k with
    | zero => simp [frL]
    | succ k =>
      have := ih (i + 1) k
      rw [show i + 1 + k = i + (k + 1) by omega] at this
      simpa [frL] using this
set_option maxRecDepth 100000 in
theorem fr_eq (D : List Nat) (a : Act) (t : Nat → Value) : fr D a t = { tmps := a.tmps.mapIdx (fun i v => if D.contains i then t i else v), defers := a.defers } := by
  unfold fr
  congr 1
  apply Array.ext_getElem?
  intro k
  rw [Array.getElem?_mapIdx, List.getElem?_toArray, frL_at, Nat.zero_add, Array.getElem?_toList]
def upd (t : Nat → Value) (d : Nat) (v : Value) : Nat → Value := fun i => if i = d then v else t i
set_option maxRecDepth 100000 in
theorem upd_same (t : Nat → Value) (d : Nat) (v : Value) : upd t d v d = v := by simp [upd]
set_option maxRecDepth 100000 in
theorem upd_other (t : Nat → Value) (d : Nat) (v : Value) (i : Nat) (h : i ≠ d) : upd t d v i = t i := by simp [upd, h]
set_option maxRecDepth 100000 in
theorem fr_start (D : List Nat) (a : Act) : fr D a (fun i => a.tmps.getD i undef) = a := by
  cases a with | mk tmps defers =>
  rw [fr_eq]
  congr 1
  apply Array.ext
  · simp
  · intro i h1 h2
    simp at h1
    simp [h2]
set_option maxRecDepth 100000 in
theorem fr_put (D : List Nat) (a : Act) (t : Nat → Value) (d : Nat) (v : Value) (hd : D.contains d = true) : (fr D a t).put (some d) v = fr D a (upd t d v) := by
  rw [fr_eq, fr_eq]
  simp only [Act.put]
  congr 1
  apply Array.ext
  · simp
  · intro i h1 h2
    simp only [Array.size_setIfInBounds, Array.size_mapIdx] at h1
    rw [Array.getElem_setIfInBounds (by simpa using h1)]
    by_cases hid : d = i
    · subst hid
      simp only [if_true, Array.getElem_mapIdx, hd, upd_same]
    · simp only [hid, if_false, Array.getElem_mapIdx]
      split
      · rw [upd_other _ _ _ _ (Ne.symm hid)]
      · rfl
set_option maxRecDepth 100000 in
theorem fr_eval (D : List Nat) (a : Act) (t : Nat → Value) (d : Nat) (hd : D.contains d = true) (hl : d < a.tmps.size) : (fr D a t).eval (.tmp d) = t d := by
  have hd' : d ∈ D := by simpa using hd
  rw [fr_eq]
  simp [Act.eval, Array.getD, hl, hd']
set_option maxRecDepth 100000 in
theorem fr_eval_old (D : List Nat) (a : Act) (t : Nat → Value) (d : Nat) (hd : D.contains d = false) : (fr D a t).eval (.tmp d) = a.eval (.tmp d) := by
  have hd' : ¬ d ∈ D := by simpa using hd
  rw [fr_eq]
  by_cases hl : d < a.tmps.size
  · simp [Act.eval, Array.getD, hl, hd']
  · simp [Act.eval, Array.getD, hl]

/-- Those that operation i waits for. -/
def pre (ops : Array Oper) (i : Nat) : List Nat := match ops[i]? with
  | some o => (o.after.toList.filter (Region.binds .any)).map (·.on)
  | none => []
set_option maxRecDepth 100000 in
theorem mem_pre {ops : Array Oper} {i : Nat} {o : Oper} (h : ops[i]? = some o) {j : Nat} : j ∈ pre ops i ↔ ∃ e ∈ o.after, Region.binds .any e = true ∧ e.on = j := by
  unfold pre
  rw [h]
  simp only [List.mem_map, List.mem_filter, Array.mem_toList_iff]
  constructor
  · rintro ⟨e, ⟨h1, h2⟩, h3⟩; exact ⟨e, h1, h2, h3⟩
  · rintro ⟨e, h1, h2, h3⟩; exact ⟨e, ⟨h1, h2⟩, h3⟩

set_option maxRecDepth 100000 in
theorem pre_mem {ops : Array Oper} {i j : Nat} (h : (pre ops i).contains j = true) : j ∈ pre ops i := by simpa using h

/-- Who waits waits for one ahead; all ahead of the last are waited for; where they leave what they leave lies apart. -/
def fitB (ops : Array Oper) (last : Nat) (D : List Nat) (dst : Nat → Nat) : Bool :=
  ops.size == last + 1 &&
  (List.range (last + 1)).all (fun i => (pre ops i).all (fun j => decide (j < i))) &&
  (List.range last).all (fun j => (List.range (last + 1)).any (fun k => decide (j < k) && (pre ops k).contains j)) &&
  (List.range last).all (fun i => D.contains (dst i) && (List.range last).all (fun j => i == j || dst i != dst j))

set_option maxRecDepth 100000 in
theorem region_each {P : Program} {ops : Array Oper} {Q : Exit → Act → World → Prop} {id : Nat} {a0 : Act} {w0 : World}
    (hm : P.follows .mixedOrders = true) (D : List Nat) (last : Nat) (dst : Nat → Nat) (cls : Nat → Nat)
    (F : Nat → Nat → Value → World → Prop) (B : World → Prop) (hfit : fitB ops last D dst = true)
    (hB : B w0.drew)
    (hkeep : ∀ i g v w w', i < last → F i g v w → Below w.heap.size w w' → B w' → F i g v w')
    (hstep : ∀ i, i < last → ∀ (t : Nat → Value) (ρ : Nat → Nat) (w : World), B w → (∀ j ∈ pre ops i, F j (ρ j) (t (dst j)) w) → (∀ x y, x ∈ pre ops i → y ∈ pre ops i → cls x ≠ 0 → cls y ≠ 0 → cls x ≠ cls y → ρ x ≠ ρ y) →
      wpOp P ops Q i (fun a' w' => ∃ v g, a' = (fr D a0 t).put (some (dst i)) v ∧ B w' ∧ Below w.heap.size w w' ∧ F i g v w' ∧ (cls i = 0 ∨ g < w'.heap.size ∧ (w.heap.size ≤ g ∨ ∃ j ∈ pre ops i, cls j = cls i ∧ g = ρ j))) (fr D a0 t) w)
    (hlast : ∀ (t : Nat → Value) (ρ : Nat → Nat) (w : World), B w → (∀ j, j < last → F j (ρ j) (t (dst j)) w) →
      (∀ i j, i < last → j < last → cls i ≠ 0 → cls j ≠ 0 → cls i ≠ cls j → ρ i ≠ ρ j) →
      wpOp P ops Q last (fun a' w' => Q .normal a' w') (fr D a0 t) w) :
    (Code.region id ops true).wp P Q a0 w0 := by
  unfold fitB at hfit
  simp only [Bool.and_eq_true, beq_iff_eq, List.all_eq_true, List.mem_range, decide_eq_true_eq, List.any_eq_true, Bool.or_eq_true, bne_iff_ne, ne_eq] at hfit
  obtain ⟨⟨⟨hsz, hord⟩, hcov⟩, hdst⟩ := hfit
  have main : ∀ (fuel : Nat) (listed : Array Bool) (a : Act) (w : World), listed.size = ops.size → listed.getD last true = false → listed.toList.count false ≤ fuel →
      (∀ i, i < last + 1 → listed.getD i true = true → ∀ j ∈ pre ops i, listed.getD j true = true) →
      (∃ (t : Nat → Value) (ρ : Nat → Nat), a = fr D a0 t ∧ B w ∧ (∀ i, i < last → listed.getD i true = true → F i (ρ i) (t (dst i)) w ∧ (cls i = 0 ∨ ρ i < w.heap.size)) ∧
        (∀ i j, i < last → j < last → listed.getD i true = true → listed.getD j true = true → cls i ≠ 0 → cls j ≠ 0 → cls i ≠ cls j → ρ i ≠ ρ j)) →
      wpAny P .any ops Q fuel listed a w := by
    intro fuel
    induction fuel with
    | zero =>
      intro listed a w hls hl hc _ _
      exfalso
      have hlt : last < listed.size := by omega
      have : false ∈ listed.toList := by
        rw [Array.mem_toList_iff]
        have : listed[last] = false := by simpa [Array.getD, hlt] using hl
        rw [← this]; exact Array.getElem_mem hlt
      have := List.count_pos_iff.2 this
      omega
    | succ fuel ih =>
      intro listed a w hls hl hc hcl ⟨t, ρ, ha, hBw, hF, hne⟩
      have hop : ∀ i, i < last + 1 → ∃ o, ops[i]? = some o := fun i hi => ⟨ops[i]'(by omega), by simp⟩
      refine ⟨fun h0 => ?_, fun i hi => ?_⟩
      · exfalso
        -- the least that is not listed may come up
        have : ∃ i, i < last + 1 ∧ listed.getD i true = false ∧ ∀ j, j < i → listed.getD j true = true := by
          have aux : ∀ m, m ≤ last + 1 → (∀ j, j < m → listed.getD j true = true) ∨ ∃ i, i < m ∧ listed.getD i true = false ∧ ∀ j, j < i → listed.getD j true = true := by
            intro m
            induction m with
            | zero => intro _; exact .inl fun j hj => by omega
            | succ m ihm =>
              intro hm1
              rcases ihm (by omega) with h | ⟨i, h1, h2, h3⟩
              · cases hv : listed.getD m true with
                | false => exact .inr ⟨m, by omega, hv, h⟩
                | true =>
                  left; intro j hj
                  rcases Nat.lt_or_ge j m with h' | h'
                  · exact h j h'
                  · obtain rfl : j = m := by omega
                    exact hv
              · exact .inr ⟨i, by omega, h2, h3⟩
          rcases aux (last + 1) (Nat.le_refl _) with h | h
          · have := h last (by omega); rw [hl] at this; cases this
          · exact h
        obtain ⟨i, hi, hu, hb⟩ := this
        obtain ⟨o, ho⟩ := hop i hi
        have : i ∈ Region.ready .any ops listed := mem_ready.2 ⟨hu, o, ho, fun e he hbi => by
          have hj := hord i hi e.on ((mem_pre ho).2 ⟨e, he, hbi, rfl⟩)
          have := hb e.on hj
          have hlt : e.on < listed.size := by omega
          simpa [Array.getD, hlt] using this⟩
        rw [h0] at this; cases this
      · obtain ⟨hu, o, ho, hpre⟩ := mem_ready.1 hi
        have hil : i < last + 1 := by
          have := (Array.getElem?_eq_some_iff.1 ho).1; omega
        have hpre' : ∀ j ∈ pre ops i, listed.getD j true = true := fun j hj => by
          obtain ⟨e, he, hbi, rfl⟩ := (mem_pre ho).1 hj
          have h1 := hpre e he hbi
          have hlt : e.on < listed.size := by
            have := hord i hil e.on hj; omega
          simpa [Array.getD, hlt] using h1
        have hset : ∀ j, (listed.setIfInBounds i true).getD j true = true ↔ j = i ∨ listed.getD j true = true := fun j => by
          by_cases hji : j = i
          · subst hji
            have hlt : j < listed.size := by omega
            simp [Array.getD, hlt]
          · simp only [hji, false_or]
            rw [getD_set_ne true (Ne.symm hji)]
        by_cases hlast' : i = last
        · subst hlast'
          have hall : ∀ d j, j + d = i → j < i → listed.getD j true = true := by
            intro d
            induction d using Nat.strongRecOn with
            | ind d ihd =>
              intro j hjd hji
              obtain ⟨k, hk, hjk, hmem⟩ := hcov j hji
              have hmem' : j ∈ pre ops k := by simpa using hmem
              by_cases hki : k = i
              · subst hki; exact hpre' j hmem'
              · exact hcl k hk (ihd (i - k) (by omega) k (by omega) (by omega)) j hmem'
          have hl2 := hlast t ρ w hBw (fun j hj => (hF j hj (hall (i - j) j (by omega) hj)).1) (fun x y hx hy => hne x y hx hy (hall (i - x) x (by omega) hx) (hall (i - y) y (by omega) hy))
          rw [ha]
          refine wpOp_mono (fun a' w' hQ => wpAny_done ?_ hQ fuel) hl2
          apply List.eq_nil_iff_forall_not_mem.2
          intro k hk
          obtain ⟨hku, ok, hok, _⟩ := mem_ready.1 hk
          have hkl : k < i + 1 := by have := (Array.getElem?_eq_some_iff.1 hok).1; omega
          have : (listed.setIfInBounds i true).getD k true = true := (hset k).2 (by
            by_cases hki : k = i
            · exact .inl hki
            · exact .inr (hall (i - k) k (by omega) (by omega)))
          rw [hku] at this; cases this
        · have hilt : i < last := by omega
          have hs := hstep i hilt t ρ w hBw (fun j hj => (hF j (by have := hord i hil j hj; omega) (hpre' j hj)).1) (fun x y hx hy => hne x y (by have := hord i hil x hx; omega) (by have := hord i hil y hy; omega) (hpre' x hx) (hpre' y hy))
          rw [ha]
          refine wpOp_mono (fun a' w' h => ?_) hs
          obtain ⟨v, g, rfl, hB', hbe, hFi, hg⟩ := h
          rw [fr_put D a0 t (dst i) v (hdst i hilt).1]
          apply ih
          · simp [hls]
          · cases hx : (listed.setIfInBounds i true).getD last true with
            | false => rfl
            | true =>
              rcases (hset last).1 hx with h | h
              · exact absurd h.symm hlast'
              · rw [hl] at h; cases h
          · have hlt : i < listed.toList.length := by simp; omega
            have hfi : listed.toList[i] = false := by
              have hlt' : i < listed.size := by omega
              simpa [Array.getD, hlt'] using hu
            rw [Array.toList_setIfInBounds, List.count_set hlt, hfi]
            have : 0 < listed.toList.count false := List.count_pos_iff.2 (by rw [← hfi]; exact List.getElem_mem hlt)
            rw [if_pos (by rfl), if_neg (by decide)]
            omega
          · intro k hk hkl j hj
            rcases (hset k).1 hkl with rfl | h
            · exact (hset j).2 (.inr (hpre' j hj))
            · exact (hset j).2 (.inr (hcl k hk h j hj))
          · refine ⟨upd t (dst i) v, fun k => if k = i then g else ρ k, rfl, hB', ?_, ?_⟩
            · intro k hk hkl
              by_cases hki : k = i
              · subst hki
                simp only [if_true, upd_same]
                exact ⟨hFi, hg.imp (fun h => h) And.left⟩
              · have hdk : dst k ≠ dst i := by
                  have := (hdst k hk).2 i hilt
                  rcases this with h | h
                  · exact absurd h hki
                  · exact h
                have := hF k hk (((hset k).1 hkl).resolve_left hki)
                simp only [hki, if_false, upd_other _ _ _ _ hdk]
                exact ⟨hkeep k _ _ w w' hk this.1 hbe hB', this.2.imp (fun h => h) (fun h => Nat.lt_of_lt_of_le h hbe.size)⟩
            · intro x y hx hy hxl hyl cx cy cxy
              have key : ∀ y, y < last → y ≠ i → (listed.setIfInBounds i true).getD y true = true → cls i ≠ 0 → cls y ≠ 0 → cls i ≠ cls y → g ≠ ρ y := by
                intro y hy hyi hyl ci cy ciy
                have hyl' := ((hset y).1 hyl).resolve_left hyi
                rcases hg with h | ⟨_, h | ⟨j, hj, hcj, rfl⟩⟩
                · exact absurd h ci
                · have := (hF y hy hyl').2
                  rcases this with h' | h'
                  · exact absurd h' cy
                  · omega
                · have hjl : j < last := by have := hord i hil j hj; omega
                  exact hne j y hjl hy (hpre' j hj) hyl' (by rw [hcj]; exact ci) cy (by rw [hcj]; exact ciy)
              by_cases hxi : x = i
              · subst hxi
                have hyx : y ≠ x := fun h => cxy (by rw [h])
                simp only [if_true, hyx, if_false]
                exact key y hy hyx hyl cx cy cxy
              · by_cases hyi : y = i
                · subst hyi
                  simp only [if_true, hxi, if_false]
                  exact Ne.symm (key x hx hxi hxl cy cx (Ne.symm cxy))
                · simp only [hxi, hyi, if_false]
                  exact hne x y hx hy (((hset x).1 hxl).resolve_left hxi) (((hset y).1 hyl).resolve_left hyi) cx cy cxy
  refine wp_region_any hm ?_
  have hrep : ∀ i, i < last + 1 → (Array.replicate ops.size false).getD i true = false := fun i hi => by
    have : i < ops.size := by omega
    simp [Array.getD, this]
  refine main ops.size (Array.replicate ops.size false) a0 w0.drew (by simp) (hrep last (by omega)) (by simp) (fun i hi h => by rw [hrep i hi] at h; cases h) ?_
  exact ⟨_, fun _ => 0, (fr_start D a0).symm, hB, (fun i hi h => by rw [hrep i (by omega)] at h; cases h), (fun i j hi _ h => by rw [hrep i (by omega)] at h; cases h)⟩
end Go.Proofs.Ytadlckgaeljdkaa.Each
