/-
  A region that draws its order, told by what each of its operations leaves: each operation is shown once, from what those that it waits for have left; the last one, for which all wait, from what all have left.
  One operation of a region that draws its order: one that runs to its end; and 'append' of a slice onto an empty one without room: what was there stays as it was.
  One operation of a region that draws its order: a call of a Go function, by its contract.
  What spec's AddrOk, PutAddr, GetAddr and Near answer.
  How two lists of bytes differ, as a plain function.
  What the laws' own 'at' and 'bent' hand back: a byte's number; a copy in new memory, of which one byte is turned.
-/
import Derived.Test.YtpgapjdejelajaaGreatDoorVaGr3
import Derived.Deep.RegionLaw
import Derived.Deep.RegionLawGrows
import Derived.Laws.AppendOwnNone
import Derived.Deep.CutBlock
import Derived.Test.YtpgapjdejelajaaGreatDoorVaGr2
import Derived.Test.YtpgapjdejelajaaGreatDoorVaGr1
import Derived.Laws.BitsAllLaws
import Derived.Deep.RegionWith
set_option linter.unusedVariables false
set_option maxRecDepth 100000
namespace Go.Proofs.YtpgapjdejelajaaGreatDoor.Each
open Go.RowKit

def frL (D : List Nat) (t : Nat → Value) : Nat → List Value → List Value
 | _, [] => []
 | i, v :: r => (if D.contains i then t i else v) :: frL D t (i + 1) r
def fr (D : List Nat) (a : Act) (t : Nat → Value) : Act := { tmps := (frL D t 0 a.tmps.toList).toArray, defers := a.defers }
theorem frL_at (D : List Nat) (t : Nat → Value) (l : List Value) : ∀ i k, (frL D t i l)[k]? = (l[k]?).map (fun v => if D.contains (i + k) then t (i + k) else v) := by
 induction l with
 | nil => intro i k; simp [frL]
 | cons v r ih =>
  intro i k
  cases k with
  | zero => simp [frL]
  | succ k =>
   have := ih (i + 1) k
   rw [show i + 1 + k = i + (k + 1) by omega] at this
   simpa [frL] using this
theorem fr_eq (D : List Nat) (a : Act) (t : Nat → Value) : fr D a t = { tmps := a.tmps.mapIdx (fun i v => if D.contains i then t i else v), defers := a.defers } := by
 unfold fr
 congr 1
 apply Array.ext_getElem?
 intro k
 rw [Array.getElem?_mapIdx, List.getElem?_toArray, frL_at, Nat.zero_add, Array.getElem?_toList]
def upd (t : Nat → Value) (d : Nat) (v : Value) : Nat → Value := fun i => if i = d then v else t i
theorem upd_same (t : Nat → Value) (d : Nat) (v : Value) : upd t d v d = v := by simp [upd]
theorem upd_other (t : Nat → Value) (d : Nat) (v : Value) (i : Nat) (h : i ≠ d) : upd t d v i = t i := by simp [upd, h]
theorem fr_start (D : List Nat) (a : Act) : fr D a (fun i => a.tmps.getD i undef) = a := by
 cases a with | mk tmps defers =>
 rw [fr_eq]
 congr 1
 apply Array.ext
 ·
  simp
 ·
  intro i h1 h2
  simp at h1
  simp [h2]
theorem fr_put (D : List Nat) (a : Act) (t : Nat → Value) (d : Nat) (v : Value) (hd : D.contains d = true) : (fr D a t).put (some d) v = fr D a (upd t d v) := by
 rw [fr_eq, fr_eq]
 simp only [Act.put]
 congr 1
 apply Array.ext
 ·
  simp
 ·
  intro i h1 h2
  simp only [Array.size_setIfInBounds, Array.size_mapIdx] at h1
  rw [Array.getElem_setIfInBounds (by simpa using h1)]
  by_cases hid : d = i
  ·
   subst hid
   simp only [if_true, Array.getElem_mapIdx, hd, upd_same]
  ·
   simp only [hid, if_false, Array.getElem_mapIdx]
   split
   ·
    rw [upd_other _ _ _ _ (Ne.symm hid)]
   ·
    rfl
theorem fr_eval (D : List Nat) (a : Act) (t : Nat → Value) (d : Nat) (hd : D.contains d = true) (hl : d < a.tmps.size) : (fr D a t).eval (.tmp d) = t d := by
 have hd' : d ∈ D := by simpa using hd
 rw [fr_eq]
 simp [Act.eval, Array.getD, hl, hd']
theorem fr_eval_old (D : List Nat) (a : Act) (t : Nat → Value) (d : Nat) (hd : D.contains d = false) : (fr D a t).eval (.tmp d) = a.eval (.tmp d) := by
 have hd' : ¬ d ∈ D := by simpa using hd
 rw [fr_eq]
 by_cases hl : d < a.tmps.size
 ·
  simp [Act.eval, Array.getD, hl, hd']
 ·
  simp [Act.eval, Array.getD, hl]

def pre (ops : Array Oper) (i : Nat) : List Nat := match ops[i]? with
 | some o => (o.after.toList.filter (Region.binds .any)).map (·.on)
 | none => []
theorem mem_pre {ops : Array Oper} {i : Nat} {o : Oper} (h : ops[i]? = some o) {j : Nat} : j ∈ pre ops i ↔ ∃ e ∈ o.after, Region.binds .any e = true ∧ e.on = j := by
 unfold pre
 rw [h]
 simp only [List.mem_map, List.mem_filter, Array.mem_toList_iff]
 constructor
 ·
  rintro ⟨e, ⟨h1, h2⟩, h3⟩; exact ⟨e, h1, h2, h3⟩
 ·
  rintro ⟨e, h1, h2, h3⟩; exact ⟨e, ⟨h1, h2⟩, h3⟩

theorem pre_mem {ops : Array Oper} {i j : Nat} (h : (pre ops i).contains j = true) : j ∈ pre ops i := by simpa using h

def fitB (ops : Array Oper) (last : Nat) (D : List Nat) (dst : Nat → Nat) : Bool :=
 ops.size == last + 1 &&
 (List.range (last + 1)).all (fun i => (pre ops i).all (fun j => decide (j < i))) &&
 (List.range last).all (fun j => (List.range (last + 1)).any (fun k => decide (j < k) && (pre ops k).contains j)) &&
 (List.range last).all (fun i => D.contains (dst i) && (List.range last).all (fun j => i == j || dst i != dst j))

theorem region_each {P : Program} {ops : Array Oper} {Q : Exit → Act → World → Prop} {id : Nat} {a0 : Act} {w0 : World}
  (hm : P.follows .mixedOrders = true) (D : List Nat) (last : Nat) (dst : Nat → Nat) (cls : Nat → Nat)
  (F : Nat → Nat → Value → World → Prop) (B : World → Prop) (hfit : fitB ops last D dst = true)
  (hB : B w0.drew)
  (hkeep : ∀ i g v w w', i < last → F i g v w → Below w.heap.size w w' → B w' → F i g v w')
  (hstep : ∀ i, i < last → ∀ (t : Nat → Value) (ρ : Nat → Nat) (w : World), B w → (∀ j ∈ pre ops i, F j (ρ j) (t (dst j)) w) → (∀ x y, x ∈ pre ops i → y ∈ pre ops i → cls x ≠ 0 → cls y ≠ 0 → cls x ≠ cls y → ρ x ≠ ρ y) →
   wpOp P ops Q i (fun a' w' => ∃ v g, a' = (fr D a0 t).put (some (dst i)) v ∧ B w' ∧ Below w.heap.size w w' ∧ F i g v w' ∧ (cls i = 0 ∨ g < w'.heap.size ∧ (w.heap.size ≤ g ∨ ∃ j ∈ pre ops i, cls j = cls i ∧ g = ρ j))) (fr D a0 t) w)
  (hlast : ∀ (t : Nat → Value) (ρ : Nat → Nat) (w : World), B w → (∀ j, j < last → F j (ρ j) (t (dst j)) w) →
   (∀ i j, i < last → j < last → cls i ≠ 0 → cls j ≠ 0 → cls i ≠ cls j → ρ i ≠ ρ j) →
   wpOp P ops Q last (fun a' w' => Q .normal a' w') (fr D a0 t) w) :
  (Code.region id ops true).wp P Q a0 w0 := by
 unfold fitB at hfit
 simp only [Bool.and_eq_true, beq_iff_eq, List.all_eq_true, List.mem_range, decide_eq_true_eq, List.any_eq_true, Bool.or_eq_true, bne_iff_ne, ne_eq] at hfit
 obtain ⟨⟨⟨hsz, hord⟩, hcov⟩, hdst⟩ := hfit
 have main : ∀ (fuel : Nat) (listed : Array Bool) (a : Act) (w : World), listed.size = ops.size → listed.getD last true = false → listed.toList.count false ≤ fuel →
   (∀ i, i < last + 1 → listed.getD i true = true → ∀ j ∈ pre ops i, listed.getD j true = true) →
   (∃ (t : Nat → Value) (ρ : Nat → Nat), a = fr D a0 t ∧ B w ∧ (∀ i, i < last → listed.getD i true = true → F i (ρ i) (t (dst i)) w ∧ (cls i = 0 ∨ ρ i < w.heap.size)) ∧
    (∀ i j, i < last → j < last → listed.getD i true = true → listed.getD j true = true → cls i ≠ 0 → cls j ≠ 0 → cls i ≠ cls j → ρ i ≠ ρ j)) →
   wpAny P .any ops Q fuel listed a w := by
  intro fuel
  induction fuel with
  | zero =>
   intro listed a w hls hl hc _ _
   exfalso
   have hlt : last < listed.size := by omega
   have : false ∈ listed.toList := by
    rw [Array.mem_toList_iff]
    have : listed[last] = false := by simpa [Array.getD, hlt] using hl
    rw [← this]; exact Array.getElem_mem hlt
   have := List.count_pos_iff.2 this
   omega
  | succ fuel ih =>
   intro listed a w hls hl hc hcl ⟨t, ρ, ha, hBw, hF, hne⟩
   have hop : ∀ i, i < last + 1 → ∃ o, ops[i]? = some o := fun i hi => ⟨ops[i]'(by omega), by simp⟩
   refine ⟨fun h0 => ?_, fun i hi => ?_⟩
   ·
    exfalso
    -- the least that is not listed may come up
    have : ∃ i, i < last + 1 ∧ listed.getD i true = false ∧ ∀ j, j < i → listed.getD j true = true := by
     have aux : ∀ m, m ≤ last + 1 → (∀ j, j < m → listed.getD j true = true) ∨ ∃ i, i < m ∧ listed.getD i true = false ∧ ∀ j, j < i → listed.getD j true = true := by
      intro m
      induction m with
      | zero => intro _; exact .inl fun j hj => by omega
      | succ m ihm =>
       intro hm1
       rcases ihm (by omega) with h | ⟨i, h1, h2, h3⟩
       ·
        cases hv : listed.getD m true with
        | false => exact .inr ⟨m, by omega, hv, h⟩
        | true =>
         left; intro j hj
         rcases Nat.lt_or_ge j m with h' | h'
         ·
          exact h j h'
         ·
          obtain rfl : j = m := by omega
          exact hv
       ·
        exact .inr ⟨i, by omega, h2, h3⟩
     rcases aux (last + 1) (Nat.le_refl _) with h | h
     ·
      have := h last (by omega); rw [hl] at this; cases this
     ·
      exact h
    obtain ⟨i, hi, hu, hb⟩ := this
    obtain ⟨o, ho⟩ := hop i hi
    have : i ∈ Region.ready .any ops listed := mem_ready.2 ⟨hu, o, ho, fun e he hbi => by
     have hj := hord i hi e.on ((mem_pre ho).2 ⟨e, he, hbi, rfl⟩)
     have := hb e.on hj
     have hlt : e.on < listed.size := by omega
     simpa [Array.getD, hlt] using this⟩
    rw [h0] at this; cases this
   ·
    obtain ⟨hu, o, ho, hpre⟩ := mem_ready.1 hi
    have hil : i < last + 1 := by
     have := (Array.getElem?_eq_some_iff.1 ho).1; omega
    have hpre' : ∀ j ∈ pre ops i, listed.getD j true = true := fun j hj => by
     obtain ⟨e, he, hbi, rfl⟩ := (mem_pre ho).1 hj
     have h1 := hpre e he hbi
     have hlt : e.on < listed.size := by
      have := hord i hil e.on hj; omega
     simpa [Array.getD, hlt] using h1
    have hset : ∀ j, (listed.setIfInBounds i true).getD j true = true ↔ j = i ∨ listed.getD j true = true := fun j => by
     by_cases hji : j = i
     ·
      subst hji
      have hlt : j < listed.size := by omega
      simp [Array.getD, hlt]
     ·
      simp only [hji, false_or]
      rw [getD_set_ne true (Ne.symm hji)]
    by_cases hlast' : i = last
    ·
     subst hlast'
     have hall : ∀ d j, j + d = i → j < i → listed.getD j true = true := by
      intro d
      induction d using Nat.strongRecOn with
      | ind d ihd =>
       intro j hjd hji
       obtain ⟨k, hk, hjk, hmem⟩ := hcov j hji
       have hmem' : j ∈ pre ops k := by simpa using hmem
       by_cases hki : k = i
       ·
        subst hki; exact hpre' j hmem'
       ·
        exact hcl k hk (ihd (i - k) (by omega) k (by omega) (by omega)) j hmem'
     have hl2 := hlast t ρ w hBw (fun j hj => (hF j hj (hall (i - j) j (by omega) hj)).1) (fun x y hx hy => hne x y hx hy (hall (i - x) x (by omega) hx) (hall (i - y) y (by omega) hy))
     rw [ha]
     refine wpOp_mono (fun a' w' hQ => wpAny_done ?_ hQ fuel) hl2
     apply List.eq_nil_iff_forall_not_mem.2
     intro k hk
     obtain ⟨hku, ok, hok, _⟩ := mem_ready.1 hk
     have hkl : k < i + 1 := by have := (Array.getElem?_eq_some_iff.1 hok).1; omega
     have : (listed.setIfInBounds i true).getD k true = true := (hset k).2 (by
      by_cases hki : k = i
      ·
       exact .inl hki
      ·
       exact .inr (hall (i - k) k (by omega) (by omega)))
     rw [hku] at this; cases this
    ·
     have hilt : i < last := by omega
     have hs := hstep i hilt t ρ w hBw (fun j hj => (hF j (by have := hord i hil j hj; omega) (hpre' j hj)).1) (fun x y hx hy => hne x y (by have := hord i hil x hx; omega) (by have := hord i hil y hy; omega) (hpre' x hx) (hpre' y hy))
     rw [ha]
     refine wpOp_mono (fun a' w' h => ?_) hs
     obtain ⟨v, g, rfl, hB', hbe, hFi, hg⟩ := h
     rw [fr_put D a0 t (dst i) v (hdst i hilt).1]
     apply ih
     ·
      simp [hls]
     ·
      cases hx : (listed.setIfInBounds i true).getD last true with
      | false => rfl
      | true =>
       rcases (hset last).1 hx with h | h
       ·
        exact absurd h.symm hlast'
       ·
        rw [hl] at h; cases h
     ·
      have hlt : i < listed.toList.length := by simp; omega
      have hfi : listed.toList[i] = false := by
       have hlt' : i < listed.size := by omega
       simpa [Array.getD, hlt'] using hu
      rw [Array.toList_setIfInBounds, List.count_set hlt, hfi]
      have : 0 < listed.toList.count false := List.count_pos_iff.2 (by rw [← hfi]; exact List.getElem_mem hlt)
      rw [if_pos (by rfl), if_neg (by decide)]
      omega
     ·
      intro k hk hkl j hj
      rcases (hset k).1 hkl with rfl | h
      ·
       exact (hset j).2 (.inr (hpre' j hj))
      ·
       exact (hset j).2 (.inr (hcl k hk h j hj))
     ·
      refine ⟨upd t (dst i) v, fun k => if k = i then g else ρ k, rfl, hB', ?_, ?_⟩
      ·
       intro k hk hkl
       by_cases hki : k = i
       ·
        subst hki
        simp only [if_true, upd_same]
        exact ⟨hFi, hg.imp (fun h => h) And.left⟩
       ·
        have hdk : dst k ≠ dst i := by
         have := (hdst k hk).2 i hilt
         rcases this with h | h
         ·
          exact absurd h hki
         ·
          exact h
        have := hF k hk (((hset k).1 hkl).resolve_left hki)
        simp only [hki, if_false, upd_other _ _ _ _ hdk]
        exact ⟨hkeep k _ _ w w' hk this.1 hbe hB', this.2.imp (fun h => h) (fun h => Nat.lt_of_lt_of_le h hbe.size)⟩
      ·
       intro x y hx hy hxl hyl cx cy cxy
       have key : ∀ y, y < last → y ≠ i → (listed.setIfInBounds i true).getD y true = true → cls i ≠ 0 → cls y ≠ 0 → cls i ≠ cls y → g ≠ ρ y := by
        intro y hy hyi hyl ci cy ciy
        have hyl' := ((hset y).1 hyl).resolve_left hyi
        rcases hg with h | ⟨_, h | ⟨j, hj, hcj, rfl⟩⟩
        ·
         exact absurd h ci
        ·
         have := (hF y hy hyl').2
         rcases this with h' | h'
         ·
          exact absurd h' cy
         ·
          omega
        ·
         have hjl : j < last := by have := hord i hil j hj; omega
         exact hne j y hjl hy (hpre' j hj) hyl' (by rw [hcj]; exact ci) cy (by rw [hcj]; exact ciy)
       by_cases hxi : x = i
       ·
        subst hxi
        have hyx : y ≠ x := fun h => cxy (by rw [h])
        simp only [if_true, hyx, if_false]
        exact key y hy hyx hyl cx cy cxy
       ·
        by_cases hyi : y = i
        ·
         subst hyi
         simp only [if_true, hxi, if_false]
         exact Ne.symm (key x hx hxi hxl cy cx (Ne.symm cxy))
        ·
         simp only [hxi, hyi, if_false]
         exact hne x y hx hy (((hset x).1 hxl).resolve_left hxi) (((hset y).1 hyl).resolve_left hyi) cx cy cxy
 refine wp_region_any hm ?_
 have hrep : ∀ i, i < last + 1 → (Array.replicate ops.size false).getD i true = false := fun i hi => by
  have : i < ops.size := by omega
  simp [Array.getD, this]
 refine main ops.size (Array.replicate ops.size false) a0 w0.drew (by simp) (hrep last (by omega)) (by simp) (fun i hi h => by rw [hrep i hi] at h; cases h) ?_
 exact ⟨_, fun _ => 0, (fr_start D a0).symm, hB, (fun i hi h => by rw [hrep i (by omega)] at h; cases h), (fun i j hi _ h => by rw [hrep i (by omega)] at h; cases h)⟩
end Go.Proofs.YtpgapjdejelajaaGreatDoor.Each

namespace Go.Proofs.YtpgapjdejelajaaGreatDoor.Copy
open Go.RowKit Mem MemI App Blk Each

set_option maxHeartbeats 400000 in
theorem op_wp {P : Program} {ops : Array Oper} {Q : Exit → Act → World → Prop} {i : Nat} {o : Oper} {K : Act → World → Prop} {a : Act} {w : World}
  (hi : ops[i]? = some o) (hg : o.guard = none) (h : Oper.wp P o a w K Q) : wpOp P ops Q i K a w := by
 unfold wpOp
 rw [hi]
 have hw : Region.wanted o (yielded ops a.tmps) = true := by simp [Region.wanted, hg]
 simp only [hw, if_true]
 exact .inl h
set_option maxHeartbeats 400000 in
theorem op_run {P : Program} {ops : Array Oper} {Q : Exit → Act → World → Prop} {i : Nat} {o : Oper} {K : Act → World → Prop} {a : Act} {w w' : World} {v : Value}
  (hi : ops[i]? = some o) (hg : o.guard = none) (hr : (execOp a.eval o).run P w = .ok (.value v) w') (hk : K (a.put o.dst v) w') : wpOp P ops Q i K a w := by
 refine op_wp hi hg ?_
 unfold Oper.wp
 rw [hr]
 exact hk

end Go.Proofs.YtpgapjdejelajaaGreatDoor.Copy

namespace Go.Proofs.YtpgapjdejelajaaGreatDoor.Ops
open Go.RowKit Mem App Blk Each Copy

theorem op_call {P : Program} {ops : Array Oper} {Q : Exit → Act → World → Prop} {i : Nat} {o : Oper} {K : Act → World → Prop} {a : Act} {w : World} {f : FuncId} {args : Array Value} {R : Ending → World → Prop}
  (hi : ops[i]? = some o) (hg : o.guard = none) (hr : (execOp a.eval o).run P w = .ok (.enter f args) w) (hc : Calls P f args w R)
  (hk : ∀ e w', R e w' → ∃ v, e = .returned v ∧ K (a.put o.dst v) w') : wpOp P ops Q i K a w := by
 refine op_wp hi hg ?_
 unfold Oper.wp
 rw [hr]
 refine hc.mono ?_
 intro e w' h
 obtain ⟨v, rfl, h2⟩ := hk e w' h
 exact h2
end Go.Proofs.YtpgapjdejelajaaGreatDoor.Ops

namespace Go.Proofs.YtpgapjdejelajaaGreatDoor.AddrS
open Go.RowKit Mem App Get Blk Words AddrP Res Each Copy Ops

def addrV (h p : Int) : Value := .agg #[.int .i64 h, .int .i64 p]

theorem specAddrOk (h p : Int) (w : World) :
  Calls Tryz.prog 56 #[addrV h p] w fun e w' => e = .returned (.bool (addrOk h p)) ∧ Below w.heap.size w w' := by
 have KB : Hid (Below w.heap.size w (w.alloc (.cells #[.int .i64 h, .int .i64 p] 27))) := (Below.refl _ _).alloc (Nat.le_refl _) _
 have K : Hid (Blk (w.alloc (.cells #[.int .i64 h, .int .i64 p] 27)) w.heap.size 27 [.int .i64 h, .int .i64 p]) := Blk.new w _ _
 have E : Hid (addrOk h p = (isIn h 0 4294967295 && isIn p 0 65535)) := by
  show _ = _
  unfold addrOk isIn
  rw [← Bool.decide_and]
  apply decide_eq_decide.2
  omega
 unfold addrV
 cases h1 : isIn h 0 4294967295 with
 | true =>
  go_enter Tryz.func56, Tryz.ntmps56
  go_wp2_with fail
  refine (l1In _ _ _ _).mono ?_
  rintro e w1 ⟨rfl, rfl⟩
  rw [h1]
  go_wp2_with fail
  refine (l1In _ _ _ _).mono ?_
  rintro e w1 ⟨rfl, rfl⟩
  go_wp2
  go_ret
  exact ⟨by rw [E.out, h1]; simp, KB.out⟩
 | false =>
  go_enter Tryz.func56, Tryz.ntmps56
  go_wp2_with fail
  refine (l1In _ _ _ _).mono ?_
  rintro e w1 ⟨rfl, rfl⟩
  rw [h1]
  go_wp2
  go_ret
  exact ⟨by rw [E.out, h1]; simp, KB.out⟩

def putA (l : List Int) (h p : Int) : List Int := if addrOk h p = true then l ++ num h 4 ++ num p 2 else l

theorem aggA : aggB Tryz.prog 27 2 = true := by kernel_rfl
theorem ret_addr {fn : Func} {p : Tmp} {a : Act} {w : World} {g : Nat} {h q : Int} {R : Ending → World → Prop} (hf : fn.results = #[.cell p 27]) (hp : a.tmps.getD p undef = .pointer (some ⟨g, 0, none⟩)) (hg : Blk w g 27 [.int .i64 h, .int .i64 q]) (hd : a.defers = []) (hR : R (.returned (addrV h q)) w) : bodyPost Tryz.prog fn R .ret a w :=
 bodyPost_ret (v := addrV h q) (res1 hf (is_cell hp hg aggA)) hd hR

set_option maxHeartbeats 800000 in
theorem specNear (i : Int) (w : World) :
  Calls Tryz.prog 86 #[.int .i64 i] w fun e w' => e = .returned (if 0 ≤ i ∧ i ≤ 255 then addrV (167772160 + i) (7000 + i) else addrV 0 0) ∧ Below w.heap.size w w' := by
 by_cases h : 0 ≤ i ∧ i ≤ 255
 ·
  have hi : isIn i 0 255 = true := isIn_yes h
  rw [if_pos h]
  have w1 : IntKind.i64.wrap (167772160 + i) = 167772160 + i := by rw [IntKind.wrap_i64]; omega
  have w2 : IntKind.i64.wrap (7000 + i) = 7000 + i := by rw [IntKind.wrap_i64]; omega
  go_enter Tryz.func86, Tryz.ntmps86
  go_wp2_with fail
  refine (l1In _ _ _ _).mono ?_
  rintro e w1 ⟨rfl, rfl⟩
  rw [hi]
  go_wp2
  exact ret_addr rfl rfl (Blk.new w _ [_, _]) rfl ⟨rfl, (Below.refl _ _).alloc (Nat.le_refl _) _⟩
 ·
  have hi : isIn i 0 255 = false := isIn_no h
  rw [if_neg h]
  go_enter Tryz.func86, Tryz.ntmps86
  go_wp2_with fail
  refine (l1In _ _ _ _).mono ?_
  rintro e w1 ⟨rfl, rfl⟩
  rw [hi]
  go_wp2
  exact ret_addr rfl rfl (Blk.new w _ [_, _]) rfl ⟨rfl, (Below.refl _ _).alloc (Nat.le_refl _) _⟩

abbrev DL1 : List Nat := [11, 12, 13, 14, 15, 16, 17]
set_option maxHeartbeats 1600000 in
theorem specPutAddr (a : Option Addr) (n c : Nat) (l : List Int) (h p : Int) (w : World) (en : n = l.length) (hr : Rd w a l) (na : a = none → c = 0) (ll : n ≤ 2000000) :
  Calls Tryz.prog 69 #[.slice a n c, addrV h p] w fun e w' =>
   ∃ g m c', e = .returned (.slice (some ⟨g, 0, none⟩) m c') ∧ m = (putA l h p).length ∧ w.heap.size ≤ g ∧ Row w' g c' (putA l h p) ∧ Below w.heap.size w w' := by
 have EN : Hid (n = l.length) := en
 have HR := hid (hr)
 obtain ⟨w0, hw0⟩ : ∃ w0, w.alloc (.cells #[.int .i64 h, .int .i64 p] 27) = w0 := ⟨_, rfl⟩
 have HW0 := hid (hw0)
 have B0 : Hid (Below w.heap.size w w0) := by rw [← hw0]; exact (Below.refl _ _).alloc (Nat.le_refl _) _
 have K0 : Hid (Blk w0 w.heap.size 27 [.int .i64 h, .int .i64 p]) := by rw [← hw0]; exact Blk.new w _ _
 have o0 := K0.out.cell 0 rfl
 have o1 := K0.out.cell 1 rfl
 clear en hr hw0
 unfold addrV
 go_enter Tryz.func69, Tryz.ntmps69
 go_wp2_with fail
 rw [HW0.out]
 refine (specAddrOk h p w0).mono ?_
 rintro e w1 ⟨rfl, b1⟩
 have B1 := hid (B0.out.trans (b1.mono B0.out.size))
 have K1 := hid (K0.out.later b1)
 clear b1 o0 o1
 cases hk : addrOk h p with
 | false =>
  have HP : Hid (putA l h p = l) := by show _ = _; unfold putA; rw [if_neg (by rw [hk]; simp)]
  have A2 : Hid (Below w.heap.size w (w1.alloc (.cells #[] 5))) := B1.out.alloc B1.out.size _
  have R2 : Hid (Row (w1.alloc (.cells #[] 5)) w1.heap.size 0 []) := row_new w1 [] (by simp)
  go_wp2_with (at_builtin; refine wpList_app _ rfl (.tmp 8) (.tmp 9) rfl w.heap.size w1.heap.size 0 0 [] l rfl rfl R2.out B1.out.size a n c rfl EN.out (HR.out.later A2.out (Nat.le_refl _)) na (by rw [← EN.out, List.length_nil]; omega) ?_; intro g3 c3 w3 r3 k3 l3 gr3; have R3 : Hid (Row w3 g3 c3 l) := (List.nil_append l) ▸ r3; have G3 : Hid (w.heap.size ≤ g3) := k3; have B3 : Hid (Below w.heap.size w w3) := A2.out.grown gr3 A2.out.size (fun k h => by cases h; exact B1.out.size); clear r3 k3 l3 gr3)
  go_ret
  exact ⟨g3, n, c3, by simp, by rw [HP.out]; exact EN.out, G3.out, by rw [HP.out]; exact R3.out, B3.out⟩
 | true =>
  have HP : Hid (putA l h p = l ++ putN h 4 ++ putN p 2) := by show _ = _; unfold putA; rw [if_pos hk]; rfl
  go_upto_region 3 with fail
  go_cut [4] from 11 to 17 (fun s4 wx => ∃ g m c', s4 = .slice (some ⟨g, 0, none⟩) m c' ∧ m = (l ++ putN h 4 ++ putN p 2).length ∧ Row wx g c' (l ++ putN h 4 ++ putN p 2) ∧ w1.heap.size ≤ g ∧ Below w1.heap.size w1 wx)
  case first =>
   rename_i J K' hRJ hMet
   generalize hA : Act.mk _ _ = A
   have a0' : A.eval (.tmp 0) = .slice a n c := by rw [← hA]; rfl
   have a3' : A.eval (.tmp 3) = .pointer (some ⟨w.heap.size, 0, none⟩) := by rw [← hA]; rfl
   have asz : A.tmps.size = 18 := by rw [← hA]; rfl
   have hK : ∀ wx, Below w1.heap.size w1 wx → Blk wx w.heap.size 27 [.int .i64 h, .int .i64 p] := fun wx hb => K1.out.later hb
   have hRl : ∀ wx, Below w1.heap.size w1 wx → Rd wx a l := fun wx hb => HR.out.later (B1.out.trans (hb.mono B1.out.size)) (Nat.le_refl _)
   refine region_each (by kernel_rfl) DL1 7 (fun i => DL1.getD i 0) (fun _ => 0)
    (fun i g v wx => match i with
     | 0 => v = .slice a n c
     | 1 => v = .pointer (some ⟨w.heap.size, 0, none⟩)
     | 2 => v = .int .i64 h
     | 3 => ∃ m c, v = .slice (some ⟨g, 0, none⟩) m c ∧ m = (l ++ putN h 4).length ∧ Row wx g c (l ++ putN h 4)
     | 4 => v = .pointer (some ⟨w.heap.size, 1, none⟩)
     | 5 => v = .int .i64 p
     | 6 => ∃ m c, v = .slice (some ⟨g, 0, none⟩) m c ∧ m = (l ++ putN h 4 ++ putN p 2).length ∧ Row wx g c (l ++ putN h 4 ++ putN p 2) ∧ w1.heap.size ≤ g
     | _ => False) (fun wx => Below w1.heap.size w1 wx) (by kernel_rfl) (Below.refl _ _).drew ?_ ?_ ?_
   ·
    intro i g v wx wy hi hF hb _
    match i, hi with
    | 0, _ => exact hF
    | 1, _ => exact hF
    | 2, _ => exact hF
    | 3, _ => obtain ⟨m, c, h0, h1, h2⟩ := hF; exact ⟨m, c, h0, h1, h2.later hb⟩
    | 4, _ => exact hF
    | 5, _ => exact hF
    | 6, _ => obtain ⟨m, c, h0, h1, h2, h3⟩ := hF; exact ⟨m, c, h0, h1, h2.later hb, h3⟩
   ·
    intro i hi t ρ wx hB hp hd
    match i, hi with
    | 0, _ =>
     have e0 : (fr DL1 A t).eval (.tmp 0) = .slice a n c := (fr_eval_old _ _ _ 0 rfl).trans a0'
     refine op_run (v := .slice a n c) (w' := wx) rfl rfl ?_ ?_
     ·
      clear hp hd; have ec : ∀ v, (fr DL1 A t).eval (.const v) = v := fun _ => rfl; generalize (fr DL1 A t).eval = ev at ec e0 ⊢; go_simp
     ·
      exact ⟨_, 0, rfl, hB, Below.refl _ _, rfl, .inl rfl⟩
    | 1, _ =>
     have e3 : (fr DL1 A t).eval (.tmp 3) = .pointer (some ⟨w.heap.size, 0, none⟩) := (fr_eval_old _ _ _ 3 rfl).trans a3'
     refine op_run (v := .pointer (some ⟨w.heap.size, 0, none⟩)) (w' := wx) rfl rfl ?_ ?_
     ·
      clear hp hd; have ec : ∀ v, (fr DL1 A t).eval (.const v) = v := fun _ => rfl; generalize (fr DL1 A t).eval = ev at ec e3 ⊢; go_simp
     ·
      exact ⟨_, 0, rfl, hB, Below.refl _ _, rfl, .inl rfl⟩
    | 2, _ =>
     have e12 : (fr DL1 A t).eval (.tmp 12) = .pointer (some ⟨w.heap.size, 0, none⟩) := (fr_eval _ _ _ 12 rfl (by rw [asz]; decide)).trans (hp 1 (pre_mem (by kernel_rfl)))
     have hc := (hK wx hB).cell 0 rfl
     refine op_run (v := .int .i64 h) (w' := wx) rfl rfl ?_ ?_
     ·
      clear hp hd; have ec : ∀ v, (fr DL1 A t).eval (.const v) = v := fun _ => rfl; generalize (fr DL1 A t).eval = ev at ec e12 ⊢; go_simp
     ·
      exact ⟨_, 0, rfl, hB, Below.refl _ _, rfl, .inl rfl⟩
    | 3, _ =>
     have e11 : (fr DL1 A t).eval (.tmp 11) = .slice a n c := (fr_eval _ _ _ 11 rfl (by rw [asz]; decide)).trans (hp 0 (pre_mem (by kernel_rfl)))
     have e13 : (fr DL1 A t).eval (.tmp 13) = .int .i64 h := (fr_eval _ _ _ 13 rfl (by rw [asz]; decide)).trans (hp 2 (pre_mem (by kernel_rfl)))
     refine op_call (f := 70) (args := #[.slice a n c, .int .i64 h, .int .i64 4]) rfl rfl ?_ (specPutN a n c l h 4 wx EN.out (hRl wx hB) na (by rw [← EN.out]; omega)) ?_
     ·
      have ef : (fr DL1 A t).eval (.func 70) = .func (.func 70) #[] #[] := rfl; clear hp hd; have ec : ∀ v, (fr DL1 A t).eval (.const v) = v := fun _ => rfl; generalize (fr DL1 A t).eval = ev at ec e11 e13 ef ⊢; go_simp
     ·
      rintro e wy ⟨g2, m2, c2, rfl, e2, k2, r2, b2⟩
      exact ⟨_, rfl, _, g2, rfl, hB.trans (b2.mono hB.size), b2, ⟨m2, c2, rfl, e2, r2⟩, .inl rfl⟩
    | 4, _ =>
     have e3 : (fr DL1 A t).eval (.tmp 3) = .pointer (some ⟨w.heap.size, 0, none⟩) := (fr_eval_old _ _ _ 3 rfl).trans a3'
     refine op_run (v := .pointer (some ⟨w.heap.size, 1, none⟩)) (w' := wx) rfl rfl ?_ ?_
     ·
      clear hp hd; have ec : ∀ v, (fr DL1 A t).eval (.const v) = v := fun _ => rfl; generalize (fr DL1 A t).eval = ev at ec e3 ⊢; go_simp
     ·
      exact ⟨_, 0, rfl, hB, Below.refl _ _, rfl, .inl rfl⟩
    | 5, _ =>
     have e15 : (fr DL1 A t).eval (.tmp 15) = .pointer (some ⟨w.heap.size, 1, none⟩) := (fr_eval _ _ _ 15 rfl (by rw [asz]; decide)).trans (hp 4 (pre_mem (by kernel_rfl)))
     have hc := (hK wx hB).cell 1 rfl
     refine op_run (v := .int .i64 p) (w' := wx) rfl rfl ?_ ?_
     ·
      clear hp hd; have ec : ∀ v, (fr DL1 A t).eval (.const v) = v := fun _ => rfl; generalize (fr DL1 A t).eval = ev at ec e15 ⊢; go_simp
     ·
      exact ⟨_, 0, rfl, hB, Below.refl _ _, rfl, .inl rfl⟩
    | 6, _ =>
     obtain ⟨m3, c3, hv3, q3_0, q3_1⟩ := hp 3 (pre_mem (by kernel_rfl))
     have e14 : (fr DL1 A t).eval (.tmp 14) = .slice (some ⟨(ρ 3), 0, none⟩) m3 c3 := (fr_eval _ _ _ 14 rfl (by rw [asz]; decide)).trans hv3
     have e16 : (fr DL1 A t).eval (.tmp 16) = .int .i64 p := (fr_eval _ _ _ 16 rfl (by rw [asz]; decide)).trans (hp 5 (pre_mem (by kernel_rfl)))
     refine op_call (f := 70) (args := #[.slice (some ⟨(ρ 3), 0, none⟩) m3 c3, .int .i64 p, .int .i64 2]) rfl rfl ?_ (specPutN (some ⟨(ρ 3), 0, none⟩) m3 c3 (l ++ putN h 4) p 2 wx q3_0 q3_1.rd (by intro e; cases e) (by have := EN.out; have := putN_length h 4; rw [List.length_append]; omega)) ?_
     ·
      have ef : (fr DL1 A t).eval (.func 70) = .func (.func 70) #[] #[] := rfl; clear hp hd q3_0 q3_1; have ec : ∀ v, (fr DL1 A t).eval (.const v) = v := fun _ => rfl; generalize (fr DL1 A t).eval = ev at ec e14 e16 ef ⊢; go_simp
     ·
      rintro e wy ⟨g2, m2, c2, rfl, e2, k2, r2, b2⟩
      exact ⟨_, rfl, _, g2, rfl, hB.trans (b2.mono hB.size), b2, ⟨m2, c2, rfl, e2, r2, Nat.le_trans hB.size k2⟩, .inl rfl⟩
   ·
    intro t ρ wx hB hF hne
    obtain ⟨m6, c6, hv6, q6_0, q6_1, q6_2⟩ := hF 6 (by decide)
    have e17 : (fr DL1 A t).eval (.tmp 17) = .slice (some ⟨(ρ 6), 0, none⟩) m6 c6 := (fr_eval _ _ _ 17 rfl (by rw [asz]; decide)).trans hv6
    clear hne
    have E17 : Hid _ := q6_0
    refine op_wp rfl rfl ?_
    generalize hE : (fr DL1 A t).eval = ev at e17
    unfold Oper.wp
    rw [hE]
    clear q6_0
    go_simp
    refine hMet _ _ (Met.intro (hRJ _ _ ⟨_, t 11, t 12, t 13, t 14, t 15, t 16, t 17, ⟨_, _, _, rfl, E17.out, q6_1, q6_2, hB⟩, ?_⟩))
    rw [← hA]; rfl
  case rest =>
   obtain ⟨g3, m3, c3, rfl, e3, r3, k3, b3⟩ := hcut
   have R3 : Hid (Row wc g3 c3 (putA l h p)) := by show Row _ _ _ _; rw [HP.out]; exact r3
   have E3 : Hid (m3 = (putA l h p).length) := by show _ = _; rw [HP.out]; exact e3
   have G3 : Hid (w.heap.size ≤ g3) := Nat.le_trans B1.out.size k3
   have B3 := hid (B1.out.trans (b3.mono B1.out.size))
   clear e3 r3 k3 b3
   go_wp2
   go_ret
   exact ⟨g3, m3, c3, by simp, E3.out, G3.out, R3.out, B3.out⟩

end Go.Proofs.YtpgapjdejelajaaGreatDoor.AddrS

namespace Go.Proofs.YtpgapjdejelajaaGreatDoor.DiffP
open Go.RowKit Mem

theorem xor_byte (a b : Int) (h1 : 0 ≤ a) (h2 : a ≤ 255) (h3 : 0 ≤ b) (h4 : b ≤ 255) : 0 ≤ bits .xor .u8 a b ∧ bits .xor .u8 a b ≤ 255 := by
 rw [u8_xor a b h1 (by omega) h3 (by omega)]
 have : a.toNat ^^^ b.toNat < 2 ^ 8 := Nat.xor_lt_two_pow (by omega) (by omega)
 omega
def diffN (a b : List Int) : Nat → Int
 | 0 => 0
 | n + 1 => bits .or .u8 (diffN a b n) (bits .xor .u8 (a.getD n 0) (b.getD n 0))
def diffI (a b : List Int) : Int := if a.length = b.length then diffN a b a.length else -1

theorem diffN_bd (a b : List Int) (ha : Bytes a) (hb : Bytes b) (n : Nat) : 0 ≤ diffN a b n ∧ diffN a b n ≤ 255 := by
 induction n with
 | zero => simp [diffN]
 | succ n ih =>
  have hx := xor_byte (a.getD n 0) (b.getD n 0) (ha.at n).1 (ha.at n).2 (hb.at n).1 (hb.at n).2
  unfold diffN
  rw [u8_or _ _ ih.1 (by omega) hx.1 (by omega)]
  have : (diffN a b n).toNat ||| (bits .xor .u8 (a.getD n 0) (b.getD n 0)).toNat < 2 ^ 8 := Nat.or_lt_two_pow (by omega) (by omega)
  omega
theorem or_wide (x y : Int) (h1 : 0 ≤ x) (h2 : x ≤ 255) (h3 : 0 ≤ y) (h4 : y ≤ 255) : bits .or .i64 x y = bits .or .u8 x y := by
 rw [u8_or x y h1 (by omega) h3 (by omega)]
 have := Bits.or_i64 x.toNat y.toNat (by omega) (by omega)
 rw [Int.toNat_of_nonneg h1, Int.toNat_of_nonneg h3] at this
 exact this
def sameI (a b : List Int) : Bool := decide (a.length = 16 ∧ diffI a b = 0)
end Go.Proofs.YtpgapjdejelajaaGreatDoor.DiffP

namespace Go.Proofs.YtpgapjdejelajaaGreatDoor.Bent
open Go.RowKit Mem App AppAt DiffP

theorem row_set {w : World} {g c : Nat} {l : List Int} (h : Row w g c l) (k : Nat) (z : Int) : Row (w.setCell ⟨g, k, none⟩ (.int .u8 z)) g c (l.set k z) ∧ w.grownBy (w.setCell ⟨g, k, none⟩ (.int .u8 z)) (some g) := by
 have hst := (h.owns (Nat.le_refl g)).stored k (.int .u8 z)
 rw [← List.map_set] at hst
 refine ⟨?_, hst.2⟩
 have e : l.length = (l.set k z).length := by simp
 have := hst.1
 rw [e] at this
 exact (Row.of (l := l.set k z) (n := (l.set k z).length) this).1
theorem set_bytes {l : List Int} (h : Bytes l) (p : Nat) (v : Int) (h0 : 0 ≤ v) (h1 : v ≤ 255) : Bytes (l.set p v) := by
 intro z hz
 rcases List.mem_or_eq_of_mem_set hz with h' | rfl
 ·
  exact h z h'
 ·
  exact ⟨h0, h1⟩

end Go.Proofs.YtpgapjdejelajaaGreatDoor.Bent
