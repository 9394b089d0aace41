/-
  What is taken into a window is had then, and is taken no more; what was had is had still, if it is not too old.
  The laws' own word of whether two windows are the same.
  What the law FnWins keeps, as plain facts: the numbers that were taken, the window that they leave.
  One operation of a region that draws its order, under a guard: it runs where its guard holds; else its slot is left undefined.
-/
import Derived.Test.YtmcflfpckpjphaaWb4
import Derived.Test.YtmcflfpckpjphaaWb5
import Derived.Test.YtmcflfpckpjphaaWb2
set_option linter.unusedVariables false
namespace Go.Proofs.Ytmcflfpckpjphaa.WnBp
open Go.RowKit Go.Proofs.Ytmcflfpckpjphaa.WnZ Go.Proofs.Ytmcflfpckpjphaa.WinP Go.Proofs.Ytmcflfpckpjphaa.WnK

set_option maxRecDepth 100000 in
theorem may_parts {top : Int} {l : List Int} {n : Int} (h : WinP.may top l n = true) : 0 ≤ n ∧ n ≤ 281474976710655 ∧ top - 1024 < n ∧ (top < n ∨ bit l n.toNat = false) := by
  unfold WinP.may at h
  rw [Bool.and_eq_true, decide_eq_true_iff, Bool.or_eq_true, decide_eq_true_iff] at h
  exact ⟨h.1.1, h.1.2.1, h.1.2.2, by simpa using h.2⟩
set_option maxRecDepth 100000 in
theorem bit_in {top : Int} {l : List Int} {n : Int} (h : winMay top l n = true) {z : Int} (h0 : 0 ≤ z) (h2 : z ≤ max top n) (h3 : max top n - 1024 < z) :
    bit (addL top l n.toNat) z.toNat = true ↔ (z = n ∨ (z ≤ top ∧ bit l z.toNat = true)) := by
  obtain ⟨hw, hm⟩ := winMay_ok h
  obtain ⟨m0, m1, m2, m3⟩ := may_parts hm
  have q := add_taken (top := top) (l := l) n.toNat z.toNat hw.len hw.lo (by omega) (by omega) (by omega)
  rw [q]
  constructor
  · rintro (a | ⟨a, b⟩)
    · exact .inl (by omega)
    · exact .inr ⟨by omega, b⟩
  · rintro (a | ⟨a, b⟩)
    · exact .inl (by omega)
    · exact .inr ⟨by omega, b⟩
set_option maxRecDepth 100000 in
theorem took_ok {D : WnD} {n : Int} (h : winMay D.top D.bits n = true) : winOk (addD D n).top (addD D n).bits = true := by
  rw [add_yes h]; exact winOk_true (add_ok (winMay_ok h).1 (winMay_ok h).2)
set_option maxRecDepth 100000 in
theorem took_has {D : WnD} {n : Int} (h : winMay D.top D.bits n = true) : winHas (addD D n).top (addD D n).bits n = true := by
  have ok := took_ok h
  rw [add_yes h] at ok ⊢
  obtain ⟨hw, hm⟩ := winMay_ok h
  obtain ⟨m0, m1, m2, m3⟩ := may_parts hm
  unfold winHas has
  rw [ok, decide_eq_true (by show 0 ≤ n ∧ n ≤ max D.top n ∧ max D.top n - 1024 < n; omega), (bit_in h m0 (by omega) (by omega)).2 (.inl rfl)]; rfl
set_option maxRecDepth 100000 in
theorem took_not {D : WnD} {n : Int} (h : winMay D.top D.bits n = true) : winMay (addD D n).top (addD D n).bits n = false := by
  rw [add_yes h]
  obtain ⟨hw, hm⟩ := winMay_ok h
  obtain ⟨m0, m1, m2, m3⟩ := may_parts hm
  unfold winMay WinP.may
  have e1 : decide (max D.top n < n) = false := decide_eq_false (by omega)
  rw [(bit_in h m0 (by omega) (by omega)).2 (.inl rfl), e1]; simp
set_option maxRecDepth 100000 in
theorem had_not {D : WnD} {n : Int} (h : winMay D.top D.bits n = true) : winHas D.top D.bits n = false := by
  obtain ⟨hw, hm⟩ := winMay_ok h
  obtain ⟨m0, m1, m2, m3⟩ := may_parts hm
  unfold winHas has
  rcases m3 with m3 | m3
  · have e : decide (0 ≤ n ∧ n ≤ D.top ∧ D.top - 1024 < n) = false := decide_eq_false (by omega)
    rw [e]; simp
  · rw [m3]; simp
set_option maxRecDepth 100000 in
theorem has_still {D : WnD} {n z : Int} (h : winMay D.top D.bits n = true) (hz : winHas D.top D.bits z = true) : winHas (addD D n).top (addD D n).bits z = decide (z > (addD D n).top - 1024) := by
  have ok := took_ok h
  rw [add_yes h] at ok ⊢
  obtain ⟨hw, hm⟩ := winMay_ok h
  obtain ⟨m0, m1, m2, m3⟩ := may_parts hm
  unfold winHas has at hz
  rw [Bool.and_eq_true, Bool.and_eq_true, decide_eq_true_iff] at hz
  obtain ⟨_, ⟨z0, z1, z2⟩, zb⟩ := hz
  unfold winHas has
  rw [ok]
  show (true && (decide (0 ≤ z ∧ z ≤ max D.top n ∧ max D.top n - 1024 < z) && bit (addL D.top D.bits n.toNat) z.toNat)) = decide (z > max D.top n - 1024)
  by_cases c : max D.top n - 1024 < z
  · rw [decide_eq_true (by omega), (bit_in h z0 (by omega) c).2 (.inr ⟨z1, zb⟩), decide_eq_true (by omega)]; rfl
  · rw [decide_eq_false (by omega), decide_eq_false (by omega)]; rfl
set_option maxRecDepth 100000 in
theorem top_bounds {D : WnD} {n : Int} (h : winMay D.top D.bits n = true) : -1 ≤ (addD D n).top ∧ (addD D n).top ≤ 281474976710655 := by
  have q := winOk_iff.1 (took_ok h)
  exact ⟨q.lo, q.hi⟩
end Go.Proofs.Ytmcflfpckpjphaa.WnBp

namespace Go.Proofs.Ytmcflfpckpjphaa.WnW
open Go.RowKit Go.Proofs.Ytmcflfpckpjphaa.Mem Go.Proofs.Ytmcflfpckpjphaa.MemI Go.Proofs.Ytmcflfpckpjphaa.Blk Go.Proofs.Ytmcflfpckpjphaa.Zone Go.Proofs.Ytmcflfpckpjphaa.ZoneI Go.Proofs.Ytmcflfpckpjphaa.WnZ Go.Proofs.Ytmcflfpckpjphaa.Res

set_option maxRecDepth 100000 in
set_option maxHeartbeats 800000 in
theorem sameIntsC (a b : Option Addr) (na ca nb cb : Nat) (x y : List Int) (w : World) (ha : na = x.length) (hb : nb = y.length) (hx : IRd w a x) (hy : IRd w b y) (_lx : x.length ≤ 4194304) (ly : y.length ≤ 4194304) :
    Calls Try.prog 56 #[.slice a na ca, .slice b nb cb] w fun e w' => e = .returned (.bool (decide (x = y))) ∧ ∃ m, w' = w.drewN m := by
  subst ha hb
  by_cases hl : x.length = y.length
  · have hne : ((x.length : Int) != (y.length : Int)) = false := by simp [hl]
    have HL : Hid (x.length = y.length) := hl
    have hl1 : x.length ≤ y.length := by omega
    clear hl
    go_enter Try.func56, Try.ntmps56
    go_wp2
    go_loopw [5] (fun i wr => ∃ k m : Nat, k ≤ x.length ∧ i = .int .i64 k ∧ x.take k = y.take k ∧ wr = w.drewN m) (fun i _ => x.length - (intOf i).toNat)
    case atStart => exact ⟨0, 0, Nat.zero_le _, rfl, rfl, rfl⟩
    case round =>
      obtain ⟨k, m, hk, rfl, hs, rfl⟩ := hrel
      have HS : Hid (x.take k = y.take k) := hs
      clear hs
      by_cases hlt : k < x.length
      · obtain ⟨b1, o1, rfl, _, c1⟩ := hx k hlt
        obtain ⟨b2, o2, rfl, _, c2⟩ := hy k (by omega)
        have hlt2 : (k : Int) < (y.length : Int) := by omega
        by_cases he : x.getD k 0 = y.getD k 0
        · have HT : Hid (x.take (k + 1) = y.take (k + 1)) := take_eq_succ hlt (by omega) HS.out he
          rw [he] at c1
          clear hx hy he
          generalize y.getD k 0 = z at *
          go_wp2
          go_quiet (fail)
          go_wp2
          go_roundw
          case rel => exact ⟨k + 1, _, by omega, by go_num, HT.out, rfl⟩
          case measure => simp [intOf]; omega
        · have HD : Hid (decide (x = y) = false) := dec_ne he
          clear hx hy
          generalize x.getD k 0 = z1 at *
          generalize y.getD k 0 = z2 at *
          have hbe : (z1 != z2) = true := by simpa using he
          clear he
          go_wp2
          go_quiet (fail)
          go_wp2
          go_ret
          exact ⟨by rw [HD.out]; rfl, _, World.drewN_drewN _ _ _⟩
      · have HD : Hid (decide (x = y) = true) := dec_eq hlt HL.out HS.out
        clear hx hy
        go_wp2
        go_ret
        exact ⟨by rw [HD.out]; rfl, _, rfl⟩
  · have hne : ((x.length : Int) != (y.length : Int)) = true := by simp; omega
    have HD : Hid (decide (x = y) = false) := by
      show decide (x = y) = false
      simp only [decide_eq_false_iff_not]; rintro rfl; exact hl rfl
    clear hl
    go_enter Try.func56, Try.ntmps56
    go_wp2
    go_ret
    exact ⟨by rw [HD.out]; rfl, 0, rfl⟩


set_option maxRecDepth 100000 in
set_option maxHeartbeats 4000000 in
theorem sameWin (S S' : WnS) (D : WnD) (w : World) (h : WnRd w S D) (h' : WnRd w S' D) (hl : WnShort D 4194304) :
    Calls Try.prog 16 #[wnV D S, wnV D S'] w fun e w' => e = .returned (.bool true) ∧ Below w.heap.size w w' := by
  have HR : Hid (WnRd w S D) := h
  have HR' : Hid (WnRd w S' D) := h'
  have HL : Hid (WnShort D 4194304) := hl
  obtain ⟨x0, hx0⟩ : ∃ x0, (w.alloc (.cells #[.int .i64 D.top, .slice S.bits.a S.bits.n S.bits.c] 26)).alloc (.cells #[.int .i64 D.top, .slice S'.bits.a S'.bits.n S'.bits.c] 26) = x0 := ⟨_, rfl⟩
  have HW0 : Hid (_ = x0) := hx0
  have B0 : Hid (Below w.heap.size w x0) := by rw [← hx0]; exact ((Below.refl _ _).alloc (Nat.le_refl _) _).alloc (by simp) _
  have KA : Hid (Blk x0 w.heap.size 26 [.int .i64 D.top, .slice S.bits.a S.bits.n S.bits.c]) := by rw [← hx0]; exact (Blk.new w _ _).alloc _
  have KB : Hid (Blk x0 (w.heap.size + 1) 26 [.int .i64 D.top, .slice S'.bits.a S'.bits.n S'.bits.c]) := by
    have := Blk.new (w.alloc (.cells #[.int .i64 D.top, .slice S.bits.a S.bits.n S.bits.c] 26)) 26 [.int .i64 D.top, .slice S'.bits.a S'.bits.n S'.bits.c]
    rw [World.size_alloc] at this
    rw [← hx0]; exact this
  clear h h' hl hx0
  have c0 := KA.out.cell 0 rfl
  have c1 := KA.out.cell 1 rfl
  have d0 := KB.out.cell 0 rfl
  have d1 := KB.out.cell 1 rfl
  unfold wnV
  go_enter Try.func16, Try.ntmps16
  go_upto_region 1 with fail
  rw [HW0.out]
  go_wp2_with fail
  refine (sameIntsC S.bits.a S'.bits.a S.bits.n S.bits.c S'.bits.n S'.bits.c D.bits D.bits x0 HR.out.bits.len HR'.out.bits.len (HR.out.bits.later B0.out).rd (HR'.out.bits.later B0.out).rd HL.out.bits HL.out.bits).mono ?_
  rw [decide_eq_true (show D.bits = D.bits from rfl)]
  rintro e x1 ⟨rfl, m, rfl⟩
  go_wp2
  go_ret
  exact ⟨by first | rfl | simp, below_drewN B0.out m⟩
end Go.Proofs.Ytmcflfpckpjphaa.WnW

namespace Go.Proofs.Ytmcflfpckpjphaa.WinQ
open Go.Proofs.Ytmcflfpckpjphaa.WinP

/-- The numbers that were taken, of the first k. -/
noncomputable def gots (L : List Int) : Nat → List Int
  | 0 => []
  | k + 1 => gots L k ++ (if winMay (ofTop L k).1 (ofTop L k).2 (L.getD k 0) then [L.getD k 0] else [])
set_option maxRecDepth 100000 in
theorem gots_length (L : List Int) (k : Nat) : (gots L k).length ≤ k := by
  induction k with
  | zero => exact Nat.le_refl _
  | succ k ih =>
    rw [gots, List.length_append]
    split
    · simp; omega
    · simp; omega
structure Inv (top : Int) (l G : List Int) : Prop where
  ok : WOk top l
  mem : ∀ m : Nat, (m : Int) ≤ top → top - 1024 < m → (bit l m = true ↔ (m : Int) ∈ G)
  le : ∀ g ∈ G, 0 ≤ g ∧ g ≤ top
  nodup : G.Nodup
/-- The law's own word of which number may be taken. -/
def mayL (top : Int) (G : List Int) (z : Int) : Bool := decide (0 ≤ z) && decide (z < 281474976710656) && !(G.contains z) && decide (top - 1024 < z)
set_option maxRecDepth 100000 in
theorem inv_may {top : Int} {l G : List Int} (h : Inv top l G) (z : Int) : mayL top G z = winMay top l z := by
  unfold mayL winMay
  rw [winOk_true h.ok, Bool.true_and, Bool.eq_iff_iff]
  unfold may
  simp only [Bool.and_eq_true, decide_eq_true_eq, Bool.not_eq_true', Bool.or_eq_true, List.contains_iff_mem, Bool.eq_false_iff, ne_eq]
  constructor
  · rintro ⟨⟨⟨h1, h2⟩, h3⟩, h4⟩
    refine ⟨⟨h1, by omega, h4⟩, ?_⟩
    by_cases ht : top < z
    · exact .inl ht
    · refine .inr fun hb => h3 ?_
      have := (h.mem z.toNat (by omega) (by omega)).1 hb
      rwa [Int.toNat_of_nonneg h1] at this
  · rintro ⟨⟨h1, h2, h4⟩, h5⟩
    refine ⟨⟨⟨h1, by omega⟩, fun hm => ?_⟩, h4⟩
    rcases h5 with h5 | h5
    · have := (h.le z hm).2
      omega
    · by_cases ht : top < z
      · have := (h.le z hm).2
        omega
      · refine h5 ((h.mem z.toNat (by omega) (by omega)).2 ?_)
        rwa [Int.toNat_of_nonneg h1]
set_option maxRecDepth 100000 in
theorem inv_add {top : Int} {l G : List Int} (h : Inv top l G) {z : Int} (hm : winMay top l z = true) : Inv (max top z) (addL top l z.toNat) (G ++ [z]) := by
  have hml := (inv_may h z).trans hm
  unfold mayL at hml
  simp only [Bool.and_eq_true, decide_eq_true_eq, Bool.not_eq_true', Bool.eq_false_iff, ne_eq, List.contains_iff_mem] at hml
  obtain ⟨⟨⟨h1, h2⟩, h3⟩, h4⟩ := hml
  have hlo := h.ok.lo
  refine ⟨add_ok h.ok (winMay_ok hm).2, ?_, ?_, ?_⟩
  · intro m hm1 hm2
    have e := add_taken z.toNat m h.ok.len hlo (by omega) (by omega) (by omega)
    rw [e, List.mem_append, List.mem_singleton]
    constructor
    · rintro (h5 | ⟨h5, h6⟩)
      · exact .inr (by omega)
      · exact .inl ((h.mem m h5 (by omega)).1 h6)
    · rintro (h5 | h5)
      · have h6 := (h.le _ h5).2
        exact .inr ⟨h6, (h.mem m h6 (by omega)).2 h5⟩
      · exact .inl (by omega)
  · intro g hg
    rcases List.mem_append.1 hg with hg | hg
    · have := h.le g hg
      omega
    · rw [List.mem_singleton] at hg
      omega
  · rw [List.nodup_append]
    refine ⟨h.nodup, by simp, ?_⟩
    intro a ha b hb e
    rw [List.mem_singleton] at hb
    exact h3 (by rw [← hb, ← e]; exact ha)
set_option maxRecDepth 100000 in
theorem inv_of (L : List Int) (k : Nat) : Inv (ofTop L k).1 (ofTop L k).2 (gots L k) := by
  induction k with
  | zero => exact ⟨new_ok, fun m h1 _ => absurd h1 (by show ¬ (m : Int) ≤ -1; omega), (fun g hg => by cases hg), List.nodup_nil⟩
  | succ k ih =>
    by_cases hm : winMay (ofTop L k).1 (ofTop L k).2 (L.getD k 0) = true
    · have e1 : ofTop L (k + 1) = (max (ofTop L k).1 (L.getD k 0), addL (ofTop L k).1 (ofTop L k).2 (L.getD k 0).toNat) := by
        rw [ofTop]; unfold addTop addBits; rw [if_pos hm, if_pos hm]
      have e2 : gots L (k + 1) = gots L k ++ [L.getD k 0] := by rw [gots, if_pos hm]
      rw [e1, e2]
      exact inv_add ih hm
    · have e1 : ofTop L (k + 1) = ofTop L k := by
        rw [ofTop]; unfold addTop addBits; rw [if_neg hm, if_neg hm]
      have e2 : gots L (k + 1) = gots L k := by rw [gots, if_neg hm, List.append_nil]
      rw [e1, e2]
      exact ih
set_option maxRecDepth 100000 in
/-- What is told to be taken was, and is not too old; there are as many of it. -/
theorem inv_has {top : Int} {l G : List Int} (h : Inv top l G) {g : Int} (hg : g ∈ G) (hn : top - 1024 < g) : winHas top l g = true := by
  have h1 := h.le g hg
  unfold winHas has
  rw [winOk_true h.ok, decide_eq_true ⟨h1.1, h1.2, hn⟩]
  have := (h.mem g.toNat (by omega) (by omega)).2 (by rwa [Int.toNat_of_nonneg h1.1])
  rw [this]; rfl
set_option maxRecDepth 100000 in
theorem inv_count {top : Int} {l G : List Int} (h : Inv top l G) : (G.filter (fun g => decide (top - 1024 < g))).length = (winList top l).length := by
  apply List.Perm.length_eq
  rw [List.perm_ext_iff_of_nodup (h.nodup.filter _) ((winList_sorted top l).imp (fun h => Int.ne_of_lt h))]
  intro z
  rw [List.mem_filter, winList_mem, decide_eq_true_iff]
  constructor
  · rintro ⟨h1, h2⟩
    exact inv_has h h1 h2
  · intro h1
    unfold winHas has at h1
    simp only [Bool.and_eq_true, decide_eq_true_eq] at h1
    obtain ⟨_, ⟨h2, h3, h4⟩, h5⟩ := h1
    refine ⟨?_, h4⟩
    have := (h.mem z.toNat (by omega) (by omega)).1 h5
    rwa [Int.toNat_of_nonneg h2] at this
def cnt (G : List Int) (top : Int) (k : Nat) : Nat := ((G.take k).filter (fun g => decide (top - 1024 < g))).length
set_option maxRecDepth 100000 in
theorem cnt_le (G : List Int) (top : Int) (k : Nat) : cnt G top k ≤ k := by
  unfold cnt
  refine Nat.le_trans (List.length_filter_le _ _) ?_
  rw [List.length_take]; omega
set_option maxRecDepth 100000 in
theorem cnt_step (G : List Int) (top : Int) (k : Nat) (hk : k < G.length) : cnt G top (k + 1) = cnt G top k + (if top - 1024 < G.getD k 0 then 1 else 0) := by
  unfold cnt
  have e : G.getD k 0 = G[k] := by simp [List.getD, hk]
  rw [List.take_succ_eq_append_getElem hk, List.filter_append, List.length_append, e]
  congr 1
  by_cases h : top - 1024 < G[k]
  · simp [h]
  · simp [h]
set_option maxRecDepth 100000 in
theorem cnt_end {top : Int} {l G : List Int} (h : Inv top l G) : cnt G top G.length = (winList top l).length := by
  unfold cnt
  rw [List.take_length]
  exact inv_count h
set_option maxRecDepth 100000 in
theorem sorted_at {l : List Int} (h : l.Pairwise (· < ·)) {i : Nat} (hi : i + 1 < l.length) : l.getD i 0 < l.getD (i + 1) 0 := by
  have := List.pairwise_iff_getElem.1 h i (i + 1) (by omega) hi (by omega)
  simpa [List.getD, hi, show i < l.length by omega] using this
set_option maxRecDepth 100000 in
theorem mem_at {l : List Int} {i : Nat} (hi : i < l.length) : l.getD i 0 ∈ l := by simp [List.getD, hi]
set_option maxRecDepth 100000 in
theorem contains_step (G : List Int) (z : Int) (j : Nat) (hj : j < G.length) : (G.take (j + 1)).contains z = ((G.take j).contains z || (G.getD j 0 == z)) := by
  have e : G.getD j 0 = G[j] := by simp [List.getD, hj]
  rw [List.take_succ_eq_append_getElem hj, e, Bool.eq_iff_iff]
  simp only [List.contains_iff_mem, List.mem_append, List.mem_singleton, Bool.or_eq_true, beq_iff_eq]
  constructor
  · rintro (h | h)
    · exact .inl h
    · exact .inr h.symm
  · rintro (h | h)
    · exact .inl h
    · exact .inr h.symm
end Go.Proofs.Ytmcflfpckpjphaa.WinQ

namespace Go.Proofs.Ytmcflfpckpjphaa.Guard
open Go.RowKit Go.Proofs.Ytmcflfpckpjphaa.Each Go.Proofs.Ytmcflfpckpjphaa.Copy

set_option maxRecDepth 100000 in
theorem wanted_eval {ops : Array Oper} {o : Oper} {a : Act} {j d : Nat} {want b : Bool} (hg : o.guard = some (j, want)) (hd : (ops[j]?).bind (·.dst) = some d) (hv : a.eval (.tmp d) = .bool b) :
    Region.wanted o (yielded ops a.tmps) = (b == want) := by
  have hv' : a.tmps.getD d undef = .bool b := hv
  have ht : a.tmps[d]? = some (.bool b) := by
    cases h : a.tmps[d]? with
    | none =>
      rw [Array.getD_eq_getD_getElem?, h] at hv'
      cases hv'
    | some v =>
      rw [Array.getD_eq_getD_getElem?, h] at hv'
      have hv2 : v = .bool b := hv'
      rw [hv2]
  have hy : yielded ops a.tmps j = some b := by
    unfold yielded
    generalize hx : (ops[j]?).bind (·.dst) = x at *
    subst hd
    simp [ht]
  unfold Region.wanted
  rw [hg]
  show (yielded ops a.tmps j == some want) = _
  rw [hy]
  cases b <;> cases want <;> rfl
set_option maxRecDepth 100000 in
theorem wanted_true {ops : Array Oper} {o : Oper} {a : Act} {j d : Nat} {want : Bool} (hg : o.guard = some (j, want)) (hd : (ops[j]?).bind (·.dst) = some d) (hv : a.eval (.tmp d) = .bool want) :
    Region.wanted o (yielded ops a.tmps) = true := by
  rw [wanted_eval hg hd hv]
  cases want <;> rfl
set_option maxRecDepth 100000 in
theorem wanted_false {ops : Array Oper} {o : Oper} {a : Act} {j d : Nat} {want b : Bool} (hg : o.guard = some (j, want)) (hd : (ops[j]?).bind (·.dst) = some d) (hv : a.eval (.tmp d) = .bool b) (hn : (b == want) = false) :
    Region.wanted o (yielded ops a.tmps) = false := by
  rw [wanted_eval hg hd hv, hn]
set_option maxRecDepth 100000 in
theorem op_wp_g {P : Program} {ops : Array Oper} {Q : Exit → Act → World → Prop} {i : Nat} {o : Oper} {K : Act → World → Prop} {a : Act} {w : World}
    (hi : ops[i]? = some o) (hw : Region.wanted o (yielded ops a.tmps) = true) (h : Oper.wp P o a w K Q) : wpOp P ops Q i K a w := by
  unfold wpOp
  rw [hi]
  simp only [hw, if_true]
  exact .inl h
set_option maxRecDepth 100000 in
theorem op_run_g {P : Program} {ops : Array Oper} {Q : Exit → Act → World → Prop} {i : Nat} {o : Oper} {K : Act → World → Prop} {a : Act} {w w' : World} {v : Value}
    (hi : ops[i]? = some o) (hw : Region.wanted o (yielded ops a.tmps) = true) (hr : (execOp a.eval o).run P w = .ok (.value v) w') (hk : K (a.put o.dst v) w') : wpOp P ops Q i K a w := by
  refine op_wp_g hi hw ?_
  unfold Oper.wp
  rw [hr]
  exact hk
set_option maxRecDepth 100000 in
theorem op_call_g {P : Program} {ops : Array Oper} {Q : Exit → Act → World → Prop} {i : Nat} {o : Oper} {K : Act → World → Prop} {a : Act} {w : World} {f : FuncId} {args : Array Value} {R : Ending → World → Prop}
    (hi : ops[i]? = some o) (hw : Region.wanted o (yielded ops a.tmps) = true) (hr : (execOp a.eval o).run P w = .ok (.enter f args) w) (hc : Calls P f args w R)
    (hk : ∀ e w', R e w' → ∃ v, e = .returned v ∧ K (a.put o.dst v) w') : wpOp P ops Q i K a w := by
  refine op_wp_g hi hw ?_
  unfold Oper.wp
  rw [hr]
  refine hc.mono ?_
  intro e w' h
  obtain ⟨v, rfl, h2⟩ := hk e w' h
  exact h2
set_option maxRecDepth 100000 in
theorem op_skip {P : Program} {ops : Array Oper} {Q : Exit → Act → World → Prop} {i : Nat} {o : Oper} {K : Act → World → Prop} {a : Act} {w : World}
    (hi : ops[i]? = some o) (hw : Region.wanted o (yielded ops a.tmps) = false) (hk : K (a.put o.dst undef) w) : wpOp P ops Q i K a w := by
  unfold wpOp
  rw [hi]
  simp only [hw]
  exact hk
end Go.Proofs.Ytmcflfpckpjphaa.Guard
