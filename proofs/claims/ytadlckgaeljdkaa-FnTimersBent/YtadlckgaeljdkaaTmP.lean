/-
  Timers as plain functions: when one is right, when it fires, what comes next, how long its spans are.
-/
import Derived.Test.YtadlckgaeljdkaaWords
namespace Go.Proofs.Ytadlckgaeljdkaa.TmP
open Go.RowKit Go.Proofs.Ytadlckgaeljdkaa.Mem Go.Proofs.Ytadlckgaeljdkaa.Words

structure TmD where
  on : Bool
  due : Int
  wait : Int
  tries : Int
def tmV (T : TmD) : Value := .agg #[.bool T.on, .int .i64 T.due, .int .i64 T.wait, .int .i64 T.tries]
def zeroT : TmD := ⟨false, 0, 0, 0⟩
def zeroB (T : TmD) : Bool := !T.on && (T.due == 0) && (T.wait == 0) && (T.tries == 0)
def waitB (x : Int) : Bool := (x == 1) || (x == 2) || (x == 4) || (x == 8)
/-- Whether a timer is right. -/
def timerOk (T : TmD) : Bool := if T.on = true then isIn T.due 0 1000008 && waitB T.wait && isIn T.tries 1 5 else zeroB T
set_option maxRecDepth 100000 in
theorem ok_on {T : TmD} (h : T.on = true) : timerOk T = (isIn T.due 0 1000008 && waitB T.wait && isIn T.tries 1 5) := if_pos h
set_option maxRecDepth 100000 in
theorem ok_off {T : TmD} (h : T.on = false) : timerOk T = ((T.due == 0) && (T.wait == 0) && (T.tries == 0)) := by
  unfold timerOk; rw [if_neg (by rw [h]; decide)]; unfold zeroB; rw [h]; rfl
/-- The timer that is set. -/
def setT (now : Int) : TmD := if isIn now 0 1000000 = true then ⟨true, now + 1, 1, 1⟩ else zeroT
set_option maxRecDepth 100000 in
theorem set_yes {now : Int} (h : isIn now 0 1000000 = true) : setT now = ⟨true, now + 1, 1, 1⟩ := if_pos h
set_option maxRecDepth 100000 in
theorem set_no {now : Int} (h : isIn now 0 1000000 = false) : setT now = zeroT := if_neg (by rw [h]; decide)
/-- Whether it fires. -/
def fires (T : TmD) (now : Int) : Bool := timerOk T && T.on && isIn now 0 1000000 && decide (T.due ≤ now)
/-- How long it waits next. -/
def nextW (x : Int) : Int := if 2 * x > 8 then 8 else 2 * x
/-- What comes next: the timer, and what is told. -/
def nextT (T : TmD) (now : Int) : TmD := if fires T now = true then (if T.tries = 5 then zeroT else ⟨true, now + nextW T.wait, nextW T.wait, T.tries + 1⟩) else T
def nextC (T : TmD) (now : Int) : Int := if fires T now = true then (if T.tries = 5 then 2 else 1) else 0
set_option maxRecDepth 100000 in
theorem next_no {T : TmD} {now : Int} (h : fires T now = false) : nextT T now = T ∧ nextC T now = 0 := by unfold nextT nextC; rw [h]; exact ⟨rfl, rfl⟩
set_option maxRecDepth 100000 in
theorem next_end {T : TmD} {now : Int} (h : fires T now = true) (h5 : T.tries = 5) : nextT T now = zeroT ∧ nextC T now = 2 := by unfold nextT nextC; rw [h, if_pos h5, if_pos h5]; exact ⟨rfl, rfl⟩
set_option maxRecDepth 100000 in
theorem next_on {T : TmD} {now : Int} (h : fires T now = true) (h5 : T.tries ≠ 5) : nextT T now = ⟨true, now + nextW T.wait, nextW T.wait, T.tries + 1⟩ ∧ nextC T now = 1 := by unfold nextT nextC; rw [h, if_neg h5, if_neg h5]; exact ⟨rfl, rfl⟩
set_option maxRecDepth 100000 in
theorem waitB_le {x : Int} (h : waitB x = true) : x = 1 ∨ x = 2 ∨ x = 4 ∨ x = 8 := by
  unfold waitB at h
  simp only [Bool.or_eq_true, beq_iff_eq] at h
  omega
set_option maxRecDepth 100000 in
theorem fires_parts {T : TmD} {now : Int} (h : fires T now = true) : T.on = true ∧ (0 ≤ T.due ∧ T.due ≤ 1000008) ∧ (T.wait = 1 ∨ T.wait = 2 ∨ T.wait = 4 ∨ T.wait = 8) ∧ (1 ≤ T.tries ∧ T.tries ≤ 5) ∧ (0 ≤ now ∧ now ≤ 1000000) ∧ T.due ≤ now := by
  unfold fires at h
  simp only [Bool.and_eq_true] at h
  obtain ⟨⟨⟨h1, h2⟩, h3⟩, h4⟩ := h
  rw [ok_on h2] at h1
  simp only [Bool.and_eq_true] at h1
  exact ⟨h2, of_decide_eq_true h1.1.1, waitB_le h1.1.2, of_decide_eq_true h1.2, of_decide_eq_true h3, of_decide_eq_true h4⟩
/-- How far behind its setting a timer fires for the n-th time. -/
def spanOf (n : Int) : Int := if n = 1 then 1 else if n = 2 then 3 else if n = 3 then 7 else if n = 4 then 15 else if n = 5 then 23 else 0
set_option maxRecDepth 100000 in
theorem span_no {n : Int} (h : isIn n 1 5 = false) : spanOf n = 0 := by
  have h' := of_decide_eq_false h
  unfold spanOf
  rw [if_neg (by omega), if_neg (by omega), if_neg (by omega), if_neg (by omega), if_neg (by omega)]
/-- A timer that was set at now, about to be asked for the i-th time: it is about to fire for the k-th. -/
def TI (now i k : Int) (T : TmD) : Prop :=
  (k = 1 ∧ T = ⟨true, now + 1, 1, 1⟩ ∧ (i ≤ 1 ∨ now + 1 > 1000000)) ∨
  (k = 2 ∧ T = ⟨true, now + 3, 2, 2⟩ ∧ now + 1 ≤ 1000000 ∧ 1 < i ∧ (i ≤ 3 ∨ now + 3 > 1000000)) ∨
  (k = 3 ∧ T = ⟨true, now + 7, 4, 3⟩ ∧ now + 3 ≤ 1000000 ∧ 3 < i ∧ (i ≤ 7 ∨ now + 7 > 1000000)) ∨
  (k = 4 ∧ T = ⟨true, now + 15, 8, 4⟩ ∧ now + 7 ≤ 1000000 ∧ 7 < i ∧ (i ≤ 15 ∨ now + 15 > 1000000)) ∨
  (k = 5 ∧ T = ⟨true, now + 23, 8, 5⟩ ∧ now + 15 ≤ 1000000 ∧ 15 < i ∧ (i ≤ 23 ∨ now + 23 > 1000000)) ∨
  (k = 6 ∧ T = zeroT ∧ now + 23 ≤ 1000000 ∧ 23 < i)
/-- Whether it fires there. -/
def hit (now i k : Int) : Bool := decide (k ≤ 5) && decide (i = spanOf k) && decide (now + i ≤ 1000000)
set_option maxRecDepth 100000 in
theorem zero_fires (x : Int) : fires zeroT x = false := by unfold fires; simp [zeroT]
set_option maxRecDepth 100000 in
theorem fires_at (T : TmD) (x s w t : Int) (e : T = ⟨true, s, w, t⟩) (h1 : 0 ≤ s ∧ s ≤ 1000008) (h2 : waitB w = true) (h3 : 1 ≤ t ∧ t ≤ 5) (h4 : 0 ≤ x) : fires T x = decide (x ≤ 1000000 ∧ s ≤ x) := by
  subst e
  unfold fires
  rw [ok_on rfl, isIn_yes h1, h2, isIn_yes h3]
  simp only [Bool.true_and, isIn]
  rw [← Bool.decide_and]
  apply decide_eq_decide.2
  omega
set_option maxRecDepth 100000 in
theorem TI.step {now i k : Int} {T : TmD} (hn : 0 ≤ now ∧ now ≤ 1000000) (hi : 1 ≤ i) (h : TI now i k T) :
    timerOk (nextT T (now + i)) = true ∧ (hit now i k = false → nextC T (now + i) = 0 ∧ TI now (i + 1) k (nextT T (now + i))) ∧
      (hit now i k = true → nextC T (now + i) = (if k = 5 then 2 else 1) ∧ TI now (i + 1) (k + 1) (nextT T (now + i))) := by
  have go : ∀ s w t : Int, T = ⟨true, now + s, w, t⟩ → (0 ≤ now + s ∧ now + s ≤ 1000008) → waitB w = true → (1 ≤ t ∧ t ≤ 5) → k = t → spanOf k = s → (i ≤ s ∨ now + s > 1000000) →
      (hit now i k = false → fires T (now + i) = false) ∧ (hit now i k = true → fires T (now + i) = true ∧ i = s ∧ now + s ≤ 1000000) := by
    intro s w t e h1 h2 h3 ek es hs
    have hf := fires_at T (now + i) (now + s) w t e h1 h2 h3 (by omega)
    constructor
    · intro hh
      rw [hf]
      apply decide_eq_false
      intro hc
      have : hit now i k = true := by
        unfold hit
        rw [decide_eq_true (by omega : k ≤ 5), decide_eq_true (by rw [es]; omega : i = spanOf k), decide_eq_true (by omega : now + i ≤ 1000000)]
        rfl
      rw [this] at hh; cases hh
    · intro hh
      unfold hit at hh
      simp only [Bool.and_eq_true, decide_eq_true_eq] at hh
      rw [es] at hh
      exact ⟨by rw [hf]; exact decide_eq_true (by omega), by omega, by omega⟩
  have no : ∀ s w t : Int, T = ⟨true, now + s, w, t⟩ → fires T (now + i) = false → timerOk T = true → timerOk (nextT T (now + i)) = true := by
    intro s w t _ hf ho
    rw [(next_no hf).1]; exact ho
  rcases h with ⟨rfl, e, h1⟩ | ⟨rfl, e, h0, hj, h1⟩ | ⟨rfl, e, h0, hj, h1⟩ | ⟨rfl, e, h0, hj, h1⟩ | ⟨rfl, e, h0, hj, h1⟩ | ⟨rfl, e, h0, hj⟩
  · obtain ⟨g1, g2⟩ := go 1 1 1 e (by omega) rfl (by omega) rfl rfl h1
    cases hh : hit now i 1 with
    | false =>
      have hf := g1 hh
      rw [(next_no hf).1, (next_no hf).2]
      refine ⟨by rw [e, ok_on rfl, isIn_yes (by show _ ∧ _; simp only; omega)]; rfl, fun _ => ⟨rfl, .inl ⟨rfl, e, ?_⟩⟩, fun h => by cases h⟩
      unfold hit at hh
      simp only [Bool.and_eq_false_iff, decide_eq_false_iff_not] at hh
      have : spanOf 1 = 1 := rfl
      omega
    | true =>
      obtain ⟨hf, hs, hm⟩ := g2 hh
      have hx := next_on (T := T) (now := now + i) hf (by rw [e]; show (_ : Int) ≠ 5; simp only; decide)
      rw [hx.1, hx.2]
      subst e hs
      refine ⟨?_, (fun h => by cases h), fun _ => ⟨rfl, .inr (.inl ⟨rfl, ?_, by omega, by omega, by omega⟩)⟩⟩
      · rw [ok_on rfl, isIn_yes (by show 0 ≤ now + 1 + 2 ∧ now + 1 + 2 ≤ 1000008; omega)]; rfl
      · show (⟨true, now + 1 + 2, 2, 2⟩ : TmD) = _; congr 1; omega
  · obtain ⟨g1, g2⟩ := go 3 2 2 e (by omega) rfl (by omega) rfl rfl h1
    cases hh : hit now i 2 with
    | false =>
      have hf := g1 hh
      rw [(next_no hf).1, (next_no hf).2]
      refine ⟨by rw [e, ok_on rfl, isIn_yes (by show _ ∧ _; simp only; omega)]; rfl, fun _ => ⟨rfl, .inr (.inl ⟨rfl, e, by omega, by omega, ?_⟩)⟩, fun h => by cases h⟩
      unfold hit at hh
      simp only [Bool.and_eq_false_iff, decide_eq_false_iff_not] at hh
      have : spanOf 2 = 3 := rfl
      omega
    | true =>
      obtain ⟨hf, hs, hm⟩ := g2 hh
      have hx := next_on (T := T) (now := now + i) hf (by rw [e]; show (_ : Int) ≠ 5; simp only; decide)
      rw [hx.1, hx.2]
      subst e hs
      refine ⟨?_, (fun h => by cases h), fun _ => ⟨rfl, .inr (.inr (.inl ⟨rfl, ?_, by omega, by omega, by omega⟩))⟩⟩
      · rw [ok_on rfl, isIn_yes (by show 0 ≤ now + 3 + 4 ∧ now + 3 + 4 ≤ 1000008; omega)]; rfl
      · show (⟨true, now + 3 + 4, 4, 3⟩ : TmD) = _; congr 1; omega
  · obtain ⟨g1, g2⟩ := go 7 4 3 e (by omega) rfl (by omega) rfl rfl h1
    cases hh : hit now i 3 with
    | false =>
      have hf := g1 hh
      rw [(next_no hf).1, (next_no hf).2]
      refine ⟨by rw [e, ok_on rfl, isIn_yes (by show _ ∧ _; simp only; omega)]; rfl, fun _ => ⟨rfl, .inr (.inr (.inl ⟨rfl, e, by omega, by omega, ?_⟩))⟩, fun h => by cases h⟩
      unfold hit at hh
      simp only [Bool.and_eq_false_iff, decide_eq_false_iff_not] at hh
      have : spanOf 3 = 7 := rfl
      omega
    | true =>
      obtain ⟨hf, hs, hm⟩ := g2 hh
      have hx := next_on (T := T) (now := now + i) hf (by rw [e]; show (_ : Int) ≠ 5; simp only; decide)
      rw [hx.1, hx.2]
      subst e hs
      refine ⟨?_, (fun h => by cases h), fun _ => ⟨rfl, .inr (.inr (.inr (.inl ⟨rfl, ?_, by omega, by omega, by omega⟩)))⟩⟩
      · rw [ok_on rfl, isIn_yes (by show 0 ≤ now + 7 + 8 ∧ now + 7 + 8 ≤ 1000008; omega)]; rfl
      · show (⟨true, now + 7 + 8, 8, 4⟩ : TmD) = _; congr 1; omega
  · obtain ⟨g1, g2⟩ := go 15 8 4 e (by omega) rfl (by omega) rfl rfl h1
    cases hh : hit now i 4 with
    | false =>
      have hf := g1 hh
      rw [(next_no hf).1, (next_no hf).2]
      refine ⟨by rw [e, ok_on rfl, isIn_yes (by show _ ∧ _; simp only; omega)]; rfl, fun _ => ⟨rfl, .inr (.inr (.inr (.inl ⟨rfl, e, by omega, by omega, ?_⟩)))⟩, fun h => by cases h⟩
      unfold hit at hh
      simp only [Bool.and_eq_false_iff, decide_eq_false_iff_not] at hh
      have : spanOf 4 = 15 := rfl
      omega
    | true =>
      obtain ⟨hf, hs, hm⟩ := g2 hh
      have hx := next_on (T := T) (now := now + i) hf (by rw [e]; show (_ : Int) ≠ 5; simp only; decide)
      rw [hx.1, hx.2]
      subst e hs
      refine ⟨?_, (fun h => by cases h), fun _ => ⟨rfl, .inr (.inr (.inr (.inr (.inl ⟨rfl, ?_, by omega, by omega, by omega⟩))))⟩⟩
      · rw [ok_on rfl, isIn_yes (by show 0 ≤ now + 15 + 8 ∧ now + 15 + 8 ≤ 1000008; omega)]; rfl
      · show (⟨true, now + 15 + 8, 8, 5⟩ : TmD) = _; congr 1; omega
  · obtain ⟨g1, g2⟩ := go 23 8 5 e (by omega) rfl (by omega) rfl rfl h1
    cases hh : hit now i 5 with
    | false =>
      have hf := g1 hh
      rw [(next_no hf).1, (next_no hf).2]
      refine ⟨by rw [e, ok_on rfl, isIn_yes (by show _ ∧ _; simp only; omega)]; rfl, fun _ => ⟨rfl, .inr (.inr (.inr (.inr (.inl ⟨rfl, e, by omega, by omega, ?_⟩))))⟩, fun h => by cases h⟩
      unfold hit at hh
      simp only [Bool.and_eq_false_iff, decide_eq_false_iff_not] at hh
      have : spanOf 5 = 23 := rfl
      omega
    | true =>
      obtain ⟨hf, hs, hm⟩ := g2 hh
      have hx := next_end (T := T) (now := now + i) hf (by rw [e])
      rw [hx.1, hx.2]
      exact ⟨rfl, (fun h => by cases h), fun _ => ⟨rfl, .inr (.inr (.inr (.inr (.inr ⟨rfl, rfl, by omega, by omega⟩))))⟩⟩
  · have hf := zero_fires (now + i)
    rw [e, (next_no hf).1, (next_no hf).2]
    have hh : hit now i 6 = false := rfl
    rw [hh]
    exact ⟨rfl, fun _ => ⟨rfl, .inr (.inr (.inr (.inr (.inr ⟨rfl, rfl, by omega, by omega⟩))))⟩, fun h => by cases h⟩
set_option maxRecDepth 100000 in
theorem TI.start (now : Int) : TI now 1 1 ⟨true, now + 1, 1, 1⟩ := .inl ⟨rfl, rfl, .inl (by omega)⟩
set_option maxRecDepth 100000 in
theorem TI.over {now k : Int} {T : TmD} (h : TI now 31 k T) : T.on = decide (now + 23 > 1000000) := by
  rcases h with ⟨_, e, h1⟩ | ⟨_, e, h0, hj, h1⟩ | ⟨_, e, h0, hj, h1⟩ | ⟨_, e, h0, hj, h1⟩ | ⟨_, e, h0, hj, h1⟩ | ⟨_, e, h0, hj⟩
  · rw [e]; exact (decide_eq_true (by omega)).symm
  · rw [e]; exact (decide_eq_true (by omega)).symm
  · rw [e]; exact (decide_eq_true (by omega)).symm
  · rw [e]; exact (decide_eq_true (by omega)).symm
  · rw [e]; exact (decide_eq_true (by omega)).symm
  · rw [e]; exact (decide_eq_false (by omega)).symm
set_option maxRecDepth 100000 in
theorem TI.k_le {now i k : Int} {T : TmD} (h : TI now i k T) : 1 ≤ k ∧ k ≤ 6 := by
  rcases h with ⟨rfl, _⟩ | ⟨rfl, _⟩ | ⟨rfl, _⟩ | ⟨rfl, _⟩ | ⟨rfl, _⟩ | ⟨rfl, _⟩ <;> omega
end Go.Proofs.Ytadlckgaeljdkaa.TmP
