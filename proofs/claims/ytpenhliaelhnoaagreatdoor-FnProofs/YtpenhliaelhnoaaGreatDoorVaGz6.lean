/-
  Memory in zones: a step keeps all blocks outside of a zone; what lies in a zone is carried over steps that keep it.
  What the laws' helpers over a slice of bytes answer, with the slice as one value and its memory as a zone.
  What a call hands back, result by result: a temporary's value, or a struct that lies in a block of its own.
-/
import Derived.Test.YtpenhliaelhnoaaGreatDoorVaGz1
import Derived.Test.YtpenhliaelhnoaaGreatDoorVaGz2
set_option linter.unusedVariables false
set_option maxRecDepth 100000
namespace Go.Proofs.YtpenhliaelhnoaaGreatDoor.Zone
open Go.RowKit Mem Blk

structure Kept (lo hi : Nat) (w w' : World) : Prop where
 os : w'.os = w.os
 tape : w'.tape = w.tape
 output : w'.output = w.output
 size : w.heap.size ≤ w'.heap.size
 block : ∀ i, i < w.heap.size → (i < lo ∨ hi ≤ i) → w'.heap[i]? = w.heap[i]?

theorem Kept.of_below {w w' : World} (h : Below w.heap.size w w') (n : Nat) : Kept n n w w' := ⟨h.os, h.tape, h.output, h.size, fun i hi _ => h.block i hi⟩
theorem Kept.refl (lo hi : Nat) (w : World) : Kept lo hi w w := ⟨rfl, rfl, rfl, Nat.le_refl _, fun _ _ _ => rfl⟩
theorem Kept.of_grown {w w' : World} {g : Nat} (h : w.grownBy w' (some g)) : Kept g (g + 1) w w' := ⟨h.os, h.tape, h.output, h.size, fun i hi hg => h.block i hi (by simp only [ne_eq, Option.some.injEq]; omega)⟩
theorem Kept.trans {lo hi : Nat} {a b c : World} (h : Kept lo hi a b) (k : Kept lo hi b c) : Kept lo hi a c :=
 ⟨k.os.trans h.os, k.tape.trans h.tape, k.output.trans h.output, Nat.le_trans h.size k.size, fun i hi hg => (k.block i (Nat.lt_of_lt_of_le hi h.size) hg).trans (h.block i hi hg)⟩
theorem Kept.mono {lo hi lo' hi' : Nat} {a b : World} (h : Kept lo hi a b) (h1 : lo' ≤ lo) (h2 : hi ≤ hi') : Kept lo' hi' a b :=
 ⟨h.os, h.tape, h.output, h.size, fun i hi hg => h.block i hi (by omega)⟩
theorem Kept.below {lo hi n : Nat} {a b : World} (h : Kept lo hi a b) (h1 : n ≤ lo) (h2 : n ≤ a.heap.size) : Below n a b := ⟨h.os, h.tape, h.output, h.size, fun i hi => h.block i (by omega) (by omega)⟩
theorem Kept.setCell (w : World) (g i : Nat) (v : Value) : Kept g (g + 1) w (w.setCell ⟨g, i, none⟩ v) :=
 ⟨rfl, rfl, rfl, by simp, fun k _ hk => Below.heap_setCell w _ v k (by show k ≠ g; omega)⟩

structure Sl where
 a : Option Addr
 n : Nat
 c : Nat
def Sl.v (s : Sl) : Value := .slice s.a s.n s.c

structure SRd (w : World) (s : Sl) (l : List Int) : Prop where
 len : s.n = l.length
 rd : Rd w s.a l
 nil : s.a = none → s.c = 0
 cap : s.n ≤ s.c
 bytes : Bytes l

def SOwn (w : World) (lo hi : Nat) (s : Sl) (l : List Int) : Prop :=
 Bytes l ∧ ((s = ⟨none, 0, 0⟩ ∧ l = []) ∨ ∃ g, s.a = some ⟨g, 0, none⟩ ∧ s.n = l.length ∧ lo ≤ g ∧ g < hi ∧ Row w g s.c l)

theorem SOwn.rd {w : World} {lo hi : Nat} {s : Sl} {l : List Int} (h : SOwn w lo hi s l) : SRd w s l := by
 obtain ⟨hb, h | ⟨g, h1, h2, h3, h4, h5⟩⟩ := h
 ·
  obtain ⟨rfl, rfl⟩ := h
  exact ⟨rfl, (fun i hi => by cases hi), fun _ => rfl, Nat.le_refl _, hb⟩
 ·
  exact ⟨h2, by rw [h1]; exact h5.rd, (fun e => by rw [h1] at e; cases e), by rw [h2]; exact h5.1, hb⟩
theorem SOwn.carry {w w' : World} {lo hi a b : Nat} {s : Sl} {l : List Int} (h : SOwn w lo hi s l) (k : Kept a b w w') (d : hi ≤ a ∨ b ≤ lo) : SOwn w' lo hi s l := by
 obtain ⟨hb, h | ⟨g, h1, h2, h3, h4, h5⟩⟩ := h
 ·
  exact ⟨hb, .inl h⟩
 ·
  exact ⟨hb, .inr ⟨g, h1, h2, h3, h4, h5.keep (k.block g h5.lt (by omega))⟩⟩
theorem SOwn.len {w : World} {lo hi : Nat} {s : Sl} {l : List Int} (h : SOwn w lo hi s l) : s.n = l.length := h.rd.len
theorem SOwn.mono {w : World} {lo hi lo' hi' : Nat} {s : Sl} {l : List Int} (h : SOwn w lo hi s l) (h1 : lo' ≤ lo) (h2 : hi ≤ hi') : SOwn w lo' hi' s l := by
 obtain ⟨hb, h | ⟨g, q1, q2, q3, q4, q5⟩⟩ := h
 ·
  exact ⟨hb, .inl h⟩
 ·
  exact ⟨hb, .inr ⟨g, q1, q2, by omega, by omega, q5⟩⟩
theorem SOwn.nil (w : World) (lo hi : Nat) : SOwn w lo hi ⟨none, 0, 0⟩ [] := ⟨(fun z hz => by cases hz), .inl ⟨rfl, rfl⟩⟩
theorem SOwn.row {w : World} {lo hi g n c : Nat} {l : List Int} (h : Row w g c l) (hn : n = l.length) (hb : Bytes l) (h1 : lo ≤ g) (h2 : g < hi) : SOwn w lo hi ⟨some ⟨g, 0, none⟩, n, c⟩ l := ⟨hb, .inr ⟨g, rfl, hn, h1, h2, h⟩⟩
theorem SRd.later {w w' : World} {s : Sl} {l : List Int} (h : SRd w s l) (b : Below w.heap.size w w') : SRd w' s l := ⟨h.len, h.rd.later b (Nat.le_refl _), h.nil, h.cap, h.bytes⟩
end Go.Proofs.YtpenhliaelhnoaaGreatDoor.Zone

namespace Go.Proofs.YtpenhliaelhnoaaGreatDoor.Res
open Go.RowKit Blk

def one (tmps : Array Value) : ResultVar → Sem Value
 | .tmp t => pure (tmps.getD t undef)
 | .cell a t => do loadVar t (← asAddr (tmps.getD a undef))
def Is (P : Program) (tmps : Array Value) (w : World) (r : ResultVar) (v : Value) : Prop := (one tmps r).run P w = .ok v w
theorem is_tmp {P : Program} {tmps : Array Value} {w : World} {t : Tmp} {v : Value} (h : tmps.getD t undef = v) : Is P tmps w (.tmp t) v := by
 show (pure (tmps.getD t undef) : Sem Value).run P w = _; rw [h]; rfl
def aggB (P : Program) (ty : TypeId) (n : Nat) : Bool := (match P.underlying ty with | some (.struct _) | some (.array _ _) => true | _ => false) && (P.info? ty).map (·.size) == some n
theorem is_cell {P : Program} {tmps : Array Value} {w : World} {p : Tmp} {ty : TypeId} {g : Nat} {t : TypeId} {cs : List Value} (hp : tmps.getD p undef = .pointer (some ⟨g, 0, none⟩)) (hg : Blk w g t cs) (hu : aggB P ty cs.length = true) :
  Is P tmps w (.cell p ty) (.agg cs.toArray) := by
 unfold aggB at hu
 rw [Bool.and_eq_true, beq_iff_eq] at hu
 obtain ⟨h1, h2⟩ := hu
 show (do loadVar ty (← asAddr (tmps.getD p undef)) : Sem Value).run P w = _
 rw [hp]
 cases hd : P.underlying ty with
 | none => rw [hd] at h1; cases h1
 | some d =>
  rw [hd] at h1
  cases d with
  | struct fs => simp [asAddr, run_loadVar_row w g t ty cs.toArray (0, 0) (.struct fs) hg hd rfl (by simpa using h2)]
  | array n e => simp [asAddr, run_loadVar_row w g t ty cs.toArray (0, 0) (.array n e) hg hd rfl (by simpa using h2)]
  | _ => cases h1
theorem res1 {P : Program} {fn : Func} {tmps : Array Value} {w : World} {r0 : ResultVar} {v0 : Value} (h : fn.results = #[r0]) (h0 : Is P tmps w r0 v0) : (results fn tmps).run P w = .ok v0 w := by
 have e : results fn tmps = (do let vs ← fn.results.mapM (one tmps); pure (if h : vs.size = 1 then vs[0] else .tuple vs)) := rfl
 unfold Is at h0
 simp [e, h, h0]
theorem res2 {P : Program} {fn : Func} {tmps : Array Value} {w : World} {r0 r1 : ResultVar} {v0 v1 : Value} (h : fn.results = #[r0, r1]) (h0 : Is P tmps w r0 v0) (h1 : Is P tmps w r1 v1) : (results fn tmps).run P w = .ok (.tuple #[v0, v1]) w := by
 have e : results fn tmps = (do let vs ← fn.results.mapM (one tmps); pure (if h : vs.size = 1 then vs[0] else .tuple vs)) := rfl
 unfold Is at h0 h1
 simp [e, h, h0, h1]
theorem res3 {P : Program} {fn : Func} {tmps : Array Value} {w : World} {r0 r1 r2 : ResultVar} {v0 v1 v2 : Value} (h : fn.results = #[r0, r1, r2]) (h0 : Is P tmps w r0 v0) (h1 : Is P tmps w r1 v1) (h2 : Is P tmps w r2 v2) : (results fn tmps).run P w = .ok (.tuple #[v0, v1, v2]) w := by
 have e : results fn tmps = (do let vs ← fn.results.mapM (one tmps); pure (if h : vs.size = 1 then vs[0] else .tuple vs)) := rfl
 unfold Is at h0 h1 h2
 simp [e, h, h0, h1, h2]
end Go.Proofs.YtpenhliaelhnoaaGreatDoor.Res
