/-
  What a call hands back, result by result: a temporary's value, or a struct that lies in a block of its own.
-/
import Derived.Test.YtadlckgaeljdkaaBlk
namespace Go.Proofs.Ytadlckgaeljdkaa.Res
open Go.RowKit Go.Proofs.Ytadlckgaeljdkaa.Blk

/-- One result. -/
def one (tmps : Array Value) : ResultVar → Sem Value
  | .tmp t => pure (tmps.getD t undef)
  | .cell a t => do loadVar t (← asAddr (tmps.getD a undef))
/-- Result r is v. -/
def Is (P : Program) (tmps : Array Value) (w : World) (r : ResultVar) (v : Value) : Prop := (one tmps r).run P w = .ok v w
set_option maxRecDepth 100000 in
theorem is_tmp {P : Program} {tmps : Array Value} {w : World} {t : Tmp} {v : Value} (h : tmps.getD t undef = v) : Is P tmps w (.tmp t) v := by
  show (pure (tmps.getD t undef) : Sem Value).run P w = _; rw [h]; rfl
/-- A type is a struct or an array of so many cells. -/
def aggB (P : Program) (ty : TypeId) (n : Nat) : Bool := (match P.underlying ty with | some (.struct _) | some (.array _ _) => true | _ => false) && (P.info? ty).map (·.size) == some n
set_option maxRecDepth 100000 in
theorem is_cell {P : Program} {tmps : Array Value} {w : World} {p : Tmp} {ty : TypeId} {g : Nat} {t : TypeId} {cs : List Value} (hp : tmps.getD p undef = .pointer (some ⟨g, 0, none⟩)) (hg : Blk w g t cs) (hu : aggB P ty cs.length = true) :
    Is P tmps w (.cell p ty) (.agg cs.toArray) := by
  unfold aggB at hu
  rw [Bool.and_eq_true, beq_iff_eq] at hu
  obtain ⟨h1, h2⟩ := hu
  show (do loadVar ty (← asAddr (tmps.getD p undef)) : Sem Value).run P w = _
  rw [hp]
  cases hd : P.underlying ty with
  | none => rw [hd] at h1; cases h1
  | some d =>
    rw [hd] at h1
    cases d with
    | struct fs => simp [asAddr, run_loadVar_row w g t ty cs.toArray (0, 0) (.struct fs) hg hd rfl (by simpa using h2)]
    | array n e => simp [asAddr, run_loadVar_row w g t ty cs.toArray (0, 0) (.array n e) hg hd rfl (by simpa using h2)]
    | _ => cases h1
set_option maxRecDepth 100000 in
theorem res1 {P : Program} {fn : Func} {tmps : Array Value} {w : World} {r0 : ResultVar} {v0 : Value} (h : fn.results = #[r0]) (h0 : Is P tmps w r0 v0) : (results fn tmps).run P w = .ok v0 w := by
  have e : results fn tmps = (do let vs ← fn.results.mapM (one tmps); pure (if h : vs.size = 1 then vs[0] else .tuple vs)) := rfl
  unfold Is at h0
  simp [e, h, h0]
set_option maxRecDepth 100000 in
theorem res2 {P : Program} {fn : Func} {tmps : Array Value} {w : World} {r0 r1 : ResultVar} {v0 v1 : Value} (h : fn.results = #[r0, r1]) (h0 : Is P tmps w r0 v0) (h1 : Is P tmps w r1 v1) : (results fn tmps).run P w = .ok (.tuple #[v0, v1]) w := by
  have e : results fn tmps = (do let vs ← fn.results.mapM (one tmps); pure (if h : vs.size = 1 then vs[0] else .tuple vs)) := rfl
  unfold Is at h0 h1
  simp [e, h, h0, h1]
set_option maxRecDepth 100000 in
theorem res3 {P : Program} {fn : Func} {tmps : Array Value} {w : World} {r0 r1 r2 : ResultVar} {v0 v1 v2 : Value} (h : fn.results = #[r0, r1, r2]) (h0 : Is P tmps w r0 v0) (h1 : Is P tmps w r1 v1) (h2 : Is P tmps w r2 v2) : (results fn tmps).run P w = .ok (.tuple #[v0, v1, v2]) w := by
  have e : results fn tmps = (do let vs ← fn.results.mapM (one tmps); pure (if h : vs.size = 1 then vs[0] else .tuple vs)) := rfl
  unfold Is at h0 h1 h2
  simp [e, h, h0, h1, h2]
set_option maxRecDepth 100000 in
theorem res4 {P : Program} {fn : Func} {tmps : Array Value} {w : World} {r0 r1 r2 r3 : ResultVar} {v0 v1 v2 v3 : Value} (h : fn.results = #[r0, r1, r2, r3]) (h0 : Is P tmps w r0 v0) (h1 : Is P tmps w r1 v1) (h2 : Is P tmps w r2 v2) (h3 : Is P tmps w r3 v3) : (results fn tmps).run P w = .ok (.tuple #[v0, v1, v2, v3]) w := by
  have e : results fn tmps = (do let vs ← fn.results.mapM (one tmps); pure (if h : vs.size = 1 then vs[0] else .tuple vs)) := rfl
  unfold Is at h0 h1 h2 h3
  simp [e, h, h0, h1, h2, h3]
end Go.Proofs.Ytadlckgaeljdkaa.Res
