/-
  No cell of these rows narrows 'for every input' (looked for: loops, veiled, ifaces, maps, wideKeys, modest, calm, conditions, laid).
  DERIVED. THE GIVEN ROWS OF THIS SEAT. 7 by the template 'for every input the law returns true; each argument reads behind the call as it read before'; 0 by the template 'total and deterministic' (their statements: YtadlckgaeljdkaaTotals.lean).
  GIVEN WITH THE SEED: the statements are not yours to turn. If you find one false, say at which input.
  Laid BY PROGRAM, IN A SANDBOX (cutbox-rows.mjs): the forced cells as the released guide's own fill.sh prints them over the translation 689784ad52dee106… (all of the seat's roots in one cut). By AI agents, Wed Nov 11 2026. No macro, syntax, notation, axiom, sorry.
-/
import Derived.Test.YtadlckgaeljdkaaChecked
import GoSem.Claim
import GoSem.ClaimJoined
import GoSem.ClaimMapViews
import Derived.JoinedTies
import Derived.KernelRfl
namespace Go.Proofs.Ytadlckgaeljdkaa
/- THE CELL 'sum', in the pinned program and in every row, IS THE sha256 OF THE DUMP (.gsa) THAT YtadlckgaeljdkaaProg.lean LOADS. Nothing in Lean hashes anything: it is a label: what it is worth is what the hold of that sum in a sandbox is worth. -/
noncomputable def Try.pinned : Pinned := { name := "ytadlckgaeljdkaa", sum := "689784ad52dee106e61ecbfef6c561d9a0345d8d8334499cdc8bcfc00be9aa53", checked := Try.checked }
namespace Rows
def none {H : Type} : Left H := { results := [], args := [] }

/-- 'laws.FnTimers': WHATEVER THE INPUT: true; the input reads as it did. -/
def fnTimersSpec : ChangeSpec := { name := "fnTimers", fn := fun _ => fun
  | [d] => { results := [.lit (.bool true)], args := [d] }
  | _ => none }
def fnTimersRow : OpenClaim := { program := "ytadlckgaeljdkaa", sum := "689784ad52dee106e61ecbfef6c561d9a0345d8d8334499cdc8bcfc00be9aa53", func := "loop.example/g00478/laws.FnTimers", spec := "fnTimers", apart := false }
def FnTimersSaid : Prop := fnTimersRow.holds Try.pinned (OpenSpec.ofChange fnTimersSpec)

/-- ITS FALSE NEIGHBOUR: 'it returns false'. Refute it at one input. -/
def fnTimersWrong : ChangeSpec := { name := "fnTimers", fn := fun _ => fun
  | [d] => { results := [.lit (.bool false)], args := [d] }
  | _ => none }
def FnTimersWrongFalsely : Prop := fnTimersRow.holds Try.pinned (OpenSpec.ofChange fnTimersWrong)

/-- 'laws.FnTimersBent': WHATEVER THE INPUT: true; the input reads as it did. -/
def fnTimersBentSpec : ChangeSpec := { name := "fnTimersBent", fn := fun _ => fun
  | [d] => { results := [.lit (.bool true)], args := [d] }
  | _ => none }
def fnTimersBentRow : OpenClaim := { program := "ytadlckgaeljdkaa", sum := "689784ad52dee106e61ecbfef6c561d9a0345d8d8334499cdc8bcfc00be9aa53", func := "loop.example/g00478/laws.FnTimersBent", spec := "fnTimersBent", apart := false }
def FnTimersBentSaid : Prop := fnTimersBentRow.holds Try.pinned (OpenSpec.ofChange fnTimersBentSpec)

/-- ITS FALSE NEIGHBOUR: 'it returns false'. Refute it at one input. -/
def fnTimersBentWrong : ChangeSpec := { name := "fnTimersBent", fn := fun _ => fun
  | [d] => { results := [.lit (.bool false)], args := [d] }
  | _ => none }
def FnTimersBentWrongFalsely : Prop := fnTimersBentRow.holds Try.pinned (OpenSpec.ofChange fnTimersBentWrong)

/-- 'laws.FnExactTimerSet': WHATEVER THE INPUT: true; the input reads as it did. -/
def fnExactTimerSetSpec : ChangeSpec := { name := "fnExactTimerSet", fn := fun _ => fun
  | [d] => { results := [.lit (.bool true)], args := [d] }
  | _ => none }
def fnExactTimerSetRow : OpenClaim := { program := "ytadlckgaeljdkaa", sum := "689784ad52dee106e61ecbfef6c561d9a0345d8d8334499cdc8bcfc00be9aa53", func := "loop.example/g00478/laws.FnExactTimerSet", spec := "fnExactTimerSet", apart := false }
def FnExactTimerSetSaid : Prop := fnExactTimerSetRow.holds Try.pinned (OpenSpec.ofChange fnExactTimerSetSpec)

/-- ITS FALSE NEIGHBOUR: 'it returns false'. Refute it at one input. -/
def fnExactTimerSetWrong : ChangeSpec := { name := "fnExactTimerSet", fn := fun _ => fun
  | [d] => { results := [.lit (.bool false)], args := [d] }
  | _ => none }
def FnExactTimerSetWrongFalsely : Prop := fnExactTimerSetRow.holds Try.pinned (OpenSpec.ofChange fnExactTimerSetWrong)

/-- 'laws.FnExactTimerOk': WHATEVER THE INPUT: true; the input reads as it did. -/
def fnExactTimerOkSpec : ChangeSpec := { name := "fnExactTimerOk", fn := fun _ => fun
  | [d] => { results := [.lit (.bool true)], args := [d] }
  | _ => none }
def fnExactTimerOkRow : OpenClaim := { program := "ytadlckgaeljdkaa", sum := "689784ad52dee106e61ecbfef6c561d9a0345d8d8334499cdc8bcfc00be9aa53", func := "loop.example/g00478/laws.FnExactTimerOk", spec := "fnExactTimerOk", apart := false }
def FnExactTimerOkSaid : Prop := fnExactTimerOkRow.holds Try.pinned (OpenSpec.ofChange fnExactTimerOkSpec)

/-- ITS FALSE NEIGHBOUR: 'it returns false'. Refute it at one input. -/
def fnExactTimerOkWrong : ChangeSpec := { name := "fnExactTimerOk", fn := fun _ => fun
  | [d] => { results := [.lit (.bool false)], args := [d] }
  | _ => none }
def FnExactTimerOkWrongFalsely : Prop := fnExactTimerOkRow.holds Try.pinned (OpenSpec.ofChange fnExactTimerOkWrong)

/-- 'laws.FnExactTimerFires': WHATEVER THE INPUT: true; the input reads as it did. -/
def fnExactTimerFiresSpec : ChangeSpec := { name := "fnExactTimerFires", fn := fun _ => fun
  | [d1, d2] => { results := [.lit (.bool true)], args := [d1, d2] }
  | _ => none }
def fnExactTimerFiresRow : OpenClaim := { program := "ytadlckgaeljdkaa", sum := "689784ad52dee106e61ecbfef6c561d9a0345d8d8334499cdc8bcfc00be9aa53", func := "loop.example/g00478/laws.FnExactTimerFires", spec := "fnExactTimerFires", apart := false }
def FnExactTimerFiresSaid : Prop := fnExactTimerFiresRow.holds Try.pinned (OpenSpec.ofChange fnExactTimerFiresSpec)

/-- ITS FALSE NEIGHBOUR: 'it returns false'. Refute it at one input. -/
def fnExactTimerFiresWrong : ChangeSpec := { name := "fnExactTimerFires", fn := fun _ => fun
  | [d1, d2] => { results := [.lit (.bool false)], args := [d1, d2] }
  | _ => none }
def FnExactTimerFiresWrongFalsely : Prop := fnExactTimerFiresRow.holds Try.pinned (OpenSpec.ofChange fnExactTimerFiresWrong)

/-- 'laws.FnExactTimerNext': WHATEVER THE INPUT: true; the input reads as it did. -/
def fnExactTimerNextSpec : ChangeSpec := { name := "fnExactTimerNext", fn := fun _ => fun
  | [d1, d2] => { results := [.lit (.bool true)], args := [d1, d2] }
  | _ => none }
def fnExactTimerNextRow : OpenClaim := { program := "ytadlckgaeljdkaa", sum := "689784ad52dee106e61ecbfef6c561d9a0345d8d8334499cdc8bcfc00be9aa53", func := "loop.example/g00478/laws.FnExactTimerNext", spec := "fnExactTimerNext", apart := false }
def FnExactTimerNextSaid : Prop := fnExactTimerNextRow.holds Try.pinned (OpenSpec.ofChange fnExactTimerNextSpec)

/-- ITS FALSE NEIGHBOUR: 'it returns false'. Refute it at one input. -/
def fnExactTimerNextWrong : ChangeSpec := { name := "fnExactTimerNext", fn := fun _ => fun
  | [d1, d2] => { results := [.lit (.bool false)], args := [d1, d2] }
  | _ => none }
def FnExactTimerNextWrongFalsely : Prop := fnExactTimerNextRow.holds Try.pinned (OpenSpec.ofChange fnExactTimerNextWrong)

/-- 'laws.FnExactSpanOf': WHATEVER THE INPUT: true; the input reads as it did. -/
def fnExactSpanOfSpec : ChangeSpec := { name := "fnExactSpanOf", fn := fun _ => fun
  | [d] => { results := [.lit (.bool true)], args := [d] }
  | _ => none }
def fnExactSpanOfRow : OpenClaim := { program := "ytadlckgaeljdkaa", sum := "689784ad52dee106e61ecbfef6c561d9a0345d8d8334499cdc8bcfc00be9aa53", func := "loop.example/g00478/laws.FnExactSpanOf", spec := "fnExactSpanOf", apart := false }
def FnExactSpanOfSaid : Prop := fnExactSpanOfRow.holds Try.pinned (OpenSpec.ofChange fnExactSpanOfSpec)

/-- ITS FALSE NEIGHBOUR: 'it returns false'. Refute it at one input. -/
def fnExactSpanOfWrong : ChangeSpec := { name := "fnExactSpanOf", fn := fun _ => fun
  | [d] => { results := [.lit (.bool false)], args := [d] }
  | _ => none }
def FnExactSpanOfWrongFalsely : Prop := fnExactSpanOfRow.holds Try.pinned (OpenSpec.ofChange fnExactSpanOfWrong)

/- THE SECOND FORM. 'bulk': how many values and letters a reading holds, each counted each time it is reached (what is shared counts as often as it is met; a slice's spare places count too). A statement '..UptoSaid' is the law's where the arguments, and the package variables that the reading takes, are together of bulk at most 1048576: NARROWER than '..Said'. Prove '..Said' where nothing that the law and all that it calls make is longer than what came in: it says more and counts as full. Else prove '..UptoSaid'. A law counts once. -/
mutual
def uptoBulk {H : Type} : DataW H → Nat
  | .lit (.string bytes) => bytes.length + 1
  | .lit _ => 1
  | .nil => 1
  | .ptr d => uptoBulk d + 1
  | .slice elems spare => uptoBulkAll elems + uptoBulkAll spare + 1
  | .agg parts => uptoBulkAll parts + 1
  | .iface _ d => uptoBulk d + 1
  | .map entries => uptoBulkEntries entries + 1
  | .held _ => 1
def uptoBulkAll {H : Type} : List (DataW H) → Nat
  | [] => 0
  | d :: r => uptoBulk d + uptoBulkAll r
def uptoBulkEntries {H : Type} : List (Lit × DataW H) → Nat
  | [] => 0
  | x :: r => uptoBulkEntry x + uptoBulkEntries r
def uptoBulkEntry {H : Type} : Lit × DataW H → Nat
  | (.string bytes, d) => bytes.length + uptoBulk d + 1
  | (_, d) => uptoBulk d + 1
 end
def uptoSmall : (H : Type) → List (DataW H) → Bool := fun _ ds => decide (uptoBulkAll ds ≤ 1048576)
def OpenSpec.upto (s : _root_.Go.ChangeSpec) : _root_.Go.OpenSpec := { _root_.Go.OpenSpec.ofChange s with cond := some uptoSmall }

/-- 'laws.FnTimers', WHERE WHAT IT READS IS OF BULK AT MOST 1048576: true; the input reads as it did. -/
def fnTimersUptoRow : OpenClaim := { program := "ytadlckgaeljdkaa", sum := "689784ad52dee106e61ecbfef6c561d9a0345d8d8334499cdc8bcfc00be9aa53", func := "loop.example/g00478/laws.FnTimers", spec := "fnTimers", apart := false, narrowed := true }
def FnTimersUptoSaid : Prop := fnTimersUptoRow.holds Try.pinned (OpenSpec.upto fnTimersSpec)

/-- 'laws.FnTimersBent', WHERE WHAT IT READS IS OF BULK AT MOST 1048576: true; the input reads as it did. -/
def fnTimersBentUptoRow : OpenClaim := { program := "ytadlckgaeljdkaa", sum := "689784ad52dee106e61ecbfef6c561d9a0345d8d8334499cdc8bcfc00be9aa53", func := "loop.example/g00478/laws.FnTimersBent", spec := "fnTimersBent", apart := false, narrowed := true }
def FnTimersBentUptoSaid : Prop := fnTimersBentUptoRow.holds Try.pinned (OpenSpec.upto fnTimersBentSpec)

/-- 'laws.FnExactTimerSet', WHERE WHAT IT READS IS OF BULK AT MOST 1048576: true; the input reads as it did. -/
def fnExactTimerSetUptoRow : OpenClaim := { program := "ytadlckgaeljdkaa", sum := "689784ad52dee106e61ecbfef6c561d9a0345d8d8334499cdc8bcfc00be9aa53", func := "loop.example/g00478/laws.FnExactTimerSet", spec := "fnExactTimerSet", apart := false, narrowed := true }
def FnExactTimerSetUptoSaid : Prop := fnExactTimerSetUptoRow.holds Try.pinned (OpenSpec.upto fnExactTimerSetSpec)

/-- 'laws.FnExactTimerOk', WHERE WHAT IT READS IS OF BULK AT MOST 1048576: true; the input reads as it did. -/
def fnExactTimerOkUptoRow : OpenClaim := { program := "ytadlckgaeljdkaa", sum := "689784ad52dee106e61ecbfef6c561d9a0345d8d8334499cdc8bcfc00be9aa53", func := "loop.example/g00478/laws.FnExactTimerOk", spec := "fnExactTimerOk", apart := false, narrowed := true }
def FnExactTimerOkUptoSaid : Prop := fnExactTimerOkUptoRow.holds Try.pinned (OpenSpec.upto fnExactTimerOkSpec)

/-- 'laws.FnExactTimerFires', WHERE WHAT IT READS IS OF BULK AT MOST 1048576: true; the input reads as it did. -/
def fnExactTimerFiresUptoRow : OpenClaim := { program := "ytadlckgaeljdkaa", sum := "689784ad52dee106e61ecbfef6c561d9a0345d8d8334499cdc8bcfc00be9aa53", func := "loop.example/g00478/laws.FnExactTimerFires", spec := "fnExactTimerFires", apart := false, narrowed := true }
def FnExactTimerFiresUptoSaid : Prop := fnExactTimerFiresUptoRow.holds Try.pinned (OpenSpec.upto fnExactTimerFiresSpec)

/-- 'laws.FnExactTimerNext', WHERE WHAT IT READS IS OF BULK AT MOST 1048576: true; the input reads as it did. -/
def fnExactTimerNextUptoRow : OpenClaim := { program := "ytadlckgaeljdkaa", sum := "689784ad52dee106e61ecbfef6c561d9a0345d8d8334499cdc8bcfc00be9aa53", func := "loop.example/g00478/laws.FnExactTimerNext", spec := "fnExactTimerNext", apart := false, narrowed := true }
def FnExactTimerNextUptoSaid : Prop := fnExactTimerNextUptoRow.holds Try.pinned (OpenSpec.upto fnExactTimerNextSpec)

/-- 'laws.FnExactSpanOf', WHERE WHAT IT READS IS OF BULK AT MOST 1048576: true; the input reads as it did. -/
def fnExactSpanOfUptoRow : OpenClaim := { program := "ytadlckgaeljdkaa", sum := "689784ad52dee106e61ecbfef6c561d9a0345d8d8334499cdc8bcfc00be9aa53", func := "loop.example/g00478/laws.FnExactSpanOf", spec := "fnExactSpanOf", apart := false, narrowed := true }
def FnExactSpanOfUptoSaid : Prop := fnExactSpanOfUptoRow.holds Try.pinned (OpenSpec.upto fnExactSpanOfSpec)

end Rows
end Go.Proofs.Ytadlckgaeljdkaa
