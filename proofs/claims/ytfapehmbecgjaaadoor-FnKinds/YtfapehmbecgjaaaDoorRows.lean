/-
  NARROWER THAN 'FOR EVERY INPUT', by the rows' own cells (each row's printed sentence says how): FnKinds: laid · FnExactKindName: laid · FnExactKindOf: laid.
  DERIVED. THE GIVEN ROWS OF THIS SEAT. 3 by the template 'for every input the law returns true; each argument reads behind the call as it read before'; 0 by the template 'total and deterministic' (their statements: YtfapehmbecgjaaaDoorTotals.lean).
  GIVEN WITH THE SEED: the statements are not yours to turn. If you find one false, say at which input.
  Laid BY PROGRAM, IN A SANDBOX (cutbox-rows.mjs): the forced cells as the released guide's own fill.sh prints them over the translation 6b99301d6e1eccdf… (all of the seat's roots in one cut). By AI agents, Wed Nov 11 2026. No macro, syntax, notation, axiom, sorry.
-/
import Derived.Test.YtfapehmbecgjaaaDoorChecked
import GoSem.Claim
import GoSem.ClaimJoined
import GoSem.ClaimMapViews
import Derived.JoinedTies
import Derived.KernelRfl
namespace Go.Proofs.YtfapehmbecgjaaaDoor
/- THE CELL 'sum', in the pinned program and in every row, IS THE sha256 OF THE DUMP (.gsa) THAT YtfapehmbecgjaaaDoorProg.lean LOADS. Nothing in Lean hashes anything: it is a label: what it is worth is what the hold of that sum in a sandbox is worth. -/
noncomputable def Tryd.pinned : Pinned := { name := "ytfapehmbecgjaaadoor", sum := "6b99301d6e1eccdf6f5b6940802f35463aa2954eae5fb437f46387568b18cfb3", checked := Tryd.checked }
namespace Rows
def none {H : Type} : Left H := { results := [], args := [] }

/- WHAT THE LISTED PACKAGE-LEVEL VARIABLES READ AS WHEN THE CALL BEGINS. Each datum BY PROGRAM (the guide's laid-datum.mjs) off the statement by which the dump's own 'gosem.cut.vars' lays the variable. In a bare row this is a premise. The card (YtfapehmbecgjaaaDoorCards.lean) ties it to the program's text. -/
def laid_loop_example_g00478_impl_kindNames {H : Type} : DataW H := .agg [.lit (.string [105, 110, 105, 116]), .lit (.string [99, 111, 111, 107, 105, 101]), .lit (.string [102, 105, 110, 105, 115, 104]), .lit (.string [100, 97, 116, 97]), .lit (.string [99, 104, 97, 108, 108, 101, 110, 103, 101]), .lit (.string [114, 101, 115, 112, 111, 110, 115, 101]), .lit (.string [114, 101, 107, 101, 121]), .lit (.string [114, 101, 107, 101, 121, 97, 99, 107])]

/-- 'laws.FnKinds': WHATEVER THE INPUT: true; the input reads as it did. -/
def fnKindsSpec : ChangeSpec := { name := "fnKinds", vars := ["loop.example/g00478/impl.kindNames"], fn := fun _ => fun
  | [d, g1] => { results := [.lit (.bool true)], args := [d], vars := [g1] }
  | _ => none }
def fnKindsRow : OpenClaim := { program := "ytfapehmbecgjaaadoor", sum := "6b99301d6e1eccdf6f5b6940802f35463aa2954eae5fb437f46387568b18cfb3", func := "loop.example/g00478/laws.FnKinds", spec := "fnKinds", named := ["loop.example/g00478/impl.kindNames"], apart := false, laid := [("loop.example/g00478/impl.kindNames", laid_loop_example_g00478_impl_kindNames)] }
def FnKindsSaid : Prop := fnKindsRow.holds Tryd.pinned (OpenSpec.ofChange fnKindsSpec)

/-- ITS FALSE NEIGHBOUR: 'it returns false'. Refute it at one input. -/
def fnKindsWrong : ChangeSpec := { name := "fnKinds", vars := ["loop.example/g00478/impl.kindNames"], fn := fun _ => fun
  | [d, g1] => { results := [.lit (.bool false)], args := [d], vars := [g1] }
  | _ => none }
def FnKindsWrongFalsely : Prop := fnKindsRow.holds Tryd.pinned (OpenSpec.ofChange fnKindsWrong)

/-- 'laws.FnExactKindName': WHATEVER THE INPUT: true; the input reads as it did. -/
def fnExactKindNameSpec : ChangeSpec := { name := "fnExactKindName", vars := ["loop.example/g00478/impl.kindNames"], fn := fun _ => fun
  | [d, g1] => { results := [.lit (.bool true)], args := [d], vars := [g1] }
  | _ => none }
def fnExactKindNameRow : OpenClaim := { program := "ytfapehmbecgjaaadoor", sum := "6b99301d6e1eccdf6f5b6940802f35463aa2954eae5fb437f46387568b18cfb3", func := "loop.example/g00478/laws.FnExactKindName", spec := "fnExactKindName", named := ["loop.example/g00478/impl.kindNames"], apart := false, laid := [("loop.example/g00478/impl.kindNames", laid_loop_example_g00478_impl_kindNames)] }
def FnExactKindNameSaid : Prop := fnExactKindNameRow.holds Tryd.pinned (OpenSpec.ofChange fnExactKindNameSpec)

/-- ITS FALSE NEIGHBOUR: 'it returns false'. Refute it at one input. -/
def fnExactKindNameWrong : ChangeSpec := { name := "fnExactKindName", vars := ["loop.example/g00478/impl.kindNames"], fn := fun _ => fun
  | [d, g1] => { results := [.lit (.bool false)], args := [d], vars := [g1] }
  | _ => none }
def FnExactKindNameWrongFalsely : Prop := fnExactKindNameRow.holds Tryd.pinned (OpenSpec.ofChange fnExactKindNameWrong)

/-- 'laws.FnExactKindOf': WHATEVER THE INPUT: true; the input reads as it did. -/
def fnExactKindOfSpec : ChangeSpec := { name := "fnExactKindOf", vars := ["loop.example/g00478/impl.kindNames"], fn := fun _ => fun
  | [d, g1] => { results := [.lit (.bool true)], args := [d], vars := [g1] }
  | _ => none }
def fnExactKindOfRow : OpenClaim := { program := "ytfapehmbecgjaaadoor", sum := "6b99301d6e1eccdf6f5b6940802f35463aa2954eae5fb437f46387568b18cfb3", func := "loop.example/g00478/laws.FnExactKindOf", spec := "fnExactKindOf", named := ["loop.example/g00478/impl.kindNames"], apart := false, laid := [("loop.example/g00478/impl.kindNames", laid_loop_example_g00478_impl_kindNames)] }
def FnExactKindOfSaid : Prop := fnExactKindOfRow.holds Tryd.pinned (OpenSpec.ofChange fnExactKindOfSpec)

/-- ITS FALSE NEIGHBOUR: 'it returns false'. Refute it at one input. -/
def fnExactKindOfWrong : ChangeSpec := { name := "fnExactKindOf", vars := ["loop.example/g00478/impl.kindNames"], fn := fun _ => fun
  | [d, g1] => { results := [.lit (.bool false)], args := [d], vars := [g1] }
  | _ => none }
def FnExactKindOfWrongFalsely : Prop := fnExactKindOfRow.holds Tryd.pinned (OpenSpec.ofChange fnExactKindOfWrong)

/- THE SECOND FORM. 'bulk': how many values and letters a reading holds, each counted each time it is reached (what is shared counts as often as it is met; a slice's spare places count too). A statement '..UptoSaid' is the law's where the arguments, and the package variables that the reading takes, are together of bulk at most 1048576: NARROWER than '..Said'. Prove '..Said' where nothing that the law and all that it calls make is longer than what came in: it says more and counts as full. Else prove '..UptoSaid'. A law counts once. -/
mutual
def uptoBulk {H : Type} : DataW H → Nat
  | .lit (.string bytes) => bytes.length + 1
  | .lit _ => 1
  | .nil => 1
  | .ptr d => uptoBulk d + 1
  | .slice elems spare => uptoBulkAll elems + uptoBulkAll spare + 1
  | .agg parts => uptoBulkAll parts + 1
  | .iface _ d => uptoBulk d + 1
  | .map entries => uptoBulkEntries entries + 1
  | .held _ => 1
def uptoBulkAll {H : Type} : List (DataW H) → Nat
  | [] => 0
  | d :: r => uptoBulk d + uptoBulkAll r
def uptoBulkEntries {H : Type} : List (Lit × DataW H) → Nat
  | [] => 0
  | x :: r => uptoBulkEntry x + uptoBulkEntries r
def uptoBulkEntry {H : Type} : Lit × DataW H → Nat
  | (.string bytes, d) => bytes.length + uptoBulk d + 1
  | (_, d) => uptoBulk d + 1
 end
def uptoSmall : (H : Type) → List (DataW H) → Bool := fun _ ds => decide (uptoBulkAll ds ≤ 1048576)
def OpenSpec.upto (s : _root_.Go.ChangeSpec) : _root_.Go.OpenSpec := { _root_.Go.OpenSpec.ofChange s with cond := some uptoSmall }

/-- 'laws.FnKinds', WHERE WHAT IT READS IS OF BULK AT MOST 1048576: true; the input reads as it did. -/
def fnKindsUptoRow : OpenClaim := { program := "ytfapehmbecgjaaadoor", sum := "6b99301d6e1eccdf6f5b6940802f35463aa2954eae5fb437f46387568b18cfb3", func := "loop.example/g00478/laws.FnKinds", spec := "fnKinds", named := ["loop.example/g00478/impl.kindNames"], apart := false, laid := [("loop.example/g00478/impl.kindNames", laid_loop_example_g00478_impl_kindNames)], narrowed := true }
def FnKindsUptoSaid : Prop := fnKindsUptoRow.holds Tryd.pinned (OpenSpec.upto fnKindsSpec)

/-- 'laws.FnExactKindName', WHERE WHAT IT READS IS OF BULK AT MOST 1048576: true; the input reads as it did. -/
def fnExactKindNameUptoRow : OpenClaim := { program := "ytfapehmbecgjaaadoor", sum := "6b99301d6e1eccdf6f5b6940802f35463aa2954eae5fb437f46387568b18cfb3", func := "loop.example/g00478/laws.FnExactKindName", spec := "fnExactKindName", named := ["loop.example/g00478/impl.kindNames"], apart := false, laid := [("loop.example/g00478/impl.kindNames", laid_loop_example_g00478_impl_kindNames)], narrowed := true }
def FnExactKindNameUptoSaid : Prop := fnExactKindNameUptoRow.holds Tryd.pinned (OpenSpec.upto fnExactKindNameSpec)

/-- 'laws.FnExactKindOf', WHERE WHAT IT READS IS OF BULK AT MOST 1048576: true; the input reads as it did. -/
def fnExactKindOfUptoRow : OpenClaim := { program := "ytfapehmbecgjaaadoor", sum := "6b99301d6e1eccdf6f5b6940802f35463aa2954eae5fb437f46387568b18cfb3", func := "loop.example/g00478/laws.FnExactKindOf", spec := "fnExactKindOf", named := ["loop.example/g00478/impl.kindNames"], apart := false, laid := [("loop.example/g00478/impl.kindNames", laid_loop_example_g00478_impl_kindNames)], narrowed := true }
def FnExactKindOfUptoSaid : Prop := fnExactKindOfUptoRow.holds Tryd.pinned (OpenSpec.upto fnExactKindOfSpec)

end Rows
end Go.Proofs.YtfapehmbecgjaaaDoor
