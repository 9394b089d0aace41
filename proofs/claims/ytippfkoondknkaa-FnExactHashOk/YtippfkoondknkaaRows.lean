/-
  No cell of these rows narrows 'for every input' (looked for: loops, veiled, ifaces, maps, wideKeys, modest, calm, conditions, laid).
  DERIVED. THE GIVEN ROWS OF THIS SEAT. 6 by the template 'for every input the law returns true; each argument reads behind the call as it read before'; 0 by the template 'total and deterministic' (their statements: YtippfkoondknkaaTotals.lean).
  GIVEN WITH THE SEED: the statements are not yours to turn. If you find one false, say at which input.
  Laid BY PROGRAM, IN A SANDBOX (cutbox-rows.mjs): the forced cells as the released guide's own fill.sh prints them over the translation 4785dc1a3693c0a5… (all of the seat's roots in one cut). By AI agents, Wed Nov 11 2026. No macro, syntax, notation, axiom, sorry.
-/
import Derived.Test.YtippfkoondknkaaChecked
import GoSem.Claim
import GoSem.ClaimJoined
import GoSem.ClaimMapViews
import Derived.JoinedTies
import Derived.KernelRfl
namespace Go.Proofs.Ytippfkoondknkaa
/- THE CELL 'sum', in the pinned program and in every row, IS THE sha256 OF THE DUMP (.gsa) THAT YtippfkoondknkaaProg.lean LOADS. Nothing in Lean hashes anything: it is a label: what it is worth is what the hold of that sum in a sandbox is worth. -/
noncomputable def Try.pinned : Pinned := { name := "ytippfkoondknkaa", sum := "4785dc1a3693c0a5fdd5c3c3694e695e95f55330f81a2e9a85bf6d0e89d8c7c0", checked := Try.checked }
namespace Rows
def none {H : Type} : Left H := { results := [], args := [] }

/-- 'laws.FnPads': WHATEVER THE INPUT: true; the input reads as it did. -/
def fnPadsSpec : ChangeSpec := { name := "fnPads", fn := fun _ => fun
  | [d] => { results := [.lit (.bool true)], args := [d] }
  | _ => none }
def fnPadsRow : OpenClaim := { program := "ytippfkoondknkaa", sum := "4785dc1a3693c0a5fdd5c3c3694e695e95f55330f81a2e9a85bf6d0e89d8c7c0", func := "loop.example/g00478/laws.FnPads", spec := "fnPads", apart := false }
def FnPadsSaid : Prop := fnPadsRow.holds Try.pinned (OpenSpec.ofChange fnPadsSpec)

/-- ITS FALSE NEIGHBOUR: 'it returns false'. Refute it at one input. -/
def fnPadsWrong : ChangeSpec := { name := "fnPads", fn := fun _ => fun
  | [d] => { results := [.lit (.bool false)], args := [d] }
  | _ => none }
def FnPadsWrongFalsely : Prop := fnPadsRow.holds Try.pinned (OpenSpec.ofChange fnPadsWrong)

/-- 'laws.FnExactPad': WHATEVER THE INPUT: true; the input reads as it did. -/
def fnExactPadSpec : ChangeSpec := { name := "fnExactPad", fn := fun _ => fun
  | [d] => { results := [.lit (.bool true)], args := [d] }
  | _ => none }
def fnExactPadRow : OpenClaim := { program := "ytippfkoondknkaa", sum := "4785dc1a3693c0a5fdd5c3c3694e695e95f55330f81a2e9a85bf6d0e89d8c7c0", func := "loop.example/g00478/laws.FnExactPad", spec := "fnExactPad", apart := false }
def FnExactPadSaid : Prop := fnExactPadRow.holds Try.pinned (OpenSpec.ofChange fnExactPadSpec)

/-- ITS FALSE NEIGHBOUR: 'it returns false'. Refute it at one input. -/
def fnExactPadWrong : ChangeSpec := { name := "fnExactPad", fn := fun _ => fun
  | [d] => { results := [.lit (.bool false)], args := [d] }
  | _ => none }
def FnExactPadWrongFalsely : Prop := fnExactPadRow.holds Try.pinned (OpenSpec.ofChange fnExactPadWrong)

/-- 'laws.FnExactStart': WHATEVER THE INPUT: true; the input reads as it did. -/
def fnExactStartSpec : ChangeSpec := { name := "fnExactStart", fn := fun _ => fun
  | [] => { results := [.lit (.bool true)], args := [] }
  | _ => none }
def fnExactStartRow : OpenClaim := { program := "ytippfkoondknkaa", sum := "4785dc1a3693c0a5fdd5c3c3694e695e95f55330f81a2e9a85bf6d0e89d8c7c0", func := "loop.example/g00478/laws.FnExactStart", spec := "fnExactStart", apart := false }
def FnExactStartSaid : Prop := fnExactStartRow.holds Try.pinned (OpenSpec.ofChange fnExactStartSpec)

/-- ITS FALSE NEIGHBOUR: 'it returns false'. Refute it at one input. -/
def fnExactStartWrong : ChangeSpec := { name := "fnExactStart", fn := fun _ => fun
  | [] => { results := [.lit (.bool false)], args := [] }
  | _ => none }
def FnExactStartWrongFalsely : Prop := fnExactStartRow.holds Try.pinned (OpenSpec.ofChange fnExactStartWrong)

/-- 'laws.FnExactSchedule': WHATEVER THE INPUT: true; the input reads as it did. -/
def fnExactScheduleSpec : ChangeSpec := { name := "fnExactSchedule", fn := fun _ => fun
  | [d] => { results := [.lit (.bool true)], args := [d] }
  | _ => none }
def fnExactScheduleRow : OpenClaim := { program := "ytippfkoondknkaa", sum := "4785dc1a3693c0a5fdd5c3c3694e695e95f55330f81a2e9a85bf6d0e89d8c7c0", func := "loop.example/g00478/laws.FnExactSchedule", spec := "fnExactSchedule", apart := false }
def FnExactScheduleSaid : Prop := fnExactScheduleRow.holds Try.pinned (OpenSpec.ofChange fnExactScheduleSpec)

/-- ITS FALSE NEIGHBOUR: 'it returns false'. Refute it at one input. -/
def fnExactScheduleWrong : ChangeSpec := { name := "fnExactSchedule", fn := fun _ => fun
  | [d] => { results := [.lit (.bool false)], args := [d] }
  | _ => none }
def FnExactScheduleWrongFalsely : Prop := fnExactScheduleRow.holds Try.pinned (OpenSpec.ofChange fnExactScheduleWrong)

/-- 'laws.FnExactHashNew': WHATEVER THE INPUT: true; the input reads as it did. -/
def fnExactHashNewSpec : ChangeSpec := { name := "fnExactHashNew", fn := fun _ => fun
  | [] => { results := [.lit (.bool true)], args := [] }
  | _ => none }
def fnExactHashNewRow : OpenClaim := { program := "ytippfkoondknkaa", sum := "4785dc1a3693c0a5fdd5c3c3694e695e95f55330f81a2e9a85bf6d0e89d8c7c0", func := "loop.example/g00478/laws.FnExactHashNew", spec := "fnExactHashNew", apart := false }
def FnExactHashNewSaid : Prop := fnExactHashNewRow.holds Try.pinned (OpenSpec.ofChange fnExactHashNewSpec)

/-- ITS FALSE NEIGHBOUR: 'it returns false'. Refute it at one input. -/
def fnExactHashNewWrong : ChangeSpec := { name := "fnExactHashNew", fn := fun _ => fun
  | [] => { results := [.lit (.bool false)], args := [] }
  | _ => none }
def FnExactHashNewWrongFalsely : Prop := fnExactHashNewRow.holds Try.pinned (OpenSpec.ofChange fnExactHashNewWrong)

/-- 'laws.FnExactHashOk': WHATEVER THE INPUT: true; the input reads as it did. -/
def fnExactHashOkSpec : ChangeSpec := { name := "fnExactHashOk", fn := fun _ => fun
  | [d] => { results := [.lit (.bool true)], args := [d] }
  | _ => none }
def fnExactHashOkRow : OpenClaim := { program := "ytippfkoondknkaa", sum := "4785dc1a3693c0a5fdd5c3c3694e695e95f55330f81a2e9a85bf6d0e89d8c7c0", func := "loop.example/g00478/laws.FnExactHashOk", spec := "fnExactHashOk", apart := false }
def FnExactHashOkSaid : Prop := fnExactHashOkRow.holds Try.pinned (OpenSpec.ofChange fnExactHashOkSpec)

/-- ITS FALSE NEIGHBOUR: 'it returns false'. Refute it at one input. -/
def fnExactHashOkWrong : ChangeSpec := { name := "fnExactHashOk", fn := fun _ => fun
  | [d] => { results := [.lit (.bool false)], args := [d] }
  | _ => none }
def FnExactHashOkWrongFalsely : Prop := fnExactHashOkRow.holds Try.pinned (OpenSpec.ofChange fnExactHashOkWrong)

/- THE SECOND FORM. 'bulk': how many values and letters a reading holds, each counted each time it is reached (what is shared counts as often as it is met; a slice's spare places count too). A statement '..UptoSaid' is the law's where the arguments, and the package variables that the reading takes, are together of bulk at most 1048576: NARROWER than '..Said'. Prove '..Said' where nothing that the law and all that it calls make is longer than what came in: it says more and counts as full. Else prove '..UptoSaid'. A law counts once. -/
mutual
def uptoBulk {H : Type} : DataW H → Nat
  | .lit (.string bytes) => bytes.length + 1
  | .lit _ => 1
  | .nil => 1
  | .ptr d => uptoBulk d + 1
  | .slice elems spare => uptoBulkAll elems + uptoBulkAll spare + 1
  | .agg parts => uptoBulkAll parts + 1
  | .iface _ d => uptoBulk d + 1
  | .map entries => uptoBulkEntries entries + 1
  | .held _ => 1
def uptoBulkAll {H : Type} : List (DataW H) → Nat
  | [] => 0
  | d :: r => uptoBulk d + uptoBulkAll r
def uptoBulkEntries {H : Type} : List (Lit × DataW H) → Nat
  | [] => 0
  | x :: r => uptoBulkEntry x + uptoBulkEntries r
def uptoBulkEntry {H : Type} : Lit × DataW H → Nat
  | (.string bytes, d) => bytes.length + uptoBulk d + 1
  | (_, d) => uptoBulk d + 1
 end
def uptoSmall : (H : Type) → List (DataW H) → Bool := fun _ ds => decide (uptoBulkAll ds ≤ 1048576)
def OpenSpec.upto (s : _root_.Go.ChangeSpec) : _root_.Go.OpenSpec := { _root_.Go.OpenSpec.ofChange s with cond := some uptoSmall }

/-- 'laws.FnPads', WHERE WHAT IT READS IS OF BULK AT MOST 1048576: true; the input reads as it did. -/
def fnPadsUptoRow : OpenClaim := { program := "ytippfkoondknkaa", sum := "4785dc1a3693c0a5fdd5c3c3694e695e95f55330f81a2e9a85bf6d0e89d8c7c0", func := "loop.example/g00478/laws.FnPads", spec := "fnPads", apart := false, narrowed := true }
def FnPadsUptoSaid : Prop := fnPadsUptoRow.holds Try.pinned (OpenSpec.upto fnPadsSpec)

/-- 'laws.FnExactPad', WHERE WHAT IT READS IS OF BULK AT MOST 1048576: true; the input reads as it did. -/
def fnExactPadUptoRow : OpenClaim := { program := "ytippfkoondknkaa", sum := "4785dc1a3693c0a5fdd5c3c3694e695e95f55330f81a2e9a85bf6d0e89d8c7c0", func := "loop.example/g00478/laws.FnExactPad", spec := "fnExactPad", apart := false, narrowed := true }
def FnExactPadUptoSaid : Prop := fnExactPadUptoRow.holds Try.pinned (OpenSpec.upto fnExactPadSpec)

/-- 'laws.FnExactStart', WHERE WHAT IT READS IS OF BULK AT MOST 1048576: true; the input reads as it did. -/
def fnExactStartUptoRow : OpenClaim := { program := "ytippfkoondknkaa", sum := "4785dc1a3693c0a5fdd5c3c3694e695e95f55330f81a2e9a85bf6d0e89d8c7c0", func := "loop.example/g00478/laws.FnExactStart", spec := "fnExactStart", apart := false, narrowed := true }
def FnExactStartUptoSaid : Prop := fnExactStartUptoRow.holds Try.pinned (OpenSpec.upto fnExactStartSpec)

/-- 'laws.FnExactSchedule', WHERE WHAT IT READS IS OF BULK AT MOST 1048576: true; the input reads as it did. -/
def fnExactScheduleUptoRow : OpenClaim := { program := "ytippfkoondknkaa", sum := "4785dc1a3693c0a5fdd5c3c3694e695e95f55330f81a2e9a85bf6d0e89d8c7c0", func := "loop.example/g00478/laws.FnExactSchedule", spec := "fnExactSchedule", apart := false, narrowed := true }
def FnExactScheduleUptoSaid : Prop := fnExactScheduleUptoRow.holds Try.pinned (OpenSpec.upto fnExactScheduleSpec)

/-- 'laws.FnExactHashNew', WHERE WHAT IT READS IS OF BULK AT MOST 1048576: true; the input reads as it did. -/
def fnExactHashNewUptoRow : OpenClaim := { program := "ytippfkoondknkaa", sum := "4785dc1a3693c0a5fdd5c3c3694e695e95f55330f81a2e9a85bf6d0e89d8c7c0", func := "loop.example/g00478/laws.FnExactHashNew", spec := "fnExactHashNew", apart := false, narrowed := true }
def FnExactHashNewUptoSaid : Prop := fnExactHashNewUptoRow.holds Try.pinned (OpenSpec.upto fnExactHashNewSpec)

/-- 'laws.FnExactHashOk', WHERE WHAT IT READS IS OF BULK AT MOST 1048576: true; the input reads as it did. -/
def fnExactHashOkUptoRow : OpenClaim := { program := "ytippfkoondknkaa", sum := "4785dc1a3693c0a5fdd5c3c3694e695e95f55330f81a2e9a85bf6d0e89d8c7c0", func := "loop.example/g00478/laws.FnExactHashOk", spec := "fnExactHashOk", apart := false, narrowed := true }
def FnExactHashOkUptoSaid : Prop := fnExactHashOkUptoRow.holds Try.pinned (OpenSpec.upto fnExactHashOkSpec)

end Rows
end Go.Proofs.Ytippfkoondknkaa
