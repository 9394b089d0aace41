/-
  No cell of these rows narrows 'for every input' (looked for: loops, veiled, ifaces, maps, wideKeys, modest, calm, conditions, laid).
  DERIVED. THE GIVEN ROWS OF THIS SEAT. 10 by the template 'for every input the law returns true; each argument reads behind the call as it read before'; 0 by the template 'total and deterministic' (their statements: YtdfjpmldcbbmkaaTotals.lean).
  GIVEN WITH THE SEED: the statements are not yours to turn. If you find one false, say at which input.
  Laid BY PROGRAM, IN A SANDBOX (cutbox-rows.mjs): the forced cells as the released guide's own fill.sh prints them over the translation ac4a699d0c39a83c… (all of the seat's roots in one cut). By AI agents, Wed Nov 11 2026. No macro, syntax, notation, axiom, sorry.
-/
import Derived.Test.YtdfjpmldcbbmkaaChecked
import GoSem.Claim
import GoSem.ClaimJoined
import GoSem.ClaimMapViews
import Derived.JoinedTies
import Derived.KernelRfl
namespace Go.Proofs.Ytdfjpmldcbbmkaa
/- THE CELL 'sum', in the pinned program and in every row, IS THE sha256 OF THE DUMP (.gsa) THAT YtdfjpmldcbbmkaaProg.lean LOADS. Nothing in Lean hashes anything: it is a label: what it is worth is what the hold of that sum in a sandbox is worth. -/
noncomputable def Try.pinned : Pinned := { name := "ytdfjpmldcbbmkaa", sum := "ac4a699d0c39a83c243fc39e04060c02679d91862b97c70774377a1a56b022f2", checked := Try.checked }
namespace Rows
def none {H : Type} : Left H := { results := [], args := [] }

/-- 'laws.FnNumbers': WHATEVER THE INPUT: true; the input reads as it did. -/
def fnNumbersSpec : ChangeSpec := { name := "fnNumbers", fn := fun _ => fun
  | [d] => { results := [.lit (.bool true)], args := [d] }
  | _ => none }
def fnNumbersRow : OpenClaim := { program := "ytdfjpmldcbbmkaa", sum := "ac4a699d0c39a83c243fc39e04060c02679d91862b97c70774377a1a56b022f2", func := "loop.example/g00478/laws.FnNumbers", spec := "fnNumbers", apart := false }
def FnNumbersSaid : Prop := fnNumbersRow.holds Try.pinned (OpenSpec.ofChange fnNumbersSpec)

/-- ITS FALSE NEIGHBOUR: 'it returns false'. Refute it at one input. -/
def fnNumbersWrong : ChangeSpec := { name := "fnNumbers", fn := fun _ => fun
  | [d] => { results := [.lit (.bool false)], args := [d] }
  | _ => none }
def FnNumbersWrongFalsely : Prop := fnNumbersRow.holds Try.pinned (OpenSpec.ofChange fnNumbersWrong)

/-- 'laws.FnRots': WHATEVER THE INPUT: true; the input reads as it did. -/
def fnRotsSpec : ChangeSpec := { name := "fnRots", fn := fun _ => fun
  | [d] => { results := [.lit (.bool true)], args := [d] }
  | _ => none }
def fnRotsRow : OpenClaim := { program := "ytdfjpmldcbbmkaa", sum := "ac4a699d0c39a83c243fc39e04060c02679d91862b97c70774377a1a56b022f2", func := "loop.example/g00478/laws.FnRots", spec := "fnRots", apart := false }
def FnRotsSaid : Prop := fnRotsRow.holds Try.pinned (OpenSpec.ofChange fnRotsSpec)

/-- ITS FALSE NEIGHBOUR: 'it returns false'. Refute it at one input. -/
def fnRotsWrong : ChangeSpec := { name := "fnRots", fn := fun _ => fun
  | [d] => { results := [.lit (.bool false)], args := [d] }
  | _ => none }
def FnRotsWrongFalsely : Prop := fnRotsRow.holds Try.pinned (OpenSpec.ofChange fnRotsWrong)

/-- 'laws.FnHex': WHATEVER THE INPUT: true; the input reads as it did. -/
def fnHexSpec : ChangeSpec := { name := "fnHex", fn := fun _ => fun
  | [d] => { results := [.lit (.bool true)], args := [d] }
  | _ => none }
def fnHexRow : OpenClaim := { program := "ytdfjpmldcbbmkaa", sum := "ac4a699d0c39a83c243fc39e04060c02679d91862b97c70774377a1a56b022f2", func := "loop.example/g00478/laws.FnHex", spec := "fnHex", apart := false }
def FnHexSaid : Prop := fnHexRow.holds Try.pinned (OpenSpec.ofChange fnHexSpec)

/-- ITS FALSE NEIGHBOUR: 'it returns false'. Refute it at one input. -/
def fnHexWrong : ChangeSpec := { name := "fnHex", fn := fun _ => fun
  | [d] => { results := [.lit (.bool false)], args := [d] }
  | _ => none }
def FnHexWrongFalsely : Prop := fnHexRow.holds Try.pinned (OpenSpec.ofChange fnHexWrong)

/-- 'laws.FnExactPutN': WHATEVER THE INPUT: true; the input reads as it did. -/
def fnExactPutNSpec : ChangeSpec := { name := "fnExactPutN", fn := fun _ => fun
  | [d1, d2, d3] => { results := [.lit (.bool true)], args := [d1, d2, d3] }
  | _ => none }
def fnExactPutNRow : OpenClaim := { program := "ytdfjpmldcbbmkaa", sum := "ac4a699d0c39a83c243fc39e04060c02679d91862b97c70774377a1a56b022f2", func := "loop.example/g00478/laws.FnExactPutN", spec := "fnExactPutN", apart := false }
def FnExactPutNSaid : Prop := fnExactPutNRow.holds Try.pinned (OpenSpec.ofChange fnExactPutNSpec)

/-- ITS FALSE NEIGHBOUR: 'it returns false'. Refute it at one input. -/
def fnExactPutNWrong : ChangeSpec := { name := "fnExactPutN", fn := fun _ => fun
  | [d1, d2, d3] => { results := [.lit (.bool false)], args := [d1, d2, d3] }
  | _ => none }
def FnExactPutNWrongFalsely : Prop := fnExactPutNRow.holds Try.pinned (OpenSpec.ofChange fnExactPutNWrong)

/-- 'laws.FnExactGetN': WHATEVER THE INPUT: true; the input reads as it did. -/
def fnExactGetNSpec : ChangeSpec := { name := "fnExactGetN", fn := fun _ => fun
  | [d1, d2, d3] => { results := [.lit (.bool true)], args := [d1, d2, d3] }
  | _ => none }
def fnExactGetNRow : OpenClaim := { program := "ytdfjpmldcbbmkaa", sum := "ac4a699d0c39a83c243fc39e04060c02679d91862b97c70774377a1a56b022f2", func := "loop.example/g00478/laws.FnExactGetN", spec := "fnExactGetN", apart := false }
def FnExactGetNSaid : Prop := fnExactGetNRow.holds Try.pinned (OpenSpec.ofChange fnExactGetNSpec)

/-- ITS FALSE NEIGHBOUR: 'it returns false'. Refute it at one input. -/
def fnExactGetNWrong : ChangeSpec := { name := "fnExactGetN", fn := fun _ => fun
  | [d1, d2, d3] => { results := [.lit (.bool false)], args := [d1, d2, d3] }
  | _ => none }
def FnExactGetNWrongFalsely : Prop := fnExactGetNRow.holds Try.pinned (OpenSpec.ofChange fnExactGetNWrong)

/-- 'laws.FnExactRot': WHATEVER THE INPUT: true; the input reads as it did. -/
def fnExactRotSpec : ChangeSpec := { name := "fnExactRot", fn := fun _ => fun
  | [d1, d2] => { results := [.lit (.bool true)], args := [d1, d2] }
  | _ => none }
def fnExactRotRow : OpenClaim := { program := "ytdfjpmldcbbmkaa", sum := "ac4a699d0c39a83c243fc39e04060c02679d91862b97c70774377a1a56b022f2", func := "loop.example/g00478/laws.FnExactRot", spec := "fnExactRot", apart := false }
def FnExactRotSaid : Prop := fnExactRotRow.holds Try.pinned (OpenSpec.ofChange fnExactRotSpec)

/-- ITS FALSE NEIGHBOUR: 'it returns false'. Refute it at one input. -/
def fnExactRotWrong : ChangeSpec := { name := "fnExactRot", fn := fun _ => fun
  | [d1, d2] => { results := [.lit (.bool false)], args := [d1, d2] }
  | _ => none }
def FnExactRotWrongFalsely : Prop := fnExactRotRow.holds Try.pinned (OpenSpec.ofChange fnExactRotWrong)

/-- 'laws.FnExactAdd32': WHATEVER THE INPUT: true; the input reads as it did. -/
def fnExactAdd32Spec : ChangeSpec := { name := "fnExactAdd32", fn := fun _ => fun
  | [d1, d2] => { results := [.lit (.bool true)], args := [d1, d2] }
  | _ => none }
def fnExactAdd32Row : OpenClaim := { program := "ytdfjpmldcbbmkaa", sum := "ac4a699d0c39a83c243fc39e04060c02679d91862b97c70774377a1a56b022f2", func := "loop.example/g00478/laws.FnExactAdd32", spec := "fnExactAdd32", apart := false }
def FnExactAdd32Said : Prop := fnExactAdd32Row.holds Try.pinned (OpenSpec.ofChange fnExactAdd32Spec)

/-- ITS FALSE NEIGHBOUR: 'it returns false'. Refute it at one input. -/
def fnExactAdd32Wrong : ChangeSpec := { name := "fnExactAdd32", fn := fun _ => fun
  | [d1, d2] => { results := [.lit (.bool false)], args := [d1, d2] }
  | _ => none }
def FnExactAdd32WrongFalsely : Prop := fnExactAdd32Row.holds Try.pinned (OpenSpec.ofChange fnExactAdd32Wrong)

/-- 'laws.FnExactCut': WHATEVER THE INPUT: true; the input reads as it did. -/
def fnExactCutSpec : ChangeSpec := { name := "fnExactCut", fn := fun _ => fun
  | [d1, d2, d3] => { results := [.lit (.bool true)], args := [d1, d2, d3] }
  | _ => none }
def fnExactCutRow : OpenClaim := { program := "ytdfjpmldcbbmkaa", sum := "ac4a699d0c39a83c243fc39e04060c02679d91862b97c70774377a1a56b022f2", func := "loop.example/g00478/laws.FnExactCut", spec := "fnExactCut", apart := false }
def FnExactCutSaid : Prop := fnExactCutRow.holds Try.pinned (OpenSpec.ofChange fnExactCutSpec)

/-- ITS FALSE NEIGHBOUR: 'it returns false'. Refute it at one input. -/
def fnExactCutWrong : ChangeSpec := { name := "fnExactCut", fn := fun _ => fun
  | [d1, d2, d3] => { results := [.lit (.bool false)], args := [d1, d2, d3] }
  | _ => none }
def FnExactCutWrongFalsely : Prop := fnExactCutRow.holds Try.pinned (OpenSpec.ofChange fnExactCutWrong)

/-- 'laws.FnExactHexText': WHATEVER THE INPUT: true; the input reads as it did. -/
def fnExactHexTextSpec : ChangeSpec := { name := "fnExactHexText", fn := fun _ => fun
  | [d] => { results := [.lit (.bool true)], args := [d] }
  | _ => none }
def fnExactHexTextRow : OpenClaim := { program := "ytdfjpmldcbbmkaa", sum := "ac4a699d0c39a83c243fc39e04060c02679d91862b97c70774377a1a56b022f2", func := "loop.example/g00478/laws.FnExactHexText", spec := "fnExactHexText", apart := false }
def FnExactHexTextSaid : Prop := fnExactHexTextRow.holds Try.pinned (OpenSpec.ofChange fnExactHexTextSpec)

/-- ITS FALSE NEIGHBOUR: 'it returns false'. Refute it at one input. -/
def fnExactHexTextWrong : ChangeSpec := { name := "fnExactHexText", fn := fun _ => fun
  | [d] => { results := [.lit (.bool false)], args := [d] }
  | _ => none }
def FnExactHexTextWrongFalsely : Prop := fnExactHexTextRow.holds Try.pinned (OpenSpec.ofChange fnExactHexTextWrong)

/-- 'laws.FnExactParseHex': WHATEVER THE INPUT: true; the input reads as it did. -/
def fnExactParseHexSpec : ChangeSpec := { name := "fnExactParseHex", fn := fun _ => fun
  | [d] => { results := [.lit (.bool true)], args := [d] }
  | _ => none }
def fnExactParseHexRow : OpenClaim := { program := "ytdfjpmldcbbmkaa", sum := "ac4a699d0c39a83c243fc39e04060c02679d91862b97c70774377a1a56b022f2", func := "loop.example/g00478/laws.FnExactParseHex", spec := "fnExactParseHex", apart := false }
def FnExactParseHexSaid : Prop := fnExactParseHexRow.holds Try.pinned (OpenSpec.ofChange fnExactParseHexSpec)

/-- ITS FALSE NEIGHBOUR: 'it returns false'. Refute it at one input. -/
def fnExactParseHexWrong : ChangeSpec := { name := "fnExactParseHex", fn := fun _ => fun
  | [d] => { results := [.lit (.bool false)], args := [d] }
  | _ => none }
def FnExactParseHexWrongFalsely : Prop := fnExactParseHexRow.holds Try.pinned (OpenSpec.ofChange fnExactParseHexWrong)

/- THE SECOND FORM. 'bulk': how many values and letters a reading holds, each counted each time it is reached (what is shared counts as often as it is met; a slice's spare places count too). A statement '..UptoSaid' is the law's where the arguments, and the package variables that the reading takes, are together of bulk at most 1048576: NARROWER than '..Said'. Prove '..Said' where nothing that the law and all that it calls make is longer than what came in: it says more and counts as full. Else prove '..UptoSaid'. A law counts once. -/
mutual
def uptoBulk {H : Type} : DataW H → Nat
  | .lit (.string bytes) => bytes.length + 1
  | .lit _ => 1
  | .nil => 1
  | .ptr d => uptoBulk d + 1
  | .slice elems spare => uptoBulkAll elems + uptoBulkAll spare + 1
  | .agg parts => uptoBulkAll parts + 1
  | .iface _ d => uptoBulk d + 1
  | .map entries => uptoBulkEntries entries + 1
  | .held _ => 1
def uptoBulkAll {H : Type} : List (DataW H) → Nat
  | [] => 0
  | d :: r => uptoBulk d + uptoBulkAll r
def uptoBulkEntries {H : Type} : List (Lit × DataW H) → Nat
  | [] => 0
  | x :: r => uptoBulkEntry x + uptoBulkEntries r
def uptoBulkEntry {H : Type} : Lit × DataW H → Nat
  | (.string bytes, d) => bytes.length + uptoBulk d + 1
  | (_, d) => uptoBulk d + 1
 end
def uptoSmall : (H : Type) → List (DataW H) → Bool := fun _ ds => decide (uptoBulkAll ds ≤ 1048576)
def OpenSpec.upto (s : _root_.Go.ChangeSpec) : _root_.Go.OpenSpec := { _root_.Go.OpenSpec.ofChange s with cond := some uptoSmall }

/-- 'laws.FnNumbers', WHERE WHAT IT READS IS OF BULK AT MOST 1048576: true; the input reads as it did. -/
def fnNumbersUptoRow : OpenClaim := { program := "ytdfjpmldcbbmkaa", sum := "ac4a699d0c39a83c243fc39e04060c02679d91862b97c70774377a1a56b022f2", func := "loop.example/g00478/laws.FnNumbers", spec := "fnNumbers", apart := false, narrowed := true }
def FnNumbersUptoSaid : Prop := fnNumbersUptoRow.holds Try.pinned (OpenSpec.upto fnNumbersSpec)

/-- 'laws.FnRots', WHERE WHAT IT READS IS OF BULK AT MOST 1048576: true; the input reads as it did. -/
def fnRotsUptoRow : OpenClaim := { program := "ytdfjpmldcbbmkaa", sum := "ac4a699d0c39a83c243fc39e04060c02679d91862b97c70774377a1a56b022f2", func := "loop.example/g00478/laws.FnRots", spec := "fnRots", apart := false, narrowed := true }
def FnRotsUptoSaid : Prop := fnRotsUptoRow.holds Try.pinned (OpenSpec.upto fnRotsSpec)

/-- 'laws.FnHex', WHERE WHAT IT READS IS OF BULK AT MOST 1048576: true; the input reads as it did. -/
def fnHexUptoRow : OpenClaim := { program := "ytdfjpmldcbbmkaa", sum := "ac4a699d0c39a83c243fc39e04060c02679d91862b97c70774377a1a56b022f2", func := "loop.example/g00478/laws.FnHex", spec := "fnHex", apart := false, narrowed := true }
def FnHexUptoSaid : Prop := fnHexUptoRow.holds Try.pinned (OpenSpec.upto fnHexSpec)

/-- 'laws.FnExactPutN', WHERE WHAT IT READS IS OF BULK AT MOST 1048576: true; the input reads as it did. -/
def fnExactPutNUptoRow : OpenClaim := { program := "ytdfjpmldcbbmkaa", sum := "ac4a699d0c39a83c243fc39e04060c02679d91862b97c70774377a1a56b022f2", func := "loop.example/g00478/laws.FnExactPutN", spec := "fnExactPutN", apart := false, narrowed := true }
def FnExactPutNUptoSaid : Prop := fnExactPutNUptoRow.holds Try.pinned (OpenSpec.upto fnExactPutNSpec)

/-- 'laws.FnExactGetN', WHERE WHAT IT READS IS OF BULK AT MOST 1048576: true; the input reads as it did. -/
def fnExactGetNUptoRow : OpenClaim := { program := "ytdfjpmldcbbmkaa", sum := "ac4a699d0c39a83c243fc39e04060c02679d91862b97c70774377a1a56b022f2", func := "loop.example/g00478/laws.FnExactGetN", spec := "fnExactGetN", apart := false, narrowed := true }
def FnExactGetNUptoSaid : Prop := fnExactGetNUptoRow.holds Try.pinned (OpenSpec.upto fnExactGetNSpec)

/-- 'laws.FnExactRot', WHERE WHAT IT READS IS OF BULK AT MOST 1048576: true; the input reads as it did. -/
def fnExactRotUptoRow : OpenClaim := { program := "ytdfjpmldcbbmkaa", sum := "ac4a699d0c39a83c243fc39e04060c02679d91862b97c70774377a1a56b022f2", func := "loop.example/g00478/laws.FnExactRot", spec := "fnExactRot", apart := false, narrowed := true }
def FnExactRotUptoSaid : Prop := fnExactRotUptoRow.holds Try.pinned (OpenSpec.upto fnExactRotSpec)

/-- 'laws.FnExactAdd32', WHERE WHAT IT READS IS OF BULK AT MOST 1048576: true; the input reads as it did. -/
def fnExactAdd32UptoRow : OpenClaim := { program := "ytdfjpmldcbbmkaa", sum := "ac4a699d0c39a83c243fc39e04060c02679d91862b97c70774377a1a56b022f2", func := "loop.example/g00478/laws.FnExactAdd32", spec := "fnExactAdd32", apart := false, narrowed := true }
def FnExactAdd32UptoSaid : Prop := fnExactAdd32UptoRow.holds Try.pinned (OpenSpec.upto fnExactAdd32Spec)

/-- 'laws.FnExactCut', WHERE WHAT IT READS IS OF BULK AT MOST 1048576: true; the input reads as it did. -/
def fnExactCutUptoRow : OpenClaim := { program := "ytdfjpmldcbbmkaa", sum := "ac4a699d0c39a83c243fc39e04060c02679d91862b97c70774377a1a56b022f2", func := "loop.example/g00478/laws.FnExactCut", spec := "fnExactCut", apart := false, narrowed := true }
def FnExactCutUptoSaid : Prop := fnExactCutUptoRow.holds Try.pinned (OpenSpec.upto fnExactCutSpec)

/-- 'laws.FnExactHexText', WHERE WHAT IT READS IS OF BULK AT MOST 1048576: true; the input reads as it did. -/
def fnExactHexTextUptoRow : OpenClaim := { program := "ytdfjpmldcbbmkaa", sum := "ac4a699d0c39a83c243fc39e04060c02679d91862b97c70774377a1a56b022f2", func := "loop.example/g00478/laws.FnExactHexText", spec := "fnExactHexText", apart := false, narrowed := true }
def FnExactHexTextUptoSaid : Prop := fnExactHexTextUptoRow.holds Try.pinned (OpenSpec.upto fnExactHexTextSpec)

/-- 'laws.FnExactParseHex', WHERE WHAT IT READS IS OF BULK AT MOST 1048576: true; the input reads as it did. -/
def fnExactParseHexUptoRow : OpenClaim := { program := "ytdfjpmldcbbmkaa", sum := "ac4a699d0c39a83c243fc39e04060c02679d91862b97c70774377a1a56b022f2", func := "loop.example/g00478/laws.FnExactParseHex", spec := "fnExactParseHex", apart := false, narrowed := true }
def FnExactParseHexUptoSaid : Prop := fnExactParseHexUptoRow.holds Try.pinned (OpenSpec.upto fnExactParseHexSpec)

end Rows
end Go.Proofs.Ytdfjpmldcbbmkaa
