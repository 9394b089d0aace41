/-
  NARROWER THAN 'FOR EVERY INPUT', by the rows' own cells (each row's printed sentence says how): FnSeals: laid · FnOpens: laid · FnOpensBent: laid · FnSpent: laid · FnExactSeal: laid · FnExactUnseal: laid · FnExactEpSeal: laid · FnExactEpOpen: laid.
  DERIVED. THE GIVEN ROWS OF THIS SEAT. 8 by the template 'for every input the law returns true; each argument reads behind the call as it read before'; 0 by the template 'total and deterministic' (their statements: YtmcflfpckpjphaaGreatDoorTotals.lean).
  GIVEN WITH THE SEED: the statements are not yours to turn. If you find one false, say at which input.
  Laid BY PROGRAM, IN A SANDBOX (cutbox-rows.mjs): the forced cells as the released guide's own fill.sh prints them over the translation b65dff589177a35a… (all of the seat's roots in one cut). By AI agents, Wed Nov 11 2026. No macro, syntax, notation, axiom, sorry.
-/
import Derived.Test.YtmcflfpckpjphaaGreatDoorChecked
import GoSem.Claim
import GoSem.ClaimJoined
import GoSem.ClaimMapViews
import Derived.JoinedTies
import Derived.KernelRfl
namespace Go.Proofs.YtmcflfpckpjphaaGreatDoor
/- THE CELL 'sum', in the pinned program and in every row, IS THE sha256 OF THE DUMP (.gsa) THAT YtmcflfpckpjphaaGreatDoorProg.lean LOADS. Nothing in Lean hashes anything: it is a label: what it is worth is what the hold of that sum in a sandbox is worth. -/
noncomputable def Tryz.pinned : Pinned := { name := "ytmcflfpckpjphaagreatdoor", sum := "b65dff589177a35aae6762b89f46fa5c283a7fde14b9aae99ea0673aa1948a38", checked := Tryz.checked }
namespace Rows
def none {H : Type} : Left H := { results := [], args := [] }

/- WHAT THE LISTED PACKAGE-LEVEL VARIABLES READ AS WHEN THE CALL BEGINS. Each datum BY PROGRAM (the guide's laid-datum.mjs) off the statement by which the dump's own 'gosem.cut.vars' lays the variable. In a bare row this is a premise. The card (YtmcflfpckpjphaaGreatDoorCards.lean) ties it to the program's text. -/
def laid_loop_example_g00478_impl_roundWords {H : Type} : DataW H := .agg [.lit (.int .i64 1116352408), .lit (.int .i64 1899447441), .lit (.int .i64 3049323471), .lit (.int .i64 3921009573), .lit (.int .i64 961987163), .lit (.int .i64 1508970993), .lit (.int .i64 2453635748), .lit (.int .i64 2870763221), .lit (.int .i64 3624381080), .lit (.int .i64 310598401), .lit (.int .i64 607225278), .lit (.int .i64 1426881987), .lit (.int .i64 1925078388), .lit (.int .i64 2162078206), .lit (.int .i64 2614888103), .lit (.int .i64 3248222580), .lit (.int .i64 3835390401), .lit (.int .i64 4022224774), .lit (.int .i64 264347078), .lit (.int .i64 604807628), .lit (.int .i64 770255983), .lit (.int .i64 1249150122), .lit (.int .i64 1555081692), .lit (.int .i64 1996064986), .lit (.int .i64 2554220882), .lit (.int .i64 2821834349), .lit (.int .i64 2952996808), .lit (.int .i64 3210313671), .lit (.int .i64 3336571891), .lit (.int .i64 3584528711), .lit (.int .i64 113926993), .lit (.int .i64 338241895), .lit (.int .i64 666307205), .lit (.int .i64 773529912), .lit (.int .i64 1294757372), .lit (.int .i64 1396182291), .lit (.int .i64 1695183700), .lit (.int .i64 1986661051), .lit (.int .i64 2177026350), .lit (.int .i64 2456956037), .lit (.int .i64 2730485921), .lit (.int .i64 2820302411), .lit (.int .i64 3259730800), .lit (.int .i64 3345764771), .lit (.int .i64 3516065817), .lit (.int .i64 3600352804), .lit (.int .i64 4094571909), .lit (.int .i64 275423344), .lit (.int .i64 430227734), .lit (.int .i64 506948616), .lit (.int .i64 659060556), .lit (.int .i64 883997877), .lit (.int .i64 958139571), .lit (.int .i64 1322822218), .lit (.int .i64 1537002063), .lit (.int .i64 1747873779), .lit (.int .i64 1955562222), .lit (.int .i64 2024104815), .lit (.int .i64 2227730452), .lit (.int .i64 2361852424), .lit (.int .i64 2428436474), .lit (.int .i64 2756734187), .lit (.int .i64 3204031479), .lit (.int .i64 3329325298)]
def laid_errors_errorType {H : Type} : DataW H := .iface "internal/reflectlite.rtype" (.agg [.ptr (.lit (.string [101, 114, 114, 111, 114]))])

/-- 'laws.FnSeals': WHATEVER THE INPUT: true; the input reads as it did. -/
def fnSealsSpec : ChangeSpec := { name := "fnSeals", vars := ["loop.example/g00478/impl.roundWords"], fn := fun _ => fun
  | [d, g1] => { results := [.lit (.bool true)], args := [d], vars := [g1] }
  | _ => none }
def fnSealsRow : OpenClaim := { program := "ytmcflfpckpjphaagreatdoor", sum := "b65dff589177a35aae6762b89f46fa5c283a7fde14b9aae99ea0673aa1948a38", func := "loop.example/g00478/laws.FnSeals", spec := "fnSeals", unfollowed := true, recurses := true, named := ["loop.example/g00478/impl.roundWords"], apart := false, laid := [("loop.example/g00478/impl.roundWords", laid_loop_example_g00478_impl_roundWords)] }
def FnSealsSaid : Prop := fnSealsRow.holds Tryz.pinned (OpenSpec.ofChange fnSealsSpec)

/-- ITS FALSE NEIGHBOUR: 'it returns false'. Refute it at one input. -/
def fnSealsWrong : ChangeSpec := { name := "fnSeals", vars := ["loop.example/g00478/impl.roundWords"], fn := fun _ => fun
  | [d, g1] => { results := [.lit (.bool false)], args := [d], vars := [g1] }
  | _ => none }
def FnSealsWrongFalsely : Prop := fnSealsRow.holds Tryz.pinned (OpenSpec.ofChange fnSealsWrong)

/-- 'laws.FnOpens': WHATEVER THE INPUT: true; the input reads as it did. -/
def fnOpensSpec : ChangeSpec := { name := "fnOpens", vars := ["loop.example/g00478/impl.roundWords"], fn := fun _ => fun
  | [d, g1] => { results := [.lit (.bool true)], args := [d], vars := [g1] }
  | _ => none }
def fnOpensRow : OpenClaim := { program := "ytmcflfpckpjphaagreatdoor", sum := "b65dff589177a35aae6762b89f46fa5c283a7fde14b9aae99ea0673aa1948a38", func := "loop.example/g00478/laws.FnOpens", spec := "fnOpens", inPlace := ["internal/reflectlite.ValueOf", "(internal/reflectlite.Value).Type", "(internal/reflectlite.Value).IsNil", "internal/reflectlite.TypeOf", "(internal/reflectlite.Value).Elem", "(internal/reflectlite.Value).Set"], unfollowed := true, recurses := true, named := ["loop.example/g00478/impl.roundWords", "errors.errorType"], apart := false, laid := [("errors.errorType", laid_errors_errorType), ("loop.example/g00478/impl.roundWords", laid_loop_example_g00478_impl_roundWords)] }
def FnOpensSaid : Prop := fnOpensRow.holds Tryz.pinned (OpenSpec.ofChange fnOpensSpec)

/-- ITS FALSE NEIGHBOUR: 'it returns false'. Refute it at one input. -/
def fnOpensWrong : ChangeSpec := { name := "fnOpens", vars := ["loop.example/g00478/impl.roundWords"], fn := fun _ => fun
  | [d, g1] => { results := [.lit (.bool false)], args := [d], vars := [g1] }
  | _ => none }
def FnOpensWrongFalsely : Prop := fnOpensRow.holds Tryz.pinned (OpenSpec.ofChange fnOpensWrong)

/-- 'laws.FnOpensBent': WHATEVER THE INPUT: true; the input reads as it did. -/
def fnOpensBentSpec : ChangeSpec := { name := "fnOpensBent", vars := ["loop.example/g00478/impl.roundWords"], fn := fun _ => fun
  | [d, g1] => { results := [.lit (.bool true)], args := [d], vars := [g1] }
  | _ => none }
def fnOpensBentRow : OpenClaim := { program := "ytmcflfpckpjphaagreatdoor", sum := "b65dff589177a35aae6762b89f46fa5c283a7fde14b9aae99ea0673aa1948a38", func := "loop.example/g00478/laws.FnOpensBent", spec := "fnOpensBent", inPlace := ["internal/reflectlite.ValueOf", "(internal/reflectlite.Value).Type", "(internal/reflectlite.Value).IsNil", "internal/reflectlite.TypeOf", "(internal/reflectlite.Value).Elem", "(internal/reflectlite.Value).Set"], unfollowed := true, recurses := true, named := ["loop.example/g00478/impl.roundWords", "errors.errorType"], apart := false, laid := [("errors.errorType", laid_errors_errorType), ("loop.example/g00478/impl.roundWords", laid_loop_example_g00478_impl_roundWords)] }
def FnOpensBentSaid : Prop := fnOpensBentRow.holds Tryz.pinned (OpenSpec.ofChange fnOpensBentSpec)

/-- ITS FALSE NEIGHBOUR: 'it returns false'. Refute it at one input. -/
def fnOpensBentWrong : ChangeSpec := { name := "fnOpensBent", vars := ["loop.example/g00478/impl.roundWords"], fn := fun _ => fun
  | [d, g1] => { results := [.lit (.bool false)], args := [d], vars := [g1] }
  | _ => none }
def FnOpensBentWrongFalsely : Prop := fnOpensBentRow.holds Tryz.pinned (OpenSpec.ofChange fnOpensBentWrong)

/-- 'laws.FnSpent': WHATEVER THE INPUT: true; the input reads as it did. -/
def fnSpentSpec : ChangeSpec := { name := "fnSpent", vars := ["loop.example/g00478/impl.roundWords"], fn := fun _ => fun
  | [d, g1] => { results := [.lit (.bool true)], args := [d], vars := [g1] }
  | _ => none }
def fnSpentRow : OpenClaim := { program := "ytmcflfpckpjphaagreatdoor", sum := "b65dff589177a35aae6762b89f46fa5c283a7fde14b9aae99ea0673aa1948a38", func := "loop.example/g00478/laws.FnSpent", spec := "fnSpent", inPlace := ["internal/reflectlite.ValueOf", "(internal/reflectlite.Value).Type", "(internal/reflectlite.Value).IsNil", "internal/reflectlite.TypeOf", "(internal/reflectlite.Value).Elem", "(internal/reflectlite.Value).Set"], unfollowed := true, recurses := true, named := ["loop.example/g00478/impl.roundWords", "errors.errorType"], apart := false, laid := [("errors.errorType", laid_errors_errorType), ("loop.example/g00478/impl.roundWords", laid_loop_example_g00478_impl_roundWords)] }
def FnSpentSaid : Prop := fnSpentRow.holds Tryz.pinned (OpenSpec.ofChange fnSpentSpec)

/-- ITS FALSE NEIGHBOUR: 'it returns false'. Refute it at one input. -/
def fnSpentWrong : ChangeSpec := { name := "fnSpent", vars := ["loop.example/g00478/impl.roundWords"], fn := fun _ => fun
  | [d, g1] => { results := [.lit (.bool false)], args := [d], vars := [g1] }
  | _ => none }
def FnSpentWrongFalsely : Prop := fnSpentRow.holds Tryz.pinned (OpenSpec.ofChange fnSpentWrong)

/-- 'laws.FnExactSeal': WHATEVER THE INPUT: true; the input reads as it did. -/
def fnExactSealSpec : ChangeSpec := { name := "fnExactSeal", vars := ["loop.example/g00478/impl.roundWords"], fn := fun _ => fun
  | [d1, d2, d3, d4, d5, d6, d7, g1] => { results := [.lit (.bool true)], args := [d1, d2, d3, d4, d5, d6, d7], vars := [g1] }
  | _ => none }
def fnExactSealRow : OpenClaim := { program := "ytmcflfpckpjphaagreatdoor", sum := "b65dff589177a35aae6762b89f46fa5c283a7fde14b9aae99ea0673aa1948a38", func := "loop.example/g00478/laws.FnExactSeal", spec := "fnExactSeal", unfollowed := true, recurses := true, named := ["loop.example/g00478/impl.roundWords"], apart := false, laid := [("loop.example/g00478/impl.roundWords", laid_loop_example_g00478_impl_roundWords)] }
def FnExactSealSaid : Prop := fnExactSealRow.holds Tryz.pinned (OpenSpec.ofChange fnExactSealSpec)

/-- ITS FALSE NEIGHBOUR: 'it returns false'. Refute it at one input. -/
def fnExactSealWrong : ChangeSpec := { name := "fnExactSeal", vars := ["loop.example/g00478/impl.roundWords"], fn := fun _ => fun
  | [d1, d2, d3, d4, d5, d6, d7, g1] => { results := [.lit (.bool false)], args := [d1, d2, d3, d4, d5, d6, d7], vars := [g1] }
  | _ => none }
def FnExactSealWrongFalsely : Prop := fnExactSealRow.holds Tryz.pinned (OpenSpec.ofChange fnExactSealWrong)

/-- 'laws.FnExactUnseal': WHATEVER THE INPUT: true; the input reads as it did. -/
def fnExactUnsealSpec : ChangeSpec := { name := "fnExactUnseal", vars := ["loop.example/g00478/impl.roundWords"], fn := fun _ => fun
  | [d1, d2, d3, g1] => { results := [.lit (.bool true)], args := [d1, d2, d3], vars := [g1] }
  | _ => none }
def fnExactUnsealRow : OpenClaim := { program := "ytmcflfpckpjphaagreatdoor", sum := "b65dff589177a35aae6762b89f46fa5c283a7fde14b9aae99ea0673aa1948a38", func := "loop.example/g00478/laws.FnExactUnseal", spec := "fnExactUnseal", unfollowed := true, recurses := true, named := ["loop.example/g00478/impl.roundWords"], apart := false, laid := [("loop.example/g00478/impl.roundWords", laid_loop_example_g00478_impl_roundWords)] }
def FnExactUnsealSaid : Prop := fnExactUnsealRow.holds Tryz.pinned (OpenSpec.ofChange fnExactUnsealSpec)

/-- ITS FALSE NEIGHBOUR: 'it returns false'. Refute it at one input. -/
def fnExactUnsealWrong : ChangeSpec := { name := "fnExactUnseal", vars := ["loop.example/g00478/impl.roundWords"], fn := fun _ => fun
  | [d1, d2, d3, g1] => { results := [.lit (.bool false)], args := [d1, d2, d3], vars := [g1] }
  | _ => none }
def FnExactUnsealWrongFalsely : Prop := fnExactUnsealRow.holds Tryz.pinned (OpenSpec.ofChange fnExactUnsealWrong)

/-- 'laws.FnExactEpSeal': WHATEVER THE INPUT: true; the input reads as it did. -/
def fnExactEpSealSpec : ChangeSpec := { name := "fnExactEpSeal", vars := ["loop.example/g00478/impl.roundWords"], fn := fun _ => fun
  | [d1, d2, d3, d4, d5, g1] => { results := [.lit (.bool true)], args := [d1, d2, d3, d4, d5], vars := [g1] }
  | _ => none }
def fnExactEpSealRow : OpenClaim := { program := "ytmcflfpckpjphaagreatdoor", sum := "b65dff589177a35aae6762b89f46fa5c283a7fde14b9aae99ea0673aa1948a38", func := "loop.example/g00478/laws.FnExactEpSeal", spec := "fnExactEpSeal", inPlace := ["internal/reflectlite.ValueOf", "(internal/reflectlite.Value).Type", "(internal/reflectlite.Value).IsNil", "internal/reflectlite.TypeOf", "(internal/reflectlite.Value).Elem", "(internal/reflectlite.Value).Set"], unfollowed := true, recurses := true, named := ["loop.example/g00478/impl.roundWords", "errors.errorType"], apart := false, laid := [("errors.errorType", laid_errors_errorType), ("loop.example/g00478/impl.roundWords", laid_loop_example_g00478_impl_roundWords)] }
def FnExactEpSealSaid : Prop := fnExactEpSealRow.holds Tryz.pinned (OpenSpec.ofChange fnExactEpSealSpec)

/-- ITS FALSE NEIGHBOUR: 'it returns false'. Refute it at one input. -/
def fnExactEpSealWrong : ChangeSpec := { name := "fnExactEpSeal", vars := ["loop.example/g00478/impl.roundWords"], fn := fun _ => fun
  | [d1, d2, d3, d4, d5, g1] => { results := [.lit (.bool false)], args := [d1, d2, d3, d4, d5], vars := [g1] }
  | _ => none }
def FnExactEpSealWrongFalsely : Prop := fnExactEpSealRow.holds Tryz.pinned (OpenSpec.ofChange fnExactEpSealWrong)

/-- 'laws.FnExactEpOpen': WHATEVER THE INPUT: true; the input reads as it did. -/
def fnExactEpOpenSpec : ChangeSpec := { name := "fnExactEpOpen", vars := ["loop.example/g00478/impl.roundWords"], fn := fun _ => fun
  | [d1, d2, d3, g1] => { results := [.lit (.bool true)], args := [d1, d2, d3], vars := [g1] }
  | _ => none }
def fnExactEpOpenRow : OpenClaim := { program := "ytmcflfpckpjphaagreatdoor", sum := "b65dff589177a35aae6762b89f46fa5c283a7fde14b9aae99ea0673aa1948a38", func := "loop.example/g00478/laws.FnExactEpOpen", spec := "fnExactEpOpen", inPlace := ["internal/reflectlite.ValueOf", "(internal/reflectlite.Value).Type", "(internal/reflectlite.Value).IsNil", "internal/reflectlite.TypeOf", "(internal/reflectlite.Value).Elem", "(internal/reflectlite.Value).Set"], unfollowed := true, recurses := true, named := ["loop.example/g00478/impl.roundWords", "errors.errorType"], apart := false, laid := [("errors.errorType", laid_errors_errorType), ("loop.example/g00478/impl.roundWords", laid_loop_example_g00478_impl_roundWords)] }
def FnExactEpOpenSaid : Prop := fnExactEpOpenRow.holds Tryz.pinned (OpenSpec.ofChange fnExactEpOpenSpec)

/-- ITS FALSE NEIGHBOUR: 'it returns false'. Refute it at one input. -/
def fnExactEpOpenWrong : ChangeSpec := { name := "fnExactEpOpen", vars := ["loop.example/g00478/impl.roundWords"], fn := fun _ => fun
  | [d1, d2, d3, g1] => { results := [.lit (.bool false)], args := [d1, d2, d3], vars := [g1] }
  | _ => none }
def FnExactEpOpenWrongFalsely : Prop := fnExactEpOpenRow.holds Tryz.pinned (OpenSpec.ofChange fnExactEpOpenWrong)

/- THE SECOND FORM. 'bulk': how many values and letters a reading holds, each counted each time it is reached (what is shared counts as often as it is met; a slice's spare places count too). A statement '..UptoSaid' is the law's where the arguments, and the package variables that the reading takes, are together of bulk at most 1048576: NARROWER than '..Said'. Prove '..Said' where nothing that the law and all that it calls make is longer than what came in: it says more and counts as full. Else prove '..UptoSaid'. A law counts once. -/
mutual
def uptoBulk {H : Type} : DataW H → Nat
  | .lit (.string bytes) => bytes.length + 1
  | .lit _ => 1
  | .nil => 1
  | .ptr d => uptoBulk d + 1
  | .slice elems spare => uptoBulkAll elems + uptoBulkAll spare + 1
  | .agg parts => uptoBulkAll parts + 1
  | .iface _ d => uptoBulk d + 1
  | .map entries => uptoBulkEntries entries + 1
  | .held _ => 1
def uptoBulkAll {H : Type} : List (DataW H) → Nat
  | [] => 0
  | d :: r => uptoBulk d + uptoBulkAll r
def uptoBulkEntries {H : Type} : List (Lit × DataW H) → Nat
  | [] => 0
  | x :: r => uptoBulkEntry x + uptoBulkEntries r
def uptoBulkEntry {H : Type} : Lit × DataW H → Nat
  | (.string bytes, d) => bytes.length + uptoBulk d + 1
  | (_, d) => uptoBulk d + 1
 end
def uptoSmall : (H : Type) → List (DataW H) → Bool := fun _ ds => decide (uptoBulkAll ds ≤ 1048576)
def OpenSpec.upto (s : _root_.Go.ChangeSpec) : _root_.Go.OpenSpec := { _root_.Go.OpenSpec.ofChange s with cond := some uptoSmall }

/-- 'laws.FnSeals', WHERE WHAT IT READS IS OF BULK AT MOST 1048576: true; the input reads as it did. -/
def fnSealsUptoRow : OpenClaim := { program := "ytmcflfpckpjphaagreatdoor", sum := "b65dff589177a35aae6762b89f46fa5c283a7fde14b9aae99ea0673aa1948a38", func := "loop.example/g00478/laws.FnSeals", spec := "fnSeals", unfollowed := true, recurses := true, named := ["loop.example/g00478/impl.roundWords"], apart := false, laid := [("loop.example/g00478/impl.roundWords", laid_loop_example_g00478_impl_roundWords)], narrowed := true }
def FnSealsUptoSaid : Prop := fnSealsUptoRow.holds Tryz.pinned (OpenSpec.upto fnSealsSpec)

/-- 'laws.FnOpens', WHERE WHAT IT READS IS OF BULK AT MOST 1048576: true; the input reads as it did. -/
def fnOpensUptoRow : OpenClaim := { program := "ytmcflfpckpjphaagreatdoor", sum := "b65dff589177a35aae6762b89f46fa5c283a7fde14b9aae99ea0673aa1948a38", func := "loop.example/g00478/laws.FnOpens", spec := "fnOpens", inPlace := ["internal/reflectlite.ValueOf", "(internal/reflectlite.Value).Type", "(internal/reflectlite.Value).IsNil", "internal/reflectlite.TypeOf", "(internal/reflectlite.Value).Elem", "(internal/reflectlite.Value).Set"], unfollowed := true, recurses := true, named := ["loop.example/g00478/impl.roundWords", "errors.errorType"], apart := false, laid := [("errors.errorType", laid_errors_errorType), ("loop.example/g00478/impl.roundWords", laid_loop_example_g00478_impl_roundWords)], narrowed := true }
def FnOpensUptoSaid : Prop := fnOpensUptoRow.holds Tryz.pinned (OpenSpec.upto fnOpensSpec)

/-- 'laws.FnOpensBent', WHERE WHAT IT READS IS OF BULK AT MOST 1048576: true; the input reads as it did. -/
def fnOpensBentUptoRow : OpenClaim := { program := "ytmcflfpckpjphaagreatdoor", sum := "b65dff589177a35aae6762b89f46fa5c283a7fde14b9aae99ea0673aa1948a38", func := "loop.example/g00478/laws.FnOpensBent", spec := "fnOpensBent", inPlace := ["internal/reflectlite.ValueOf", "(internal/reflectlite.Value).Type", "(internal/reflectlite.Value).IsNil", "internal/reflectlite.TypeOf", "(internal/reflectlite.Value).Elem", "(internal/reflectlite.Value).Set"], unfollowed := true, recurses := true, named := ["loop.example/g00478/impl.roundWords", "errors.errorType"], apart := false, laid := [("errors.errorType", laid_errors_errorType), ("loop.example/g00478/impl.roundWords", laid_loop_example_g00478_impl_roundWords)], narrowed := true }
def FnOpensBentUptoSaid : Prop := fnOpensBentUptoRow.holds Tryz.pinned (OpenSpec.upto fnOpensBentSpec)

/-- 'laws.FnSpent', WHERE WHAT IT READS IS OF BULK AT MOST 1048576: true; the input reads as it did. -/
def fnSpentUptoRow : OpenClaim := { program := "ytmcflfpckpjphaagreatdoor", sum := "b65dff589177a35aae6762b89f46fa5c283a7fde14b9aae99ea0673aa1948a38", func := "loop.example/g00478/laws.FnSpent", spec := "fnSpent", inPlace := ["internal/reflectlite.ValueOf", "(internal/reflectlite.Value).Type", "(internal/reflectlite.Value).IsNil", "internal/reflectlite.TypeOf", "(internal/reflectlite.Value).Elem", "(internal/reflectlite.Value).Set"], unfollowed := true, recurses := true, named := ["loop.example/g00478/impl.roundWords", "errors.errorType"], apart := false, laid := [("errors.errorType", laid_errors_errorType), ("loop.example/g00478/impl.roundWords", laid_loop_example_g00478_impl_roundWords)], narrowed := true }
def FnSpentUptoSaid : Prop := fnSpentUptoRow.holds Tryz.pinned (OpenSpec.upto fnSpentSpec)

/-- 'laws.FnExactSeal', WHERE WHAT IT READS IS OF BULK AT MOST 1048576: true; the input reads as it did. -/
def fnExactSealUptoRow : OpenClaim := { program := "ytmcflfpckpjphaagreatdoor", sum := "b65dff589177a35aae6762b89f46fa5c283a7fde14b9aae99ea0673aa1948a38", func := "loop.example/g00478/laws.FnExactSeal", spec := "fnExactSeal", unfollowed := true, recurses := true, named := ["loop.example/g00478/impl.roundWords"], apart := false, laid := [("loop.example/g00478/impl.roundWords", laid_loop_example_g00478_impl_roundWords)], narrowed := true }
def FnExactSealUptoSaid : Prop := fnExactSealUptoRow.holds Tryz.pinned (OpenSpec.upto fnExactSealSpec)

/-- 'laws.FnExactUnseal', WHERE WHAT IT READS IS OF BULK AT MOST 1048576: true; the input reads as it did. -/
def fnExactUnsealUptoRow : OpenClaim := { program := "ytmcflfpckpjphaagreatdoor", sum := "b65dff589177a35aae6762b89f46fa5c283a7fde14b9aae99ea0673aa1948a38", func := "loop.example/g00478/laws.FnExactUnseal", spec := "fnExactUnseal", unfollowed := true, recurses := true, named := ["loop.example/g00478/impl.roundWords"], apart := false, laid := [("loop.example/g00478/impl.roundWords", laid_loop_example_g00478_impl_roundWords)], narrowed := true }
def FnExactUnsealUptoSaid : Prop := fnExactUnsealUptoRow.holds Tryz.pinned (OpenSpec.upto fnExactUnsealSpec)

/-- 'laws.FnExactEpSeal', WHERE WHAT IT READS IS OF BULK AT MOST 1048576: true; the input reads as it did. -/
def fnExactEpSealUptoRow : OpenClaim := { program := "ytmcflfpckpjphaagreatdoor", sum := "b65dff589177a35aae6762b89f46fa5c283a7fde14b9aae99ea0673aa1948a38", func := "loop.example/g00478/laws.FnExactEpSeal", spec := "fnExactEpSeal", inPlace := ["internal/reflectlite.ValueOf", "(internal/reflectlite.Value).Type", "(internal/reflectlite.Value).IsNil", "internal/reflectlite.TypeOf", "(internal/reflectlite.Value).Elem", "(internal/reflectlite.Value).Set"], unfollowed := true, recurses := true, named := ["loop.example/g00478/impl.roundWords", "errors.errorType"], apart := false, laid := [("errors.errorType", laid_errors_errorType), ("loop.example/g00478/impl.roundWords", laid_loop_example_g00478_impl_roundWords)], narrowed := true }
def FnExactEpSealUptoSaid : Prop := fnExactEpSealUptoRow.holds Tryz.pinned (OpenSpec.upto fnExactEpSealSpec)

/-- 'laws.FnExactEpOpen', WHERE WHAT IT READS IS OF BULK AT MOST 1048576: true; the input reads as it did. -/
def fnExactEpOpenUptoRow : OpenClaim := { program := "ytmcflfpckpjphaagreatdoor", sum := "b65dff589177a35aae6762b89f46fa5c283a7fde14b9aae99ea0673aa1948a38", func := "loop.example/g00478/laws.FnExactEpOpen", spec := "fnExactEpOpen", inPlace := ["internal/reflectlite.ValueOf", "(internal/reflectlite.Value).Type", "(internal/reflectlite.Value).IsNil", "internal/reflectlite.TypeOf", "(internal/reflectlite.Value).Elem", "(internal/reflectlite.Value).Set"], unfollowed := true, recurses := true, named := ["loop.example/g00478/impl.roundWords", "errors.errorType"], apart := false, laid := [("errors.errorType", laid_errors_errorType), ("loop.example/g00478/impl.roundWords", laid_loop_example_g00478_impl_roundWords)], narrowed := true }
def FnExactEpOpenUptoSaid : Prop := fnExactEpOpenUptoRow.holds Tryz.pinned (OpenSpec.upto fnExactEpOpenSpec)

end Rows
end Go.Proofs.YtmcflfpckpjphaaGreatDoor
