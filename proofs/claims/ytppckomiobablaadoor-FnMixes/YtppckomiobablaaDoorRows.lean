/-
  NARROWER THAN 'FOR EVERY INPUT', by the rows' own cells (each row's printed sentence says how): FnStreams: laid · FnMixes: laid · FnExactBlockOf: laid · FnExactStream: laid · FnExactMix: laid.
  DERIVED. THE GIVEN ROWS OF THIS SEAT. 5 by the template 'for every input the law returns true; each argument reads behind the call as it read before'; 0 by the template 'total and deterministic' (their statements: YtppckomiobablaaDoorTotals.lean).
  GIVEN WITH THE SEED: the statements are not yours to turn. If you find one false, say at which input.
  Laid BY PROGRAM, IN A SANDBOX (cutbox-rows.mjs): the forced cells as the released guide's own fill.sh prints them over the translation a30286be08397227… (all of the seat's roots in one cut). By AI agents, Wed Nov 11 2026. No macro, syntax, notation, axiom, sorry.
-/
import Derived.Test.YtppckomiobablaaDoorChecked
import GoSem.Claim
import GoSem.ClaimJoined
import GoSem.ClaimMapViews
import Derived.JoinedTies
import Derived.KernelRfl
namespace Go.Proofs.YtppckomiobablaaDoor
/- THE CELL 'sum', in the pinned program and in every row, IS THE sha256 OF THE DUMP (.gsa) THAT YtppckomiobablaaDoorProg.lean LOADS. Nothing in Lean hashes anything: it is a label: what it is worth is what the hold of that sum in a sandbox is worth. -/
noncomputable def Tryd.pinned : Pinned := { name := "ytppckomiobablaadoor", sum := "a30286be08397227eead3cad054d645b9d1da68dba55447b850d1ec0a68434a9", checked := Tryd.checked }
namespace Rows
def none {H : Type} : Left H := { results := [], args := [] }

/- WHAT THE LISTED PACKAGE-LEVEL VARIABLES READ AS WHEN THE CALL BEGINS. Each datum BY PROGRAM (the guide's laid-datum.mjs) off the statement by which the dump's own 'gosem.cut.vars' lays the variable. In a bare row this is a premise. The card (YtppckomiobablaaDoorCards.lean) ties it to the program's text. -/
def laid_loop_example_g00478_impl_roundWords {H : Type} : DataW H := .agg [.lit (.int .i64 1116352408), .lit (.int .i64 1899447441), .lit (.int .i64 3049323471), .lit (.int .i64 3921009573), .lit (.int .i64 961987163), .lit (.int .i64 1508970993), .lit (.int .i64 2453635748), .lit (.int .i64 2870763221), .lit (.int .i64 3624381080), .lit (.int .i64 310598401), .lit (.int .i64 607225278), .lit (.int .i64 1426881987), .lit (.int .i64 1925078388), .lit (.int .i64 2162078206), .lit (.int .i64 2614888103), .lit (.int .i64 3248222580), .lit (.int .i64 3835390401), .lit (.int .i64 4022224774), .lit (.int .i64 264347078), .lit (.int .i64 604807628), .lit (.int .i64 770255983), .lit (.int .i64 1249150122), .lit (.int .i64 1555081692), .lit (.int .i64 1996064986), .lit (.int .i64 2554220882), .lit (.int .i64 2821834349), .lit (.int .i64 2952996808), .lit (.int .i64 3210313671), .lit (.int .i64 3336571891), .lit (.int .i64 3584528711), .lit (.int .i64 113926993), .lit (.int .i64 338241895), .lit (.int .i64 666307205), .lit (.int .i64 773529912), .lit (.int .i64 1294757372), .lit (.int .i64 1396182291), .lit (.int .i64 1695183700), .lit (.int .i64 1986661051), .lit (.int .i64 2177026350), .lit (.int .i64 2456956037), .lit (.int .i64 2730485921), .lit (.int .i64 2820302411), .lit (.int .i64 3259730800), .lit (.int .i64 3345764771), .lit (.int .i64 3516065817), .lit (.int .i64 3600352804), .lit (.int .i64 4094571909), .lit (.int .i64 275423344), .lit (.int .i64 430227734), .lit (.int .i64 506948616), .lit (.int .i64 659060556), .lit (.int .i64 883997877), .lit (.int .i64 958139571), .lit (.int .i64 1322822218), .lit (.int .i64 1537002063), .lit (.int .i64 1747873779), .lit (.int .i64 1955562222), .lit (.int .i64 2024104815), .lit (.int .i64 2227730452), .lit (.int .i64 2361852424), .lit (.int .i64 2428436474), .lit (.int .i64 2756734187), .lit (.int .i64 3204031479), .lit (.int .i64 3329325298)]

/-- 'laws.FnStreams': WHATEVER THE INPUT: true; the input reads as it did. -/
def fnStreamsSpec : ChangeSpec := { name := "fnStreams", vars := ["loop.example/g00478/impl.roundWords"], fn := fun _ => fun
  | [d, g1] => { results := [.lit (.bool true)], args := [d], vars := [g1] }
  | _ => none }
def fnStreamsRow : OpenClaim := { program := "ytppckomiobablaadoor", sum := "a30286be08397227eead3cad054d645b9d1da68dba55447b850d1ec0a68434a9", func := "loop.example/g00478/laws.FnStreams", spec := "fnStreams", unfollowed := true, recurses := true, named := ["loop.example/g00478/impl.roundWords"], apart := false, laid := [("loop.example/g00478/impl.roundWords", laid_loop_example_g00478_impl_roundWords)] }
def FnStreamsSaid : Prop := fnStreamsRow.holds Tryd.pinned (OpenSpec.ofChange fnStreamsSpec)

/-- ITS FALSE NEIGHBOUR: 'it returns false'. Refute it at one input. -/
def fnStreamsWrong : ChangeSpec := { name := "fnStreams", vars := ["loop.example/g00478/impl.roundWords"], fn := fun _ => fun
  | [d, g1] => { results := [.lit (.bool false)], args := [d], vars := [g1] }
  | _ => none }
def FnStreamsWrongFalsely : Prop := fnStreamsRow.holds Tryd.pinned (OpenSpec.ofChange fnStreamsWrong)

/-- 'laws.FnMixes': WHATEVER THE INPUT: true; the input reads as it did. -/
def fnMixesSpec : ChangeSpec := { name := "fnMixes", vars := ["loop.example/g00478/impl.roundWords"], fn := fun _ => fun
  | [d, g1] => { results := [.lit (.bool true)], args := [d], vars := [g1] }
  | _ => none }
def fnMixesRow : OpenClaim := { program := "ytppckomiobablaadoor", sum := "a30286be08397227eead3cad054d645b9d1da68dba55447b850d1ec0a68434a9", func := "loop.example/g00478/laws.FnMixes", spec := "fnMixes", unfollowed := true, recurses := true, named := ["loop.example/g00478/impl.roundWords"], apart := false, laid := [("loop.example/g00478/impl.roundWords", laid_loop_example_g00478_impl_roundWords)] }
def FnMixesSaid : Prop := fnMixesRow.holds Tryd.pinned (OpenSpec.ofChange fnMixesSpec)

/-- ITS FALSE NEIGHBOUR: 'it returns false'. Refute it at one input. -/
def fnMixesWrong : ChangeSpec := { name := "fnMixes", vars := ["loop.example/g00478/impl.roundWords"], fn := fun _ => fun
  | [d, g1] => { results := [.lit (.bool false)], args := [d], vars := [g1] }
  | _ => none }
def FnMixesWrongFalsely : Prop := fnMixesRow.holds Tryd.pinned (OpenSpec.ofChange fnMixesWrong)

/-- 'laws.FnExactBlockOf': WHATEVER THE INPUT: true; the input reads as it did. -/
def fnExactBlockOfSpec : ChangeSpec := { name := "fnExactBlockOf", vars := ["loop.example/g00478/impl.roundWords"], fn := fun _ => fun
  | [d1, d2, d3, g1] => { results := [.lit (.bool true)], args := [d1, d2, d3], vars := [g1] }
  | _ => none }
def fnExactBlockOfRow : OpenClaim := { program := "ytppckomiobablaadoor", sum := "a30286be08397227eead3cad054d645b9d1da68dba55447b850d1ec0a68434a9", func := "loop.example/g00478/laws.FnExactBlockOf", spec := "fnExactBlockOf", unfollowed := true, recurses := true, named := ["loop.example/g00478/impl.roundWords"], apart := false, laid := [("loop.example/g00478/impl.roundWords", laid_loop_example_g00478_impl_roundWords)] }
def FnExactBlockOfSaid : Prop := fnExactBlockOfRow.holds Tryd.pinned (OpenSpec.ofChange fnExactBlockOfSpec)

/-- ITS FALSE NEIGHBOUR: 'it returns false'. Refute it at one input. -/
def fnExactBlockOfWrong : ChangeSpec := { name := "fnExactBlockOf", vars := ["loop.example/g00478/impl.roundWords"], fn := fun _ => fun
  | [d1, d2, d3, g1] => { results := [.lit (.bool false)], args := [d1, d2, d3], vars := [g1] }
  | _ => none }
def FnExactBlockOfWrongFalsely : Prop := fnExactBlockOfRow.holds Tryd.pinned (OpenSpec.ofChange fnExactBlockOfWrong)

/-- 'laws.FnExactStream': WHATEVER THE INPUT: true; the input reads as it did. -/
def fnExactStreamSpec : ChangeSpec := { name := "fnExactStream", vars := ["loop.example/g00478/impl.roundWords"], fn := fun _ => fun
  | [d1, d2, d3, g1] => { results := [.lit (.bool true)], args := [d1, d2, d3], vars := [g1] }
  | _ => none }
def fnExactStreamRow : OpenClaim := { program := "ytppckomiobablaadoor", sum := "a30286be08397227eead3cad054d645b9d1da68dba55447b850d1ec0a68434a9", func := "loop.example/g00478/laws.FnExactStream", spec := "fnExactStream", unfollowed := true, recurses := true, named := ["loop.example/g00478/impl.roundWords"], apart := false, laid := [("loop.example/g00478/impl.roundWords", laid_loop_example_g00478_impl_roundWords)] }
def FnExactStreamSaid : Prop := fnExactStreamRow.holds Tryd.pinned (OpenSpec.ofChange fnExactStreamSpec)

/-- ITS FALSE NEIGHBOUR: 'it returns false'. Refute it at one input. -/
def fnExactStreamWrong : ChangeSpec := { name := "fnExactStream", vars := ["loop.example/g00478/impl.roundWords"], fn := fun _ => fun
  | [d1, d2, d3, g1] => { results := [.lit (.bool false)], args := [d1, d2, d3], vars := [g1] }
  | _ => none }
def FnExactStreamWrongFalsely : Prop := fnExactStreamRow.holds Tryd.pinned (OpenSpec.ofChange fnExactStreamWrong)

/-- 'laws.FnExactMix': WHATEVER THE INPUT: true; the input reads as it did. -/
def fnExactMixSpec : ChangeSpec := { name := "fnExactMix", vars := ["loop.example/g00478/impl.roundWords"], fn := fun _ => fun
  | [d1, d2, d3, g1] => { results := [.lit (.bool true)], args := [d1, d2, d3], vars := [g1] }
  | _ => none }
def fnExactMixRow : OpenClaim := { program := "ytppckomiobablaadoor", sum := "a30286be08397227eead3cad054d645b9d1da68dba55447b850d1ec0a68434a9", func := "loop.example/g00478/laws.FnExactMix", spec := "fnExactMix", unfollowed := true, recurses := true, named := ["loop.example/g00478/impl.roundWords"], apart := false, laid := [("loop.example/g00478/impl.roundWords", laid_loop_example_g00478_impl_roundWords)] }
def FnExactMixSaid : Prop := fnExactMixRow.holds Tryd.pinned (OpenSpec.ofChange fnExactMixSpec)

/-- ITS FALSE NEIGHBOUR: 'it returns false'. Refute it at one input. -/
def fnExactMixWrong : ChangeSpec := { name := "fnExactMix", vars := ["loop.example/g00478/impl.roundWords"], fn := fun _ => fun
  | [d1, d2, d3, g1] => { results := [.lit (.bool false)], args := [d1, d2, d3], vars := [g1] }
  | _ => none }
def FnExactMixWrongFalsely : Prop := fnExactMixRow.holds Tryd.pinned (OpenSpec.ofChange fnExactMixWrong)

/- THE SECOND FORM. 'bulk': how many values and letters a reading holds, each counted each time it is reached (what is shared counts as often as it is met; a slice's spare places count too). A statement '..UptoSaid' is the law's where the arguments, and the package variables that the reading takes, are together of bulk at most 1048576: NARROWER than '..Said'. Prove '..Said' where nothing that the law and all that it calls make is longer than what came in: it says more and counts as full. Else prove '..UptoSaid'. A law counts once. -/
mutual
def uptoBulk {H : Type} : DataW H → Nat
  | .lit (.string bytes) => bytes.length + 1
  | .lit _ => 1
  | .nil => 1
  | .ptr d => uptoBulk d + 1
  | .slice elems spare => uptoBulkAll elems + uptoBulkAll spare + 1
  | .agg parts => uptoBulkAll parts + 1
  | .iface _ d => uptoBulk d + 1
  | .map entries => uptoBulkEntries entries + 1
  | .held _ => 1
def uptoBulkAll {H : Type} : List (DataW H) → Nat
  | [] => 0
  | d :: r => uptoBulk d + uptoBulkAll r
def uptoBulkEntries {H : Type} : List (Lit × DataW H) → Nat
  | [] => 0
  | x :: r => uptoBulkEntry x + uptoBulkEntries r
def uptoBulkEntry {H : Type} : Lit × DataW H → Nat
  | (.string bytes, d) => bytes.length + uptoBulk d + 1
  | (_, d) => uptoBulk d + 1
 end
def uptoSmall : (H : Type) → List (DataW H) → Bool := fun _ ds => decide (uptoBulkAll ds ≤ 1048576)
def OpenSpec.upto (s : _root_.Go.ChangeSpec) : _root_.Go.OpenSpec := { _root_.Go.OpenSpec.ofChange s with cond := some uptoSmall }

/-- 'laws.FnStreams', WHERE WHAT IT READS IS OF BULK AT MOST 1048576: true; the input reads as it did. -/
def fnStreamsUptoRow : OpenClaim := { program := "ytppckomiobablaadoor", sum := "a30286be08397227eead3cad054d645b9d1da68dba55447b850d1ec0a68434a9", func := "loop.example/g00478/laws.FnStreams", spec := "fnStreams", unfollowed := true, recurses := true, named := ["loop.example/g00478/impl.roundWords"], apart := false, laid := [("loop.example/g00478/impl.roundWords", laid_loop_example_g00478_impl_roundWords)], narrowed := true }
def FnStreamsUptoSaid : Prop := fnStreamsUptoRow.holds Tryd.pinned (OpenSpec.upto fnStreamsSpec)

/-- 'laws.FnMixes', WHERE WHAT IT READS IS OF BULK AT MOST 1048576: true; the input reads as it did. -/
def fnMixesUptoRow : OpenClaim := { program := "ytppckomiobablaadoor", sum := "a30286be08397227eead3cad054d645b9d1da68dba55447b850d1ec0a68434a9", func := "loop.example/g00478/laws.FnMixes", spec := "fnMixes", unfollowed := true, recurses := true, named := ["loop.example/g00478/impl.roundWords"], apart := false, laid := [("loop.example/g00478/impl.roundWords", laid_loop_example_g00478_impl_roundWords)], narrowed := true }
def FnMixesUptoSaid : Prop := fnMixesUptoRow.holds Tryd.pinned (OpenSpec.upto fnMixesSpec)

/-- 'laws.FnExactBlockOf', WHERE WHAT IT READS IS OF BULK AT MOST 1048576: true; the input reads as it did. -/
def fnExactBlockOfUptoRow : OpenClaim := { program := "ytppckomiobablaadoor", sum := "a30286be08397227eead3cad054d645b9d1da68dba55447b850d1ec0a68434a9", func := "loop.example/g00478/laws.FnExactBlockOf", spec := "fnExactBlockOf", unfollowed := true, recurses := true, named := ["loop.example/g00478/impl.roundWords"], apart := false, laid := [("loop.example/g00478/impl.roundWords", laid_loop_example_g00478_impl_roundWords)], narrowed := true }
def FnExactBlockOfUptoSaid : Prop := fnExactBlockOfUptoRow.holds Tryd.pinned (OpenSpec.upto fnExactBlockOfSpec)

/-- 'laws.FnExactStream', WHERE WHAT IT READS IS OF BULK AT MOST 1048576: true; the input reads as it did. -/
def fnExactStreamUptoRow : OpenClaim := { program := "ytppckomiobablaadoor", sum := "a30286be08397227eead3cad054d645b9d1da68dba55447b850d1ec0a68434a9", func := "loop.example/g00478/laws.FnExactStream", spec := "fnExactStream", unfollowed := true, recurses := true, named := ["loop.example/g00478/impl.roundWords"], apart := false, laid := [("loop.example/g00478/impl.roundWords", laid_loop_example_g00478_impl_roundWords)], narrowed := true }
def FnExactStreamUptoSaid : Prop := fnExactStreamUptoRow.holds Tryd.pinned (OpenSpec.upto fnExactStreamSpec)

/-- 'laws.FnExactMix', WHERE WHAT IT READS IS OF BULK AT MOST 1048576: true; the input reads as it did. -/
def fnExactMixUptoRow : OpenClaim := { program := "ytppckomiobablaadoor", sum := "a30286be08397227eead3cad054d645b9d1da68dba55447b850d1ec0a68434a9", func := "loop.example/g00478/laws.FnExactMix", spec := "fnExactMix", unfollowed := true, recurses := true, named := ["loop.example/g00478/impl.roundWords"], apart := false, laid := [("loop.example/g00478/impl.roundWords", laid_loop_example_g00478_impl_roundWords)], narrowed := true }
def FnExactMixUptoSaid : Prop := fnExactMixUptoRow.holds Tryd.pinned (OpenSpec.upto fnExactMixSpec)

end Rows
end Go.Proofs.YtppckomiobablaaDoor
