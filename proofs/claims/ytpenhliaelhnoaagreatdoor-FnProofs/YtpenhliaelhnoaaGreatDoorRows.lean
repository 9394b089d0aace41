/-
  NARROWER THAN 'FOR EVERY INPUT', by the rows' own cells (each row's printed sentence says how): FnProofs: laid · FnExactFinishOf: laid · FnExactProofOk: laid.
  DERIVED. THE GIVEN ROWS OF THIS SEAT. 3 by the template 'for every input the law returns true; each argument reads behind the call as it read before'; 0 by the template 'total and deterministic' (their statements: YtpenhliaelhnoaaGreatDoorTotals.lean).
  GIVEN WITH THE SEED: the statements are not yours to turn. If you find one false, say at which input.
  Laid BY PROGRAM, IN A SANDBOX (cutbox-rows.mjs): the forced cells as the released guide's own fill.sh prints them over the translation 811a27c9f3d55194… (all of the seat's roots in one cut). By AI agents, Wed Nov 11 2026. No macro, syntax, notation, axiom, sorry.
-/
import Derived.Test.YtpenhliaelhnoaaGreatDoorChecked
import GoSem.Claim
import GoSem.ClaimJoined
import GoSem.ClaimMapViews
import Derived.JoinedTies
import Derived.KernelRfl
namespace Go.Proofs.YtpenhliaelhnoaaGreatDoor
/- THE CELL 'sum', in the pinned program and in every row, IS THE sha256 OF THE DUMP (.gsa) THAT YtpenhliaelhnoaaGreatDoorProg.lean LOADS. Nothing in Lean hashes anything: it is a label: what it is worth is what the hold of that sum in a sandbox is worth. -/
noncomputable def Tryz.pinned : Pinned := { name := "ytpenhliaelhnoaagreatdoor", sum := "811a27c9f3d551944f71cfed266f78443541bca5006667cbe135908ff0485a01", checked := Tryz.checked }
namespace Rows
def none {H : Type} : Left H := { results := [], args := [] }

/- WHAT THE LISTED PACKAGE-LEVEL VARIABLES READ AS WHEN THE CALL BEGINS. Each datum BY PROGRAM (the guide's laid-datum.mjs) off the statement by which the dump's own 'gosem.cut.vars' lays the variable. In a bare row this is a premise. The card (YtpenhliaelhnoaaGreatDoorCards.lean) ties it to the program's text. -/
def laid_loop_example_g00478_impl_roundWords {H : Type} : DataW H := .agg [.lit (.int .i64 1116352408), .lit (.int .i64 1899447441), .lit (.int .i64 3049323471), .lit (.int .i64 3921009573), .lit (.int .i64 961987163), .lit (.int .i64 1508970993), .lit (.int .i64 2453635748), .lit (.int .i64 2870763221), .lit (.int .i64 3624381080), .lit (.int .i64 310598401), .lit (.int .i64 607225278), .lit (.int .i64 1426881987), .lit (.int .i64 1925078388), .lit (.int .i64 2162078206), .lit (.int .i64 2614888103), .lit (.int .i64 3248222580), .lit (.int .i64 3835390401), .lit (.int .i64 4022224774), .lit (.int .i64 264347078), .lit (.int .i64 604807628), .lit (.int .i64 770255983), .lit (.int .i64 1249150122), .lit (.int .i64 1555081692), .lit (.int .i64 1996064986), .lit (.int .i64 2554220882), .lit (.int .i64 2821834349), .lit (.int .i64 2952996808), .lit (.int .i64 3210313671), .lit (.int .i64 3336571891), .lit (.int .i64 3584528711), .lit (.int .i64 113926993), .lit (.int .i64 338241895), .lit (.int .i64 666307205), .lit (.int .i64 773529912), .lit (.int .i64 1294757372), .lit (.int .i64 1396182291), .lit (.int .i64 1695183700), .lit (.int .i64 1986661051), .lit (.int .i64 2177026350), .lit (.int .i64 2456956037), .lit (.int .i64 2730485921), .lit (.int .i64 2820302411), .lit (.int .i64 3259730800), .lit (.int .i64 3345764771), .lit (.int .i64 3516065817), .lit (.int .i64 3600352804), .lit (.int .i64 4094571909), .lit (.int .i64 275423344), .lit (.int .i64 430227734), .lit (.int .i64 506948616), .lit (.int .i64 659060556), .lit (.int .i64 883997877), .lit (.int .i64 958139571), .lit (.int .i64 1322822218), .lit (.int .i64 1537002063), .lit (.int .i64 1747873779), .lit (.int .i64 1955562222), .lit (.int .i64 2024104815), .lit (.int .i64 2227730452), .lit (.int .i64 2361852424), .lit (.int .i64 2428436474), .lit (.int .i64 2756734187), .lit (.int .i64 3204031479), .lit (.int .i64 3329325298)]

/-- 'laws.FnProofs': WHATEVER THE INPUT: true; the input reads as it did. -/
def fnProofsSpec : ChangeSpec := { name := "fnProofs", vars := ["loop.example/g00478/impl.roundWords"], fn := fun _ => fun
  | [d, g1] => { results := [.lit (.bool true)], args := [d], vars := [g1] }
  | _ => none }
def fnProofsRow : OpenClaim := { program := "ytpenhliaelhnoaagreatdoor", sum := "811a27c9f3d551944f71cfed266f78443541bca5006667cbe135908ff0485a01", func := "loop.example/g00478/laws.FnProofs", spec := "fnProofs", unfollowed := true, recurses := true, named := ["loop.example/g00478/impl.roundWords"], apart := false, laid := [("loop.example/g00478/impl.roundWords", laid_loop_example_g00478_impl_roundWords)] }
def FnProofsSaid : Prop := fnProofsRow.holds Tryz.pinned (OpenSpec.ofChange fnProofsSpec)

/-- ITS FALSE NEIGHBOUR: 'it returns false'. Refute it at one input. -/
def fnProofsWrong : ChangeSpec := { name := "fnProofs", vars := ["loop.example/g00478/impl.roundWords"], fn := fun _ => fun
  | [d, g1] => { results := [.lit (.bool false)], args := [d], vars := [g1] }
  | _ => none }
def FnProofsWrongFalsely : Prop := fnProofsRow.holds Tryz.pinned (OpenSpec.ofChange fnProofsWrong)

/-- 'laws.FnExactFinishOf': WHATEVER THE INPUT: true; the input reads as it did. -/
def fnExactFinishOfSpec : ChangeSpec := { name := "fnExactFinishOf", vars := ["loop.example/g00478/impl.roundWords"], fn := fun _ => fun
  | [d1, d2, d3, g1] => { results := [.lit (.bool true)], args := [d1, d2, d3], vars := [g1] }
  | _ => none }
def fnExactFinishOfRow : OpenClaim := { program := "ytpenhliaelhnoaagreatdoor", sum := "811a27c9f3d551944f71cfed266f78443541bca5006667cbe135908ff0485a01", func := "loop.example/g00478/laws.FnExactFinishOf", spec := "fnExactFinishOf", unfollowed := true, recurses := true, named := ["loop.example/g00478/impl.roundWords"], apart := false, laid := [("loop.example/g00478/impl.roundWords", laid_loop_example_g00478_impl_roundWords)] }
def FnExactFinishOfSaid : Prop := fnExactFinishOfRow.holds Tryz.pinned (OpenSpec.ofChange fnExactFinishOfSpec)

/-- ITS FALSE NEIGHBOUR: 'it returns false'. Refute it at one input. -/
def fnExactFinishOfWrong : ChangeSpec := { name := "fnExactFinishOf", vars := ["loop.example/g00478/impl.roundWords"], fn := fun _ => fun
  | [d1, d2, d3, g1] => { results := [.lit (.bool false)], args := [d1, d2, d3], vars := [g1] }
  | _ => none }
def FnExactFinishOfWrongFalsely : Prop := fnExactFinishOfRow.holds Tryz.pinned (OpenSpec.ofChange fnExactFinishOfWrong)

/-- 'laws.FnExactProofOk': WHATEVER THE INPUT: true; the input reads as it did. -/
def fnExactProofOkSpec : ChangeSpec := { name := "fnExactProofOk", vars := ["loop.example/g00478/impl.roundWords"], fn := fun _ => fun
  | [d1, d2, g1] => { results := [.lit (.bool true)], args := [d1, d2], vars := [g1] }
  | _ => none }
def fnExactProofOkRow : OpenClaim := { program := "ytpenhliaelhnoaagreatdoor", sum := "811a27c9f3d551944f71cfed266f78443541bca5006667cbe135908ff0485a01", func := "loop.example/g00478/laws.FnExactProofOk", spec := "fnExactProofOk", unfollowed := true, recurses := true, named := ["loop.example/g00478/impl.roundWords"], apart := false, laid := [("loop.example/g00478/impl.roundWords", laid_loop_example_g00478_impl_roundWords)] }
def FnExactProofOkSaid : Prop := fnExactProofOkRow.holds Tryz.pinned (OpenSpec.ofChange fnExactProofOkSpec)

/-- ITS FALSE NEIGHBOUR: 'it returns false'. Refute it at one input. -/
def fnExactProofOkWrong : ChangeSpec := { name := "fnExactProofOk", vars := ["loop.example/g00478/impl.roundWords"], fn := fun _ => fun
  | [d1, d2, g1] => { results := [.lit (.bool false)], args := [d1, d2], vars := [g1] }
  | _ => none }
def FnExactProofOkWrongFalsely : Prop := fnExactProofOkRow.holds Tryz.pinned (OpenSpec.ofChange fnExactProofOkWrong)

/- THE SECOND FORM. 'bulk': how many values and letters a reading holds, each counted each time it is reached (what is shared counts as often as it is met; a slice's spare places count too). A statement '..UptoSaid' is the law's where the arguments, and the package variables that the reading takes, are together of bulk at most 1048576: NARROWER than '..Said'. Prove '..Said' where nothing that the law and all that it calls make is longer than what came in: it says more and counts as full. Else prove '..UptoSaid'. A law counts once. -/
mutual
def uptoBulk {H : Type} : DataW H → Nat
  | .lit (.string bytes) => bytes.length + 1
  | .lit _ => 1
  | .nil => 1
  | .ptr d => uptoBulk d + 1
  | .slice elems spare => uptoBulkAll elems + uptoBulkAll spare + 1
  | .agg parts => uptoBulkAll parts + 1
  | .iface _ d => uptoBulk d + 1
  | .map entries => uptoBulkEntries entries + 1
  | .held _ => 1
def uptoBulkAll {H : Type} : List (DataW H) → Nat
  | [] => 0
  | d :: r => uptoBulk d + uptoBulkAll r
def uptoBulkEntries {H : Type} : List (Lit × DataW H) → Nat
  | [] => 0
  | x :: r => uptoBulkEntry x + uptoBulkEntries r
def uptoBulkEntry {H : Type} : Lit × DataW H → Nat
  | (.string bytes, d) => bytes.length + uptoBulk d + 1
  | (_, d) => uptoBulk d + 1
 end
def uptoSmall : (H : Type) → List (DataW H) → Bool := fun _ ds => decide (uptoBulkAll ds ≤ 1048576)
def OpenSpec.upto (s : _root_.Go.ChangeSpec) : _root_.Go.OpenSpec := { _root_.Go.OpenSpec.ofChange s with cond := some uptoSmall }

/-- 'laws.FnProofs', WHERE WHAT IT READS IS OF BULK AT MOST 1048576: true; the input reads as it did. -/
def fnProofsUptoRow : OpenClaim := { program := "ytpenhliaelhnoaagreatdoor", sum := "811a27c9f3d551944f71cfed266f78443541bca5006667cbe135908ff0485a01", func := "loop.example/g00478/laws.FnProofs", spec := "fnProofs", unfollowed := true, recurses := true, named := ["loop.example/g00478/impl.roundWords"], apart := false, laid := [("loop.example/g00478/impl.roundWords", laid_loop_example_g00478_impl_roundWords)], narrowed := true }
def FnProofsUptoSaid : Prop := fnProofsUptoRow.holds Tryz.pinned (OpenSpec.upto fnProofsSpec)

/-- 'laws.FnExactFinishOf', WHERE WHAT IT READS IS OF BULK AT MOST 1048576: true; the input reads as it did. -/
def fnExactFinishOfUptoRow : OpenClaim := { program := "ytpenhliaelhnoaagreatdoor", sum := "811a27c9f3d551944f71cfed266f78443541bca5006667cbe135908ff0485a01", func := "loop.example/g00478/laws.FnExactFinishOf", spec := "fnExactFinishOf", unfollowed := true, recurses := true, named := ["loop.example/g00478/impl.roundWords"], apart := false, laid := [("loop.example/g00478/impl.roundWords", laid_loop_example_g00478_impl_roundWords)], narrowed := true }
def FnExactFinishOfUptoSaid : Prop := fnExactFinishOfUptoRow.holds Tryz.pinned (OpenSpec.upto fnExactFinishOfSpec)

/-- 'laws.FnExactProofOk', WHERE WHAT IT READS IS OF BULK AT MOST 1048576: true; the input reads as it did. -/
def fnExactProofOkUptoRow : OpenClaim := { program := "ytpenhliaelhnoaagreatdoor", sum := "811a27c9f3d551944f71cfed266f78443541bca5006667cbe135908ff0485a01", func := "loop.example/g00478/laws.FnExactProofOk", spec := "fnExactProofOk", unfollowed := true, recurses := true, named := ["loop.example/g00478/impl.roundWords"], apart := false, laid := [("loop.example/g00478/impl.roundWords", laid_loop_example_g00478_impl_roundWords)], narrowed := true }
def FnExactProofOkUptoSaid : Prop := fnExactProofOkUptoRow.holds Tryz.pinned (OpenSpec.upto fnExactProofOkSpec)

end Rows
end Go.Proofs.YtpenhliaelhnoaaGreatDoor
