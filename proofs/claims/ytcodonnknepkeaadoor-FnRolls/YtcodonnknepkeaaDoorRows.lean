/-
  NARROWER THAN 'FOR EVERY INPUT', by the rows' own cells (each row's printed sentence says how): FnRolls: laid · FnExactDiceAt: laid · FnExactRoll: laid.
  DERIVED. THE GIVEN ROWS OF THIS SEAT. 3 by the template 'for every input the law returns true; each argument reads behind the call as it read before'; 0 by the template 'total and deterministic' (their statements: YtcodonnknepkeaaDoorTotals.lean).
  GIVEN WITH THE SEED: the statements are not yours to turn. If you find one false, say at which input.
  Laid BY PROGRAM, IN A SANDBOX (cutbox-rows.mjs): the forced cells as the released guide's own fill.sh prints them over the translation 7de03cb0c9a3b910… (all of the seat's roots in one cut). By AI agents, Wed Nov 11 2026. No macro, syntax, notation, axiom, sorry.
-/
import Derived.Test.YtcodonnknepkeaaDoorChecked
import GoSem.Claim
import GoSem.ClaimJoined
import GoSem.ClaimMapViews
import Derived.JoinedTies
import Derived.KernelRfl
namespace Go.Proofs.YtcodonnknepkeaaDoor
/- THE CELL 'sum', in the pinned program and in every row, IS THE sha256 OF THE DUMP (.gsa) THAT YtcodonnknepkeaaDoorProg.lean LOADS. Nothing in Lean hashes anything: it is a label: what it is worth is what the hold of that sum in a sandbox is worth. -/
noncomputable def Tryd.pinned : Pinned := { name := "ytcodonnknepkeaadoor", sum := "7de03cb0c9a3b91064fd90d1a0600486064bcbd40f02474dc8185776b4bb8883", checked := Tryd.checked }
namespace Rows
def none {H : Type} : Left H := { results := [], args := [] }

/- WHAT THE LISTED PACKAGE-LEVEL VARIABLES READ AS WHEN THE CALL BEGINS. Each datum BY PROGRAM (the guide's laid-datum.mjs) off the statement by which the dump's own 'gosem.cut.vars' lays the variable. In a bare row this is a premise. The card (YtcodonnknepkeaaDoorCards.lean) ties it to the program's text. -/
def laid_loop_example_g00478_impl_roundWords {H : Type} : DataW H := .agg [.lit (.int .i64 1116352408), .lit (.int .i64 1899447441), .lit (.int .i64 3049323471), .lit (.int .i64 3921009573), .lit (.int .i64 961987163), .lit (.int .i64 1508970993), .lit (.int .i64 2453635748), .lit (.int .i64 2870763221), .lit (.int .i64 3624381080), .lit (.int .i64 310598401), .lit (.int .i64 607225278), .lit (.int .i64 1426881987), .lit (.int .i64 1925078388), .lit (.int .i64 2162078206), .lit (.int .i64 2614888103), .lit (.int .i64 3248222580), .lit (.int .i64 3835390401), .lit (.int .i64 4022224774), .lit (.int .i64 264347078), .lit (.int .i64 604807628), .lit (.int .i64 770255983), .lit (.int .i64 1249150122), .lit (.int .i64 1555081692), .lit (.int .i64 1996064986), .lit (.int .i64 2554220882), .lit (.int .i64 2821834349), .lit (.int .i64 2952996808), .lit (.int .i64 3210313671), .lit (.int .i64 3336571891), .lit (.int .i64 3584528711), .lit (.int .i64 113926993), .lit (.int .i64 338241895), .lit (.int .i64 666307205), .lit (.int .i64 773529912), .lit (.int .i64 1294757372), .lit (.int .i64 1396182291), .lit (.int .i64 1695183700), .lit (.int .i64 1986661051), .lit (.int .i64 2177026350), .lit (.int .i64 2456956037), .lit (.int .i64 2730485921), .lit (.int .i64 2820302411), .lit (.int .i64 3259730800), .lit (.int .i64 3345764771), .lit (.int .i64 3516065817), .lit (.int .i64 3600352804), .lit (.int .i64 4094571909), .lit (.int .i64 275423344), .lit (.int .i64 430227734), .lit (.int .i64 506948616), .lit (.int .i64 659060556), .lit (.int .i64 883997877), .lit (.int .i64 958139571), .lit (.int .i64 1322822218), .lit (.int .i64 1537002063), .lit (.int .i64 1747873779), .lit (.int .i64 1955562222), .lit (.int .i64 2024104815), .lit (.int .i64 2227730452), .lit (.int .i64 2361852424), .lit (.int .i64 2428436474), .lit (.int .i64 2756734187), .lit (.int .i64 3204031479), .lit (.int .i64 3329325298)]

/-- 'laws.FnRolls': WHATEVER THE INPUT: true; the input reads as it did. -/
def fnRollsSpec : ChangeSpec := { name := "fnRolls", vars := ["loop.example/g00478/impl.roundWords"], fn := fun _ => fun
  | [d, g1] => { results := [.lit (.bool true)], args := [d], vars := [g1] }
  | _ => none }
def fnRollsRow : OpenClaim := { program := "ytcodonnknepkeaadoor", sum := "7de03cb0c9a3b91064fd90d1a0600486064bcbd40f02474dc8185776b4bb8883", func := "loop.example/g00478/laws.FnRolls", spec := "fnRolls", unfollowed := true, recurses := true, named := ["loop.example/g00478/impl.roundWords"], apart := false, laid := [("loop.example/g00478/impl.roundWords", laid_loop_example_g00478_impl_roundWords)] }
def FnRollsSaid : Prop := fnRollsRow.holds Tryd.pinned (OpenSpec.ofChange fnRollsSpec)

/-- ITS FALSE NEIGHBOUR: 'it returns false'. Refute it at one input. -/
def fnRollsWrong : ChangeSpec := { name := "fnRolls", vars := ["loop.example/g00478/impl.roundWords"], fn := fun _ => fun
  | [d, g1] => { results := [.lit (.bool false)], args := [d], vars := [g1] }
  | _ => none }
def FnRollsWrongFalsely : Prop := fnRollsRow.holds Tryd.pinned (OpenSpec.ofChange fnRollsWrong)

/-- 'laws.FnExactDiceAt': WHATEVER THE INPUT: true; the input reads as it did. -/
def fnExactDiceAtSpec : ChangeSpec := { name := "fnExactDiceAt", vars := ["loop.example/g00478/impl.roundWords"], fn := fun _ => fun
  | [d1, d2, g1] => { results := [.lit (.bool true)], args := [d1, d2], vars := [g1] }
  | _ => none }
def fnExactDiceAtRow : OpenClaim := { program := "ytcodonnknepkeaadoor", sum := "7de03cb0c9a3b91064fd90d1a0600486064bcbd40f02474dc8185776b4bb8883", func := "loop.example/g00478/laws.FnExactDiceAt", spec := "fnExactDiceAt", unfollowed := true, recurses := true, named := ["loop.example/g00478/impl.roundWords"], apart := false, laid := [("loop.example/g00478/impl.roundWords", laid_loop_example_g00478_impl_roundWords)] }
def FnExactDiceAtSaid : Prop := fnExactDiceAtRow.holds Tryd.pinned (OpenSpec.ofChange fnExactDiceAtSpec)

/-- ITS FALSE NEIGHBOUR: 'it returns false'. Refute it at one input. -/
def fnExactDiceAtWrong : ChangeSpec := { name := "fnExactDiceAt", vars := ["loop.example/g00478/impl.roundWords"], fn := fun _ => fun
  | [d1, d2, g1] => { results := [.lit (.bool false)], args := [d1, d2], vars := [g1] }
  | _ => none }
def FnExactDiceAtWrongFalsely : Prop := fnExactDiceAtRow.holds Tryd.pinned (OpenSpec.ofChange fnExactDiceAtWrong)

/-- 'laws.FnExactRoll': WHATEVER THE INPUT: true; the input reads as it did. -/
def fnExactRollSpec : ChangeSpec := { name := "fnExactRoll", vars := ["loop.example/g00478/impl.roundWords"], fn := fun _ => fun
  | [d, g1] => { results := [.lit (.bool true)], args := [d], vars := [g1] }
  | _ => none }
def fnExactRollRow : OpenClaim := { program := "ytcodonnknepkeaadoor", sum := "7de03cb0c9a3b91064fd90d1a0600486064bcbd40f02474dc8185776b4bb8883", func := "loop.example/g00478/laws.FnExactRoll", spec := "fnExactRoll", unfollowed := true, recurses := true, named := ["loop.example/g00478/impl.roundWords"], apart := false, laid := [("loop.example/g00478/impl.roundWords", laid_loop_example_g00478_impl_roundWords)] }
def FnExactRollSaid : Prop := fnExactRollRow.holds Tryd.pinned (OpenSpec.ofChange fnExactRollSpec)

/-- ITS FALSE NEIGHBOUR: 'it returns false'. Refute it at one input. -/
def fnExactRollWrong : ChangeSpec := { name := "fnExactRoll", vars := ["loop.example/g00478/impl.roundWords"], fn := fun _ => fun
  | [d, g1] => { results := [.lit (.bool false)], args := [d], vars := [g1] }
  | _ => none }
def FnExactRollWrongFalsely : Prop := fnExactRollRow.holds Tryd.pinned (OpenSpec.ofChange fnExactRollWrong)

/- THE SECOND FORM. 'bulk': how many values and letters a reading holds, each counted each time it is reached (what is shared counts as often as it is met; a slice's spare places count too). A statement '..UptoSaid' is the law's where the arguments, and the package variables that the reading takes, are together of bulk at most 1048576: NARROWER than '..Said'. Prove '..Said' where nothing that the law and all that it calls make is longer than what came in: it says more and counts as full. Else prove '..UptoSaid'. A law counts once. -/
mutual
def uptoBulk {H : Type} : DataW H → Nat
  | .lit (.string bytes) => bytes.length + 1
  | .lit _ => 1
  | .nil => 1
  | .ptr d => uptoBulk d + 1
  | .slice elems spare => uptoBulkAll elems + uptoBulkAll spare + 1
  | .agg parts => uptoBulkAll parts + 1
  | .iface _ d => uptoBulk d + 1
  | .map entries => uptoBulkEntries entries + 1
  | .held _ => 1
def uptoBulkAll {H : Type} : List (DataW H) → Nat
  | [] => 0
  | d :: r => uptoBulk d + uptoBulkAll r
def uptoBulkEntries {H : Type} : List (Lit × DataW H) → Nat
  | [] => 0
  | x :: r => uptoBulkEntry x + uptoBulkEntries r
def uptoBulkEntry {H : Type} : Lit × DataW H → Nat
  | (.string bytes, d) => bytes.length + uptoBulk d + 1
  | (_, d) => uptoBulk d + 1
 end
def uptoSmall : (H : Type) → List (DataW H) → Bool := fun _ ds => decide (uptoBulkAll ds ≤ 1048576)
def OpenSpec.upto (s : _root_.Go.ChangeSpec) : _root_.Go.OpenSpec := { _root_.Go.OpenSpec.ofChange s with cond := some uptoSmall }

/-- 'laws.FnRolls', WHERE WHAT IT READS IS OF BULK AT MOST 1048576: true; the input reads as it did. -/
def fnRollsUptoRow : OpenClaim := { program := "ytcodonnknepkeaadoor", sum := "7de03cb0c9a3b91064fd90d1a0600486064bcbd40f02474dc8185776b4bb8883", func := "loop.example/g00478/laws.FnRolls", spec := "fnRolls", unfollowed := true, recurses := true, named := ["loop.example/g00478/impl.roundWords"], apart := false, laid := [("loop.example/g00478/impl.roundWords", laid_loop_example_g00478_impl_roundWords)], narrowed := true }
def FnRollsUptoSaid : Prop := fnRollsUptoRow.holds Tryd.pinned (OpenSpec.upto fnRollsSpec)

/-- 'laws.FnExactDiceAt', WHERE WHAT IT READS IS OF BULK AT MOST 1048576: true; the input reads as it did. -/
def fnExactDiceAtUptoRow : OpenClaim := { program := "ytcodonnknepkeaadoor", sum := "7de03cb0c9a3b91064fd90d1a0600486064bcbd40f02474dc8185776b4bb8883", func := "loop.example/g00478/laws.FnExactDiceAt", spec := "fnExactDiceAt", unfollowed := true, recurses := true, named := ["loop.example/g00478/impl.roundWords"], apart := false, laid := [("loop.example/g00478/impl.roundWords", laid_loop_example_g00478_impl_roundWords)], narrowed := true }
def FnExactDiceAtUptoSaid : Prop := fnExactDiceAtUptoRow.holds Tryd.pinned (OpenSpec.upto fnExactDiceAtSpec)

/-- 'laws.FnExactRoll', WHERE WHAT IT READS IS OF BULK AT MOST 1048576: true; the input reads as it did. -/
def fnExactRollUptoRow : OpenClaim := { program := "ytcodonnknepkeaadoor", sum := "7de03cb0c9a3b91064fd90d1a0600486064bcbd40f02474dc8185776b4bb8883", func := "loop.example/g00478/laws.FnExactRoll", spec := "fnExactRoll", unfollowed := true, recurses := true, named := ["loop.example/g00478/impl.roundWords"], apart := false, laid := [("loop.example/g00478/impl.roundWords", laid_loop_example_g00478_impl_roundWords)], narrowed := true }
def FnExactRollUptoSaid : Prop := fnExactRollUptoRow.holds Tryd.pinned (OpenSpec.upto fnExactRollSpec)

end Rows
end Go.Proofs.YtcodonnknepkeaaDoor
