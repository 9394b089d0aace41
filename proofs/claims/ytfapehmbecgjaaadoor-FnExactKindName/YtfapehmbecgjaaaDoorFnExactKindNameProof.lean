/-
  At every int FnExactKindName answers true: impl.KindName answers as spec.KindName; nothing that was there is written. Its table of names is tied to the program's text.
-/
import Derived.Test.YtfapehmbecgjaaaDoorCards
import Derived.Test.YtfapehmbecgjaaaDoorTie
import Derived.Test.YtfapehmbecgjaaaDoorMem
import Derived.Test.YtfapehmbecgjaaaDoorBits
import Derived.Test.YtfapehmbecgjaaaDoorApp
import Derived.Test.YtfapehmbecgjaaaDoorGet
import Derived.Test.YtfapehmbecgjaaaDoorShaP
import Derived.Test.YtfapehmbecgjaaaDoorMemI
import Derived.Test.YtfapehmbecgjaaaDoorBlk
import Derived.Test.YtfapehmbecgjaaaDoorPads
import Derived.Test.YtfapehmbecgjaaaDoorWord
import Derived.Test.YtfapehmbecgjaaaDoorSched
import Derived.Test.YtfapehmbecgjaaaDoorWords
import Derived.Test.YtfapehmbecgjaaaDoorDraw
import Derived.Test.YtfapehmbecgjaaaDoorDrawB
import Derived.Test.YtfapehmbecgjaaaDoorStrs
import Derived.Test.YtfapehmbecgjaaaDoorFrKn
import Derived.Test.YtfapehmbecgjaaaDoorFrJ
import Derived.Test.YtfapehmbecgjaaaDoorLawKinds1
import Derived.Test.YtfapehmbecgjaaaDoorStrTab
import Derived.WalkKit
import Derived.ProofKit
import Derived.OpenShut
import Derived.ShutString
import Derived.ChangeOld
import Derived.Below
import Derived.OpenVars
import Derived.ChangeVars
import Derived.Deep.DeepHandedRow
import Derived.Lib.LaidTab
import Derived.LaidSub
namespace Go.Proofs.YtfapehmbecgjaaaDoor.fnExactKindName
open Go.ChangeShapes Go.WideShapes Go.ChangeAt Go.RowKit
open Go.ChangeMaps (open_string)
set_option linter.unusedVariables false

theorem own : ownKnob Tryd.prog.godebug = none := by kernel_rfl
theorem laidOut : laidOutB Tryd.prog = true := by kernel_rfl
theorem kindG : Tryd.prog.globalNamed "loop.example/g00478/impl.kindNames" = some 0 := by kernel_rfl
theorem kindType : (Tryd.prog.globals[0]?).map (·.type) = some 33 := by kernel_rfl
theorem kindCells : Tryd.prog.cellsOf 33 = 8 := by kernel_rfl
theorem kindCell : Tryd.prog.cellsOf 9 = 1 := by kernel_rfl
theorem kindList : (Rows.fnExactKindNameRow.laid.filter fun x => x.2.handleName?.isNone).filter (fun x => x.1 == "loop.example/g00478/impl.kindNames") = [("loop.example/g00478/impl.kindNames", StrTab.strData FrKn.names)] := by kernel_rfl
theorem kindTab {W : World} (h : laidMetH Tryd.prog Rows.fnExactKindNameRow.laid W) : FrJ.NamesAt W := by
  have h1 := (laidMetH_iff.1 h).1.filter (fun x => x.1 == "loop.example/g00478/impl.kindNames")
  rw [kindList] at h1
  have hc : ∀ i, i < 8 → W.cell? ⟨0, i, none⟩ = some (.string (FrKn.names.getD i ⟨#[]⟩)) := fun i hi => StrTab.cell_of_head (rest := []) kindG kindType Tryd.underlying33 Tryd.underlying9 kindCell kindCells h1 i hi
  exact ⟨World.block_lt_of_cell? W _ (hc 0 (by omega)), hc⟩

theorem walk (a0 : Int) (w : World) (hK : FrJ.NamesAt w) (w0 : (Lit.int .i64 a0).wf = true) :
    Calls Tryd.prog 4 #[.int .i64 a0] w fun e w' => e = .returned (.bool true) ∧ Below w.heap.size w w' := by
  exact LawKinds1.kindName_walk a0 w hK

theorem contract (H : Type) (enc : TypeId × Value → H) (W : World) (base : Nat) (args : Array Value) (ds gs : List (DataW H)) (before : List MemPlace)
    (hval0 : ∀ (j : Nat) t v, Tryd.f4.params[j]? = some t → args[j]? = some v → Value.okWide Tryd.prog W .any base t v)
    (hW : DataW.Whole enc Tryd.prog Tryd.f4.params.toList Rows.fnExactKindNameSpec.vars false W args.toList ds gs before) (hL : laidMetH Tryd.prog Rows.fnExactKindNameRow.laid W) :
    Calls Tryd.prog 4 args W fun e W' => ∃ v, e = .returned v ∧ Rows.fnExactKindNameSpec.post enc Tryd.prog Tryd.f4 false true false false W args v W' := by
  have hval : ∀ (j : Nat) t v, Tryd.f4.params[j]? = some t → args[j]? = some v → Value.okWide Tryd.prog W .any base t v := hval0
  have hW' := hW
  obtain ⟨p, q, hA0, hV, rfl, hfz, hnd⟩ := hW
  have hA : DataW.TrodAll enc Tryd.prog W 0 (fun _ => true) true Tryd.f4.params.toList args.toList ds p := hA0
  rw [Tryd.params4] at hA hval
  obtain ⟨v0, vs0, d0, ds0, p0, q0, hargs, rfl, rfl, h0, r0⟩ := trodAll_cons hA
  obtain ⟨rfl, rfl, rfl⟩ := trodAll_nil r0
  obtain rfl : args = #[v0] := by cases args; simp_all
  have k0 := h0
  have lt0 : ∀ x ∈ p0, x.block < W.heap.size := by obtain ⟨m, hm⟩ := k0; exact DataW.trod_lt m _ _ _ hm
  obtain ⟨a0, rfl, _, _, w0⟩ := open_int Tryd.underlying3 (hval 0 3 v0 rfl rfl) h0
  have hV' : DataW.TrodVars enc Tryd.prog W (fun _ => true) ["loop.example/g00478/impl.kindNames"] gs q := hV
  obtain ⟨_, _, _, _, gd, _, rfl, _⟩ := trodVars_one hV'
  clear hA0 hval0
  refine (walk a0 W (kindTab hL) w0).mono fun e W' ⟨he, bel⟩ => ?_
  subst he
  exact ⟨_, rfl, _, _, _, [], _, _, hW', trodAll_mk1 (shut_bool Tryd.underlying4 _), (trodAll_cons_mk (Below.trod laidOut (by kernel_rfl) (of_decide_eq_true (by kernel_rfl)) k0 bel lt0) trodAll_mk0), Below.trodVars laidOut bel (by kernel_rfl) hV', bel.frame _, fun h => by cases h⟩

def layTab (w : World) : World := { w with heap := ((w.heap).modify 0 fun o => match o with | .cells _ t frozen => .cells (([⟨#[105, 110, 105, 116]⟩, ⟨#[99, 111, 111, 107, 105, 101]⟩, ⟨#[102, 105, 110, 105, 115, 104]⟩, ⟨#[100, 97, 116, 97]⟩, ⟨#[99, 104, 97, 108, 108, 101, 110, 103, 101]⟩, ⟨#[114, 101, 115, 112, 111, 110, 115, 101]⟩, ⟨#[114, 101, 107, 101, 121]⟩, ⟨#[114, 101, 107, 101, 121, 97, 99, 107]⟩] : List ByteArray).map Value.string).toArray t frozen | o => o) }
theorem laid_met (os : Os) : laidMet Tryd.prog Rows.fnExactKindNameRow.laid ((layTab (World.holding Tryd.prog os ⟨#[], #[], []⟩)).forCall (fun _ _ => 0) ⟨#[], #[.int .i64 0], []⟩).memory :=
  laidMet_of_run' 8 (by kernel_rfl) (by kernel_rfl)
theorem reads (os : Os) {H : Type} (enc : TypeId × Value → H) : ∃ places, DataW.whole enc Tryd.prog ((layTab (World.holding Tryd.prog os ⟨#[], #[], []⟩)).forCall (fun _ _ => 0) ⟨#[], #[.int .i64 0], []⟩).memory Tryd.f4.params.toList Rows.fnExactKindNameSpec.vars false (#[.int .i64 0] : Array Value).toList 8 = some ([.lit (.int .i64 0)], [Rows.laid_loop_example_g00478_impl_kindNames], places) :=
  ⟨(MemPlace.row ⟨0, 0, none⟩ 8), by kernel_rfl⟩

set_option maxRecDepth 100000 in
theorem lifted (os : Os) (started : os.Started) (H : Type) (enc : TypeId × Value → H) (F : Stop.Interp) :
    ReturnsInHanded {} Tryd.checked os 4 .any ((OpenSpec.ofChange Rows.fnExactKindNameSpec).preRow enc Tryd.prog Tryd.f4 Rows.fnExactKindNameRow.domain false Rows.fnExactKindNameRow.laid) (((OpenSpec.ofChange Rows.fnExactKindNameSpec).at F).post enc Tryd.prog Tryd.f4 false true false false) := by
  obtain ⟨places, hx⟩ := reads os enc
  refine returnsInHanded_of_row (C := Tryd.checked) (s := OpenSpec.ofChange Rows.fnExactKindNameSpec) own started (by kernel_rfl) Tryd.func4
    (witness_row_at (enc := enc) (C := Tryd.checked) false (layTab (World.holding Tryd.prog os ⟨#[], #[], []⟩)) #[.int .i64 0] rfl (by kernel_rfl) (by kernel_rfl) (by kernel_rfl)
      (OpenSpec.preRow_of_cond 8 hx (by kernel_rfl) (fun k hk => by cases hk) (by kernel_rfl) (laid_met os))) ?_
  intro W base args ds gs before hval hW _ _ _ hL _ _
  exact contract H enc W base args ds gs before hval hW hL

theorem said : Rows.FnExactKindNameSaid :=
  OpenClaim.holds_of_cond 4 Tryd.f4 rfl rfl rfl rfl rfl rfl rfl ⟨rfl, rfl, rfl, rfl, rfl⟩ rfl rfl rfl rfl rfl (by kernel_rfl) Tryd.func4 (by kernel_rfl)
    (of_decide_eq_true (by kernel_rfl)) (by unfold Func.isWrapper; first | (rw [if_pos (by decide +kernel)]; kernel_rfl) | (rw [if_neg (by decide +kernel)]; exact ⟨rfl, rfl⟩))
    (fun os started H enc _ F => by rw [OpenClaim.pre_eq_preRow]; exact lifted os started H enc F)

theorem plain (f : FuncId) (fn : Func) (hf : Tryd.pinned.checked.prog.funcNamed "loop.example/g00478/laws.FnExactKindName" = some f) (hfn : Tryd.pinned.checked.prog.funcs[f]? = some fn) :
    true = Tryd.pinned.checked.prog.looks [] ∧ ∀ (j : Nat) t, fn.params[j]? = some t → Tryd.pinned.checked.prog.wantsStandIn t = false := by
  obtain rfl : f = 4 := Option.some.inj ((show Tryd.prog.funcNamed "loop.example/g00478/laws.FnExactKindName" = some 4 by kernel_rfl).symm.trans hf) |>.symm
  obtain rfl : fn = Tryd.f4 := (Option.some.inj (Tryd.func4.symm.trans hfn)).symm
  refine ⟨by kernel_rfl, fun j t ht => ?_⟩
  have hall : (Tryd.f4.params.toList.all fun t => !Tryd.prog.wantsStandIn t) = true := by kernel_rfl
  have hm : t ∈ Tryd.f4.params.toList := by simpa using Array.mem_of_getElem? ht
  have := List.all_eq_true.1 hall t hm
  exact (show Tryd.prog.wantsStandIn t = false by simpa using this)
end Go.Proofs.YtfapehmbecgjaaaDoor.fnExactKindName
namespace Go.Proofs.YtfapehmbecgjaaaDoor
theorem fnExactKindName_holds : Rows.FnExactKindNameCardSaid :=
  Claim7.holds_tied_plain_at .later [] _ _ _ _ fnExactKindName.said (fun _ h => by cases h) (by kernel_rfl) (fun _ h => by cases h) fnExactKindName_row_tie rfl ⟨rfl, rfl⟩ (by kernel_rfl) rfl fnExactKindName.plain (by kernel_rfl)
#print axioms fnExactKindName_holds
end Go.Proofs.YtfapehmbecgjaaaDoor
