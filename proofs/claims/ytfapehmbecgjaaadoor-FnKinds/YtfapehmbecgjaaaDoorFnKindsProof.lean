/-
  At every slice of bytes FnKinds answers true: kinds come back of their names, and those behind the handshake are sealed; nothing that was there is written. Its table of names is tied to the program's text.
-/
import Derived.Test.YtfapehmbecgjaaaDoorCards
import Derived.Test.YtfapehmbecgjaaaDoorTie
import Derived.Test.YtfapehmbecgjaaaDoorMem
import Derived.Test.YtfapehmbecgjaaaDoorBits
import Derived.Test.YtfapehmbecgjaaaDoorApp
import Derived.Test.YtfapehmbecgjaaaDoorGet
import Derived.Test.YtfapehmbecgjaaaDoorShaP
import Derived.Test.YtfapehmbecgjaaaDoorMemI
import Derived.Test.YtfapehmbecgjaaaDoorBlk
import Derived.Test.YtfapehmbecgjaaaDoorPads
import Derived.Test.YtfapehmbecgjaaaDoorWord
import Derived.Test.YtfapehmbecgjaaaDoorSched
import Derived.Test.YtfapehmbecgjaaaDoorWords
import Derived.Test.YtfapehmbecgjaaaDoorDraw
import Derived.Test.YtfapehmbecgjaaaDoorDrawB
import Derived.Test.YtfapehmbecgjaaaDoorStrs
import Derived.Test.YtfapehmbecgjaaaDoorFrKn
import Derived.Test.YtfapehmbecgjaaaDoorFrJ
import Derived.Test.YtfapehmbecgjaaaDoorRes
import Derived.Test.YtfapehmbecgjaaaDoorZone
import Derived.Test.YtfapehmbecgjaaaDoorFrT
import Derived.Test.YtfapehmbecgjaaaDoorFrSd
import Derived.Test.YtfapehmbecgjaaaDoorLawKinds
import Derived.Test.YtfapehmbecgjaaaDoorStrTab
import Derived.WalkKit
import Derived.ProofKit
import Derived.OpenShut
import Derived.ShutString
import Derived.ChangeOld
import Derived.Below
import Derived.OpenVars
import Derived.ChangeVars
import Derived.Deep.DeepHandedRow
import Derived.Lib.LaidTab
import Derived.LaidSub
namespace Go.Proofs.YtfapehmbecgjaaaDoor.fnKinds
open Go.ChangeShapes Go.WideShapes Go.ChangeAt Go.RowKit
open Go.ChangeMaps (open_string)
set_option linter.unusedVariables false

theorem own : ownKnob Tryd.prog.godebug = none := by kernel_rfl
theorem laidOut : laidOutB Tryd.prog = true := by kernel_rfl
theorem kindG : Tryd.prog.globalNamed "loop.example/g00478/impl.kindNames" = some 0 := by kernel_rfl
theorem kindType : (Tryd.prog.globals[0]?).map (·.type) = some 33 := by kernel_rfl
theorem kindCells : Tryd.prog.cellsOf 33 = 8 := by kernel_rfl
theorem kindCell : Tryd.prog.cellsOf 9 = 1 := by kernel_rfl
theorem kindList : (Rows.fnKindsRow.laid.filter fun x => x.2.handleName?.isNone).filter (fun x => x.1 == "loop.example/g00478/impl.kindNames") = [("loop.example/g00478/impl.kindNames", StrTab.strData FrKn.names)] := by kernel_rfl
theorem kindTab {W : World} (h : laidMetH Tryd.prog Rows.fnKindsRow.laid W) : FrJ.NamesAt W := by
  have h1 := (laidMetH_iff.1 h).1.filter (fun x => x.1 == "loop.example/g00478/impl.kindNames")
  rw [kindList] at h1
  have hc : ∀ i, i < 8 → W.cell? ⟨0, i, none⟩ = some (.string (FrKn.names.getD i ⟨#[]⟩)) := fun i hi => StrTab.cell_of_head (rest := []) kindG kindType Tryd.underlying33 Tryd.underlying9 kindCell kindCells h1 i hi
  exact ⟨World.block_lt_of_cell? W _ (hc 0 (by omega)), hc⟩

theorem walk (a0 : Option Addr) (len0 cap0 : Nat) (z0 : List Int) (w : World) (hK : FrJ.NamesAt w) (w0 : Mem.IsRow .u8 w a0 len0 cap0 z0) :
    Calls Tryd.prog 3 #[.slice a0 len0 cap0] w fun e w' => e = .returned (.bool true) ∧ Below w.heap.size w w' := by
  exact LawKinds.walk a0 len0 cap0 z0 w hK w0

theorem contract (H : Type) (enc : TypeId × Value → H) (W : World) (base : Nat) (args : Array Value) (ds gs : List (DataW H)) (before : List MemPlace)
    (hval0 : ∀ (j : Nat) t v, Tryd.f3.params[j]? = some t → args[j]? = some v → Value.okWide Tryd.prog W .any base t v)
    (hW : DataW.Whole enc Tryd.prog Tryd.f3.params.toList Rows.fnKindsSpec.vars false W args.toList ds gs before) (hL : laidMetH Tryd.prog Rows.fnKindsRow.laid W) :
    Calls Tryd.prog 3 args W fun e W' => ∃ v, e = .returned v ∧ Rows.fnKindsSpec.post enc Tryd.prog Tryd.f3 false true false false W args v W' := by
  have hval : ∀ (j : Nat) t v, Tryd.f3.params[j]? = some t → args[j]? = some v → Value.okWide Tryd.prog W .any base t v := hval0
  have hW' := hW
  obtain ⟨p, q, hA0, hV, rfl, hfz, hnd⟩ := hW
  have hA : DataW.TrodAll enc Tryd.prog W 0 (fun _ => true) true Tryd.f3.params.toList args.toList ds p := hA0
  rw [Tryd.params3] at hA hval
  obtain ⟨v0, vs0, d0, ds0, p0, q0, hargs, rfl, rfl, h0, r0⟩ := trodAll_cons hA
  obtain ⟨rfl, rfl, rfl⟩ := trodAll_nil r0
  obtain rfl : args = #[v0] := by cases args; simp_all
  have k0 := h0
  have lt0 : ∀ x ∈ p0, x.block < W.heap.size := by obtain ⟨m, hm⟩ := k0; exact DataW.trod_lt m _ _ _ hm
  obtain ⟨a0, len0, cap0, rfl⟩ := okWide_slice Tryd.underlying22 (hval 0 22 v0 rfl rfl)
  obtain ⟨z0, w0⟩ : ∃ zs, Mem.IsRow .u8 W a0 len0 cap0 zs := by
    obtain ⟨fuel, hf⟩ := h0
    rcases open_ints Tryd.underlying22 Tryd.underlying5 (by kernel_rfl) hf with ⟨hcs, _⟩ | ⟨x, l, c, zs, hcs, _, hl, hm, hz, _, hcell, hwz⟩
    · simp [Value.cells] at hcs
      obtain ⟨rfl, rfl, rfl⟩ := hcs
      exact ⟨[], .inl ⟨rfl, rfl, rfl, rfl⟩⟩
    · simp [Value.cells] at hcs
      obtain ⟨rfl, rfl, rfl⟩ := hcs
      exact ⟨zs, .inr ⟨_, rfl, hl, hm, by simpa using hz, hcell, hwz⟩⟩
  have hV' : DataW.TrodVars enc Tryd.prog W (fun _ => true) ["loop.example/g00478/impl.kindNames"] gs q := hV
  obtain ⟨_, _, _, _, gd, _, rfl, _⟩ := trodVars_one hV'
  clear hA0 hval0
  refine (walk a0 len0 cap0 z0 W (kindTab hL) w0).mono fun e W' ⟨he, bel⟩ => ?_
  subst he
  exact ⟨_, rfl, _, _, _, [], _, _, hW', trodAll_mk1 (shut_bool Tryd.underlying4 _), (trodAll_cons_mk (Below.trod laidOut (by kernel_rfl) (of_decide_eq_true (by kernel_rfl)) k0 bel lt0) trodAll_mk0), Below.trodVars laidOut bel (by kernel_rfl) hV', bel.frame _, fun h => by cases h⟩

def layTab (w : World) : World := { w with heap := ((w.heap).modify 0 fun o => match o with | .cells _ t frozen => .cells (([⟨#[105, 110, 105, 116]⟩, ⟨#[99, 111, 111, 107, 105, 101]⟩, ⟨#[102, 105, 110, 105, 115, 104]⟩, ⟨#[100, 97, 116, 97]⟩, ⟨#[99, 104, 97, 108, 108, 101, 110, 103, 101]⟩, ⟨#[114, 101, 115, 112, 111, 110, 115, 101]⟩, ⟨#[114, 101, 107, 101, 121]⟩, ⟨#[114, 101, 107, 101, 121, 97, 99, 107]⟩] : List ByteArray).map Value.string).toArray t frozen | o => o) }
theorem laid_met (os : Os) : laidMet Tryd.prog Rows.fnKindsRow.laid ((layTab (World.holding Tryd.prog os ⟨#[], #[], []⟩)).forCall (fun _ _ => 0) ⟨#[], #[.slice none 0 0], []⟩).memory :=
  laidMet_of_run' 8 (by kernel_rfl) (by kernel_rfl)
theorem reads (os : Os) {H : Type} (enc : TypeId × Value → H) : ∃ places, DataW.whole enc Tryd.prog ((layTab (World.holding Tryd.prog os ⟨#[], #[], []⟩)).forCall (fun _ _ => 0) ⟨#[], #[.slice none 0 0], []⟩).memory Tryd.f3.params.toList Rows.fnKindsSpec.vars false (#[.slice none 0 0] : Array Value).toList 8 = some ([.nil], [Rows.laid_loop_example_g00478_impl_kindNames], places) :=
  ⟨(MemPlace.row ⟨0, 0, none⟩ 8), by kernel_rfl⟩

set_option maxRecDepth 100000 in
theorem lifted (os : Os) (started : os.Started) (H : Type) (enc : TypeId × Value → H) (F : Stop.Interp) :
    ReturnsInHanded {} Tryd.checked os 3 .any ((OpenSpec.ofChange Rows.fnKindsSpec).preRow enc Tryd.prog Tryd.f3 Rows.fnKindsRow.domain false Rows.fnKindsRow.laid) (((OpenSpec.ofChange Rows.fnKindsSpec).at F).post enc Tryd.prog Tryd.f3 false true false false) := by
  obtain ⟨places, hx⟩ := reads os enc
  refine returnsInHanded_of_row (C := Tryd.checked) (s := OpenSpec.ofChange Rows.fnKindsSpec) own started (by kernel_rfl) Tryd.func3
    (witness_row_at (enc := enc) (C := Tryd.checked) false (layTab (World.holding Tryd.prog os ⟨#[], #[], []⟩)) #[.slice none 0 0] rfl (by kernel_rfl) (by kernel_rfl) (by kernel_rfl)
      (OpenSpec.preRow_of_cond 8 hx (by kernel_rfl) (fun k hk => by cases hk) (by kernel_rfl) (laid_met os))) ?_
  intro W base args ds gs before hval hW _ _ _ hL _ _
  exact contract H enc W base args ds gs before hval hW hL

theorem said : Rows.FnKindsSaid :=
  OpenClaim.holds_of_cond 3 Tryd.f3 rfl rfl rfl rfl rfl rfl rfl ⟨rfl, rfl, rfl, rfl, rfl⟩ rfl rfl rfl rfl rfl (by kernel_rfl) Tryd.func3 (by kernel_rfl)
    (of_decide_eq_true (by kernel_rfl)) (by unfold Func.isWrapper; first | (rw [if_pos (by decide +kernel)]; kernel_rfl) | (rw [if_neg (by decide +kernel)]; exact ⟨rfl, rfl⟩))
    (fun os started H enc _ F => by rw [OpenClaim.pre_eq_preRow]; exact lifted os started H enc F)

theorem plain (f : FuncId) (fn : Func) (hf : Tryd.pinned.checked.prog.funcNamed "loop.example/g00478/laws.FnKinds" = some f) (hfn : Tryd.pinned.checked.prog.funcs[f]? = some fn) :
    true = Tryd.pinned.checked.prog.looks [] ∧ ∀ (j : Nat) t, fn.params[j]? = some t → Tryd.pinned.checked.prog.wantsStandIn t = false := by
  obtain rfl : f = 3 := Option.some.inj ((show Tryd.prog.funcNamed "loop.example/g00478/laws.FnKinds" = some 3 by kernel_rfl).symm.trans hf) |>.symm
  obtain rfl : fn = Tryd.f3 := (Option.some.inj (Tryd.func3.symm.trans hfn)).symm
  refine ⟨by kernel_rfl, fun j t ht => ?_⟩
  have hall : (Tryd.f3.params.toList.all fun t => !Tryd.prog.wantsStandIn t) = true := by kernel_rfl
  have hm : t ∈ Tryd.f3.params.toList := by simpa using Array.mem_of_getElem? ht
  have := List.all_eq_true.1 hall t hm
  exact (show Tryd.prog.wantsStandIn t = false by simpa using this)
end Go.Proofs.YtfapehmbecgjaaaDoor.fnKinds
namespace Go.Proofs.YtfapehmbecgjaaaDoor
theorem fnKinds_holds : Rows.FnKindsCardSaid :=
  Claim7.holds_tied_plain_at .later [] _ _ _ _ fnKinds.said (fun _ h => by cases h) (by kernel_rfl) (fun _ h => by cases h) fnKinds_row_tie rfl ⟨rfl, rfl⟩ (by kernel_rfl) rfl fnKinds.plain (by kernel_rfl)
#print axioms fnKinds_holds
end Go.Proofs.YtfapehmbecgjaaaDoor
