/-
  Proved: laws.FnAddrTexts answers true at every slice of bytes, and writes nothing that was there, in whatever memory in which the library's three tables (powers of ten, and two of math/bits) hold what their own text lays into them. No other condition.
-/
import Derived.Test.YticfgbfchpnpoaaDoorCards
import Derived.Test.YticfgbfchpnpoaaDoorTie
import Derived.Test.YticfgbfchpnpoaaDoorMem
import Derived.Test.YticfgbfchpnpoaaDoorStr
import Derived.Test.YticfgbfchpnpoaaDoorBits
import Derived.Test.YticfgbfchpnpoaaDoorApp
import Derived.Test.YticfgbfchpnpoaaDoorAddrP
import Derived.Test.YticfgbfchpnpoaaDoorGet
import Derived.Test.YticfgbfchpnpoaaDoorAppAt
import Derived.Test.YticfgbfchpnpoaaDoorShaP
import Derived.Test.YticfgbfchpnpoaaDoorMemI
import Derived.Test.YticfgbfchpnpoaaDoorBlk
import Derived.Test.YticfgbfchpnpoaaDoorPads
import Derived.Test.YticfgbfchpnpoaaDoorWord
import Derived.Test.YticfgbfchpnpoaaDoorSched
import Derived.Test.YticfgbfchpnpoaaDoorWords
import Derived.Test.YticfgbfchpnpoaaDoorRes
import Derived.Test.YticfgbfchpnpoaaDoorEach
import Derived.Test.YticfgbfchpnpoaaDoorCopy
import Derived.Test.YticfgbfchpnpoaaDoorOps
import Derived.Test.YticfgbfchpnpoaaDoorAddrS
import Derived.Test.YticfgbfchpnpoaaDoorAddrE
import Derived.Test.YticfgbfchpnpoaaDoorAddrI
import Derived.Test.YticfgbfchpnpoaaDoorAddrT
import Derived.Test.YticfgbfchpnpoaaDoorItoa
import Derived.Test.YticfgbfchpnpoaaDoorAddrJ
import Derived.Test.YticfgbfchpnpoaaDoorAddrN
import Derived.Test.YticfgbfchpnpoaaDoorAddrR
import Derived.Test.YticfgbfchpnpoaaDoorAddrK
import Derived.Test.YticfgbfchpnpoaaDoorDraw
import Derived.Test.YticfgbfchpnpoaaDoorDrawB
import Derived.Test.YticfgbfchpnpoaaDoorDiffP
import Derived.Test.YticfgbfchpnpoaaDoorBent
import Derived.Test.YticfgbfchpnpoaaDoorDrawD
import Derived.Test.YticfgbfchpnpoaaDoorStrs
import Derived.Test.YticfgbfchpnpoaaDoorDrawA
import Derived.Test.YticfgbfchpnpoaaDoorWordsOf
import Derived.Test.YticfgbfchpnpoaaDoorStart
import Derived.Test.YticfgbfchpnpoaaDoorDrawS
import Derived.Test.YticfgbfchpnpoaaDoorLawAddrTexts
import Derived.WalkKit
import Derived.ProofKit
import Derived.OpenShut
import Derived.ShutString
import Derived.ChangeOld
import Derived.Below
import Derived.OpenVars
import Derived.ChangeVars
import Derived.Deep.DeepHandedRow
import Derived.Lib.LaidTab
import Derived.LaidSub
namespace Go.Proofs.YticfgbfchpnpoaaDoor.fnAddrTexts
open Go.ChangeShapes Go.WideShapes Go.ChangeAt Go.RowKit
open Go.ChangeMaps (open_string)
set_option linter.unusedVariables false

theorem own : ownKnob Tryd.prog.godebug = none := by kernel_rfl
theorem laidOut : laidOutB Tryd.prog = true := by kernel_rfl
theorem powG : Tryd.prog.globalNamed "internal/strconv.uint64pow10" = some 0 := by kernel_rfl
theorem powType : (Tryd.prog.globals[0]?).map (·.type) = some 82 := by kernel_rfl
theorem powCells : Tryd.prog.cellsOf 82 = 20 := by kernel_rfl
theorem powCell : Tryd.prog.cellsOf 75 = 1 := by kernel_rfl
theorem powList : (Rows.fnAddrTextsRow.laid.filter fun x => x.2.handleName?.isNone).filter (fun x => x.1 == "internal/strconv.uint64pow10") = [("internal/strconv.uint64pow10", Lib.tabData .u64 Lib.pow10Tab)] := by kernel_rfl
theorem powIs {W : World} (h : laidMetH Tryd.prog Rows.fnAddrTextsRow.laid W) : Lib.TabIs Tryd.prog W "internal/strconv.uint64pow10" .u64 Lib.pow10Tab := by
  have h1 := (laidMetH_iff.1 h).1.filter (fun x => x.1 == "internal/strconv.uint64pow10")
  rw [powList] at h1
  exact Lib.tabIs_of_head (rest := []) powG powType Tryd.underlying82 Tryd.underlying75 powCell powCells h1
theorem powTab {W : World} (h : laidMetH Tryd.prog Rows.fnAddrTextsRow.laid W) : Itoa.Pow W := powIs h

theorem walk (a0 : Option Addr) (len0 cap0 : Nat) (z0 : List Int) (w : World) (hP : Itoa.Pow w) (w0 : Mem.IsRow .u8 w a0 len0 cap0 z0) :
    Calls Tryd.prog 4 #[.slice a0 len0 cap0] w fun e w' => e = .returned (.bool true) ∧ Below w.heap.size w w' := by
  exact LawAddrTexts.walk a0 len0 cap0 z0 w hP w0

theorem contract (H : Type) (enc : TypeId × Value → H) (W : World) (base : Nat) (args : Array Value) (ds gs : List (DataW H)) (before : List MemPlace)
    (hval0 : ∀ (j : Nat) t v, Tryd.f4.params[j]? = some t → args[j]? = some v → Value.okWide Tryd.prog W .any base t v)
    (hW : DataW.Whole enc Tryd.prog Tryd.f4.params.toList Rows.fnAddrTextsSpec.vars false W args.toList ds gs before) (hL : laidMetH Tryd.prog Rows.fnAddrTextsRow.laid W) :
    Calls Tryd.prog 4 args W fun e W' => ∃ v, e = .returned v ∧ Rows.fnAddrTextsSpec.post enc Tryd.prog Tryd.f4 false true false false W args v W' := by
  have hval : ∀ (j : Nat) t v, Tryd.f4.params[j]? = some t → args[j]? = some v → Value.okWide Tryd.prog W .any base t v := hval0
  have hW' := hW
  obtain ⟨p, q, hA0, hV, rfl, hfz, hnd⟩ := hW
  have hA : DataW.TrodAll enc Tryd.prog W 0 (fun _ => true) true Tryd.f4.params.toList args.toList ds p := hA0
  rw [Tryd.params4] at hA hval
  obtain ⟨v0, vs0, d0, ds0, p0, q0, hargs, rfl, rfl, h0, r0⟩ := trodAll_cons hA
  obtain ⟨rfl, rfl, rfl⟩ := trodAll_nil r0
  obtain rfl : args = #[v0] := by cases args; simp_all
  have k0 := h0
  have lt0 : ∀ x ∈ p0, x.block < W.heap.size := by obtain ⟨m, hm⟩ := k0; exact DataW.trod_lt m _ _ _ hm
  obtain ⟨a0, len0, cap0, rfl⟩ := okWide_slice Tryd.underlying22 (hval 0 22 v0 rfl rfl)
  obtain ⟨z0, w0⟩ : ∃ zs, Mem.IsRow .u8 W a0 len0 cap0 zs := by
    obtain ⟨fuel, hf⟩ := h0
    rcases open_ints Tryd.underlying22 Tryd.underlying5 (by kernel_rfl) hf with ⟨hcs, _⟩ | ⟨x, l, c, zs, hcs, _, hl, hm, hz, _, hcell, hwz⟩
    · simp [Value.cells] at hcs
      obtain ⟨rfl, rfl, rfl⟩ := hcs
      exact ⟨[], .inl ⟨rfl, rfl, rfl, rfl⟩⟩
    · simp [Value.cells] at hcs
      obtain ⟨rfl, rfl, rfl⟩ := hcs
      exact ⟨zs, .inr ⟨_, rfl, hl, hm, by simpa using hz, hcell, hwz⟩⟩
  obtain ⟨rfl, rfl⟩ := trodVars_none hV
  clear hA0 hval0
  refine (walk a0 len0 cap0 z0 W (powTab hL) w0).mono fun e W' ⟨he, bel⟩ => ?_
  subst he
  exact ⟨_, rfl, _, _, _, [], _, [], hW', trodAll_mk1 (shut_bool Tryd.underlying4 _), (trodAll_cons_mk (Below.trod laidOut (by kernel_rfl) (of_decide_eq_true (by kernel_rfl)) k0 bel lt0) trodAll_mk0), rfl, bel.frame _, fun h => by cases h⟩

def layTab (w : World) : World := { w with heap := ((((((w.heap).modify 1 fun o => match o with | .cells _ t frozen => .cells (([0, 1, 28, 2, 29, 14, 24, 3, 30, 22, 20, 15, 25, 17, 4, 8, 31, 27, 13, 23, 21, 19, 16, 7, 26, 12, 18, 6, 11, 5, 10, 9] : List Int).map (Value.int .u8)).toArray t frozen | o => o)).modify 2 fun o => match o with | .cells _ t frozen => .cells (([0, 1, 56, 2, 57, 49, 28, 3, 61, 58, 42, 50, 38, 29, 17, 4, 62, 47, 59, 36, 45, 43, 51, 22, 53, 39, 33, 30, 24, 18, 12, 5, 63, 55, 48, 27, 60, 41, 37, 16, 46, 35, 44, 21, 52, 32, 23, 11, 54, 26, 40, 15, 34, 20, 31, 10, 25, 14, 19, 9, 13, 8, 7, 6] : List Int).map (Value.int .u8)).toArray t frozen | o => o)).modify 0 fun o => match o with | .cells _ t frozen => .cells (([1, 10, 100, 1000, 10000, 100000, 1000000, 10000000, 100000000, 1000000000, 10000000000, 100000000000, 1000000000000, 10000000000000, 100000000000000, 1000000000000000, 10000000000000000, 100000000000000000, 1000000000000000000, 10000000000000000000] : List Int).map (Value.int .u64)).toArray t frozen | o => o) }
theorem laid_met (os : Os) : laidMet Tryd.prog Rows.fnAddrTextsRow.laid ((layTab (World.holding Tryd.prog os ⟨#[], #[], []⟩)).forCall (fun _ _ => 0) ⟨#[], #[.slice none 0 0], []⟩).memory :=
  laidMet_of_run' 8 (by kernel_rfl) (by kernel_rfl)
theorem reads (os : Os) {H : Type} (enc : TypeId × Value → H) : ∃ places, DataW.whole enc Tryd.prog ((layTab (World.holding Tryd.prog os ⟨#[], #[], []⟩)).forCall (fun _ _ => 0) ⟨#[], #[.slice none 0 0], []⟩).memory Tryd.f4.params.toList Rows.fnAddrTextsSpec.vars false (#[.slice none 0 0] : Array Value).toList 8 = some ([.nil], [], places) :=
  ⟨[], by kernel_rfl⟩

set_option maxRecDepth 100000 in
theorem lifted (os : Os) (started : os.Started) (H : Type) (enc : TypeId × Value → H) (F : Stop.Interp) :
    ReturnsInHanded {} Tryd.checked os 4 .any ((OpenSpec.ofChange Rows.fnAddrTextsSpec).preRow enc Tryd.prog Tryd.f4 Rows.fnAddrTextsRow.domain false Rows.fnAddrTextsRow.laid) (((OpenSpec.ofChange Rows.fnAddrTextsSpec).at F).post enc Tryd.prog Tryd.f4 false true false false) := by
  obtain ⟨places, hx⟩ := reads os enc
  refine returnsInHanded_of_row (C := Tryd.checked) (s := OpenSpec.ofChange Rows.fnAddrTextsSpec) own started (by kernel_rfl) Tryd.func4
    (witness_row_at (enc := enc) (C := Tryd.checked) false (layTab (World.holding Tryd.prog os ⟨#[], #[], []⟩)) #[.slice none 0 0] rfl (by kernel_rfl) (by kernel_rfl) (by kernel_rfl)
      (OpenSpec.preRow_of_cond 8 hx (by kernel_rfl) (fun k hk => by cases hk) (by kernel_rfl) (laid_met os))) ?_
  intro W base args ds gs before hval hW _ _ _ hL _ _
  exact contract H enc W base args ds gs before hval hW hL

theorem said : Rows.FnAddrTextsSaid :=
  OpenClaim.holds_of_cond 4 Tryd.f4 rfl rfl rfl rfl rfl rfl rfl ⟨rfl, rfl, rfl, rfl, rfl⟩ rfl rfl rfl rfl rfl (by kernel_rfl) Tryd.func4 (by kernel_rfl)
    (of_decide_eq_true (by kernel_rfl)) (by unfold Func.isWrapper; first | (rw [if_pos (by decide +kernel)]; kernel_rfl) | (rw [if_neg (by decide +kernel)]; exact ⟨rfl, rfl⟩))
    (fun os started H enc _ F => by rw [OpenClaim.pre_eq_preRow]; exact lifted os started H enc F)

theorem plain (f : FuncId) (fn : Func) (hf : Tryd.pinned.checked.prog.funcNamed "loop.example/g00478/laws.FnAddrTexts" = some f) (hfn : Tryd.pinned.checked.prog.funcs[f]? = some fn) :
    false = Tryd.pinned.checked.prog.looks [] ∧ ∀ (j : Nat) t, fn.params[j]? = some t → Tryd.pinned.checked.prog.wantsStandIn t = false := by
  obtain rfl : f = 4 := Option.some.inj ((show Tryd.prog.funcNamed "loop.example/g00478/laws.FnAddrTexts" = some 4 by kernel_rfl).symm.trans hf) |>.symm
  obtain rfl : fn = Tryd.f4 := (Option.some.inj (Tryd.func4.symm.trans hfn)).symm
  refine ⟨by kernel_rfl, fun j t ht => ?_⟩
  have hall : (Tryd.f4.params.toList.all fun t => !Tryd.prog.wantsStandIn t) = true := by kernel_rfl
  have hm : t ∈ Tryd.f4.params.toList := by simpa using Array.mem_of_getElem? ht
  have := List.all_eq_true.1 hall t hm
  exact (show Tryd.prog.wantsStandIn t = false by simpa using this)
end Go.Proofs.YticfgbfchpnpoaaDoor.fnAddrTexts
namespace Go.Proofs.YticfgbfchpnpoaaDoor
theorem fnAddrTexts_holds : Rows.FnAddrTextsCardSaid :=
  Claim7.holds_tied_plain_at .later [] _ _ _ _ fnAddrTexts.said (fun _ h => by cases h) (by kernel_rfl) (fun _ h => by cases h) fnAddrTexts_row_tie rfl ⟨rfl, rfl⟩ (by kernel_rfl) rfl fnAddrTexts.plain (by kernel_rfl)
#print axioms fnAddrTexts_holds
end Go.Proofs.YticfgbfchpnpoaaDoor
