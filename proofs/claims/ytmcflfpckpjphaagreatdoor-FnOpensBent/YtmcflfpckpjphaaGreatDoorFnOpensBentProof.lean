/-
  At every code: of drawn epochs and frames, bent or not, what is refused leaves all as it was, and what is opened is taken; nothing that was there is written; where the table of round words and the variable that errors.As reads are as the program's text lays them.
-/
import Derived.Test.YtmcflfpckpjphaaGreatDoorCards
import Derived.Test.YtmcflfpckpjphaaGreatDoorTie
import Derived.Test.YtmcflfpckpjphaaGreatDoorVdBas1
import Derived.Test.YtmcflfpckpjphaaGreatDoorVdDra1
import Derived.Test.YtmcflfpckpjphaaGreatDoorVdBas2
import Derived.Test.YtmcflfpckpjphaaGreatDoorVdWnT
import Derived.Test.YtmcflfpckpjphaaGreatDoorVdWnU
import Derived.Test.YtmcflfpckpjphaaGreatDoorVdBas3
import Derived.Test.YtmcflfpckpjphaaGreatDoorVdWnDr
import Derived.Test.YtmcflfpckpjphaaGreatDoorVdWnDs
import Derived.Test.YtmcflfpckpjphaaGreatDoorVdWnDa
import Derived.Test.YtmcflfpckpjphaaGreatDoorVdDrKd
import Derived.Test.YtmcflfpckpjphaaGreatDoorVdFrZ
import Derived.Test.YtmcflfpckpjphaaGreatDoorVdBas4
import Derived.Test.YtmcflfpckpjphaaGreatDoorVdFrW2
import Derived.Test.YtmcflfpckpjphaaGreatDoorVdFrT
import Derived.Test.YtmcflfpckpjphaaGreatDoorVdFrW3
import Derived.Test.YtmcflfpckpjphaaGreatDoorVdSame
import Derived.Test.YtmcflfpckpjphaaGreatDoorVdFrE
import Derived.Test.YtmcflfpckpjphaaGreatDoorVdFrO
import Derived.Test.YtmcflfpckpjphaaGreatDoorVdFrQ2
import Derived.Test.YtmcflfpckpjphaaGreatDoorVdBas5
import Derived.Test.YtmcflfpckpjphaaGreatDoorVdComp
import Derived.Test.YtmcflfpckpjphaaGreatDoorVdCompS
import Derived.Test.YtmcflfpckpjphaaGreatDoorVdBas6
import Derived.Test.YtmcflfpckpjphaaGreatDoorVdBas8
import Derived.Test.YtmcflfpckpjphaaGreatDoorVdBas7
import Derived.Test.YtmcflfpckpjphaaGreatDoorVdDrEp
import Derived.Test.YtmcflfpckpjphaaGreatDoorVdDrCp
import Derived.Test.YtmcflfpckpjphaaGreatDoorVdDrawD
import Derived.Test.YtmcflfpckpjphaaGreatDoorVdDrBe
import Derived.Test.YtmcflfpckpjphaaGreatDoorVdFrS
import Derived.Test.YtmcflfpckpjphaaGreatDoorVdBas9
import Derived.Test.YtmcflfpckpjphaaGreatDoorVdUnsS
import Derived.Test.YtmcflfpckpjphaaGreatDoorVdSealS
import Derived.Test.YtmcflfpckpjphaaGreatDoorVdDrOp
import Derived.Test.YtmcflfpckpjphaaGreatDoorVdSameV
import Derived.Test.YtmcflfpckpjphaaGreatDoorVdSmFr
import Derived.Test.YtmcflfpckpjphaaGreatDoorVdWnW
import Derived.Test.YtmcflfpckpjphaaGreatDoorVdSmEp
import Derived.Test.YtmcflfpckpjphaaGreatDoorVdWnBp
import Derived.Test.YtmcflfpckpjphaaGreatDoorVdOpP
import Derived.Test.YtmcflfpckpjphaaGreatDoorVdSealI
import Derived.Test.YtmcflfpckpjphaaGreatDoorVdAsF
import Derived.Test.YtmcflfpckpjphaaGreatDoorVdEpJ
import Derived.Test.YtmcflfpckpjphaaGreatDoorVdUnsI
import Derived.Test.YtmcflfpckpjphaaGreatDoorVdEpO
import Derived.Test.YtmcflfpckpjphaaGreatDoorVdEpU
import Derived.Test.YtmcflfpckpjphaaGreatDoorVdEpV
import Derived.Test.YtmcflfpckpjphaaGreatDoorVdLawOpensBent
import Derived.WalkKit
import Derived.ProofKit
import Derived.OpenShut
import Derived.ShutString
import Derived.ChangeOld
import Derived.Below
import Derived.OpenVars
import Derived.ChangeVars
import Derived.Deep.DeepHandedRow
import Derived.Lib.LaidTab
import Derived.LaidSub
import Derived.LaidHandle
namespace Go.Proofs.YtmcflfpckpjphaaGreatDoor.fnOpensBent
open Go.ChangeShapes Go.WideShapes Go.ChangeAt Go.RowKit
open Go.ChangeMaps (open_string)
set_option linter.unusedVariables false

set_option maxRecDepth 100000 in
theorem own : ownKnob Tryz.prog.godebug = none := by kernel_rfl
set_option maxRecDepth 100000 in
theorem laidOut : laidOutB Tryz.prog = true := by kernel_rfl
set_option maxRecDepth 100000 in
theorem tabG : Tryz.prog.globalNamed "loop.example/g00478/impl.roundWords" = some 1 := by kernel_rfl
set_option maxRecDepth 100000 in
theorem tabType : (Tryz.prog.globals[1]?).map (·.type) = some 212 := by kernel_rfl
set_option maxRecDepth 100000 in
theorem tabCells : Tryz.prog.cellsOf 212 = 64 := by kernel_rfl
set_option maxRecDepth 100000 in
theorem tabCell : Tryz.prog.cellsOf 3 = 1 := by kernel_rfl
set_option maxRecDepth 100000 in
theorem tabList : (Rows.fnOpensBentRow.laid.filter fun x => x.2.handleName?.isNone).filter (fun x => x.1 == "loop.example/g00478/impl.roundWords") = [("loop.example/g00478/impl.roundWords", Lib.tabData .i64 ShaP.kk)] := by kernel_rfl
set_option maxRecDepth 100000 in
theorem tabIs {W : World} (h : laidMetH Tryz.prog Rows.fnOpensBentRow.laid W) : Lib.TabIs Tryz.prog W "loop.example/g00478/impl.roundWords" .i64 ShaP.kk := by
  have h1 := (laidMetH_iff.1 h).1.filter (fun x => x.1 == "loop.example/g00478/impl.roundWords")
  rw [tabList] at h1
  exact Lib.tabIs_of_head (rest := []) tabG tabType Tryz.underlying212 Tryz.underlying3 tabCell tabCells h1
set_option maxRecDepth 100000 in
theorem tabTab {W : World} (h : laidMetH Tryz.prog Rows.fnOpensBentRow.laid W) : Comp.Tab W := by
  have hc : ∀ i, i < 64 → W.cell? ⟨1, i, none⟩ = some (.int .i64 (ShaP.kk.getD i 0)) := fun i hi => (tabIs h).cell tabG i (by rw [ShaP.kk_length]; exact hi)
  exact ⟨World.block_lt_of_cell? W _ (hc 0 (by omega)), hc⟩
set_option maxRecDepth 100000 in
theorem errG : Tryz.prog.globalNamed "errors.errorType" = some 0 := by kernel_rfl
set_option maxRecDepth 100000 in
theorem errRt : (Tryz.prog.cutTypes.find? (·.1 == "internal/reflectlite.rtype")).map (·.2) = some 195 := by kernel_rfl
set_option maxRecDepth 100000 in
theorem errRow : ((List.range 246).filter fun t => Tryz.prog.rowNamed t [101, 114, 114, 111, 114]) = [97] := by kernel_rfl
set_option maxRecDepth 100000 in
theorem errSize : Tryz.prog.types.size = 246 := by kernel_rfl
set_option maxRecDepth 100000 in
theorem errList : (Rows.fnOpensBentRow.laid.filter fun x => x.2.handleName?.isSome) = [("errors.errorType", Rows.laid_errors_errorType)] := by kernel_rfl
set_option maxRecDepth 100000 in
theorem errAt {W : World} (h : laidMetH Tryz.prog Rows.fnOpensBentRow.laid W) : EpJ.ErrAt W := by
  have h1 := (laidMetH_iff.1 h).2
  rw [errList] at h1
  obtain ⟨name, u, ty, e1, e2, e3, e4, e5⟩ := h1 _ (List.mem_singleton.2 rfl)
  have en : name = [101, 114, 114, 111, 114] := (Option.some.inj e1).symm
  subst en
  obtain rfl := Option.some.inj (errRt.symm.trans e2)
  have hm : ty ∈ (List.range 246).filter fun t => Tryz.prog.rowNamed t [101, 114, 114, 111, 114] := List.mem_filter.2 ⟨List.mem_range.2 (by rw [← errSize]; exact e3), e4⟩
  rw [errRow] at hm
  obtain rfl := List.mem_singleton.1 hm
  have hh : typeHandle Tryz.prog 97 = .pointer (some ⟨2, 97, none⟩) := by kernel_rfl
  rw [hh] at e5
  have := World.var?_cell errG e5 0
  simpa [EpJ.ErrAt] using this

set_option maxRecDepth 100000 in
theorem walk (a0 : Option Addr) (len0 cap0 : Nat) (z0 : List Int) (w : World) (hT : Comp.Tab w) (hE : EpJ.ErrAt w) (w0 : Mem.IsRow .u8 w a0 len0 cap0 z0) :
    Calls Tryz.prog 5 #[.slice a0 len0 cap0] w fun e w' => e = .returned (.bool true) ∧ Below w.heap.size w w' := by
  exact LawOpensBent.walk a0 len0 cap0 z0 w hT hE w0

set_option maxRecDepth 100000 in
theorem contract (H : Type) (enc : TypeId × Value → H) (W : World) (base : Nat) (args : Array Value) (ds gs : List (DataW H)) (before : List MemPlace)
    (hval0 : ∀ (j : Nat) t v, Tryz.f5.params[j]? = some t → args[j]? = some v → Value.okWide Tryz.prog W .any base t v)
    (hW : DataW.Whole enc Tryz.prog Tryz.f5.params.toList Rows.fnOpensBentSpec.vars false W args.toList ds gs before) (hL : laidMetH Tryz.prog Rows.fnOpensBentRow.laid W) :
    Calls Tryz.prog 5 args W fun e W' => ∃ v, e = .returned v ∧ Rows.fnOpensBentSpec.post enc Tryz.prog Tryz.f5 false true false false W args v W' := by
  have hval : ∀ (j : Nat) t v, Tryz.f5.params[j]? = some t → args[j]? = some v → Value.okWide Tryz.prog W .any base t v := hval0
  have hW' := hW
  obtain ⟨p, q, hA0, hV, rfl, hfz, hnd⟩ := hW
  have hA : DataW.TrodAll enc Tryz.prog W 0 (fun _ => true) true Tryz.f5.params.toList args.toList ds p := hA0
  rw [Tryz.params5] at hA hval
  obtain ⟨v0, vs0, d0, ds0, p0, q0, hargs, rfl, rfl, h0, r0⟩ := trodAll_cons hA
  obtain ⟨rfl, rfl, rfl⟩ := trodAll_nil r0
  obtain rfl : args = #[v0] := by cases args; simp_all
  have k0 := h0
  have lt0 : ∀ x ∈ p0, x.block < W.heap.size := by obtain ⟨m, hm⟩ := k0; exact DataW.trod_lt m _ _ _ hm
  obtain ⟨a0, len0, cap0, rfl⟩ := okWide_slice Tryz.underlying22 (hval 0 22 v0 rfl rfl)
  obtain ⟨z0, w0⟩ : ∃ zs, Mem.IsRow .u8 W a0 len0 cap0 zs := by
    obtain ⟨fuel, hf⟩ := h0
    rcases open_ints Tryz.underlying22 Tryz.underlying5 (by kernel_rfl) hf with ⟨hcs, _⟩ | ⟨x, l, c, zs, hcs, _, hl, hm, hz, _, hcell, hwz⟩
    · simp [Value.cells] at hcs
      obtain ⟨rfl, rfl, rfl⟩ := hcs
      exact ⟨[], .inl ⟨rfl, rfl, rfl, rfl⟩⟩
    · simp [Value.cells] at hcs
      obtain ⟨rfl, rfl, rfl⟩ := hcs
      exact ⟨zs, .inr ⟨_, rfl, hl, hm, by simpa using hz, hcell, hwz⟩⟩
  have hV' : DataW.TrodVars enc Tryz.prog W (fun _ => true) ["loop.example/g00478/impl.roundWords"] gs q := hV
  obtain ⟨_, _, _, _, gd, _, rfl, _⟩ := trodVars_one hV'
  clear hA0 hval0
  refine (walk a0 len0 cap0 z0 W (tabTab hL) (errAt hL) w0).mono fun e W' ⟨he, bel⟩ => ?_
  subst he
  exact ⟨_, rfl, _, _, _, [], _, _, hW', trodAll_mk1 (shut_bool Tryz.underlying4 _), (trodAll_cons_mk (Below.trod laidOut (by kernel_rfl) (of_decide_eq_true (by kernel_rfl)) k0 bel lt0) trodAll_mk0), Below.trodVars laidOut bel (by kernel_rfl) hV', bel.frame _, fun h => by cases h⟩

def layTab (w : World) : World := { w with heap := ((((w.heap).modify 0 fun o => match o with | .cells _ t frozen => .cells #[.iface 195 (.agg #[.pointer (some ⟨2, 97, none⟩)])] t frozen | o => o)).modify 1 fun o => match o with | .cells _ t frozen => .cells (([1116352408, 1899447441, 3049323471, 3921009573, 961987163, 1508970993, 2453635748, 2870763221, 3624381080, 310598401, 607225278, 1426881987, 1925078388, 2162078206, 2614888103, 3248222580, 3835390401, 4022224774, 264347078, 604807628, 770255983, 1249150122, 1555081692, 1996064986, 2554220882, 2821834349, 2952996808, 3210313671, 3336571891, 3584528711, 113926993, 338241895, 666307205, 773529912, 1294757372, 1396182291, 1695183700, 1986661051, 2177026350, 2456956037, 2730485921, 2820302411, 3259730800, 3345764771, 3516065817, 3600352804, 4094571909, 275423344, 430227734, 506948616, 659060556, 883997877, 958139571, 1322822218, 1537002063, 1747873779, 1955562222, 2024104815, 2227730452, 2361852424, 2428436474, 2756734187, 3204031479, 3329325298] : List Int).map (Value.int .i64)).toArray t frozen | o => o) }
set_option maxRecDepth 100000 in
theorem laid_met (os : Os) : laidMetH Tryz.prog Rows.fnOpensBentRow.laid ((layTab (World.holding Tryz.prog os ⟨#[], #[], []⟩)).forCall (fun _ _ => 0) ⟨#[], #[.slice none 0 0], []⟩).memory :=
  laidMetH_of_parts (laidMet_of_run' 8 (by kernel_rfl) (by kernel_rfl)) (by kernel_rfl)
set_option maxRecDepth 100000 in
theorem reads (os : Os) {H : Type} (enc : TypeId × Value → H) : ∃ places, DataW.whole enc Tryz.prog ((layTab (World.holding Tryz.prog os ⟨#[], #[], []⟩)).forCall (fun _ _ => 0) ⟨#[], #[.slice none 0 0], []⟩).memory Tryz.f5.params.toList Rows.fnOpensBentSpec.vars false (#[.slice none 0 0] : Array Value).toList 8 = some ([.nil], [Rows.laid_loop_example_g00478_impl_roundWords], places) :=
  ⟨(MemPlace.row ⟨1, 0, none⟩ 64), by kernel_rfl⟩

set_option maxRecDepth 100000 in
theorem lifted (os : Os) (started : os.Started) (H : Type) (enc : TypeId × Value → H) (F : Stop.Interp) :
    ReturnsInHanded {} Tryz.checked os 5 .any ((OpenSpec.ofChange Rows.fnOpensBentSpec).preRow enc Tryz.prog Tryz.f5 Rows.fnOpensBentRow.domain false Rows.fnOpensBentRow.laid) (((OpenSpec.ofChange Rows.fnOpensBentSpec).at F).post enc Tryz.prog Tryz.f5 false true false false) := by
  obtain ⟨places, hx⟩ := reads os enc
  refine returnsInHanded_of_row (C := Tryz.checked) (s := OpenSpec.ofChange Rows.fnOpensBentSpec) own started (by kernel_rfl) Tryz.func5
    (witness_row_at (enc := enc) (C := Tryz.checked) false (layTab (World.holding Tryz.prog os ⟨#[], #[], []⟩)) #[.slice none 0 0] rfl (by kernel_rfl) (by kernel_rfl) (by kernel_rfl)
      (OpenSpec.preRow_of_cond 8 hx (by kernel_rfl) (fun k hk => by cases hk) (by kernel_rfl) (laid_met os))) ?_
  intro W base args ds gs before hval hW _ _ _ hL _ _
  exact contract H enc W base args ds gs before hval hW hL

set_option maxRecDepth 100000 in
theorem said : Rows.FnOpensBentSaid :=
  OpenClaim.holds_of_cond 5 Tryz.f5 rfl rfl rfl rfl rfl rfl rfl ⟨rfl, rfl, rfl, rfl, rfl⟩ rfl rfl rfl rfl rfl (by kernel_rfl) Tryz.func5 (by kernel_rfl)
    (of_decide_eq_true (by kernel_rfl)) (by unfold Func.isWrapper; first | (rw [if_pos (by decide +kernel)]; kernel_rfl) | (rw [if_neg (by decide +kernel)]; exact ⟨rfl, rfl⟩))
    (fun os started H enc _ F => by rw [OpenClaim.pre_eq_preRow]; exact lifted os started H enc F)

set_option maxRecDepth 100000 in
theorem plain (f : FuncId) (fn : Func) (hf : Tryz.pinned.checked.prog.funcNamed "loop.example/g00478/laws.FnOpensBent" = some f) (hfn : Tryz.pinned.checked.prog.funcs[f]? = some fn) :
    true = Tryz.pinned.checked.prog.looks [] ∧ ∀ (j : Nat) t, fn.params[j]? = some t → Tryz.pinned.checked.prog.wantsStandIn t = false := by
  obtain rfl : f = 5 := Option.some.inj ((show Tryz.prog.funcNamed "loop.example/g00478/laws.FnOpensBent" = some 5 by kernel_rfl).symm.trans hf) |>.symm
  obtain rfl : fn = Tryz.f5 := (Option.some.inj (Tryz.func5.symm.trans hfn)).symm
  refine ⟨by kernel_rfl, fun j t ht => ?_⟩
  have hall : (Tryz.f5.params.toList.all fun t => !Tryz.prog.wantsStandIn t) = true := by kernel_rfl
  have hm : t ∈ Tryz.f5.params.toList := by simpa using Array.mem_of_getElem? ht
  have := List.all_eq_true.1 hall t hm
  exact (show Tryz.prog.wantsStandIn t = false by simpa using this)
end Go.Proofs.YtmcflfpckpjphaaGreatDoor.fnOpensBent
namespace Go.Proofs.YtmcflfpckpjphaaGreatDoor
set_option maxRecDepth 100000 in
theorem fnOpensBent_holds : Rows.FnOpensBentCardSaid :=
  Claim7.holds_tied_plain_at .later [] _ _ _ _ fnOpensBent.said (fun _ h => by cases h) (by kernel_rfl) (fun _ h => by cases h) fnOpensBent_row_tie rfl ⟨rfl, rfl⟩ (by kernel_rfl) rfl fnOpensBent.plain (by kernel_rfl)
#print axioms fnOpensBent_holds
end Go.Proofs.YtmcflfpckpjphaaGreatDoor
