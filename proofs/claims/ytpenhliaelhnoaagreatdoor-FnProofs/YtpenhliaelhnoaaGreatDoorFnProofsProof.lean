/-
  The law of proofs answers true for every slice of draws, whenever the round words stand in memory as the card ties them: what finishes a drawn cookie, and whether a drawn proof is right, is as the specification has it; what finishes is a right KFinish of the id, with the cookie's parts, its proof is right, and with a byte of it turned it is not; nothing that was handed in is changed.
-/
import Derived.Test.YtpenhliaelhnoaaGreatDoorCards
import Derived.Test.YtpenhliaelhnoaaGreatDoorTie
import Derived.Test.YtpenhliaelhnoaaGreatDoorVaGz1
import Derived.Test.YtpenhliaelhnoaaGreatDoorVaDraw
import Derived.Test.YtpenhliaelhnoaaGreatDoorVaDrawB
import Derived.Test.YtpenhliaelhnoaaGreatDoorVaGz2
import Derived.Test.YtpenhliaelhnoaaGreatDoorVaGz6
import Derived.Test.YtpenhliaelhnoaaGreatDoorVaDrN
import Derived.Test.YtpenhliaelhnoaaGreatDoorVaFrZ
import Derived.Test.YtpenhliaelhnoaaGreatDoorVaGz3
import Derived.Test.YtpenhliaelhnoaaGreatDoorVaGz4
import Derived.Test.YtpenhliaelhnoaaGreatDoorVaGz5
import Derived.Test.YtpenhliaelhnoaaGreatDoorVaGz7
import Derived.Test.YtpenhliaelhnoaaGreatDoorVaDrKe
import Derived.Test.YtpenhliaelhnoaaGreatDoorVaFrM
import Derived.Test.YtpenhliaelhnoaaGreatDoorVaFrN
import Derived.Test.YtpenhliaelhnoaaGreatDoorVaFrS
import Derived.Test.YtpenhliaelhnoaaGreatDoorVaGz8
import Derived.Test.YtpenhliaelhnoaaGreatDoorVaGz15
import Derived.Test.YtpenhliaelhnoaaGreatDoorVaFrW2
import Derived.Test.YtpenhliaelhnoaaGreatDoorVaGz11
import Derived.Test.YtpenhliaelhnoaaGreatDoorVaGz9
import Derived.Test.YtpenhliaelhnoaaGreatDoorVaGz10
import Derived.Test.YtpenhliaelhnoaaGreatDoorVaFrQ
import Derived.Test.YtpenhliaelhnoaaGreatDoorVaGz12
import Derived.Test.YtpenhliaelhnoaaGreatDoorVaFrE
import Derived.Test.YtpenhliaelhnoaaGreatDoorVaFrO
import Derived.Test.YtpenhliaelhnoaaGreatDoorVaGz13
import Derived.Test.YtpenhliaelhnoaaGreatDoorVaGz17
import Derived.Test.YtpenhliaelhnoaaGreatDoorVaGz19
import Derived.Test.YtpenhliaelhnoaaGreatDoorVaFrPut
import Derived.Test.YtpenhliaelhnoaaGreatDoorVaFrH
import Derived.Test.YtpenhliaelhnoaaGreatDoorVaDrawD
import Derived.Test.YtpenhliaelhnoaaGreatDoorVaFrDd
import Derived.Test.YtpenhliaelhnoaaGreatDoorVaFrDa
import Derived.Test.YtpenhliaelhnoaaGreatDoorVaGz14
import Derived.Test.YtpenhliaelhnoaaGreatDoorVaGz16
import Derived.Test.YtpenhliaelhnoaaGreatDoorVaDrKf
import Derived.Test.YtpenhliaelhnoaaGreatDoorVaGz18
import Derived.Test.YtpenhliaelhnoaaGreatDoorVaUnsS
import Derived.Test.YtpenhliaelhnoaaGreatDoorVaKeU
import Derived.Test.YtpenhliaelhnoaaGreatDoorVaDrCp
import Derived.Test.YtpenhliaelhnoaaGreatDoorVaDrCq
import Derived.Test.YtpenhliaelhnoaaGreatDoorVaFrGe
import Derived.Test.YtpenhliaelhnoaaGreatDoorVaKeX
import Derived.Test.YtpenhliaelhnoaaGreatDoorVaDrKg
import Derived.Test.YtpenhliaelhnoaaGreatDoorVaSealI
import Derived.Test.YtpenhliaelhnoaaGreatDoorVaUnsI
import Derived.Test.YtpenhliaelhnoaaGreatDoorVaKeV
import Derived.Test.YtpenhliaelhnoaaGreatDoorVaKeY
import Derived.Test.YtpenhliaelhnoaaGreatDoorVaKeZ
import Derived.Test.YtpenhliaelhnoaaGreatDoorVaSameV
import Derived.Test.YtpenhliaelhnoaaGreatDoorVaSmFr
import Derived.Test.YtpenhliaelhnoaaGreatDoorVaLawProofs
import Derived.WalkKit
import Derived.ProofKit
import Derived.OpenShut
import Derived.ShutString
import Derived.ChangeOld
import Derived.Below
import Derived.OpenVars
import Derived.ChangeVars
import Derived.Deep.DeepHandedRow
import Derived.Lib.LaidTab
import Derived.LaidSub
import Derived.LaidHandle
namespace Go.Proofs.YtpenhliaelhnoaaGreatDoor.fnProofs
open Go.ChangeShapes Go.WideShapes Go.ChangeAt Go.RowKit
open Go.ChangeMaps (open_string)
set_option linter.unusedVariables false

set_option maxRecDepth 100000 in
theorem own : ownKnob Tryz.prog.godebug = none := by kernel_rfl
set_option maxRecDepth 100000 in
theorem laidOut : laidOutB Tryz.prog = true := by kernel_rfl
set_option maxRecDepth 100000 in
theorem tabG : Tryz.prog.globalNamed "loop.example/g00478/impl.roundWords" = some 0 := by kernel_rfl
set_option maxRecDepth 100000 in
theorem tabType : (Tryz.prog.globals[0]?).map (·.type) = some 118 := by kernel_rfl
set_option maxRecDepth 100000 in
theorem tabCells : Tryz.prog.cellsOf 118 = 64 := by kernel_rfl
set_option maxRecDepth 100000 in
theorem tabCell : Tryz.prog.cellsOf 3 = 1 := by kernel_rfl
set_option maxRecDepth 100000 in
theorem tabList : (Rows.fnProofsRow.laid.filter fun x => x.2.handleName?.isNone).filter (fun x => x.1 == "loop.example/g00478/impl.roundWords") = [("loop.example/g00478/impl.roundWords", Lib.tabData .i64 ShaP.kk)] := by kernel_rfl
set_option maxRecDepth 100000 in
theorem tabIs {W : World} (h : laidMetH Tryz.prog Rows.fnProofsRow.laid W) : Lib.TabIs Tryz.prog W "loop.example/g00478/impl.roundWords" .i64 ShaP.kk := by
  have h1 := (laidMetH_iff.1 h).1.filter (fun x => x.1 == "loop.example/g00478/impl.roundWords")
  rw [tabList] at h1
  exact Lib.tabIs_of_head (rest := []) tabG tabType Tryz.underlying118 Tryz.underlying3 tabCell tabCells h1
set_option maxRecDepth 100000 in
theorem tabTab {W : World} (h : laidMetH Tryz.prog Rows.fnProofsRow.laid W) : Comp.Tab W := by
  have hc : ∀ i, i < 64 → W.cell? ⟨0, i, none⟩ = some (.int .i64 (ShaP.kk.getD i 0)) := fun i hi => (tabIs h).cell tabG i (by rw [ShaP.kk_length]; exact hi)
  exact ⟨World.block_lt_of_cell? W _ (hc 0 (by omega)), hc⟩

set_option maxRecDepth 100000 in
theorem walk (a0 : Option Addr) (len0 cap0 : Nat) (z0 : List Int) (w : World) (hT : Comp.Tab w) (w0 : Mem.IsRow .u8 w a0 len0 cap0 z0) :
    Calls Tryz.prog 3 #[.slice a0 len0 cap0] w fun e w' => e = .returned (.bool true) ∧ Below w.heap.size w w' := by
  exact LawProofs.walk a0 len0 cap0 z0 w hT w0

set_option maxRecDepth 100000 in
theorem contract (H : Type) (enc : TypeId × Value → H) (W : World) (base : Nat) (args : Array Value) (ds gs : List (DataW H)) (before : List MemPlace)
    (hval0 : ∀ (j : Nat) t v, Tryz.f3.params[j]? = some t → args[j]? = some v → Value.okWide Tryz.prog W .any base t v)
    (hW : DataW.Whole enc Tryz.prog Tryz.f3.params.toList Rows.fnProofsSpec.vars false W args.toList ds gs before) (hL : laidMetH Tryz.prog Rows.fnProofsRow.laid W) :
    Calls Tryz.prog 3 args W fun e W' => ∃ v, e = .returned v ∧ Rows.fnProofsSpec.post enc Tryz.prog Tryz.f3 false true false false W args v W' := by
  have hval : ∀ (j : Nat) t v, Tryz.f3.params[j]? = some t → args[j]? = some v → Value.okWide Tryz.prog W .any base t v := hval0
  have hW' := hW
  obtain ⟨p, q, hA0, hV, rfl, hfz, hnd⟩ := hW
  have hA : DataW.TrodAll enc Tryz.prog W 0 (fun _ => true) true Tryz.f3.params.toList args.toList ds p := hA0
  rw [Tryz.params3] at hA hval
  obtain ⟨v0, vs0, d0, ds0, p0, q0, hargs, rfl, rfl, h0, r0⟩ := trodAll_cons hA
  obtain ⟨rfl, rfl, rfl⟩ := trodAll_nil r0
  obtain rfl : args = #[v0] := by cases args; simp_all
  have k0 := h0
  have lt0 : ∀ x ∈ p0, x.block < W.heap.size := by obtain ⟨m, hm⟩ := k0; exact DataW.trod_lt m _ _ _ hm
  obtain ⟨a0, len0, cap0, rfl⟩ := okWide_slice Tryz.underlying22 (hval 0 22 v0 rfl rfl)
  obtain ⟨z0, w0⟩ : ∃ zs, Mem.IsRow .u8 W a0 len0 cap0 zs := by
    obtain ⟨fuel, hf⟩ := h0
    rcases open_ints Tryz.underlying22 Tryz.underlying5 (by kernel_rfl) hf with ⟨hcs, _⟩ | ⟨x, l, c, zs, hcs, _, hl, hm, hz, _, hcell, hwz⟩
    · simp [Value.cells] at hcs
      obtain ⟨rfl, rfl, rfl⟩ := hcs
      exact ⟨[], .inl ⟨rfl, rfl, rfl, rfl⟩⟩
    · simp [Value.cells] at hcs
      obtain ⟨rfl, rfl, rfl⟩ := hcs
      exact ⟨zs, .inr ⟨_, rfl, hl, hm, by simpa using hz, hcell, hwz⟩⟩
  have hV' : DataW.TrodVars enc Tryz.prog W (fun _ => true) ["loop.example/g00478/impl.roundWords"] gs q := hV
  obtain ⟨_, _, _, _, gd, _, rfl, _⟩ := trodVars_one hV'
  clear hA0 hval0
  refine (walk a0 len0 cap0 z0 W (tabTab hL) w0).mono fun e W' ⟨he, bel⟩ => ?_
  subst he
  exact ⟨_, rfl, _, _, _, [], _, _, hW', trodAll_mk1 (shut_bool Tryz.underlying4 _), (trodAll_cons_mk (Below.trod laidOut (by kernel_rfl) (of_decide_eq_true (by kernel_rfl)) k0 bel lt0) trodAll_mk0), Below.trodVars laidOut bel (by kernel_rfl) hV', bel.frame _, fun h => by cases h⟩

def layTab (w : World) : World := { w with heap := ((w.heap).modify 0 fun o => match o with | .cells _ t frozen => .cells (([1116352408, 1899447441, 3049323471, 3921009573, 961987163, 1508970993, 2453635748, 2870763221, 3624381080, 310598401, 607225278, 1426881987, 1925078388, 2162078206, 2614888103, 3248222580, 3835390401, 4022224774, 264347078, 604807628, 770255983, 1249150122, 1555081692, 1996064986, 2554220882, 2821834349, 2952996808, 3210313671, 3336571891, 3584528711, 113926993, 338241895, 666307205, 773529912, 1294757372, 1396182291, 1695183700, 1986661051, 2177026350, 2456956037, 2730485921, 2820302411, 3259730800, 3345764771, 3516065817, 3600352804, 4094571909, 275423344, 430227734, 506948616, 659060556, 883997877, 958139571, 1322822218, 1537002063, 1747873779, 1955562222, 2024104815, 2227730452, 2361852424, 2428436474, 2756734187, 3204031479, 3329325298] : List Int).map (Value.int .i64)).toArray t frozen | o => o) }
set_option maxRecDepth 100000 in
theorem laid_met (os : Os) : laidMet Tryz.prog Rows.fnProofsRow.laid ((layTab (World.holding Tryz.prog os ⟨#[], #[], []⟩)).forCall (fun _ _ => 0) ⟨#[], #[.slice none 0 0], []⟩).memory :=
  laidMet_of_run' 8 (by kernel_rfl) (by kernel_rfl)
set_option maxRecDepth 100000 in
theorem reads (os : Os) {H : Type} (enc : TypeId × Value → H) : ∃ places, DataW.whole enc Tryz.prog ((layTab (World.holding Tryz.prog os ⟨#[], #[], []⟩)).forCall (fun _ _ => 0) ⟨#[], #[.slice none 0 0], []⟩).memory Tryz.f3.params.toList Rows.fnProofsSpec.vars false (#[.slice none 0 0] : Array Value).toList 8 = some ([.nil], [Rows.laid_loop_example_g00478_impl_roundWords], places) :=
  ⟨(MemPlace.row ⟨0, 0, none⟩ 64), by kernel_rfl⟩

set_option maxRecDepth 100000 in
theorem lifted (os : Os) (started : os.Started) (H : Type) (enc : TypeId × Value → H) (F : Stop.Interp) :
    ReturnsInHanded {} Tryz.checked os 3 .any ((OpenSpec.ofChange Rows.fnProofsSpec).preRow enc Tryz.prog Tryz.f3 Rows.fnProofsRow.domain false Rows.fnProofsRow.laid) (((OpenSpec.ofChange Rows.fnProofsSpec).at F).post enc Tryz.prog Tryz.f3 false true false false) := by
  obtain ⟨places, hx⟩ := reads os enc
  refine returnsInHanded_of_row (C := Tryz.checked) (s := OpenSpec.ofChange Rows.fnProofsSpec) own started (by kernel_rfl) Tryz.func3
    (witness_row_at (enc := enc) (C := Tryz.checked) false (layTab (World.holding Tryz.prog os ⟨#[], #[], []⟩)) #[.slice none 0 0] rfl (by kernel_rfl) (by kernel_rfl) (by kernel_rfl)
      (OpenSpec.preRow_of_cond 8 hx (by kernel_rfl) (fun k hk => by cases hk) (by kernel_rfl) (laid_met os))) ?_
  intro W base args ds gs before hval hW _ _ _ hL _ _
  exact contract H enc W base args ds gs before hval hW hL

set_option maxRecDepth 100000 in
theorem said : Rows.FnProofsSaid :=
  OpenClaim.holds_of_cond 3 Tryz.f3 rfl rfl rfl rfl rfl rfl rfl ⟨rfl, rfl, rfl, rfl, rfl⟩ rfl rfl rfl rfl rfl (by kernel_rfl) Tryz.func3 (by kernel_rfl)
    (of_decide_eq_true (by kernel_rfl)) (by unfold Func.isWrapper; first | (rw [if_pos (by decide +kernel)]; kernel_rfl) | (rw [if_neg (by decide +kernel)]; exact ⟨rfl, rfl⟩))
    (fun os started H enc _ F => by rw [OpenClaim.pre_eq_preRow]; exact lifted os started H enc F)

set_option maxRecDepth 100000 in
theorem plain (f : FuncId) (fn : Func) (hf : Tryz.pinned.checked.prog.funcNamed "loop.example/g00478/laws.FnProofs" = some f) (hfn : Tryz.pinned.checked.prog.funcs[f]? = some fn) :
    false = Tryz.pinned.checked.prog.looks [] ∧ ∀ (j : Nat) t, fn.params[j]? = some t → Tryz.pinned.checked.prog.wantsStandIn t = false := by
  obtain rfl : f = 3 := Option.some.inj ((show Tryz.prog.funcNamed "loop.example/g00478/laws.FnProofs" = some 3 by kernel_rfl).symm.trans hf) |>.symm
  obtain rfl : fn = Tryz.f3 := (Option.some.inj (Tryz.func3.symm.trans hfn)).symm
  refine ⟨by kernel_rfl, fun j t ht => ?_⟩
  have hall : (Tryz.f3.params.toList.all fun t => !Tryz.prog.wantsStandIn t) = true := by kernel_rfl
  have hm : t ∈ Tryz.f3.params.toList := by simpa using Array.mem_of_getElem? ht
  have := List.all_eq_true.1 hall t hm
  exact (show Tryz.prog.wantsStandIn t = false by simpa using this)
end Go.Proofs.YtpenhliaelhnoaaGreatDoor.fnProofs
namespace Go.Proofs.YtpenhliaelhnoaaGreatDoor
set_option maxRecDepth 100000 in
theorem fnProofs_holds : Rows.FnProofsCardSaid :=
  Claim7.holds_tied_plain_at .later [] _ _ _ _ fnProofs.said (fun _ h => by cases h) (by kernel_rfl) (fun _ h => by cases h) fnProofs_row_tie rfl ⟨rfl, rfl⟩ (by kernel_rfl) rfl fnProofs.plain (by kernel_rfl)
#print axioms fnProofs_holds
end Go.Proofs.YtpenhliaelhnoaaGreatDoor
