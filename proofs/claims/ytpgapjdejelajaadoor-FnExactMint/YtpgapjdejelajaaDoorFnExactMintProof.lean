/-
  At every jar, address, id, two nonces and tick impl.Mint answers as its specification, it writes into no argument, keeps nothing of one, and its answer owns its memory, behind another call too; for every argument, wherever the table of round words holds what the program's own text lays into it.
-/
import Derived.Test.YtpgapjdejelajaaDoorCards
import Derived.Test.YtpgapjdejelajaaDoorTie
import Derived.Test.YtpgapjdejelajaaDoorCa1
import Derived.Test.YtpgapjdejelajaaDoorCa2
import Derived.Test.YtpgapjdejelajaaDoorStr
import Derived.Test.YtpgapjdejelajaaDoorAddrP
import Derived.Test.YtpgapjdejelajaaDoorAppAt
import Derived.Test.YtpgapjdejelajaaDoorEach
import Derived.Test.YtpgapjdejelajaaDoorCopy
import Derived.Test.YtpgapjdejelajaaDoorOps
import Derived.Test.YtpgapjdejelajaaDoorAddrS
import Derived.Test.YtpgapjdejelajaaDoorCkP
import Derived.Test.YtpgapjdejelajaaDoorCuts
import Derived.Test.YtpgapjdejelajaaDoorWordsOf
import Derived.Test.YtpgapjdejelajaaDoorSched2
import Derived.Test.YtpgapjdejelajaaDoorSchedS
import Derived.Test.YtpgapjdejelajaaDoorComp
import Derived.Test.YtpgapjdejelajaaDoorCompS
import Derived.Test.YtpgapjdejelajaaDoorCompI
import Derived.Test.YtpgapjdejelajaaDoorStart
import Derived.Test.YtpgapjdejelajaaDoorAdds
import Derived.Test.YtpgapjdejelajaaDoorEnds
import Derived.Test.YtpgapjdejelajaaDoorDiffP
import Derived.Test.YtpgapjdejelajaaDoorMacP
import Derived.Test.YtpgapjdejelajaaDoorKdfP
import Derived.Test.YtpgapjdejelajaaDoorFrZ
import Derived.Test.YtpgapjdejelajaaDoorFrP
import Derived.Test.YtpgapjdejelajaaDoorCkQ
import Derived.Test.YtpgapjdejelajaaDoorShp
import Derived.Test.YtpgapjdejelajaaDoorCkL
import Derived.Test.YtpgapjdejelajaaDoorAddrE
import Derived.Test.YtpgapjdejelajaaDoorAddrI
import Derived.Test.YtpgapjdejelajaaDoorFrB
import Derived.Test.YtpgapjdejelajaaDoorFrB2
import Derived.Test.YtpgapjdejelajaaDoorFrQ
import Derived.Test.YtpgapjdejelajaaDoorFrW
import Derived.Test.YtpgapjdejelajaaDoorFrW2
import Derived.Test.YtpgapjdejelajaaDoorCkI
import Derived.Test.YtpgapjdejelajaaDoorMacI
import Derived.Test.YtpgapjdejelajaaDoorKdfB
import Derived.Test.YtpgapjdejelajaaDoorKdfI
import Derived.Test.YtpgapjdejelajaaDoorCkJ
import Derived.Test.YtpgapjdejelajaaDoorCkS
import Derived.Test.YtpgapjdejelajaaDoorShaS
import Derived.Test.YtpgapjdejelajaaDoorMacS
import Derived.Test.YtpgapjdejelajaaDoorKdfS
import Derived.Test.YtpgapjdejelajaaDoorCkT
import Derived.Test.YtpgapjdejelajaaDoorAddrL
import Derived.Test.YtpgapjdejelajaaDoorLawMint
import Derived.Test.YtpgapjdejelajaaDoorJaF
import Derived.Test.YtpgapjdejelajaaDoorAddrF
import Derived.WalkKit
import Derived.ProofKit
import Derived.OpenShut
import Derived.ShutString
import Derived.ChangeOld
import Derived.Below
import Derived.OpenVars
import Derived.ChangeVars
import Derived.Deep.DeepHandedRow
import Derived.Lib.LaidTab
import Derived.LaidSub
import Derived.LaidHandle
namespace Go.Proofs.YtpgapjdejelajaaDoor.fnExactMint
open Go.ChangeShapes Go.WideShapes Go.ChangeAt Go.RowKit
open Go.ChangeMaps (open_string)
set_option linter.unusedVariables false

set_option maxRecDepth 100000 in
theorem own : ownKnob Tryd.prog.godebug = none := by kernel_rfl
set_option maxRecDepth 100000 in
theorem laidOut : laidOutB Tryd.prog = true := by kernel_rfl
set_option maxRecDepth 100000 in
theorem tabG : Tryd.prog.globalNamed "loop.example/g00478/impl.roundWords" = some 0 := by kernel_rfl
set_option maxRecDepth 100000 in
theorem tabType : (Tryd.prog.globals[0]?).map (·.type) = some 92 := by kernel_rfl
set_option maxRecDepth 100000 in
theorem tabCells : Tryd.prog.cellsOf 92 = 64 := by kernel_rfl
set_option maxRecDepth 100000 in
theorem tabCell : Tryd.prog.cellsOf 3 = 1 := by kernel_rfl
set_option maxRecDepth 100000 in
theorem tabList : (Rows.fnExactMintRow.laid.filter fun x => x.2.handleName?.isNone).filter (fun x => x.1 == "loop.example/g00478/impl.roundWords") = [("loop.example/g00478/impl.roundWords", Lib.tabData .i64 ShaP.kk)] := by kernel_rfl
set_option maxRecDepth 100000 in
theorem tabIs {W : World} (h : laidMetH Tryd.prog Rows.fnExactMintRow.laid W) : Lib.TabIs Tryd.prog W "loop.example/g00478/impl.roundWords" .i64 ShaP.kk := by
  have h1 := (laidMetH_iff.1 h).1.filter (fun x => x.1 == "loop.example/g00478/impl.roundWords")
  rw [tabList] at h1
  exact Lib.tabIs_of_head (rest := []) tabG tabType Tryd.underlying92 Tryd.underlying3 tabCell tabCells h1
set_option maxRecDepth 100000 in
theorem tabTab {W : World} (h : laidMetH Tryd.prog Rows.fnExactMintRow.laid W) : Comp.Tab W := by
  have hc : ∀ i, i < 64 → W.cell? ⟨0, i, none⟩ = some (.int .i64 (ShaP.kk.getD i 0)) := fun i hi => (tabIs h).cell tabG i (by rw [ShaP.kk_length]; exact hi)
  exact ⟨World.block_lt_of_cell? W _ (hc 0 (by omega)), hc⟩

set_option maxRecDepth 100000 in
theorem walk (D0 : JaZ.JaD) (S0 : JaZ.JaS) (x1 y1 : Int) (a2 : Int) (a3 : Option Addr) (len3 cap3 : Nat) (z3 : List Int) (a4 : Option Addr) (len4 cap4 : Nat) (z4 : List Int) (a5 : Int) (w : World) (hT : Comp.Tab w) (w0 : JaZ.JaRd w S0 D0) (m0 : JaZ.JaSmall S0) (w2 : (Lit.int .i64 a2).wf = true) (w3 : Mem.IsRow .u8 w a3 len3 cap3 z3) (w4 : Mem.IsRow .u8 w a4 len4 cap4 z4) (w5 : (Lit.int .i64 a5).wf = true) :
    Calls Tryd.prog 4 #[JaZ.jaV D0 S0, AddrS.addrV x1 y1, .int .i64 a2, .slice a3 len3 cap3, .slice a4 len4 cap4, .int .i64 a5] w fun e w' => e = .returned (.bool true) ∧ Below w.heap.size w w' := by
  exact LawMint.walk1 D0 S0 x1 y1 a2 a3 len3 cap3 z3 a4 len4 cap4 z4 a5 w hT w0 m0 w3 w4

set_option maxRecDepth 100000 in
theorem contract (H : Type) (enc : TypeId × Value → H) (W : World) (base : Nat) (args : Array Value) (ds gs : List (DataW H)) (before : List MemPlace)
    (hval0 : ∀ (j : Nat) t v, Tryd.f4.params[j]? = some t → args[j]? = some v → Value.okWide Tryd.prog W .any base t v)
    (hW : DataW.Whole enc Tryd.prog Tryd.f4.params.toList Rows.fnExactMintSpec.vars false W args.toList ds gs before) (hL : laidMetH Tryd.prog Rows.fnExactMintRow.laid W) :
    Calls Tryd.prog 4 args W fun e W' => ∃ v, e = .returned v ∧ Rows.fnExactMintSpec.post enc Tryd.prog Tryd.f4 false true false false W args v W' := by
  have hval : ∀ (j : Nat) t v, Tryd.f4.params[j]? = some t → args[j]? = some v → Value.okWide Tryd.prog W .any base t v := hval0
  have hW' := hW
  obtain ⟨p, q, hA0, hV, rfl, hfz, hnd⟩ := hW
  have hA : DataW.TrodAll enc Tryd.prog W 0 (fun _ => true) true Tryd.f4.params.toList args.toList ds p := hA0
  rw [Tryd.params4] at hA hval
  obtain ⟨v0, vs0, d0, ds0, p0, q0, hargs, rfl, rfl, h0, r0⟩ := trodAll_cons hA
  obtain ⟨v1, vs1, d1, ds1, p1, q1, rfl, rfl, rfl, h1, r1⟩ := trodAll_cons r0
  obtain ⟨v2, vs2, d2, ds2, p2, q2, rfl, rfl, rfl, h2, r2⟩ := trodAll_cons r1
  obtain ⟨v3, vs3, d3, ds3, p3, q3, rfl, rfl, rfl, h3, r3⟩ := trodAll_cons r2
  obtain ⟨v4, vs4, d4, ds4, p4, q4, rfl, rfl, rfl, h4, r4⟩ := trodAll_cons r3
  obtain ⟨v5, vs5, d5, ds5, p5, q5, rfl, rfl, rfl, h5, r5⟩ := trodAll_cons r4
  obtain ⟨rfl, rfl, rfl⟩ := trodAll_nil r5
  obtain rfl : args = #[v0, v1, v2, v3, v4, v5] := by cases args; simp_all
  have k0 := h0
  have lt0 : ∀ x ∈ p0, x.block < W.heap.size := by obtain ⟨m, hm⟩ := k0; exact DataW.trod_lt m _ _ _ hm
  obtain ⟨D0, S0, rfl, w0, m0⟩ := JaF.open_it (hval 0 32 v0 rfl rfl) h0
  have k1 := h1
  have lt1 : ∀ x ∈ p1, x.block < W.heap.size := by obtain ⟨m, hm⟩ := k1; exact DataW.trod_lt m _ _ _ hm
  obtain ⟨x1, y1, rfl⟩ := AddrF.open_addr (hval 1 34 v1 rfl rfl) h1
  have k2 := h2
  have lt2 : ∀ x ∈ p2, x.block < W.heap.size := by obtain ⟨m, hm⟩ := k2; exact DataW.trod_lt m _ _ _ hm
  obtain ⟨a2, rfl, _, _, w2⟩ := open_int Tryd.underlying3 (hval 2 3 v2 rfl rfl) h2
  have k3 := h3
  have lt3 : ∀ x ∈ p3, x.block < W.heap.size := by obtain ⟨m, hm⟩ := k3; exact DataW.trod_lt m _ _ _ hm
  obtain ⟨a3, len3, cap3, rfl⟩ := okWide_slice Tryd.underlying22 (hval 3 22 v3 rfl rfl)
  obtain ⟨z3, w3⟩ : ∃ zs, Mem.IsRow .u8 W a3 len3 cap3 zs := by
    obtain ⟨fuel, hf⟩ := h3
    rcases open_ints Tryd.underlying22 Tryd.underlying5 (by kernel_rfl) hf with ⟨hcs, _⟩ | ⟨x, l, c, zs, hcs, _, hl, hm, hz, _, hcell, hwz⟩
    · simp [Value.cells] at hcs
      obtain ⟨rfl, rfl, rfl⟩ := hcs
      exact ⟨[], .inl ⟨rfl, rfl, rfl, rfl⟩⟩
    · simp [Value.cells] at hcs
      obtain ⟨rfl, rfl, rfl⟩ := hcs
      exact ⟨zs, .inr ⟨_, rfl, hl, hm, by simpa using hz, hcell, hwz⟩⟩
  have k4 := h4
  have lt4 : ∀ x ∈ p4, x.block < W.heap.size := by obtain ⟨m, hm⟩ := k4; exact DataW.trod_lt m _ _ _ hm
  obtain ⟨a4, len4, cap4, rfl⟩ := okWide_slice Tryd.underlying22 (hval 4 22 v4 rfl rfl)
  obtain ⟨z4, w4⟩ : ∃ zs, Mem.IsRow .u8 W a4 len4 cap4 zs := by
    obtain ⟨fuel, hf⟩ := h4
    rcases open_ints Tryd.underlying22 Tryd.underlying5 (by kernel_rfl) hf with ⟨hcs, _⟩ | ⟨x, l, c, zs, hcs, _, hl, hm, hz, _, hcell, hwz⟩
    · simp [Value.cells] at hcs
      obtain ⟨rfl, rfl, rfl⟩ := hcs
      exact ⟨[], .inl ⟨rfl, rfl, rfl, rfl⟩⟩
    · simp [Value.cells] at hcs
      obtain ⟨rfl, rfl, rfl⟩ := hcs
      exact ⟨zs, .inr ⟨_, rfl, hl, hm, by simpa using hz, hcell, hwz⟩⟩
  have k5 := h5
  have lt5 : ∀ x ∈ p5, x.block < W.heap.size := by obtain ⟨m, hm⟩ := k5; exact DataW.trod_lt m _ _ _ hm
  obtain ⟨a5, rfl, _, _, w5⟩ := open_int Tryd.underlying3 (hval 5 3 v5 rfl rfl) h5
  have hV' : DataW.TrodVars enc Tryd.prog W (fun _ => true) ["loop.example/g00478/impl.roundWords"] gs q := hV
  obtain ⟨_, _, _, _, gd, _, rfl, _⟩ := trodVars_one hV'
  clear hA0 hval0
  refine (walk D0 S0 x1 y1 a2 a3 len3 cap3 z3 a4 len4 cap4 z4 a5 W (tabTab hL) w0 m0 w2 w3 w4 w5).mono fun e W' ⟨he, bel⟩ => ?_
  subst he
  exact ⟨_, rfl, _, _, _, [], _, _, hW', trodAll_mk1 (shut_bool Tryd.underlying4 _), (trodAll_cons_mk (Below.trod laidOut (by kernel_rfl) (of_decide_eq_true (by kernel_rfl)) k0 bel lt0) (trodAll_cons_mk (Below.trod laidOut (by kernel_rfl) (of_decide_eq_true (by kernel_rfl)) k1 bel lt1) (trodAll_cons_mk (Below.trod laidOut (by kernel_rfl) (of_decide_eq_true (by kernel_rfl)) k2 bel lt2) (trodAll_cons_mk (Below.trod laidOut (by kernel_rfl) (of_decide_eq_true (by kernel_rfl)) k3 bel lt3) (trodAll_cons_mk (Below.trod laidOut (by kernel_rfl) (of_decide_eq_true (by kernel_rfl)) k4 bel lt4) (trodAll_cons_mk (Below.trod laidOut (by kernel_rfl) (of_decide_eq_true (by kernel_rfl)) k5 bel lt5) trodAll_mk0)))))), Below.trodVars laidOut bel (by kernel_rfl) hV', bel.frame _, fun h => by cases h⟩

def layTab (w : World) : World := { w with heap := ((w.heap).modify 0 fun o => match o with | .cells _ t frozen => .cells (([1116352408, 1899447441, 3049323471, 3921009573, 961987163, 1508970993, 2453635748, 2870763221, 3624381080, 310598401, 607225278, 1426881987, 1925078388, 2162078206, 2614888103, 3248222580, 3835390401, 4022224774, 264347078, 604807628, 770255983, 1249150122, 1555081692, 1996064986, 2554220882, 2821834349, 2952996808, 3210313671, 3336571891, 3584528711, 113926993, 338241895, 666307205, 773529912, 1294757372, 1396182291, 1695183700, 1986661051, 2177026350, 2456956037, 2730485921, 2820302411, 3259730800, 3345764771, 3516065817, 3600352804, 4094571909, 275423344, 430227734, 506948616, 659060556, 883997877, 958139571, 1322822218, 1537002063, 1747873779, 1955562222, 2024104815, 2227730452, 2361852424, 2428436474, 2756734187, 3204031479, 3329325298] : List Int).map (Value.int .i64)).toArray t frozen | o => o) }
set_option maxRecDepth 100000 in
theorem laid_met (os : Os) : laidMet Tryd.prog Rows.fnExactMintRow.laid ((layTab (World.holding Tryd.prog os ⟨#[], #[], []⟩)).forCall (fun _ _ => 0) ⟨#[], #[.agg #[.slice none 0 0], .agg #[.int .i64 0, .int .i64 0], .int .i64 0, .slice none 0 0, .slice none 0 0, .int .i64 0], []⟩).memory :=
  laidMet_of_run' 8 (by kernel_rfl) (by kernel_rfl)
set_option maxRecDepth 100000 in
theorem reads (os : Os) {H : Type} (enc : TypeId × Value → H) : ∃ places, DataW.whole enc Tryd.prog ((layTab (World.holding Tryd.prog os ⟨#[], #[], []⟩)).forCall (fun _ _ => 0) ⟨#[], #[.agg #[.slice none 0 0], .agg #[.int .i64 0, .int .i64 0], .int .i64 0, .slice none 0 0, .slice none 0 0, .int .i64 0], []⟩).memory Tryd.f4.params.toList Rows.fnExactMintSpec.vars false (#[.agg #[.slice none 0 0], .agg #[.int .i64 0, .int .i64 0], .int .i64 0, .slice none 0 0, .slice none 0 0, .int .i64 0] : Array Value).toList 8 = some ([.agg [.nil], .agg [.lit (.int .i64 0), .lit (.int .i64 0)], .lit (.int .i64 0), .nil, .nil, .lit (.int .i64 0)], [Rows.laid_loop_example_g00478_impl_roundWords], places) :=
  ⟨(MemPlace.row ⟨0, 0, none⟩ 64), by kernel_rfl⟩

set_option maxRecDepth 100000 in
theorem lifted (os : Os) (started : os.Started) (H : Type) (enc : TypeId × Value → H) (F : Stop.Interp) :
    ReturnsInHanded {} Tryd.checked os 4 .any ((OpenSpec.ofChange Rows.fnExactMintSpec).preRow enc Tryd.prog Tryd.f4 Rows.fnExactMintRow.domain false Rows.fnExactMintRow.laid) (((OpenSpec.ofChange Rows.fnExactMintSpec).at F).post enc Tryd.prog Tryd.f4 false true false false) := by
  obtain ⟨places, hx⟩ := reads os enc
  refine returnsInHanded_of_row (C := Tryd.checked) (s := OpenSpec.ofChange Rows.fnExactMintSpec) own started (by kernel_rfl) Tryd.func4
    (witness_row_at (enc := enc) (C := Tryd.checked) false (layTab (World.holding Tryd.prog os ⟨#[], #[], []⟩)) #[.agg #[.slice none 0 0], .agg #[.int .i64 0, .int .i64 0], .int .i64 0, .slice none 0 0, .slice none 0 0, .int .i64 0] rfl (by kernel_rfl) (by kernel_rfl) (by kernel_rfl)
      (OpenSpec.preRow_of_cond 8 hx (by kernel_rfl) (fun k hk => by cases hk) (by kernel_rfl) (laid_met os))) ?_
  intro W base args ds gs before hval hW _ _ _ hL _ _
  exact contract H enc W base args ds gs before hval hW hL

set_option maxRecDepth 100000 in
theorem said : Rows.FnExactMintSaid :=
  OpenClaim.holds_of_cond 4 Tryd.f4 rfl rfl rfl rfl rfl rfl rfl ⟨rfl, rfl, rfl, rfl, rfl⟩ rfl rfl rfl rfl rfl (by kernel_rfl) Tryd.func4 (by kernel_rfl)
    (of_decide_eq_true (by kernel_rfl)) (by unfold Func.isWrapper; first | (rw [if_pos (by decide +kernel)]; kernel_rfl) | (rw [if_neg (by decide +kernel)]; exact ⟨rfl, rfl⟩))
    (fun os started H enc _ F => by rw [OpenClaim.pre_eq_preRow]; exact lifted os started H enc F)

set_option maxRecDepth 100000 in
theorem plain (f : FuncId) (fn : Func) (hf : Tryd.pinned.checked.prog.funcNamed "loop.example/g00478/laws.FnExactMint" = some f) (hfn : Tryd.pinned.checked.prog.funcs[f]? = some fn) :
    false = Tryd.pinned.checked.prog.looks [] ∧ ∀ (j : Nat) t, fn.params[j]? = some t → Tryd.pinned.checked.prog.wantsStandIn t = false := by
  obtain rfl : f = 4 := Option.some.inj ((show Tryd.prog.funcNamed "loop.example/g00478/laws.FnExactMint" = some 4 by kernel_rfl).symm.trans hf) |>.symm
  obtain rfl : fn = Tryd.f4 := (Option.some.inj (Tryd.func4.symm.trans hfn)).symm
  refine ⟨by kernel_rfl, fun j t ht => ?_⟩
  have hall : (Tryd.f4.params.toList.all fun t => !Tryd.prog.wantsStandIn t) = true := by kernel_rfl
  have hm : t ∈ Tryd.f4.params.toList := by simpa using Array.mem_of_getElem? ht
  have := List.all_eq_true.1 hall t hm
  exact (show Tryd.prog.wantsStandIn t = false by simpa using this)
end Go.Proofs.YtpgapjdejelajaaDoor.fnExactMint
namespace Go.Proofs.YtpgapjdejelajaaDoor
set_option maxRecDepth 100000 in
theorem fnExactMint_holds : Rows.FnExactMintCardSaid :=
  Claim7.holds_tied_plain_at .later [] _ _ _ _ fnExactMint.said (fun _ h => by cases h) (by kernel_rfl) (fun _ h => by cases h) fnExactMint_row_tie rfl ⟨rfl, rfl⟩ (by kernel_rfl) rfl fnExactMint.plain (by kernel_rfl)
#print axioms fnExactMint_holds
end Go.Proofs.YtpgapjdejelajaaDoor
