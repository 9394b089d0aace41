/-
  What spec's AddrOk, PutAddr, GetAddr and Near answer.
-/
import Derived.Test.YticfgbfchpnpoaaDoorAddrP
import Derived.Test.YticfgbfchpnpoaaDoorGet
import Derived.Test.YticfgbfchpnpoaaDoorAppAt
import Derived.Test.YticfgbfchpnpoaaDoorWords
import Derived.Test.YticfgbfchpnpoaaDoorRes
import Derived.Test.YticfgbfchpnpoaaDoorOps
namespace Go.Proofs.YticfgbfchpnpoaaDoor.AddrS
open Go.RowKit Go.Proofs.YticfgbfchpnpoaaDoor.Mem Go.Proofs.YticfgbfchpnpoaaDoor.App Go.Proofs.YticfgbfchpnpoaaDoor.Get Go.Proofs.YticfgbfchpnpoaaDoor.Blk Go.Proofs.YticfgbfchpnpoaaDoor.Words Go.Proofs.YticfgbfchpnpoaaDoor.AddrP Go.Proofs.YticfgbfchpnpoaaDoor.Res Go.Proofs.YticfgbfchpnpoaaDoor.Each Go.Proofs.YticfgbfchpnpoaaDoor.Copy Go.Proofs.YticfgbfchpnpoaaDoor.Ops

/-- An address as a value. -/
def addrV (h p : Int) : Value := .agg #[.int .i64 h, .int .i64 p]

theorem specAddrOk (h p : Int) (w : World) :
    Calls Tryd.prog 12 #[addrV h p] w fun e w' => e = .returned (.bool (addrOk h p)) ∧ Below w.heap.size w w' := by
  have KB : Hid (Below w.heap.size w (w.alloc (.cells #[.int .i64 h, .int .i64 p] 25))) := (Below.refl _ _).alloc (Nat.le_refl _) _
  have K : Hid (Blk (w.alloc (.cells #[.int .i64 h, .int .i64 p] 25)) w.heap.size 25 [.int .i64 h, .int .i64 p]) := Blk.new w _ _
  have E : Hid (addrOk h p = (isIn h 0 4294967295 && isIn p 0 65535)) := by
    show _ = _
    unfold addrOk isIn
    rw [← Bool.decide_and]
    apply decide_eq_decide.2
    omega
  unfold addrV
  cases h1 : isIn h 0 4294967295 with
  | true =>
    go_enter Tryd.func12, Tryd.ntmps12
    go_wp2_with fail
    refine (l1In _ _ _ _).mono ?_
    rintro e w1 ⟨rfl, rfl⟩
    rw [h1]
    go_wp2_with fail
    refine (l1In _ _ _ _).mono ?_
    rintro e w1 ⟨rfl, rfl⟩
    go_wp2
    go_ret
    exact ⟨by rw [E.out, h1]; simp, KB.out⟩
  | false =>
    go_enter Tryd.func12, Tryd.ntmps12
    go_wp2_with fail
    refine (l1In _ _ _ _).mono ?_
    rintro e w1 ⟨rfl, rfl⟩
    rw [h1]
    go_wp2
    go_ret
    exact ⟨by rw [E.out, h1]; simp, KB.out⟩

/-- The bytes of an address behind others. -/
def putA (l : List Int) (h p : Int) : List Int := if addrOk h p = true then l ++ num h 4 ++ num p 2 else l

theorem aggA : aggB Tryd.prog 25 2 = true := by kernel_rfl
/-- An address that is handed back out of a block of its own. -/
theorem ret_addr {fn : Func} {p : Tmp} {a : Act} {w : World} {g : Nat} {h q : Int} {R : Ending → World → Prop} (hf : fn.results = #[.cell p 25]) (hp : a.tmps.getD p undef = .pointer (some ⟨g, 0, none⟩)) (hg : Blk w g 25 [.int .i64 h, .int .i64 q]) (hd : a.defers = []) (hR : R (.returned (addrV h q)) w) : bodyPost Tryd.prog fn R .ret a w :=
  bodyPost_ret (v := addrV h q) (res1 hf (is_cell hp hg aggA)) hd hR

set_option maxRecDepth 100000 in
set_option maxHeartbeats 800000 in
theorem specNear (i : Int) (w : World) :
    Calls Tryd.prog 46 #[.int .i64 i] w fun e w' => e = .returned (if 0 ≤ i ∧ i ≤ 255 then addrV (167772160 + i) (7000 + i) else addrV 0 0) ∧ Below w.heap.size w w' := by
  by_cases h : 0 ≤ i ∧ i ≤ 255
  · have hi : isIn i 0 255 = true := isIn_yes h
    rw [if_pos h]
    have w1 : IntKind.i64.wrap (167772160 + i) = 167772160 + i := by rw [IntKind.wrap_i64]; omega
    have w2 : IntKind.i64.wrap (7000 + i) = 7000 + i := by rw [IntKind.wrap_i64]; omega
    go_enter Tryd.func46, Tryd.ntmps46
    go_wp2_with fail
    refine (l1In _ _ _ _).mono ?_
    rintro e w1 ⟨rfl, rfl⟩
    rw [hi]
    go_wp2
    exact ret_addr rfl rfl (Blk.new w _ [_, _]) rfl ⟨rfl, (Below.refl _ _).alloc (Nat.le_refl _) _⟩
  · have hi : isIn i 0 255 = false := isIn_no h
    rw [if_neg h]
    go_enter Tryd.func46, Tryd.ntmps46
    go_wp2_with fail
    refine (l1In _ _ _ _).mono ?_
    rintro e w1 ⟨rfl, rfl⟩
    rw [hi]
    go_wp2
    exact ret_addr rfl rfl (Blk.new w _ [_, _]) rfl ⟨rfl, (Below.refl _ _).alloc (Nat.le_refl _) _⟩

/-- What stands at a place, read as an address: the address, the place behind, and whether it is there. -/
def gotA (l : List Int) (i : Int) : Value :=
  if there l.length i 6 = true then .tuple #[addrV (val (piece l i.toNat 4)) (val (piece l (i.toNat + 4) 2)), .int .i64 (i + 6), .bool true] else .tuple #[addrV 0 0, .int .i64 0, .bool false]
theorem gotN_yes (l : List Int) (i k : Int) (h1 : 1 ≤ k ∧ k ≤ 6) (h : there l.length i k = true) : gotN l i k = .tuple #[.int .i64 (val (piece l i.toNat k.toNat)), .int .i64 (i + k), .bool true] := by
  unfold gotN; rw [if_pos ⟨(isSize_iff k).2 h1, h⟩]
theorem gotN_no (l : List Int) (i k : Int) (h : there l.length i k = false) : gotN l i k = .tuple #[.int .i64 0, .int .i64 0, .bool false] := by
  unfold gotN; rw [if_neg (by rw [h]; simp)]
theorem ret_addr3 {fn : Func} {p u v : Tmp} {a : Act} {w : World} {g : Nat} {h q : Int} {x y : Value} {R : Ending → World → Prop} (hf : fn.results = #[.cell p 25, .tmp u, .tmp v]) (hp : a.tmps.getD p undef = .pointer (some ⟨g, 0, none⟩)) (hg : Blk w g 25 [.int .i64 h, .int .i64 q]) (hu : a.tmps.getD u undef = x) (hv : a.tmps.getD v undef = y) (hd : a.defers = []) (hR : R (.returned (.tuple #[addrV h q, x, y])) w) : bodyPost Tryd.prog fn R .ret a w :=
  bodyPost_ret (v := .tuple #[addrV h q, x, y]) (res3 hf (is_cell hp hg aggA) (is_tmp hu) (is_tmp hv)) hd hR
theorem ret_addr2 {fn : Func} {p u : Tmp} {a : Act} {w : World} {g : Nat} {h q : Int} {x : Value} {R : Ending → World → Prop} (hf : fn.results = #[.cell p 25, .tmp u]) (hp : a.tmps.getD p undef = .pointer (some ⟨g, 0, none⟩)) (hg : Blk w g 25 [.int .i64 h, .int .i64 q]) (hu : a.tmps.getD u undef = x) (hd : a.defers = []) (hR : R (.returned (.tuple #[addrV h q, x])) w) : bodyPost Tryd.prog fn R .ret a w :=
  bodyPost_ret (v := .tuple #[addrV h q, x]) (res2 hf (is_cell hp hg aggA) (is_tmp hu)) hd hR

end Go.Proofs.YticfgbfchpnpoaaDoor.AddrS
