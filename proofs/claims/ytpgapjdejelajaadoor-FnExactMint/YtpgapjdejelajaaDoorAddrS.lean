/-
  What spec's AddrOk, PutAddr, GetAddr and Near answer.
-/
import Derived.Test.YtpgapjdejelajaaDoorAddrP
import Derived.Test.YtpgapjdejelajaaDoorCa2
import Derived.Test.YtpgapjdejelajaaDoorAppAt
import Derived.Test.YtpgapjdejelajaaDoorCa1
import Derived.Test.YtpgapjdejelajaaDoorOps
namespace Go.Proofs.YtpgapjdejelajaaDoor.AddrS
open Go.RowKit Go.Proofs.YtpgapjdejelajaaDoor.Mem Go.Proofs.YtpgapjdejelajaaDoor.App Go.Proofs.YtpgapjdejelajaaDoor.Get Go.Proofs.YtpgapjdejelajaaDoor.Blk Go.Proofs.YtpgapjdejelajaaDoor.Words Go.Proofs.YtpgapjdejelajaaDoor.AddrP Go.Proofs.YtpgapjdejelajaaDoor.Res Go.Proofs.YtpgapjdejelajaaDoor.Each Go.Proofs.YtpgapjdejelajaaDoor.Copy Go.Proofs.YtpgapjdejelajaaDoor.Ops

/-- An address as a value. -/
def addrV (h p : Int) : Value := .agg #[.int .i64 h, .int .i64 p]

set_option maxRecDepth 100000 in
theorem specAddrOk (h p : Int) (w : World) :
    Calls Tryd.prog 31 #[addrV h p] w fun e w' => e = .returned (.bool (addrOk h p)) ∧ Below w.heap.size w w' := by
  have KB : Hid (Below w.heap.size w (w.alloc (.cells #[.int .i64 h, .int .i64 p] 38))) := (Below.refl _ _).alloc (Nat.le_refl _) _
  have K : Hid (Blk (w.alloc (.cells #[.int .i64 h, .int .i64 p] 38)) w.heap.size 38 [.int .i64 h, .int .i64 p]) := Blk.new w _ _
  have E : Hid (addrOk h p = (isIn h 0 4294967295 && isIn p 0 65535)) := by
    show _ = _
    unfold addrOk isIn
    rw [← Bool.decide_and]
    apply decide_eq_decide.2
    omega
  unfold addrV
  cases h1 : isIn h 0 4294967295 with
  | true =>
    go_enter Tryd.func31, Tryd.ntmps31
    go_wp2_with fail
    refine (l1In _ _ _ _).mono ?_
    rintro e w1 ⟨rfl, rfl⟩
    rw [h1]
    go_wp2_with fail
    refine (l1In _ _ _ _).mono ?_
    rintro e w1 ⟨rfl, rfl⟩
    go_wp2
    go_ret
    exact ⟨by rw [E.out, h1]; simp, KB.out⟩
  | false =>
    go_enter Tryd.func31, Tryd.ntmps31
    go_wp2_with fail
    refine (l1In _ _ _ _).mono ?_
    rintro e w1 ⟨rfl, rfl⟩
    rw [h1]
    go_wp2
    go_ret
    exact ⟨by rw [E.out, h1]; simp, KB.out⟩

/-- The bytes of an address behind others. -/
def putA (l : List Int) (h p : Int) : List Int := if addrOk h p = true then l ++ num h 4 ++ num p 2 else l

set_option maxRecDepth 100000 in
theorem aggA : aggB Tryd.prog 38 2 = true := by kernel_rfl
set_option maxRecDepth 100000 in
/-- An address that is handed back out of a block of its own. -/
theorem ret_addr {fn : Func} {p : Tmp} {a : Act} {w : World} {g : Nat} {h q : Int} {R : Ending → World → Prop} (hf : fn.results = #[.cell p 38]) (hp : a.tmps.getD p undef = .pointer (some ⟨g, 0, none⟩)) (hg : Blk w g 38 [.int .i64 h, .int .i64 q]) (hd : a.defers = []) (hR : R (.returned (addrV h q)) w) : bodyPost Tryd.prog fn R .ret a w :=
  bodyPost_ret (v := addrV h q) (res1 hf (is_cell hp hg aggA)) hd hR

set_option maxRecDepth 100000 in
set_option maxHeartbeats 1600000 in
theorem specPutAddr (a : Option Addr) (n c : Nat) (l : List Int) (h p : Int) (w : World) (en : n = l.length) (hr : Rd w a l) (na : a = none → c = 0) (ll : n ≤ 2000000) :
    Calls Tryd.prog 33 #[.slice a n c, addrV h p] w fun e w' =>
      ∃ g m c', e = .returned (.slice (some ⟨g, 0, none⟩) m c') ∧ m = (putA l h p).length ∧ w.heap.size ≤ g ∧ Row w' g c' (putA l h p) ∧ Below w.heap.size w w' := by
  have EN : Hid (n = l.length) := en
  have HR : Hid (Rd w a l) := hr
  obtain ⟨w0, hw0⟩ : ∃ w0, w.alloc (.cells #[.int .i64 h, .int .i64 p] 38) = w0 := ⟨_, rfl⟩
  have HW0 : Hid (w.alloc (.cells #[.int .i64 h, .int .i64 p] 38) = w0) := hw0
  have B0 : Hid (Below w.heap.size w w0) := by rw [← hw0]; exact (Below.refl _ _).alloc (Nat.le_refl _) _
  have K0 : Hid (Blk w0 w.heap.size 38 [.int .i64 h, .int .i64 p]) := by rw [← hw0]; exact Blk.new w _ _
  have o0 := K0.out.cell 0 rfl
  have o1 := K0.out.cell 1 rfl
  clear en hr hw0
  unfold addrV
  go_enter Tryd.func33, Tryd.ntmps33
  go_wp2_with fail
  rw [HW0.out]
  refine (specAddrOk h p w0).mono ?_
  rintro e w1 ⟨rfl, b1⟩
  have B1 : Hid (Below w.heap.size w w1) := B0.out.trans (b1.mono B0.out.size)
  have K1 : Hid (Blk w1 w.heap.size 38 [.int .i64 h, .int .i64 p]) := K0.out.later b1
  clear b1 o0 o1
  cases hk : addrOk h p with
  | false =>
    have HP : Hid (putA l h p = l) := by show _ = _; unfold putA; rw [if_neg (by rw [hk]; simp)]
    have A2 : Hid (Below w.heap.size w (w1.alloc (.cells #[] 5))) := B1.out.alloc B1.out.size _
    have R2 : Hid (Row (w1.alloc (.cells #[] 5)) w1.heap.size 0 []) := row_new w1 [] (by simp)
    go_wp2_with (at_builtin; refine wpList_app _ rfl (.tmp 8) (.tmp 9) rfl w.heap.size w1.heap.size 0 0 [] l rfl rfl R2.out B1.out.size a n c rfl EN.out (HR.out.later A2.out (Nat.le_refl _)) na (by rw [← EN.out, List.length_nil]; omega) ?_; intro g3 c3 w3 r3 k3 l3 gr3; have R3 : Hid (Row w3 g3 c3 l) := (List.nil_append l) ▸ r3; have G3 : Hid (w.heap.size ≤ g3) := k3; have B3 : Hid (Below w.heap.size w w3) := A2.out.grown gr3 A2.out.size (fun k h => by cases h; exact B1.out.size); clear r3 k3 l3 gr3)
    go_ret
    exact ⟨g3, n, c3, by simp, by rw [HP.out]; exact EN.out, G3.out, by rw [HP.out]; exact R3.out, B3.out⟩
  | true =>
    have HP : Hid (putA l h p = l ++ putN h 4 ++ putN p 2) := by show _ = _; unfold putA; rw [if_pos hk]; rfl
    go_upto_region 3 with fail
    go_cut [4] from 11 to 17 (fun s4 wx => ∃ g m c', s4 = .slice (some ⟨g, 0, none⟩) m c' ∧ m = (l ++ putN h 4 ++ putN p 2).length ∧ Row wx g c' (l ++ putN h 4 ++ putN p 2) ∧ w1.heap.size ≤ g ∧ Below w1.heap.size w1 wx)
    case first =>
      rename_i J K' hRJ hMet
      generalize hA : Act.mk _ _ = A
      have a0' : A.eval (.tmp 0) = .slice a n c := by rw [← hA]; rfl
      have a3' : A.eval (.tmp 3) = .pointer (some ⟨w.heap.size, 0, none⟩) := by rw [← hA]; rfl
      have asz : A.tmps.size = 18 := by rw [← hA]; rfl
      have hK : ∀ wx, Below w1.heap.size w1 wx → Blk wx w.heap.size 38 [.int .i64 h, .int .i64 p] := fun wx hb => K1.out.later hb
      have hRl : ∀ wx, Below w1.heap.size w1 wx → Rd wx a l := fun wx hb => HR.out.later (B1.out.trans (hb.mono B1.out.size)) (Nat.le_refl _)
      refine region_each (by kernel_rfl) [11, 12, 13, 14, 15, 16, 17] 7 (fun i => [11, 12, 13, 14, 15, 16, 17].getD i 0) (fun _ => 0)
        (fun i g v wx => match i with
          | 0 => v = .slice a n c
          | 1 => v = .pointer (some ⟨w.heap.size, 0, none⟩)
          | 2 => v = .int .i64 h
          | 3 => ∃ m c, v = .slice (some ⟨g, 0, none⟩) m c ∧ m = (l ++ putN h 4).length ∧ Row wx g c (l ++ putN h 4)
          | 4 => v = .pointer (some ⟨w.heap.size, 1, none⟩)
          | 5 => v = .int .i64 p
          | 6 => ∃ m c, v = .slice (some ⟨g, 0, none⟩) m c ∧ m = (l ++ putN h 4 ++ putN p 2).length ∧ Row wx g c (l ++ putN h 4 ++ putN p 2) ∧ w1.heap.size ≤ g
          | _ => False) (fun wx => Below w1.heap.size w1 wx) (by kernel_rfl) (Below.refl _ _).drew ?_ ?_ ?_
      · intro i g v wx wy hi hF hb _
        match i, hi with
        | 0, _ => exact hF
        | 1, _ => exact hF
        | 2, _ => exact hF
        | 3, _ => obtain ⟨m, c, h0, h1, h2⟩ := hF; exact ⟨m, c, h0, h1, h2.later hb⟩
        | 4, _ => exact hF
        | 5, _ => exact hF
        | 6, _ => obtain ⟨m, c, h0, h1, h2, h3⟩ := hF; exact ⟨m, c, h0, h1, h2.later hb, h3⟩
      · intro i hi t ρ wx hB hp hd
        match i, hi with
        | 0, _ =>
          have e0 : (fr [11, 12, 13, 14, 15, 16, 17] A t).eval (.tmp 0) = .slice a n c := (fr_eval_old _ _ _ 0 rfl).trans a0'
          refine op_run (v := .slice a n c) (w' := wx) rfl rfl ?_ ?_
          · clear hp hd; have ec : ∀ v, (fr [11, 12, 13, 14, 15, 16, 17] A t).eval (.const v) = v := fun _ => rfl; generalize (fr [11, 12, 13, 14, 15, 16, 17] A t).eval = ev at ec e0 ⊢; go_simp
          · exact ⟨_, 0, rfl, hB, Below.refl _ _, rfl, .inl rfl⟩
        | 1, _ =>
          have e3 : (fr [11, 12, 13, 14, 15, 16, 17] A t).eval (.tmp 3) = .pointer (some ⟨w.heap.size, 0, none⟩) := (fr_eval_old _ _ _ 3 rfl).trans a3'
          refine op_run (v := .pointer (some ⟨w.heap.size, 0, none⟩)) (w' := wx) rfl rfl ?_ ?_
          · clear hp hd; have ec : ∀ v, (fr [11, 12, 13, 14, 15, 16, 17] A t).eval (.const v) = v := fun _ => rfl; generalize (fr [11, 12, 13, 14, 15, 16, 17] A t).eval = ev at ec e3 ⊢; go_simp
          · exact ⟨_, 0, rfl, hB, Below.refl _ _, rfl, .inl rfl⟩
        | 2, _ =>
          have e12 : (fr [11, 12, 13, 14, 15, 16, 17] A t).eval (.tmp 12) = .pointer (some ⟨w.heap.size, 0, none⟩) := (fr_eval _ _ _ 12 rfl (by rw [asz]; decide)).trans (hp 1 (pre_mem (by kernel_rfl)))
          have hc := (hK wx hB).cell 0 rfl
          refine op_run (v := .int .i64 h) (w' := wx) rfl rfl ?_ ?_
          · clear hp hd; have ec : ∀ v, (fr [11, 12, 13, 14, 15, 16, 17] A t).eval (.const v) = v := fun _ => rfl; generalize (fr [11, 12, 13, 14, 15, 16, 17] A t).eval = ev at ec e12 ⊢; go_simp
          · exact ⟨_, 0, rfl, hB, Below.refl _ _, rfl, .inl rfl⟩
        | 3, _ =>
          have e11 : (fr [11, 12, 13, 14, 15, 16, 17] A t).eval (.tmp 11) = .slice a n c := (fr_eval _ _ _ 11 rfl (by rw [asz]; decide)).trans (hp 0 (pre_mem (by kernel_rfl)))
          have e13 : (fr [11, 12, 13, 14, 15, 16, 17] A t).eval (.tmp 13) = .int .i64 h := (fr_eval _ _ _ 13 rfl (by rw [asz]; decide)).trans (hp 2 (pre_mem (by kernel_rfl)))
          refine op_call (f := 34) (args := #[.slice a n c, .int .i64 h, .int .i64 4]) rfl rfl ?_ (specPutN a n c l h 4 wx EN.out (hRl wx hB) na (by rw [← EN.out]; omega)) ?_
          · have ef : (fr [11, 12, 13, 14, 15, 16, 17] A t).eval (.func 34) = .func (.func 34) #[] #[] := rfl; clear hp hd; have ec : ∀ v, (fr [11, 12, 13, 14, 15, 16, 17] A t).eval (.const v) = v := fun _ => rfl; generalize (fr [11, 12, 13, 14, 15, 16, 17] A t).eval = ev at ec e11 e13 ef ⊢; go_simp
          · rintro e wy ⟨g2, m2, c2, rfl, e2, k2, r2, b2⟩
            exact ⟨_, rfl, _, g2, rfl, hB.trans (b2.mono hB.size), b2, ⟨m2, c2, rfl, e2, r2⟩, .inl rfl⟩
        | 4, _ =>
          have e3 : (fr [11, 12, 13, 14, 15, 16, 17] A t).eval (.tmp 3) = .pointer (some ⟨w.heap.size, 0, none⟩) := (fr_eval_old _ _ _ 3 rfl).trans a3'
          refine op_run (v := .pointer (some ⟨w.heap.size, 1, none⟩)) (w' := wx) rfl rfl ?_ ?_
          · clear hp hd; have ec : ∀ v, (fr [11, 12, 13, 14, 15, 16, 17] A t).eval (.const v) = v := fun _ => rfl; generalize (fr [11, 12, 13, 14, 15, 16, 17] A t).eval = ev at ec e3 ⊢; go_simp
          · exact ⟨_, 0, rfl, hB, Below.refl _ _, rfl, .inl rfl⟩
        | 5, _ =>
          have e15 : (fr [11, 12, 13, 14, 15, 16, 17] A t).eval (.tmp 15) = .pointer (some ⟨w.heap.size, 1, none⟩) := (fr_eval _ _ _ 15 rfl (by rw [asz]; decide)).trans (hp 4 (pre_mem (by kernel_rfl)))
          have hc := (hK wx hB).cell 1 rfl
          refine op_run (v := .int .i64 p) (w' := wx) rfl rfl ?_ ?_
          · clear hp hd; have ec : ∀ v, (fr [11, 12, 13, 14, 15, 16, 17] A t).eval (.const v) = v := fun _ => rfl; generalize (fr [11, 12, 13, 14, 15, 16, 17] A t).eval = ev at ec e15 ⊢; go_simp
          · exact ⟨_, 0, rfl, hB, Below.refl _ _, rfl, .inl rfl⟩
        | 6, _ =>
          obtain ⟨m3, c3, hv3, q3_0, q3_1⟩ := hp 3 (pre_mem (by kernel_rfl))
          have e14 : (fr [11, 12, 13, 14, 15, 16, 17] A t).eval (.tmp 14) = .slice (some ⟨(ρ 3), 0, none⟩) m3 c3 := (fr_eval _ _ _ 14 rfl (by rw [asz]; decide)).trans hv3
          have e16 : (fr [11, 12, 13, 14, 15, 16, 17] A t).eval (.tmp 16) = .int .i64 p := (fr_eval _ _ _ 16 rfl (by rw [asz]; decide)).trans (hp 5 (pre_mem (by kernel_rfl)))
          refine op_call (f := 34) (args := #[.slice (some ⟨(ρ 3), 0, none⟩) m3 c3, .int .i64 p, .int .i64 2]) rfl rfl ?_ (specPutN (some ⟨(ρ 3), 0, none⟩) m3 c3 (l ++ putN h 4) p 2 wx q3_0 q3_1.rd (by intro e; cases e) (by have := EN.out; have := putN_length h 4; rw [List.length_append]; omega)) ?_
          · have ef : (fr [11, 12, 13, 14, 15, 16, 17] A t).eval (.func 34) = .func (.func 34) #[] #[] := rfl; clear hp hd q3_0 q3_1; have ec : ∀ v, (fr [11, 12, 13, 14, 15, 16, 17] A t).eval (.const v) = v := fun _ => rfl; generalize (fr [11, 12, 13, 14, 15, 16, 17] A t).eval = ev at ec e14 e16 ef ⊢; go_simp
          · rintro e wy ⟨g2, m2, c2, rfl, e2, k2, r2, b2⟩
            exact ⟨_, rfl, _, g2, rfl, hB.trans (b2.mono hB.size), b2, ⟨m2, c2, rfl, e2, r2, Nat.le_trans hB.size k2⟩, .inl rfl⟩
      · intro t ρ wx hB hF hne
        obtain ⟨m6, c6, hv6, q6_0, q6_1, q6_2⟩ := hF 6 (by decide)
        have e17 : (fr [11, 12, 13, 14, 15, 16, 17] A t).eval (.tmp 17) = .slice (some ⟨(ρ 6), 0, none⟩) m6 c6 := (fr_eval _ _ _ 17 rfl (by rw [asz]; decide)).trans hv6
        clear hne
        have E17 : Hid _ := q6_0
        refine op_wp rfl rfl ?_
        generalize hE : (fr [11, 12, 13, 14, 15, 16, 17] A t).eval = ev at e17
        unfold Oper.wp
        rw [hE]
        clear q6_0
        go_simp
        refine hMet _ _ (Met.intro (hRJ _ _ ⟨_, t 11, t 12, t 13, t 14, t 15, t 16, t 17, ⟨_, _, _, rfl, E17.out, q6_1, q6_2, hB⟩, ?_⟩))
        rw [← hA]; rfl
    case rest =>
      obtain ⟨g3, m3, c3, rfl, e3, r3, k3, b3⟩ := hcut
      have R3 : Hid (Row wc g3 c3 (putA l h p)) := by show Row _ _ _ _; rw [HP.out]; exact r3
      have E3 : Hid (m3 = (putA l h p).length) := by show _ = _; rw [HP.out]; exact e3
      have G3 : Hid (w.heap.size ≤ g3) := Nat.le_trans B1.out.size k3
      have B3 : Hid (Below w.heap.size w wc) := B1.out.trans (b3.mono B1.out.size)
      clear e3 r3 k3 b3
      go_wp2
      go_ret
      exact ⟨g3, m3, c3, by simp, E3.out, G3.out, R3.out, B3.out⟩

/-- What stands at a place, read as an address: the address, the place behind, and whether it is there. -/
def gotA (l : List Int) (i : Int) : Value :=
  if there l.length i 6 = true then .tuple #[addrV (val (piece l i.toNat 4)) (val (piece l (i.toNat + 4) 2)), .int .i64 (i + 6), .bool true] else .tuple #[addrV 0 0, .int .i64 0, .bool false]
set_option maxRecDepth 100000 in
theorem gotN_yes (l : List Int) (i k : Int) (h1 : 1 ≤ k ∧ k ≤ 6) (h : there l.length i k = true) : gotN l i k = .tuple #[.int .i64 (val (piece l i.toNat k.toNat)), .int .i64 (i + k), .bool true] := by
  unfold gotN; rw [if_pos ⟨(isSize_iff k).2 h1, h⟩]
set_option maxRecDepth 100000 in
theorem gotN_no (l : List Int) (i k : Int) (h : there l.length i k = false) : gotN l i k = .tuple #[.int .i64 0, .int .i64 0, .bool false] := by
  unfold gotN; rw [if_neg (by rw [h]; simp)]
set_option maxRecDepth 100000 in
theorem ret_addr3 {fn : Func} {p u v : Tmp} {a : Act} {w : World} {g : Nat} {h q : Int} {x y : Value} {R : Ending → World → Prop} (hf : fn.results = #[.cell p 38, .tmp u, .tmp v]) (hp : a.tmps.getD p undef = .pointer (some ⟨g, 0, none⟩)) (hg : Blk w g 38 [.int .i64 h, .int .i64 q]) (hu : a.tmps.getD u undef = x) (hv : a.tmps.getD v undef = y) (hd : a.defers = []) (hR : R (.returned (.tuple #[addrV h q, x, y])) w) : bodyPost Tryd.prog fn R .ret a w :=
  bodyPost_ret (v := .tuple #[addrV h q, x, y]) (res3 hf (is_cell hp hg aggA) (is_tmp hu) (is_tmp hv)) hd hR
set_option maxRecDepth 100000 in
theorem ret_addr2 {fn : Func} {p u : Tmp} {a : Act} {w : World} {g : Nat} {h q : Int} {x : Value} {R : Ending → World → Prop} (hf : fn.results = #[.cell p 38, .tmp u]) (hp : a.tmps.getD p undef = .pointer (some ⟨g, 0, none⟩)) (hg : Blk w g 38 [.int .i64 h, .int .i64 q]) (hu : a.tmps.getD u undef = x) (hd : a.defers = []) (hR : R (.returned (.tuple #[addrV h q, x])) w) : bodyPost Tryd.prog fn R .ret a w :=
  bodyPost_ret (v := .tuple #[addrV h q, x]) (res2 hf (is_cell hp hg aggA) (is_tmp hu)) hd hR

end Go.Proofs.YtpgapjdejelajaaDoor.AddrS
