/-
  What spec.l9Kind and spec.DrawSeal give.
-/
import Derived.Test.YtmcflfpckpjphaaGreatDoorVaDra1
set_option maxRecDepth 100000
namespace Go.Proofs.YtmcflfpckpjphaaGreatDoor.DrKd
open Go.RowKit Mem App Blk Draw Zone Res DrN
def DrewK (W0 : World) (a : Option Addr) (len cap : Nat) (l : List Int) (p : Nat) (w : World) : Ending → World → Prop := fun e w' => ∃ (k : Int) (S : Sl) (r : List Int), e = .returned (.tuple #[.int .i64 k, .slice S.a S.n S.c]) ∧ r.length ≤ 40 ∧ SOwn w' w.heap.size w'.heap.size S r ∧ Ready W0 a len cap l p w' ∧ But p w w'
set_option maxHeartbeats 4000000 in
theorem l9Kind {W0 : World} {a : Option Addr} {len cap : Nat} {l : List Int} {p : Nat} {w : World} (h : Ready W0 a len cap l p w) :
  Calls Tryz.prog 53 #[.pointer (some ⟨p, 0, none⟩)] w (DrewK W0 a len cap l p w) := by
 have HP : Hid (p < w.heap.size ∧ W0.heap.size ≤ p) := ⟨h.hc.lt, h.hp⟩
 have R0 := hid (h)
 have B0 : Hid (But p w w) := But.refl p w
 clear h
 go_enter Tryz.func53, Tryz.ntmps53
 go_wp2_with fail
 refine (Draw.below R0.out 6 (by omega) (by omega)).mono ?_
 rintro e x1 ⟨v, rfl, va, vb, r, b⟩
 have VBv : Hid (0 ≤ v ∧ v < 6) := ⟨va, vb⟩
 clear va vb
 have L1 := hid (b.size)
 have KQ : Kept p (p + 1) w x1 := Kept.of_grown b
 have R1 := hid (r)
 have B1 := hid (B0.out.trans b)
 clear R0 B0 b
 clear KQ r
 cases ev0 : (v == 0) with
 | true =>
  obtain rfl : v = 0 := by simpa using ev0
  go_wp2_with fail
  refine (Draw.below R1.out 2 (by omega) (by omega)).mono ?_
  rintro e x2 ⟨u, rfl, va, vb, r, b⟩
  have VBu : Hid (0 ≤ u ∧ u < 2) := ⟨va, vb⟩
  clear va vb
  have L2 := hid (b.size)
  have KQ : Kept p (p + 1) x1 x2 := Kept.of_grown b
  have R2 := hid (r)
  have B2 := hid (B1.out.trans b)
  clear R1 B1 b
  clear KQ r
  have hw : IntKind.i64.wrap (5 + u) = 5 + u := by rw [IntKind.wrap_i64]; have := VBu.out; omega
  go_wp2_with fail
  refine (bytesOf R2.out 12 (by omega)).mono ?_
  rintro e x3 ⟨gb, cb, lb, rfl, el, hb, kg, row, r, b⟩
  have oN : SOwn x3 x2.heap.size x3.heap.size ⟨some ⟨gb, 0, none⟩, 12, cb⟩ lb := SOwn.row row el hb kg row.lt
  have ELb : Hid (12 = lb.length) := el
  clear el hb kg row
  have L3 := hid (b.size)
  have KQ : Kept p (p + 1) x2 x3 := Kept.of_grown b
  have R3 := hid (r)
  have B3 := hid (B2.out.trans b)
  clear R2 B2 b
  clear KQ r
  have Ob_3 := hid (oN)
  clear oN
  go_wp2
  exact bodyPost_ret (v := .tuple #[.int .i64 (5 + u), .slice (some ⟨gb, 0, none⟩) 12 cb]) (res2 rfl (is_tmp rfl) (is_tmp rfl)) rfl ⟨(5 + u), ⟨some ⟨gb, 0, none⟩, 12, cb⟩, lb, rfl, by rw [← ELb.out]; omega, Ob_3.out.mono (by have := hid4 HP L1 L2 L3; omega) (by have := hid4 HP L1 L2 L3; omega), R3.out, B3.out⟩
 | false =>
  cases ev1 : (v == 1) with
  | true =>
   obtain rfl : v = 1 := by simpa using ev1
   go_wp2_with fail
   refine (Draw.below R1.out 2 (by omega) (by omega)).mono ?_
   rintro e x2 ⟨u, rfl, va, vb, r, b⟩
   have VBu : Hid (0 ≤ u ∧ u < 2) := ⟨va, vb⟩
   clear va vb
   have L2 := hid (b.size)
   have KQ : Kept p (p + 1) x1 x2 := Kept.of_grown b
   have R2 := hid (r)
   have B2 := hid (B1.out.trans b)
   clear R1 B1 b
   clear KQ r
   have hw : IntKind.i64.wrap (7 + u) = 7 + u := by rw [IntKind.wrap_i64]; have := VBu.out; omega
   go_wp2_with fail
   refine (bytesOf R2.out 4 (by omega)).mono ?_
   rintro e x3 ⟨gb, cb, lb, rfl, el, hb, kg, row, r, b⟩
   have oN : SOwn x3 x2.heap.size x3.heap.size ⟨some ⟨gb, 0, none⟩, 4, cb⟩ lb := SOwn.row row el hb kg row.lt
   have ELb : Hid (4 = lb.length) := el
   clear el hb kg row
   have L3 := hid (b.size)
   have KQ : Kept p (p + 1) x2 x3 := Kept.of_grown b
   have R3 := hid (r)
   have B3 := hid (B2.out.trans b)
   clear R2 B2 b
   clear KQ r
   have Ob_3 := hid (oN)
   clear oN
   go_wp2
   exact bodyPost_ret (v := .tuple #[.int .i64 (7 + u), .slice (some ⟨gb, 0, none⟩) 4 cb]) (res2 rfl (is_tmp rfl) (is_tmp rfl)) rfl ⟨(7 + u), ⟨some ⟨gb, 0, none⟩, 4, cb⟩, lb, rfl, by rw [← ELb.out]; omega, Ob_3.out.mono (by have := hid4 HP L1 L2 L3; omega) (by have := hid4 HP L1 L2 L3; omega), R3.out, B3.out⟩
  | false =>
   go_wp2_with fail
   refine (intOfList (R1.out.alloc _) x1.heap.size 6 [0, 1, 3, 12, 33, 40] rfl (ints_new x1 _) (by have := R1.out.hc.lt; omega) (by omega) (by omega)).mono ?_
   rintro e x2 ⟨z, rfl, vm, r, b0⟩
   have VMz : Hid (z ∈ ([0, 1, 3, 12, 33, 40] : List Int)) := vm
   have b : But p x1 x2 := ((But.refl p x1).alloc _).trans b0
   clear vm b0
   have L2 := hid (b.size)
   have KQ : Kept p (p + 1) x1 x2 := Kept.of_grown b
   have R2 := hid (r)
   have B2 := hid (B1.out.trans b)
   clear R1 B1 b
   clear KQ r
   have hv : 0 ≤ z ∧ z ≤ 40 := by have q := VMz.out; simp only [List.mem_cons, List.mem_nil_iff, or_false] at q; omega
   obtain ⟨Z, rfl⟩ := Int.eq_ofNat_of_zero_le hv.1
   have HNZ : Hid (Z ≤ 40) := by have := hv.2; show _ ≤ _; omega
   clear hv
   go_wp2_with fail
   refine (bytesOf R2.out Z (by have := HNZ.out; omega)).mono ?_
   rintro e x3 ⟨gb, cb, lb, rfl, el, hb, kg, row, r, b⟩
   have oN : SOwn x3 x2.heap.size x3.heap.size ⟨some ⟨gb, 0, none⟩, Z, cb⟩ lb := SOwn.row row el hb kg row.lt
   have ELb : Hid (Z = lb.length) := el
   clear el hb kg row
   have L3 := hid (b.size)
   have KQ : Kept p (p + 1) x2 x3 := Kept.of_grown b
   have R3 := hid (r)
   have B3 := hid (B2.out.trans b)
   clear R2 B2 b
   clear KQ r
   have Ob_3 := hid (oN)
   clear oN
   have hZ := HNZ.out
   go_wp2
   exact bodyPost_ret (v := .tuple #[.int .i64 4, .slice (some ⟨gb, 0, none⟩) Z cb]) (res2 rfl (is_tmp rfl) (is_tmp rfl)) rfl ⟨4, ⟨some ⟨gb, 0, none⟩, Z, cb⟩, lb, rfl, by rw [← ELb.out]; omega, Ob_3.out.mono (by have := hid4 HP L1 L2 L3; omega) (by have := hid4 HP L1 L2 L3; omega), R3.out, B3.out⟩

theorem res7 {P : Program} {fn : Func} {tmps : Array Value} {w : World} {r0 r1 r2 r3 r4 r5 r6 : ResultVar} {v0 v1 v2 v3 v4 v5 v6 : Value} (h : fn.results = #[r0, r1, r2, r3, r4, r5, r6]) (h0 : Is P tmps w r0 v0) (h1 : Is P tmps w r1 v1) (h2 : Is P tmps w r2 v2) (h3 : Is P tmps w r3 v3) (h4 : Is P tmps w r4 v4) (h5 : Is P tmps w r5 v5) (h6 : Is P tmps w r6 v6) : (results fn tmps).run P w = .ok (.tuple #[v0, v1, v2, v3, v4, v5, v6]) w := by
 have e : results fn tmps = (do let vs ← fn.results.mapM (one tmps); pure (if h : vs.size = 1 then vs[0] else .tuple vs)) := rfl
 unfold Is at h0 h1 h2 h3 h4 h5 h6
 simp [e, h, h0, h1, h2, h3, h4, h5, h6]
set_option maxHeartbeats 8000000 in
theorem drawSeal (a : Option Addr) (len cap : Nat) (l : List Int) (w : World) (hl : len = l.length) (hr : Rd w a l) (hb : Bytes l) (hlen : len ≤ 1048576) :
  Calls Tryz.prog 12 #[.slice a len cap] w fun e w' => ∃ (K : Sl) (k : List Int) (ro : Int) (S : Sl) (s : List Int) (ep sq kd : Int) (P : Sl) (x : List Int), e = .returned (.tuple #[.slice K.a K.n K.c, .int .i64 ro, .slice S.a S.n S.c, .int .i64 ep, .int .i64 sq, .int .i64 kd, .slice P.a P.n P.c]) ∧ SRd w' K k ∧ SRd w' S s ∧ SRd w' P x ∧ Below w.heap.size w w' := by
 have HR := hid (hr)
 have HL : Hid (len = l.length) := hl
 have HB := hid (hb)
 clear hr hl hb
 have B0 : Hid (Below w.heap.size w w) := Below.refl _ _
 go_enter Tryz.func12, Tryz.ntmps12
 go_wp2_with fail
 refine (newCur a len cap l w HL.out (HR.out.later B0.out (Nat.le_refl _)) HB.out hlen).mono ?_
 rintro e x1 ⟨p, rfl, r⟩
 have b := r.hB
 have HP : Hid (w.heap.size ≤ p ∧ p < x1.heap.size) := ⟨r.hp, r.hc.lt⟩
 have L1 := hid (b.size)
 have B1 := hid (B0.out.trans (b.mono B0.out.size))
 clear B0 b
 have R1 := hid (r)
 clear r
 go_wp2_with fail
 refine (intOfList (R1.out.alloc _) x1.heap.size 7 [32, 32, 32, 32, 32, 31, 0] rfl (ints_new x1 _) (by have := R1.out.hc.lt; omega) (by omega) (by omega)).mono ?_
 rintro e x2 ⟨kz, rfl, vm, r, b0⟩
 have VMkz : Hid (kz ∈ ([32, 32, 32, 32, 32, 31, 0] : List Int)) := vm
 have b : But p x1 x2 := ((But.refl p x1).alloc _).trans b0
 clear vm b0
 have L2 := hid (b.size)
 have KQ : Kept p (p + 1) x1 x2 := Kept.of_grown b
 have B2 : Hid (Below w.heap.size w x2) := But.below b B1.out (by have := hid3 L1 HP L2; omega)
 have R2 := hid (r)
 clear B1 R1 b
 clear KQ r
 have hv : 0 ≤ kz ∧ kz ≤ 32 := by have q := VMkz.out; simp only [List.mem_cons, List.mem_nil_iff, or_false] at q; omega
 obtain ⟨KZ, rfl⟩ := Int.eq_ofNat_of_zero_le hv.1
 have HNKZ : Hid (KZ ≤ 32) := by have := hv.2; show _ ≤ _; omega
 clear hv
 go_wp2_with fail
 refine (bytesOf R2.out KZ (by have := HNKZ.out; omega)).mono ?_
 rintro e x3 ⟨gk, ck, lk, rfl, el, hb, kg, row, r, b⟩
 have oN : SOwn x3 x2.heap.size x3.heap.size ⟨some ⟨gk, 0, none⟩, KZ, ck⟩ lk := SOwn.row row el hb kg row.lt
 have ELk : Hid (KZ = lk.length) := el
 clear el hb kg row
 have L3 := hid (b.size)
 have KQ : Kept p (p + 1) x2 x3 := Kept.of_grown b
 have B3 : Hid (Below w.heap.size w x3) := But.below b B2.out (by have := hid4 L1 HP L2 L3; omega)
 have R3 := hid (r)
 clear B2 R2 b
 clear KQ r
 have Ok_3 := hid (oN)
 clear oN
 go_wp2_with fail
 refine (l9Kind R3.out).mono ?_
 rintro e x4 ⟨kd, P, lp, rfl, pl40, oN, r, b⟩
 have PLP : Hid (lp.length ≤ 40) := pl40
 clear pl40
 have L4 := hid (b.size)
 have KQ : Kept p (p + 1) x3 x4 := Kept.of_grown b
 have B4 : Hid (Below w.heap.size w x4) := But.below b B3.out (by have := hid5 L1 HP L2 L3 L4; omega)
 have R4 := hid (r)
 have Ok_4 := hid (Ok_3.out.carry KQ (by have := hid5 L1 HP L2 L3 L4; omega))
 clear B3 R3 Ok_3 b
 clear KQ r
 have OP4 := hid (oN)
 clear oN
 go_wp2_with fail
 refine (bytesOf R4.out 12 (by omega)).mono ?_
 rintro e x5 ⟨gs, cs, ls, rfl, el, hb, kg, row, r, b⟩
 have oN : SOwn x5 x4.heap.size x5.heap.size ⟨some ⟨gs, 0, none⟩, 12, cs⟩ ls := SOwn.row row el hb kg row.lt
 have ELs : Hid (12 = ls.length) := el
 clear el hb kg row
 have L5 := hid (b.size)
 have KQ : Kept p (p + 1) x4 x5 := Kept.of_grown b
 have B5 : Hid (Below w.heap.size w x5) := But.below b B4.out (by have := hid6 L1 HP L2 L3 L4 L5; omega)
 have R5 := hid (r)
 have Ok_5 := hid (Ok_4.out.carry KQ (by have := hid6 L1 HP L2 L3 L4 L5; omega))
 have OP5 := hid (OP4.out.carry KQ (by have := hid6 L1 HP L2 L3 L4 L5; omega))
 clear B4 R4 Ok_4 OP4 b
 clear KQ r
 have Os_5 := hid (oN)
 clear oN
 go_wp2_with fail
 refine (intOfList (R5.out.alloc _) x5.heap.size 3 [0, 1, 4294967295] rfl (ints_new x5 _) (by have := R5.out.hc.lt; omega) (by omega) (by omega)).mono ?_
 rintro e x6 ⟨ep, rfl, vm, r, b0⟩
 have VMep : Hid (ep ∈ ([0, 1, 4294967295] : List Int)) := vm
 have b : But p x5 x6 := ((But.refl p x5).alloc _).trans b0
 clear vm b0
 have L6 := hid (b.size)
 have KQ : Kept p (p + 1) x5 x6 := Kept.of_grown b
 have B6 : Hid (Below w.heap.size w x6) := But.below b B5.out (by have := hid7 L1 HP L2 L3 L4 L5 L6; omega)
 have R6 := hid (r)
 have Ok_6 := hid (Ok_5.out.carry KQ (by have := hid7 L1 HP L2 L3 L4 L5 L6; omega))
 have OP6 := hid (OP5.out.carry KQ (by have := hid7 L1 HP L2 L3 L4 L5 L6; omega))
 have Os_6 := hid (Os_5.out.carry KQ (by have := hid7 L1 HP L2 L3 L4 L5 L6; omega))
 clear B5 R5 Ok_5 OP5 Os_5 b
 clear KQ r
 go_wp2_with fail
 refine (intOfList (R6.out.alloc _) x6.heap.size 4 [0, 1, 300, 281474976710655] rfl (ints_new x6 _) (by have := R6.out.hc.lt; omega) (by omega) (by omega)).mono ?_
 rintro e x7 ⟨sq, rfl, vm, r, b0⟩
 have VMsq : Hid (sq ∈ ([0, 1, 300, 281474976710655] : List Int)) := vm
 have b : But p x6 x7 := ((But.refl p x6).alloc _).trans b0
 clear vm b0
 have L7 := hid (b.size)
 have KQ : Kept p (p + 1) x6 x7 := Kept.of_grown b
 have B7 : Hid (Below w.heap.size w x7) := But.below b B6.out (by have := hid8 L1 HP L2 L3 L4 L5 L6 L7; omega)
 have R7 := hid (r)
 have Ok_7 := hid (Ok_6.out.carry KQ (by have := hid8 L1 HP L2 L3 L4 L5 L6 L7; omega))
 have OP7 := hid (OP6.out.carry KQ (by have := hid8 L1 HP L2 L3 L4 L5 L6 L7; omega))
 have Os_7 := hid (Os_6.out.carry KQ (by have := hid8 L1 HP L2 L3 L4 L5 L6 L7; omega))
 clear B6 R6 Ok_6 OP6 Os_6 b
 clear KQ r
 go_wp2_with fail
 refine (Draw.below R7.out 2 (by omega) (by omega)).mono ?_
 rintro e x8 ⟨ro, rfl, va, vb, r, b⟩
 have VBro : Hid (0 ≤ ro ∧ ro < 2) := ⟨va, vb⟩
 clear va vb
 have L8 := hid (b.size)
 have KQ : Kept p (p + 1) x7 x8 := Kept.of_grown b
 have B8 : Hid (Below w.heap.size w x8) := But.below b B7.out (by have := hid8 L1 HP L2 L3 L4 L5 L6 L7; have := L8.out; omega)
 have R8 := hid (r)
 have Ok_8 := hid (Ok_7.out.carry KQ (by have := hid8 L1 HP L2 L3 L4 L5 L6 L7; have := L8.out; omega))
 have OP8 := hid (OP7.out.carry KQ (by have := hid8 L1 HP L2 L3 L4 L5 L6 L7; have := L8.out; omega))
 have Os_8 := hid (Os_7.out.carry KQ (by have := hid8 L1 HP L2 L3 L4 L5 L6 L7; have := L8.out; omega))
 clear B7 R7 Ok_7 OP7 Os_7 b
 clear KQ r
 go_wp2_with fail
 refine (Draw.below R8.out 14 (by omega) (by omega)).mono ?_
 rintro e x9 ⟨v, rfl, va, vb, r, b⟩
 have VBv : Hid (0 ≤ v ∧ v < 14) := ⟨va, vb⟩
 clear va vb
 have L9 := hid (b.size)
 have KQ : Kept p (p + 1) x8 x9 := Kept.of_grown b
 have B9 : Hid (Below w.heap.size w x9) := But.below b B8.out (by have := hid8 L1 HP L2 L3 L4 L5 L6 L7; have := hid2 L8 L9; omega)
 have R9 := hid (r)
 have Ok_9 := hid (Ok_8.out.carry KQ (by have := hid8 L1 HP L2 L3 L4 L5 L6 L7; have := hid2 L8 L9; omega))
 have OP9 := hid (OP8.out.carry KQ (by have := hid8 L1 HP L2 L3 L4 L5 L6 L7; have := hid2 L8 L9; omega))
 have Os_9 := hid (Os_8.out.carry KQ (by have := hid8 L1 HP L2 L3 L4 L5 L6 L7; have := hid2 L8 L9; omega))
 clear B8 R8 Ok_8 OP8 Os_8 b
 clear KQ r
 cases ev0 : (v == 0) with
 | true =>
  obtain rfl : v = 0 := by simpa using ev0
  go_wp2_with fail
  refine (Draw.below R9.out 11 (by omega) (by omega)).mono ?_
  rintro e x10 ⟨u, rfl, va, vb, r, b⟩
  have VBu : Hid (0 ≤ u ∧ u < 11) := ⟨va, vb⟩
  clear va vb
  have L10 := hid (b.size)
  have KQ : Kept p (p + 1) x9 x10 := Kept.of_grown b
  have B10 : Hid (Below w.heap.size w x10) := But.below b B9.out (by have := hid8 L1 HP L2 L3 L4 L5 L6 L7; have := hid3 L8 L9 L10; omega)
  have R10 := hid (r)
  have Ok_10 := hid (Ok_9.out.carry KQ (by have := hid8 L1 HP L2 L3 L4 L5 L6 L7; have := hid3 L8 L9 L10; omega))
  have OP10 := hid (OP9.out.carry KQ (by have := hid8 L1 HP L2 L3 L4 L5 L6 L7; have := hid3 L8 L9 L10; omega))
  have Os_10 := hid (Os_9.out.carry KQ (by have := hid8 L1 HP L2 L3 L4 L5 L6 L7; have := hid3 L8 L9 L10; omega))
  clear B9 R9 Ok_9 OP9 Os_9 b
  clear KQ r
  have hw : IntKind.i64.wrap (u - 1) = u - 1 := by rw [IntKind.wrap_i64]; have := VBu.out; omega
  go_wp2
  exact bodyPost_ret (v := .tuple #[.slice (some ⟨gk, 0, none⟩) KZ ck, .int .i64 ro, .slice (some ⟨gs, 0, none⟩) 12 cs, .int .i64 ep, .int .i64 sq, .int .i64 (u - 1), .slice P.a P.n P.c]) (res7 rfl (is_tmp rfl) (is_tmp rfl) (is_tmp rfl) (is_tmp rfl) (is_tmp rfl) (is_tmp rfl) (is_tmp rfl)) rfl ⟨⟨some ⟨gk, 0, none⟩, KZ, ck⟩, lk, ro, ⟨some ⟨gs, 0, none⟩, 12, cs⟩, ls, ep, sq, (u - 1), P, lp, rfl, Ok_10.out.rd, Os_10.out.rd, OP10.out.rd, B10.out⟩
 | false =>
  cases ev1 : (v == 1) with
  | true =>
   obtain rfl : v = 1 := by simpa using ev1
   go_wp2_with fail
   refine (bytesOf R9.out 11 (by omega)).mono ?_
   rintro e x10 ⟨gt, ct, lt, rfl, el, hb, kg, row, r, b⟩
   have oN : SOwn x10 x9.heap.size x10.heap.size ⟨some ⟨gt, 0, none⟩, 11, ct⟩ lt := SOwn.row row el hb kg row.lt
   have ELt : Hid (11 = lt.length) := el
   clear el hb kg row
   have L10 := hid (b.size)
   have KQ : Kept p (p + 1) x9 x10 := Kept.of_grown b
   have B10 : Hid (Below w.heap.size w x10) := But.below b B9.out (by have := hid8 L1 HP L2 L3 L4 L5 L6 L7; have := hid3 L8 L9 L10; omega)
   have R10 := hid (r)
   have Ok_10 := hid (Ok_9.out.carry KQ (by have := hid8 L1 HP L2 L3 L4 L5 L6 L7; have := hid3 L8 L9 L10; omega))
   have OP10 := hid (OP9.out.carry KQ (by have := hid8 L1 HP L2 L3 L4 L5 L6 L7; have := hid3 L8 L9 L10; omega))
   have Os_10 := hid (Os_9.out.carry KQ (by have := hid8 L1 HP L2 L3 L4 L5 L6 L7; have := hid3 L8 L9 L10; omega))
   clear B9 R9 Ok_9 OP9 Os_9 b
   clear KQ r
   have Ot_10 := hid (oN)
   clear oN
   go_wp2
   exact bodyPost_ret (v := .tuple #[.slice (some ⟨gk, 0, none⟩) KZ ck, .int .i64 ro, .slice (some ⟨gt, 0, none⟩) 11 ct, .int .i64 ep, .int .i64 sq, .int .i64 kd, .slice P.a P.n P.c]) (res7 rfl (is_tmp rfl) (is_tmp rfl) (is_tmp rfl) (is_tmp rfl) (is_tmp rfl) (is_tmp rfl) (is_tmp rfl)) rfl ⟨⟨some ⟨gk, 0, none⟩, KZ, ck⟩, lk, ro, ⟨some ⟨gt, 0, none⟩, 11, ct⟩, lt, ep, sq, kd, P, lp, rfl, Ok_10.out.rd, Ot_10.out.rd, OP10.out.rd, B10.out⟩
  | false =>
   cases ev2 : (v == 2) with
   | true =>
    obtain rfl : v = 2 := by simpa using ev2
    go_wp2_with fail
    refine (intOfList (R9.out.alloc _) x9.heap.size 2 [-1, 4294967296] rfl (ints_new x9 _) (by have := R9.out.hc.lt; omega) (by omega) (by omega)).mono ?_
    rintro e x10 ⟨u, rfl, vm, r, b0⟩
    have VMu : Hid (u ∈ ([-1, 4294967296] : List Int)) := vm
    have b : But p x9 x10 := ((But.refl p x9).alloc _).trans b0
    clear vm b0
    have L10 := hid (b.size)
    have KQ : Kept p (p + 1) x9 x10 := Kept.of_grown b
    have B10 : Hid (Below w.heap.size w x10) := But.below b B9.out (by have := hid8 L1 HP L2 L3 L4 L5 L6 L7; have := hid3 L8 L9 L10; omega)
    have R10 := hid (r)
    have Ok_10 := hid (Ok_9.out.carry KQ (by have := hid8 L1 HP L2 L3 L4 L5 L6 L7; have := hid3 L8 L9 L10; omega))
    have OP10 := hid (OP9.out.carry KQ (by have := hid8 L1 HP L2 L3 L4 L5 L6 L7; have := hid3 L8 L9 L10; omega))
    have Os_10 := hid (Os_9.out.carry KQ (by have := hid8 L1 HP L2 L3 L4 L5 L6 L7; have := hid3 L8 L9 L10; omega))
    clear B9 R9 Ok_9 OP9 Os_9 b
    clear KQ r
    go_wp2
    exact bodyPost_ret (v := .tuple #[.slice (some ⟨gk, 0, none⟩) KZ ck, .int .i64 ro, .slice (some ⟨gs, 0, none⟩) 12 cs, .int .i64 u, .int .i64 sq, .int .i64 kd, .slice P.a P.n P.c]) (res7 rfl (is_tmp rfl) (is_tmp rfl) (is_tmp rfl) (is_tmp rfl) (is_tmp rfl) (is_tmp rfl) (is_tmp rfl)) rfl ⟨⟨some ⟨gk, 0, none⟩, KZ, ck⟩, lk, ro, ⟨some ⟨gs, 0, none⟩, 12, cs⟩, ls, u, sq, kd, P, lp, rfl, Ok_10.out.rd, Os_10.out.rd, OP10.out.rd, B10.out⟩
   | false =>
    cases ev3 : (v == 3) with
    | true =>
     obtain rfl : v = 3 := by simpa using ev3
     go_wp2_with fail
     refine (intOfList (R9.out.alloc _) x9.heap.size 2 [-1, 281474976710656] rfl (ints_new x9 _) (by have := R9.out.hc.lt; omega) (by omega) (by omega)).mono ?_
     rintro e x10 ⟨u, rfl, vm, r, b0⟩
     have VMu : Hid (u ∈ ([-1, 281474976710656] : List Int)) := vm
     have b : But p x9 x10 := ((But.refl p x9).alloc _).trans b0
     clear vm b0
     have L10 := hid (b.size)
     have KQ : Kept p (p + 1) x9 x10 := Kept.of_grown b
     have B10 : Hid (Below w.heap.size w x10) := But.below b B9.out (by have := hid8 L1 HP L2 L3 L4 L5 L6 L7; have := hid3 L8 L9 L10; omega)
     have R10 := hid (r)
     have Ok_10 := hid (Ok_9.out.carry KQ (by have := hid8 L1 HP L2 L3 L4 L5 L6 L7; have := hid3 L8 L9 L10; omega))
     have OP10 := hid (OP9.out.carry KQ (by have := hid8 L1 HP L2 L3 L4 L5 L6 L7; have := hid3 L8 L9 L10; omega))
     have Os_10 := hid (Os_9.out.carry KQ (by have := hid8 L1 HP L2 L3 L4 L5 L6 L7; have := hid3 L8 L9 L10; omega))
     clear B9 R9 Ok_9 OP9 Os_9 b
     clear KQ r
     go_wp2
     exact bodyPost_ret (v := .tuple #[.slice (some ⟨gk, 0, none⟩) KZ ck, .int .i64 ro, .slice (some ⟨gs, 0, none⟩) 12 cs, .int .i64 ep, .int .i64 u, .int .i64 kd, .slice P.a P.n P.c]) (res7 rfl (is_tmp rfl) (is_tmp rfl) (is_tmp rfl) (is_tmp rfl) (is_tmp rfl) (is_tmp rfl) (is_tmp rfl)) rfl ⟨⟨some ⟨gk, 0, none⟩, KZ, ck⟩, lk, ro, ⟨some ⟨gs, 0, none⟩, 12, cs⟩, ls, ep, u, kd, P, lp, rfl, Ok_10.out.rd, Os_10.out.rd, OP10.out.rd, B10.out⟩
    | false =>
     cases ev4 : (v == 4) with
     | true =>
      obtain rfl : v = 4 := by simpa using ev4
      go_wp2_with fail
      refine (intOfList (R9.out.alloc _) x9.heap.size 2 [41, 5] rfl (ints_new x9 _) (by have := R9.out.hc.lt; omega) (by omega) (by omega)).mono ?_
      rintro e x10 ⟨u, rfl, vm, r, b0⟩
      have VMu : Hid (u ∈ ([41, 5] : List Int)) := vm
      have b : But p x9 x10 := ((But.refl p x9).alloc _).trans b0
      clear vm b0
      have L10 := hid (b.size)
      have KQ : Kept p (p + 1) x9 x10 := Kept.of_grown b
      have B10 : Hid (Below w.heap.size w x10) := But.below b B9.out (by have := hid8 L1 HP L2 L3 L4 L5 L6 L7; have := hid3 L8 L9 L10; omega)
      have R10 := hid (r)
      have Ok_10 := hid (Ok_9.out.carry KQ (by have := hid8 L1 HP L2 L3 L4 L5 L6 L7; have := hid3 L8 L9 L10; omega))
      have OP10 := hid (OP9.out.carry KQ (by have := hid8 L1 HP L2 L3 L4 L5 L6 L7; have := hid3 L8 L9 L10; omega))
      have Os_10 := hid (Os_9.out.carry KQ (by have := hid8 L1 HP L2 L3 L4 L5 L6 L7; have := hid3 L8 L9 L10; omega))
      clear B9 R9 Ok_9 OP9 Os_9 b
      clear KQ r
      have hv : 0 ≤ u ∧ u ≤ 41 := by have q := VMu.out; simp only [List.mem_cons, List.mem_nil_iff, or_false] at q; omega
      obtain ⟨U, rfl⟩ := Int.eq_ofNat_of_zero_le hv.1
      have HNU : Hid (U ≤ 41) := by have := hv.2; show _ ≤ _; omega
      clear hv
      go_wp2_with fail
      refine (bytesOf R10.out U (by have := HNU.out; omega)).mono ?_
      rintro e x11 ⟨gt, ct, lt, rfl, el, hb, kg, row, r, b⟩
      have oN : SOwn x11 x10.heap.size x11.heap.size ⟨some ⟨gt, 0, none⟩, U, ct⟩ lt := SOwn.row row el hb kg row.lt
      have ELt : Hid (U = lt.length) := el
      clear el hb kg row
      have L11 := hid (b.size)
      have KQ : Kept p (p + 1) x10 x11 := Kept.of_grown b
      have B11 : Hid (Below w.heap.size w x11) := But.below b B10.out (by have := hid8 L1 HP L2 L3 L4 L5 L6 L7; have := hid4 L8 L9 L10 L11; omega)
      have R11 := hid (r)
      have Ok_11 := hid (Ok_10.out.carry KQ (by have := hid8 L1 HP L2 L3 L4 L5 L6 L7; have := hid4 L8 L9 L10 L11; omega))
      have OP11 := hid (OP10.out.carry KQ (by have := hid8 L1 HP L2 L3 L4 L5 L6 L7; have := hid4 L8 L9 L10 L11; omega))
      have Os_11 := hid (Os_10.out.carry KQ (by have := hid8 L1 HP L2 L3 L4 L5 L6 L7; have := hid4 L8 L9 L10 L11; omega))
      clear B10 R10 Ok_10 OP10 Os_10 b
      clear KQ r
      have Ot_11 := hid (oN)
      clear oN
      go_wp2
      exact bodyPost_ret (v := .tuple #[.slice (some ⟨gk, 0, none⟩) KZ ck, .int .i64 ro, .slice (some ⟨gs, 0, none⟩) 12 cs, .int .i64 ep, .int .i64 sq, .int .i64 kd, .slice (some ⟨gt, 0, none⟩) U ct]) (res7 rfl (is_tmp rfl) (is_tmp rfl) (is_tmp rfl) (is_tmp rfl) (is_tmp rfl) (is_tmp rfl) (is_tmp rfl)) rfl ⟨⟨some ⟨gk, 0, none⟩, KZ, ck⟩, lk, ro, ⟨some ⟨gs, 0, none⟩, 12, cs⟩, ls, ep, sq, kd, ⟨some ⟨gt, 0, none⟩, U, ct⟩, lt, rfl, Ok_11.out.rd, Os_11.out.rd, Ot_11.out.rd, B11.out⟩
     | false =>
      cases ev5 : (v == 5) with
      | true =>
       obtain rfl : v = 5 := by simpa using ev5
       go_wp2_with fail
       refine (intOfList (R9.out.alloc _) x9.heap.size 2 [-1, 2] rfl (ints_new x9 _) (by have := R9.out.hc.lt; omega) (by omega) (by omega)).mono ?_
       rintro e x10 ⟨u, rfl, vm, r, b0⟩
       have VMu : Hid (u ∈ ([-1, 2] : List Int)) := vm
       have b : But p x9 x10 := ((But.refl p x9).alloc _).trans b0
       clear vm b0
       have L10 := hid (b.size)
       have KQ : Kept p (p + 1) x9 x10 := Kept.of_grown b
       have B10 : Hid (Below w.heap.size w x10) := But.below b B9.out (by have := hid8 L1 HP L2 L3 L4 L5 L6 L7; have := hid3 L8 L9 L10; omega)
       have R10 := hid (r)
       have Ok_10 := hid (Ok_9.out.carry KQ (by have := hid8 L1 HP L2 L3 L4 L5 L6 L7; have := hid3 L8 L9 L10; omega))
       have OP10 := hid (OP9.out.carry KQ (by have := hid8 L1 HP L2 L3 L4 L5 L6 L7; have := hid3 L8 L9 L10; omega))
       have Os_10 := hid (Os_9.out.carry KQ (by have := hid8 L1 HP L2 L3 L4 L5 L6 L7; have := hid3 L8 L9 L10; omega))
       clear B9 R9 Ok_9 OP9 Os_9 b
       clear KQ r
       go_wp2
       exact bodyPost_ret (v := .tuple #[.slice (some ⟨gk, 0, none⟩) KZ ck, .int .i64 u, .slice (some ⟨gs, 0, none⟩) 12 cs, .int .i64 ep, .int .i64 sq, .int .i64 kd, .slice P.a P.n P.c]) (res7 rfl (is_tmp rfl) (is_tmp rfl) (is_tmp rfl) (is_tmp rfl) (is_tmp rfl) (is_tmp rfl) (is_tmp rfl)) rfl ⟨⟨some ⟨gk, 0, none⟩, KZ, ck⟩, lk, u, ⟨some ⟨gs, 0, none⟩, 12, cs⟩, ls, ep, sq, kd, P, lp, rfl, Ok_10.out.rd, Os_10.out.rd, OP10.out.rd, B10.out⟩
      | false =>
       go_wp2
       exact bodyPost_ret (v := .tuple #[.slice (some ⟨gk, 0, none⟩) KZ ck, .int .i64 ro, .slice (some ⟨gs, 0, none⟩) 12 cs, .int .i64 ep, .int .i64 sq, .int .i64 kd, .slice P.a P.n P.c]) (res7 rfl (is_tmp rfl) (is_tmp rfl) (is_tmp rfl) (is_tmp rfl) (is_tmp rfl) (is_tmp rfl) (is_tmp rfl)) rfl ⟨⟨some ⟨gk, 0, none⟩, KZ, ck⟩, lk, ro, ⟨some ⟨gs, 0, none⟩, 12, cs⟩, ls, ep, sq, kd, P, lp, rfl, Ok_9.out.rd, Os_9.out.rd, OP9.out.rd, B9.out⟩
end Go.Proofs.YtmcflfpckpjphaaGreatDoor.DrKd
