/-
  What spec.l8Any and spec.DrawWinAdd give: a window, right or not, and a number.
-/
import Derived.Test.YtmcflfpckpjphaaGreatDoorVdWnDs
import Derived.Test.YtmcflfpckpjphaaGreatDoorVdDra1
set_option maxRecDepth 100000
namespace Go.Proofs.YtmcflfpckpjphaaGreatDoor.WnDa
open Go.RowKit Mem MemI App Blk Zone ZoneI WnZ Res Draw WinP WnK DrN
theorem irow_set {w : World} {g c : Nat} {l : List Int} (h : IRow w g c l) (k : Nat) (z : Int) : IRow (w.setCell ⟨g, k, none⟩ (.int .i64 z)) g c (l.set k z) ∧ w.grownBy (w.setCell ⟨g, k, none⟩ (.int .i64 z)) (some g) := by
 have hst := (h.owns (Nat.le_refl g)).stored k (.int .i64 z)
 rw [← List.map_set] at hst
 refine ⟨?_, hst.2⟩
 have e : l.length = (l.set k z).length := by simp
 have := hst.1
 rw [e] at this
 exact (IRow.of (l := l.set k z) (n := (l.set k z).length) this).1
theorem irow_take {w : World} {g c : Nat} {l : List Int} (h : IRow w g c l) (k : Nat) : IRow w g c (l.take k) := by
 obtain ⟨h1, h2, cur, h3, h4, h5⟩ := h
 refine ⟨by rw [List.length_take]; omega, h2, cur, h3, h4, ?_⟩
 rw [List.length_take, List.map_take, ← h5, List.take_take]
def DrewW (W0 : World) (a : Option Addr) (len cap : Nat) (l : List Int) (p : Nat) (w : World) (e : Ending) (w' : World) : Prop :=
 ∃ (S : WnS) (D : WnD), e = .returned (wnV D S) ∧ D.bits.length ≤ 32 ∧ WnOwn w' w.heap.size w'.heap.size S D ∧ Ready W0 a len cap l p w' ∧ But p w w'
set_option maxHeartbeats 8000000 in
theorem l8Any {W0 : World} {a : Option Addr} {len cap : Nat} {l : List Int} {p : Nat} {w : World} (h : Ready W0 a len cap l p w) :
  Calls Tryz.prog 120 #[.pointer (some ⟨p, 0, none⟩)] w (DrewW W0 a len cap l p w) := by
 have HP : Hid (p < w.heap.size ∧ W0.heap.size ≤ p) := ⟨h.hc.lt, h.hp⟩
 have R0 := hid (h)
 have B0 : Hid (But p w w) := But.refl p w
 clear h
 obtain ⟨x1, hx1⟩ : ∃ x1, (w.alloc (.cells #[.int .i64 0, .slice none 0 0] 39)) = x1 := ⟨_, rfl⟩
 have HWA := hid (hx1)
 have b1 : Below w.heap.size w x1 := by rw [← hx1]; exact ((Below.refl _ _).alloc (Nat.le_refl _) _)
 have KON : Blk x1 (w.heap.size) 39 [.int .i64 0, .slice none 0 0] := by
  have q := (Blk.new w 39 [.int .i64 0, .slice none 0 0])
  skip
  rw [← hx1]; exact q
 have SZA : x1.heap.size = w.heap.size + 1 := by rw [← hx1]; simp
 clear hx1
 have L1 := hid (b1.size)
 have R1 : Hid (Ready W0 a len cap l p x1) := rdyL R0.out b1
 have B1 : Hid (But p w x1) := butL B0.out b1
 clear R0 B0 b1
 go_enter Tryz.func120, Tryz.ntmps120
 go_upto_region 1 with fail
 rw [HWA.out]
 obtain ⟨go, hgo⟩ : ∃ g, w.heap.size = g := ⟨_, rfl⟩
 have GA : Hid (w.heap.size = go ∧ x1.heap.size = go + 1) := ⟨hgo, by omega⟩
 rw [hgo] at KON
 rw [hgo]
 clear HWA SZA hgo
 have KO1 := hid (KON)
 clear KON
 go_wp2_with fail
 refine (WnDs.draw R1.out).mono ?_
 rintro e x2 ⟨S, D, rfl, hd, o, r, b⟩
 have HD : Hid (D.bits.length = 32) := hd
 clear hd
 have L2 := hid (b.size)
 have KQ : Kept p (p + 1) x1 x2 := Kept.of_grown b
 have R2 := hid (r)
 have B2 := hid (B1.out.trans b)
 have KO2 := hid (KO1.out.keep (KQ.block _ KO1.out.lt (by have := hid4 HP L1 GA L2; omega)))
 clear R1 B1 KO1 b
 clear KQ r
 have OW2 := hid (o)
 clear o
 obtain ⟨x3, hx3⟩ : ∃ x3, x2.alloc (.cells #[.int .i64 D.top, .slice S.bits.a S.bits.n S.bits.c] 39) = x3 := ⟨_, rfl⟩
 have HW3 := hid (hx3)
 have b3 : Below x2.heap.size x2 x3 := by rw [← hx3]; exact (Below.refl _ _).alloc (Nat.le_refl _) _
 have KN : Blk x3 x2.heap.size 39 [.int .i64 D.top, .slice S.bits.a S.bits.n S.bits.c] := by rw [← hx3]; exact Blk.new x2 _ _
 have HSZ3 : Hid (x3.heap.size = x2.heap.size + 1) := by rw [← hx3]; show _ = _; simp
 clear hx3
 have L3 := hid (b3.size)
 have R3 : Hid (Ready W0 a len cap l p x3) := rdyL R2.out b3
 have B3 : Hid (But p w x3) := butL B2.out b3
 have KO3 := hid (KO2.out.later b3)
 have OW3 := hid (OW2.out.later b3)
 clear R2 B2 KO2 OW2 b3
 unfold wnV
 go_upto_region 2 with fail
 rw [HW3.out]
 obtain ⟨gw, hgw⟩ : ∃ g, x2.heap.size = g := ⟨_, rfl⟩
 have Ggw : Hid (x2.heap.size = gw ∧ x3.heap.size = gw + 1) := ⟨hgw, by rw [← hgw]; exact HSZ3.out⟩
 rw [hgw] at KN ⊢
 clear HW3 HSZ3 hgw
 have KW3 := hid (KN)
 clear KN
 go_wp2_with fail
 refine (Draw.below R3.out 12 (by omega) (by omega)).mono ?_
 rintro e x4 ⟨v, rfl, va, vb, r, b⟩
 have VBv : Hid (0 ≤ v ∧ v < 12) := ⟨va, vb⟩
 clear va vb
 have L4 := hid (b.size)
 have KQ : Kept p (p + 1) x3 x4 := Kept.of_grown b
 have R4 := hid (r)
 have B4 := hid (B3.out.trans b)
 have KO4 := hid (KO3.out.keep (KQ.block _ KO3.out.lt (by have := hid7 HP L1 GA L2 L3 Ggw L4; omega)))
 have OW4 := hid (OW3.out.carry KQ (by have := hid7 HP L1 GA L2 L3 Ggw L4; omega))
 have KW4 := hid (KW3.out.keep (KQ.block _ KW3.out.lt (by have := hid7 HP L1 GA L2 L3 Ggw L4; omega)))
 clear R3 B3 KO3 OW3 KW3 b
 clear KQ r
 cases ev0 : (v == 0) with
 | true =>
  obtain rfl : v = 0 := by simpa using ev0
  go_wp2_with fail
  refine (intOfList (R4.out.alloc _) x4.heap.size 5 [-2, -1, 0, 700, 281474976710656] rfl (ints_new x4 _) (by have := R4.out.hc.lt; omega) (by omega) (by omega)).mono ?_
  rintro e x5 ⟨z, rfl, vm, r, b0⟩
  have VMz : Hid (z ∈ ([-2, -1, 0, 700, 281474976710656] : List Int)) := vm
  have b : But p x4 x5 := ((But.refl p x4).alloc _).trans b0
  clear vm b0
  have L5 := hid (b.size)
  have KQ : Kept p (p + 1) x4 x5 := Kept.of_grown b
  have R5 := hid (r)
  have B5 := hid (B4.out.trans b)
  have KO5 := hid (KO4.out.keep (KQ.block _ KO4.out.lt (by have := hid8 HP L1 GA L2 L3 Ggw L4 L5; omega)))
  have OW5 := hid (OW4.out.carry KQ (by have := hid8 HP L1 GA L2 L3 Ggw L4 L5; omega))
  have KW5 := hid (KW4.out.keep (KQ.block _ KW4.out.lt (by have := hid8 HP L1 GA L2 L3 Ggw L4 L5; omega)))
  clear R4 B4 KO4 OW4 KW4 b
  clear KQ r
  have co := KW5.out.cell 0 rfl
  have fo := KW5.out.frozen 0
  obtain ⟨x6, hx6⟩ : ∃ x6, x5.setCell ⟨gw, 0, none⟩ (.int .i64 z) = x6 := ⟨_, rfl⟩
  have HW6 := hid (hx6)
  have L6 : Hid (x6.heap.size = x5.heap.size) := by rw [← hx6]; show _ = _; simp
  have KS : Blk x6 gw 39 [.int .i64 z, .slice S.bits.a S.bits.n S.bits.c] := by rw [← hx6]; exact KW5.out.set 0 _ (by simp [maxLen])
  have KQ : Kept gw (gw + 1) x5 x6 := by rw [← hx6]; exact Kept.setCell _ _ _ _
  clear hx6
  have R6 : Hid (Ready W0 a len cap l p x6) := rdyK R5.out KQ (by have := hid8 HP L1 GA L2 L3 Ggw L4 L5; have := L6.out; omega)
  have B6 : Hid (But p w x6) := butK B5.out KQ (by have := hid8 HP L1 GA L2 L3 Ggw L4 L5; have := L6.out; omega)
  have KO6 := hid (KO5.out.keep (KQ.block _ KO5.out.lt (by have := hid8 HP L1 GA L2 L3 Ggw L4 L5; have := L6.out; omega)))
  have OW6 := hid (OW5.out.carry KQ (by have := hid8 HP L1 GA L2 L3 Ggw L4 L5; have := L6.out; omega))
  clear R5 B5 KO5 OW5 KQ
  clear KW5
  have KW6 := hid (KS)
  clear KS
  go_upto_region 9 with fail
  rw [HW6.out]
  clear HW6 co fo
  have d0 := KW6.out.cell 0 rfl
  have d1 := KW6.out.cell 1 rfl
  have f0 := KO6.out.cell 0 rfl
  have f1 := KO6.out.cell 1 rfl
  have g0 := KO6.out.frozen 0
  have g1 := KO6.out.frozen 1
  go_wp2
  have SZF : Hid (w.heap.size ≤ go ∧ go + 1 ≤ x1.heap.size ∧ x1.heap.size ≤ x2.heap.size ∧ x2.heap.size ≤ x6.heap.size ∧ p < go) := by have := hid8 HP L1 GA L2 L3 Ggw L4 L5; have := L6.out; show _ ∧ _; omega
  obtain ⟨k3, o3, _⟩ := WnK.stored (D := ⟨z, D.bits⟩) (S := S) KO6.out (⟨OW6.out.bits, OW6.out.apart⟩ : WnOwn x6 x1.heap.size x2.heap.size S ⟨z, D.bits⟩) (by have := SZF.out; omega)
  have KP : Kept go (go + 1) x6 ((x6.setCell ⟨go, 0, none⟩ (.int .i64 z)).setCell ⟨go, 1, none⟩ (.slice S.bits.a S.bits.n S.bits.c)) := (Kept.setCell _ _ _ _).trans (Kept.setCell _ _ _ _)
  exact bodyPost_ret (v := wnV ⟨z, D.bits⟩ S) (res1 rfl (is_cell rfl k3 aggWn)) rfl ⟨S, ⟨z, D.bits⟩, rfl, (by show D.bits.length ≤ 32; rw [HD.out]; omega), o3.mono (by have := SZF.out; omega) (by rw [size2]; have := SZF.out; omega), rdyK R6.out KP (by have := SZF.out; omega), butK B6.out KP (by have := SZF.out; omega)⟩
 | false =>
  cases ev1 : (v == 1) with
  | true =>
   obtain rfl : v = 1 := by simpa using ev1
   obtain ⟨q, cq, hS, q1, q2, rw⟩ := WnU.own32 OW4.out HD.out
   subst hS
   have RQ := hid (rw)
   have HQ : Hid (x1.heap.size ≤ q ∧ q < x2.heap.size) := ⟨q1, q2⟩
   clear rw q1 q2
   have HNQ : Hid (q ≠ p ∧ gw ≠ p ∧ q ≠ gw ∧ p < x4.heap.size) := by have := R4.out.hc.lt; have := hid8 HP L1 GA L2 L3 Ggw L4 HQ; show _ ∧ _; omega
   have c1 : x4.cell? ⟨gw, 1, none⟩ = some (.slice (some ⟨q, 0, none⟩) 32 cq) := KW4.out.cell 1 rfl
   have c0 : Hid (x4.drew.cell? ⟨gw, 1, none⟩ = some (.slice (some ⟨q, 0, none⟩) 32 cq)) := KW4.out.cell 1 rfl
   have BA : Hid (Below x4.heap.size x4 (x4.alloc (.cells #[.int .i64 (-1), .int .i64 0, .int .i64 1, .int .i64 4294967295, .int .i64 4294967296] 3)).drew) := ((Below.refl _ _).alloc (Nat.le_refl _) _).drew
   have LI : Hid (IntsAt (x4.alloc (.cells #[.int .i64 (-1), .int .i64 0, .int .i64 1, .int .i64 4294967295, .int .i64 4294967296] 3)).drew x4.heap.size [-1, 0, 1, 4294967295, 4294967296]) := ints_new x4 [-1, 0, 1, 4294967295, 4294967296]
   have NI : Hid (x4.heap.size ≠ p) := by have := HNQ.out; show _ ≠ _; omega
   have c3 : Hid ((x4.alloc (.cells #[.int .i64 (-1), .int .i64 0, .int .i64 1, .int .i64 4294967295, .int .i64 4294967296] 3)).cell? ⟨gw, 1, none⟩ = some (.slice (some ⟨q, 0, none⟩) 32 cq)) := (KW4.out.alloc _).cell 1 rfl
   have c4 : Hid ((x4.alloc (.cells #[.int .i64 (-1), .int .i64 0, .int .i64 1, .int .i64 4294967295, .int .i64 4294967296] 3)).drew.cell? ⟨gw, 1, none⟩ = some (.slice (some ⟨q, 0, none⟩) 32 cq)) := (KW4.out.alloc _).cell 1 rfl
   go_upto_region 6 with fail
   go_region_held3 (fun w' => w'.cell? ⟨gw, 1, none⟩ = some (.slice (some ⟨q, 0, none⟩) 32 cq)) (first | with_reducible exact f1.out | with_reducible exact e1 | with_reducible exact d1 | with_reducible exact c0.out | with_reducible exact c1 | with_reducible exact c3.out | with_reducible exact c4.out | exact c0.out | exact c1 | exact c3.out | exact c4.out | go_keep)
    (first
     | (go_at_call 52; refine (intOfList R1.out x4.heap.size 5 [-1, 0, 1, 4294967295, 4294967296] rfl LI1.out NI.out (by omega) (by omega)).mono ?_; rintro e y2 ⟨z, rfl, vm, r, b0⟩; have R2 := hid (r); have T2 := hid (T1.out.trans b0); have K2 := hid (KW4.out.keep (T2.out.block gw KW4.out.lt (by simp only [ne_eq, Option.some.injEq]; exact HNQ.out.2.1))); have Q2 := hid (RQ.out.keep (T2.out.block q RQ.out.lt (by simp only [ne_eq, Option.some.injEq]; exact HNQ.out.1))); have e1 : y2.cell? ⟨gw, 1, none⟩ = some (.slice (some ⟨q, 0, none⟩) 32 cq) := K2.out.cell 1 rfl; have cu := Q2.out.cell U (by rw [HD.out]; exact HU.out); have fu := (Q2.out.owns (Nat.le_refl q)).frozenAt U; have f1 : Hid ((y2.setCell ⟨q, U, none⟩ (.int .i64 z)).cell? ⟨gw, 1, none⟩ = some (.slice (some ⟨q, 0, none⟩) 32 cq)) := (K2.out.other (by exact fun e => HNQ.out.2.2.1 e.symm) _).cell 1 rfl; have hU : (U : Int) < 32 := (by have := HU.out; omega); generalize D.bits.getD U 0 = ov at cu; clear r b0 vm)
     | (go_at_call 52; refine (intOfList (R1.out.alloc _) y1.heap.size 5 [-1, 0, 1, 4294967295, 4294967296] rfl (ints_new y1 _) (by have := R1.out.hc.lt; omega) (by omega) (by omega)).mono ?_; rintro e y2 ⟨z, rfl, vm, r, b0⟩; have R2 := hid (r); have T2 : Hid (But p x4 y2) := (T1.out.alloc _).trans b0; have K2 := hid (KW4.out.keep (T2.out.block gw KW4.out.lt (by simp only [ne_eq, Option.some.injEq]; exact HNQ.out.2.1))); have Q2 := hid (RQ.out.keep (T2.out.block q RQ.out.lt (by simp only [ne_eq, Option.some.injEq]; exact HNQ.out.1))); have e1 : y2.cell? ⟨gw, 1, none⟩ = some (.slice (some ⟨q, 0, none⟩) 32 cq) := K2.out.cell 1 rfl; have cu := Q2.out.cell U (by rw [HD.out]; exact HU.out); have fu := (Q2.out.owns (Nat.le_refl q)).frozenAt U; have f1 : Hid ((y2.setCell ⟨q, U, none⟩ (.int .i64 z)).cell? ⟨gw, 1, none⟩ = some (.slice (some ⟨q, 0, none⟩) 32 cq)) := (K2.out.other (by exact fun e => HNQ.out.2.2.1 e.symm) _).cell 1 rfl; have hU : (U : Int) < 32 := (by have := HU.out; omega); generalize D.bits.getD U 0 = ov at cu; clear r b0 vm)
     | (go_at_call 54; refine (Draw.below (rdyL R4.out BA.out) 32 (by omega) (by omega)).mono ?_; rintro e y1 ⟨u, rfl, va, vb, r, b⟩; have R1 := hid (r); have T1 : Hid (But p x4 y1) := (butL (But.refl p x4) BA.out).trans b; have LI1 : Hid (IntsAt y1 x4.heap.size [-1, 0, 1, 4294967295, 4294967296]) := LI.out.but b NI.out; obtain ⟨U, rfl⟩ := Int.eq_ofNat_of_zero_le va; have HU : Hid (U < 32) := (by show U < 32; omega); have d1 : y1.cell? ⟨gw, 1, none⟩ = some (.slice (some ⟨q, 0, none⟩) 32 cq) := (KW4.out.keep (T1.out.block gw KW4.out.lt (by simp only [ne_eq, Option.some.injEq]; exact HNQ.out.2.1))).cell 1 rfl; clear r b va)
     | (go_at_call 54; refine (Draw.below (rdyL R4.out (Below.refl _ _).drew) 32 (by omega) (by omega)).mono ?_; rintro e y1 ⟨u, rfl, va, vb, r, b⟩; have R1 := hid (r); have T1 : Hid (But p x4 y1) := (butL (But.refl p x4) (Below.refl _ _).drew).trans b; obtain ⟨U, rfl⟩ := Int.eq_ofNat_of_zero_le va; have HU : Hid (U < 32) := (by show U < 32; omega); have d1 : y1.cell? ⟨gw, 1, none⟩ = some (.slice (some ⟨q, 0, none⟩) 32 cq) := (KW4.out.keep (T1.out.block gw KW4.out.lt (by simp only [ne_eq, Option.some.injEq]; exact HNQ.out.2.1))).cell 1 rfl; clear r b va))
   all_goals (
    have KP : Kept q (q + 1) y2 (y2.setCell ⟨q, U, none⟩ (.int .i64 z)) := Kept.setCell _ _ _ _
    have SZ2 : Hid (y2.heap.size = y2.heap.size) := rfl
    have LL := hid (T2.out.size)
    have KW2 := hid (K2.out.keep (KP.block gw K2.out.lt (by have := HNQ.out; omega)))
    have OW2 : Hid (WnOwn (y2.setCell ⟨q, U, none⟩ (.int .i64 z)) x1.heap.size x2.heap.size ⟨⟨some ⟨q, 0, none⟩, 32, cq⟩⟩ ⟨D.top, D.bits.set U z⟩) := ⟨ISOwn.row (irow_set Q2.out U z).1 (by rw [List.length_set, HD.out]) HQ.out.1 HQ.out.2, ⟨⟩⟩
    have RR2 : Hid (Ready W0 a len cap l p (y2.setCell ⟨q, U, none⟩ (.int .i64 z))) := rdyK R2.out KP (by have := hid8 HP L1 GA L2 L3 Ggw L4 HQ; omega)
    have BB2 : Hid (But p w (y2.setCell ⟨q, U, none⟩ (.int .i64 z))) := butK (B4.out.trans T2.out) KP (by have := hid8 HP L1 GA L2 L3 Ggw L4 HQ; omega)
    have KO2 := hid ((KO4.out.keep (T2.out.block go KO4.out.lt (by simp only [ne_eq, Option.some.injEq]; have := hid8 HP L1 GA L2 L3 Ggw L4 HQ; omega))).keep (KP.block go (Nat.lt_of_lt_of_le KO4.out.lt T2.out.size) (by have := hid8 HP L1 GA L2 L3 Ggw L4 HQ; omega)))
    obtain ⟨x5, hx⟩ : ∃ zz, (y2.setCell ⟨q, U, none⟩ (.int .i64 z)) = zz := ⟨_, rfl⟩
    have HX := hid (hx)
    have L5 : Hid (x4.heap.size ≤ x5.heap.size) := by rw [← hx]; show _ ≤ _; rw [World.size_setCell]; exact LL.out
    rw [hx] at KW2 OW2 RR2 BB2 KO2
    clear hx c1 d1 e1 f1 cu fu
    clear R4 B4 KO4 OW4 KW4
    have R5 := hid (RR2.out)
    have B5 := hid (BB2.out)
    have KW5 := hid (KW2.out)
    have KO5 := hid (KO2.out)
    have OW5 := hid (OW2.out)
    go_upto_region 9 with fail
    rw [HX.out]
    clear HX
    have d0 := KW5.out.cell 0 rfl
    have d1 := KW5.out.cell 1 rfl
    have f0 := KO5.out.cell 0 rfl
    have f1 := KO5.out.cell 1 rfl
    have g0 := KO5.out.frozen 0
    have g1 := KO5.out.frozen 1
    go_wp2
    have SZF : Hid (w.heap.size ≤ go ∧ go + 1 ≤ x1.heap.size ∧ x1.heap.size ≤ x2.heap.size ∧ x2.heap.size ≤ x5.heap.size ∧ p < go) := by have := hid8 HP L1 GA L2 L3 Ggw L4 HQ; have := L5.out; show _ ∧ _; omega
    obtain ⟨k3, o3, _⟩ := WnK.stored (D := ⟨D.top, D.bits.set U z⟩) (S := ⟨⟨some ⟨q, 0, none⟩, 32, cq⟩⟩) KO5.out OW5.out (by have := SZF.out; omega)
    have KP : Kept go (go + 1) x5 ((x5.setCell ⟨go, 0, none⟩ (.int .i64 D.top)).setCell ⟨go, 1, none⟩ (.slice (some ⟨q, 0, none⟩) 32 cq)) := (Kept.setCell _ _ _ _).trans (Kept.setCell _ _ _ _)
    exact bodyPost_ret (v := wnV ⟨D.top, D.bits.set U z⟩ ⟨⟨some ⟨q, 0, none⟩, 32, cq⟩⟩) (res1 rfl (is_cell rfl k3 aggWn)) rfl ⟨⟨⟨some ⟨q, 0, none⟩, 32, cq⟩⟩, ⟨D.top, D.bits.set U z⟩, rfl, (by show (D.bits.set U z).length ≤ 32; rw [List.length_set, HD.out]; omega), o3.mono (by have := SZF.out; omega) (by rw [size2]; have := SZF.out; omega), rdyK R5.out KP (by have := SZF.out; omega), butK B5.out KP (by have := SZF.out; omega)⟩)
  | false =>
   cases ev2 : (v == 2) with
   | true =>
    obtain rfl : v = 2 := by simpa using ev2
    obtain ⟨q, cq, hS, q1, q2, rw⟩ := WnU.own32 OW4.out HD.out
    subst hS
    have RQ := hid (rw)
    have HQ : Hid (x1.heap.size ≤ q ∧ q < x2.heap.size) := ⟨q1, q2⟩
    clear rw q1 q2
    have HNQ : Hid (q ≠ p ∧ gw ≠ p ∧ q ≠ gw ∧ p < x4.heap.size) := by have := R4.out.hc.lt; have := hid8 HP L1 GA L2 L3 Ggw L4 HQ; show _ ∧ _; omega
    have c1 : x4.cell? ⟨gw, 1, none⟩ = some (.slice (some ⟨q, 0, none⟩) 32 cq) := KW4.out.cell 1 rfl
    have c0 : Hid (x4.drew.cell? ⟨gw, 1, none⟩ = some (.slice (some ⟨q, 0, none⟩) 32 cq)) := KW4.out.cell 1 rfl
    have hcq : (32 : Int) ≤ (cq : Int) := by have := RQ.out.1; have := HD.out; omega
    go_upto_region 8 with fail
    go_region_with (go_at_call 54; refine (Draw.below (rdyL R4.out (Below.refl _ _).drew) 32 (by omega) (by omega)).mono ?_; rintro e y1 ⟨u, rfl, va, vb, r, b⟩; have R1 := hid (r); have T1 : Hid (But p x4 y1) := (butL (But.refl p x4) (Below.refl _ _).drew).trans b; obtain ⟨U, rfl⟩ := Int.eq_ofNat_of_zero_le va; have HU : Hid (U < 32) := (by show U < 32; omega); have K1 := hid (KW4.out.keep (T1.out.block gw KW4.out.lt (by simp only [ne_eq, Option.some.injEq]; exact HNQ.out.2.1))); have d1 : y1.cell? ⟨gw, 1, none⟩ = some (.slice (some ⟨q, 0, none⟩) 32 cq) := K1.out.cell 1 rfl; have fd := K1.out.frozen 1; have hU : (U : Int) ≤ (cq : Int) := (by have := HU.out; omega); clear r b va)
    all_goals (
     have KP : Kept gw (gw + 1) y1 (y1.setCell ⟨gw, 1, none⟩ (.slice (some ⟨q, 0, none⟩) U cq)) := Kept.setCell _ _ _ _
     have LL := hid (T1.out.size)
     have Q1 := hid (RQ.out.keep (T1.out.block q RQ.out.lt (by simp only [ne_eq, Option.some.injEq]; exact HNQ.out.1)))
     have KW2 : Hid (Blk (y1.setCell ⟨gw, 1, none⟩ (.slice (some ⟨q, 0, none⟩) U cq)) gw 39 [.int .i64 D.top, .slice (some ⟨q, 0, none⟩) U cq]) := K1.out.set 1 _ (by simp [maxLen])
     have OW2 : Hid (WnOwn (y1.setCell ⟨gw, 1, none⟩ (.slice (some ⟨q, 0, none⟩) U cq)) x1.heap.size x2.heap.size ⟨⟨some ⟨q, 0, none⟩, U, cq⟩⟩ ⟨D.top, D.bits.take U⟩) := ⟨ISOwn.row (irow_take (Q1.out.keep (KP.block q Q1.out.lt (by have := HNQ.out; omega))) U) (by rw [List.length_take, HD.out]; have := HU.out; omega) HQ.out.1 HQ.out.2, ⟨⟩⟩
     have RR2 : Hid (Ready W0 a len cap l p (y1.setCell ⟨gw, 1, none⟩ (.slice (some ⟨q, 0, none⟩) U cq))) := rdyK R1.out KP (by have := hid8 HP L1 GA L2 L3 Ggw L4 HQ; omega)
     have BB2 : Hid (But p w (y1.setCell ⟨gw, 1, none⟩ (.slice (some ⟨q, 0, none⟩) U cq))) := butK (B4.out.trans T1.out) KP (by have := hid8 HP L1 GA L2 L3 Ggw L4 HQ; omega)
     have KO2 := hid ((KO4.out.keep (T1.out.block go KO4.out.lt (by simp only [ne_eq, Option.some.injEq]; have := hid8 HP L1 GA L2 L3 Ggw L4 HQ; omega))).keep (KP.block go (Nat.lt_of_lt_of_le KO4.out.lt T1.out.size) (by have := hid8 HP L1 GA L2 L3 Ggw L4 HQ; omega)))
     obtain ⟨x5, hx⟩ : ∃ zz, (y1.setCell ⟨gw, 1, none⟩ (.slice (some ⟨q, 0, none⟩) U cq)) = zz := ⟨_, rfl⟩
     have HX := hid (hx)
     have L5 : Hid (x4.heap.size ≤ x5.heap.size) := by rw [← hx]; show _ ≤ _; rw [World.size_setCell]; exact LL.out
     rw [hx] at KW2 OW2 RR2 BB2 KO2
     clear hx c1 d1 fd
     clear R4 B4 KO4 OW4 KW4
     have R5 := hid (RR2.out)
     have B5 := hid (BB2.out)
     have KW5 := hid (KW2.out)
     have KO5 := hid (KO2.out)
     have OW5 := hid (OW2.out)
     go_upto_region 9 with fail
     rw [HX.out]
     clear HX
     have d0 := KW5.out.cell 0 rfl
     have d1 := KW5.out.cell 1 rfl
     have f0 := KO5.out.cell 0 rfl
     have f1 := KO5.out.cell 1 rfl
     have g0 := KO5.out.frozen 0
     have g1 := KO5.out.frozen 1
     go_wp2
     have SZF : Hid (w.heap.size ≤ go ∧ go + 1 ≤ x1.heap.size ∧ x1.heap.size ≤ x2.heap.size ∧ x2.heap.size ≤ x5.heap.size ∧ p < go) := by have := hid8 HP L1 GA L2 L3 Ggw L4 HQ; have := L5.out; show _ ∧ _; omega
     obtain ⟨k3, o3, _⟩ := WnK.stored (D := ⟨D.top, D.bits.take U⟩) (S := ⟨⟨some ⟨q, 0, none⟩, U, cq⟩⟩) KO5.out OW5.out (by have := SZF.out; omega)
     have KP : Kept go (go + 1) x5 ((x5.setCell ⟨go, 0, none⟩ (.int .i64 D.top)).setCell ⟨go, 1, none⟩ (.slice (some ⟨q, 0, none⟩) U cq)) := (Kept.setCell _ _ _ _).trans (Kept.setCell _ _ _ _)
     exact bodyPost_ret (v := wnV ⟨D.top, D.bits.take U⟩ ⟨⟨some ⟨q, 0, none⟩, U, cq⟩⟩) (res1 rfl (is_cell rfl k3 aggWn)) rfl ⟨⟨⟨some ⟨q, 0, none⟩, U, cq⟩⟩, ⟨D.top, D.bits.take U⟩, rfl, (by show (D.bits.take U).length ≤ 32; rw [List.length_take, HD.out]; omega), o3.mono (by have := SZF.out; omega) (by rw [size2]; have := SZF.out; omega), rdyK R5.out KP (by have := SZF.out; omega), butK B5.out KP (by have := SZF.out; omega)⟩)
   | false =>
    have d0 := KW4.out.cell 0 rfl
    have d1 := KW4.out.cell 1 rfl
    have f0 := KO4.out.cell 0 rfl
    have f1 := KO4.out.cell 1 rfl
    have g0 := KO4.out.frozen 0
    have g1 := KO4.out.frozen 1
    go_wp2
    have SZF : Hid (w.heap.size ≤ go ∧ go + 1 ≤ x1.heap.size ∧ x1.heap.size ≤ x2.heap.size ∧ x2.heap.size ≤ x4.heap.size ∧ p < go) := by have := hid7 HP L1 GA L2 L3 Ggw L4; show _ ∧ _; omega
    obtain ⟨k3, o3, _⟩ := WnK.stored (D := D) (S := S) KO4.out OW4.out (by have := SZF.out; omega)
    have KP : Kept go (go + 1) x4 ((x4.setCell ⟨go, 0, none⟩ (.int .i64 D.top)).setCell ⟨go, 1, none⟩ (.slice S.bits.a S.bits.n S.bits.c)) := (Kept.setCell _ _ _ _).trans (Kept.setCell _ _ _ _)
    exact bodyPost_ret (v := wnV D S) (res1 rfl (is_cell rfl k3 aggWn)) rfl ⟨S, D, rfl, (by rw [HD.out]; omega), o3.mono (by have := SZF.out; omega) (by rw [size2]; have := SZF.out; omega), rdyK R4.out KP (by have := SZF.out; omega), butK B4.out KP (by have := SZF.out; omega)⟩

end Go.Proofs.YtmcflfpckpjphaaGreatDoor.WnDa
