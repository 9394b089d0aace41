/-
  What spec.DrawEpOpen gives: an epoch, a role and a frame, right or not.
-/
import Derived.Test.YtmcflfpckpjphaaGreatDoorVdDrEp
import Derived.Test.YtmcflfpckpjphaaGreatDoorVdDrBe
import Derived.Test.YtmcflfpckpjphaaGreatDoorVdSealS
import Derived.Deep.RegionHeld3
set_option maxRecDepth 100000
namespace Go.Proofs.YtmcflfpckpjphaaGreatDoor.DrOp
open Go.RowKit Mem App Blk Zone ZoneI Draw Res WnZ FrZ FrP FrL DrN DrCp DrBe DrKd DrEp SlP SlQ EpZ EpL EpP Each Copy Ops
theorem hide {p : Prop} (h : p) : Hid p := h
theorem drewB {w : World} {g : Nat} {t : TypeId} {cs : List Value} (h : Blk w g t cs) : Blk w.drew g t cs := h
theorem c5 {w : World} {g : Nat} {t : TypeId} {v0 v1 v2 v3 v4 : Value} (h : Blk w g t [v0, v1, v2, v3, v4]) : w.cell? ⟨g, 0, none⟩ = some v0 ∧ w.cell? ⟨g, 1, none⟩ = some v1 ∧ w.cell? ⟨g, 2, none⟩ = some v2 ∧ w.cell? ⟨g, 3, none⟩ = some v3 ∧ w.cell? ⟨g, 4, none⟩ = some v4 := ⟨h.cell 0 rfl, h.cell 1 rfl, h.cell 2 rfl, h.cell 3 rfl, h.cell 4 rfl⟩
theorem f5 {w : World} {g : Nat} {t : TypeId} {v0 v1 v2 v3 v4 : Value} (h : Blk w g t [v0, v1, v2, v3, v4]) : w.frozen? ⟨g, 0, none⟩ = false ∧ w.frozen? ⟨g, 1, none⟩ = false ∧ w.frozen? ⟨g, 2, none⟩ = false ∧ w.frozen? ⟨g, 3, none⟩ = false ∧ w.frozen? ⟨g, 4, none⟩ = false := ⟨h.frozen 0, h.frozen 1, h.frozen 2, h.frozen 3, h.frozen 4⟩
theorem c11 {w : World} {g : Nat} {t : TypeId} {v0 v1 v2 v3 v4 v5 v6 v7 v8 v9 v10 : Value} (h : Blk w g t [v0, v1, v2, v3, v4, v5, v6, v7, v8, v9, v10]) : w.cell? ⟨g, 0, none⟩ = some v0 ∧ w.cell? ⟨g, 1, none⟩ = some v1 ∧ w.cell? ⟨g, 2, none⟩ = some v2 ∧ w.cell? ⟨g, 3, none⟩ = some v3 ∧ w.cell? ⟨g, 4, none⟩ = some v4 ∧ w.cell? ⟨g, 5, none⟩ = some v5 ∧ w.cell? ⟨g, 6, none⟩ = some v6 ∧ w.cell? ⟨g, 7, none⟩ = some v7 ∧ w.cell? ⟨g, 8, none⟩ = some v8 ∧ w.cell? ⟨g, 9, none⟩ = some v9 ∧ w.cell? ⟨g, 10, none⟩ = some v10 := ⟨h.cell 0 rfl, h.cell 1 rfl, h.cell 2 rfl, h.cell 3 rfl, h.cell 4 rfl, h.cell 5 rfl, h.cell 6 rfl, h.cell 7 rfl, h.cell 8 rfl, h.cell 9 rfl, h.cell 10 rfl⟩
theorem f11 {w : World} {g : Nat} {t : TypeId} {v0 v1 v2 v3 v4 v5 v6 v7 v8 v9 v10 : Value} (h : Blk w g t [v0, v1, v2, v3, v4, v5, v6, v7, v8, v9, v10]) : w.frozen? ⟨g, 0, none⟩ = false ∧ w.frozen? ⟨g, 1, none⟩ = false ∧ w.frozen? ⟨g, 2, none⟩ = false ∧ w.frozen? ⟨g, 3, none⟩ = false ∧ w.frozen? ⟨g, 4, none⟩ = false ∧ w.frozen? ⟨g, 5, none⟩ = false ∧ w.frozen? ⟨g, 6, none⟩ = false ∧ w.frozen? ⟨g, 7, none⟩ = false ∧ w.frozen? ⟨g, 8, none⟩ = false ∧ w.frozen? ⟨g, 9, none⟩ = false ∧ w.frozen? ⟨g, 10, none⟩ = false := ⟨h.frozen 0, h.frozen 1, h.frozen 2, h.frozen 3, h.frozen 4, h.frozen 5, h.frozen 6, h.frozen 7, h.frozen 8, h.frozen 9, h.frozen 10⟩
theorem s16 {w : World} {g k : Nat} {t r : TypeId} {u0 u1 u2 u3 u4 v0 v1 v2 v3 v4 v5 v6 v7 v8 v9 v10 : Value} (h : Blk w g t [u0, u1, u2, u3, u4]) (j : Blk w k r [v0, v1, v2, v3, v4, v5, v6, v7, v8, v9, v10]) : w.cell? ⟨g, 0, none⟩ = some u0 ∧ w.cell? ⟨g, 1, none⟩ = some u1 ∧ w.cell? ⟨g, 2, none⟩ = some u2 ∧ w.cell? ⟨g, 3, none⟩ = some u3 ∧ w.cell? ⟨g, 4, none⟩ = some u4 ∧ w.cell? ⟨k, 0, none⟩ = some v0 ∧ w.cell? ⟨k, 1, none⟩ = some v1 ∧ w.cell? ⟨k, 2, none⟩ = some v2 ∧ w.cell? ⟨k, 3, none⟩ = some v3 ∧ w.cell? ⟨k, 4, none⟩ = some v4 ∧ w.cell? ⟨k, 5, none⟩ = some v5 ∧ w.cell? ⟨k, 6, none⟩ = some v6 ∧ w.cell? ⟨k, 7, none⟩ = some v7 ∧ w.cell? ⟨k, 8, none⟩ = some v8 ∧ w.cell? ⟨k, 9, none⟩ = some v9 ∧ w.cell? ⟨k, 10, none⟩ = some v10 := ⟨h.cell 0 rfl, h.cell 1 rfl, h.cell 2 rfl, h.cell 3 rfl, h.cell 4 rfl, j.cell 0 rfl, j.cell 1 rfl, j.cell 2 rfl, j.cell 3 rfl, j.cell 4 rfl, j.cell 5 rfl, j.cell 6 rfl, j.cell 7 rfl, j.cell 8 rfl, j.cell 9 rfl, j.cell 10 rfl⟩
set_option maxHeartbeats 40000000 in
theorem drawEpOpen (a : Option Addr) (len cap : Nat) (l : List Int) (w : World) (hl : len = l.length) (hr : Rd w a l) (hb : Bytes l) (hlen : len ≤ 1048576) :
  Calls Tryz.prog 31 #[.slice a len cap] w fun e w' => ∃ (D : EpD) (S : EpS) (ro : Int) (F : FrD) (T : FrS), e = .returned (.tuple #[epV D S, .int .i64 ro, frV F T]) ∧ EpShort D 65536 ∧ EpRd w' S D ∧ FrRd w' T F ∧ Below w.heap.size w w' := by
 have HR := hid (hr)
 have HL : Hid (len = l.length) := hl
 have HB := hid (hb)
 clear hr hl hb
 have B0 : Hid (Below w.heap.size w w) := Below.refl _ _
 obtain ⟨x1, hx1⟩ : ∃ x1, ((w.alloc (.cells #[.int .i64 0, .slice none 0 0, .int .i64 0, .int .i64 0, .slice none 0 0] 41)).alloc (.cells #[.int .i64 0, .int .i64 0, .slice none 0 0, .slice none 0 0, .int .i64 0, .slice none 0 0, .slice none 0 0, .int .i64 0, .int .i64 0, .slice none 0 0, .slice none 0 0] 27)) = x1 := ⟨_, rfl⟩
 have HWA := hid (hx1)
 have b1 : Below w.heap.size w x1 := by rw [← hx1]; exact (((Below.refl _ _).alloc (Nat.le_refl _) _).alloc (by simp) _)
 have KPN : Blk x1 (w.heap.size) 41 [.int .i64 0, .slice none 0 0, .int .i64 0, .int .i64 0, .slice none 0 0] := by
  have q := (Blk.new w 41 [.int .i64 0, .slice none 0 0, .int .i64 0, .int .i64 0, .slice none 0 0])
  skip
  rw [← hx1]; exact q.alloc _
 have KON : Blk x1 (w.heap.size + 1) 27 [.int .i64 0, .int .i64 0, .slice none 0 0, .slice none 0 0, .int .i64 0, .slice none 0 0, .slice none 0 0, .int .i64 0, .int .i64 0, .slice none 0 0, .slice none 0 0] := by
  have q := (Blk.new (w.alloc (.cells #[.int .i64 0, .slice none 0 0, .int .i64 0, .int .i64 0, .slice none 0 0] 41)) 27 [.int .i64 0, .int .i64 0, .slice none 0 0, .slice none 0 0, .int .i64 0, .slice none 0 0, .slice none 0 0, .int .i64 0, .int .i64 0, .slice none 0 0, .slice none 0 0])
  rw [World.size_alloc] at q
  rw [← hx1]; exact q
 have SZA : x1.heap.size = w.heap.size + 2 := by rw [← hx1]; simp
 clear hx1
 have L1 := hid (b1.size)
 have B1 := hid (B0.out.trans (b1.mono B0.out.size))
 clear B0 b1
 go_enter Tryz.func31, Tryz.ntmps31
 go_upto_region 1 with fail
 rw [HWA.out]
 obtain ⟨gp, hgp⟩ : ∃ g, w.heap.size = g := ⟨_, rfl⟩
 obtain ⟨go, hgo⟩ : ∃ g, w.heap.size + 1 = g := ⟨_, rfl⟩
 have GA : Hid (w.heap.size = gp ∧ gp + 1 = go ∧ x1.heap.size = gp + 2) := ⟨hgp, by omega, by omega⟩
 rw [hgp] at KPN
 rw [hgo] at KON
 rw [hgo, hgp]
 clear HWA SZA hgp hgo
 have KP1 := hid (KPN)
 have KO1 := hid (KON)
 clear KPN KON
 go_wp2_with fail
 refine (newCur a len cap l x1 HL.out (HR.out.later B1.out (Nat.le_refl _)) HB.out hlen).mono ?_
 rintro e x2 ⟨p, rfl, r⟩
 have b := r.hB
 have HP : Hid (x1.heap.size ≤ p ∧ p < x2.heap.size) := ⟨r.hp, r.hc.lt⟩
 have L2 := hid (b.size)
 have B2 := hid (B1.out.trans (b.mono B1.out.size))
 have KP2 := hid (KP1.out.later b)
 have KO2 := hid (KO1.out.later b)
 clear B1 KP1 KO1 b
 have R2 := hid (r)
 clear r
 go_wp2_with fail
 refine (l9Any R2.out).mono ?_
 rintro e x3 ⟨S0, D0, rfl, sh, o, r, b⟩
 have HS0 := hid (sh)
 clear sh
 have L3 := hid (b.size)
 have KQ : Kept p (p + 1) x2 x3 := Kept.of_grown b
 have B3 : Hid (Below w.heap.size w x3) := But.below b B2.out (by have := hid5 L1 GA L2 HP L3; omega)
 have KP3 := hid (KP2.out.keep (KQ.block _ KP2.out.lt (by have := hid5 L1 GA L2 HP L3; omega)))
 have KO3 := hid (KO2.out.keep (KQ.block _ KO2.out.lt (by have := hid5 L1 GA L2 HP L3; omega)))
 have R3 := hid (r)
 clear B2 KP2 KO2 R2 b
 clear KQ r
 have OE3 := hid (o)
 clear o
 obtain ⟨x4, hx4⟩ : ∃ x4, x3.alloc (.cells #[.int .i64 D0.n, .slice S0.key.a S0.key.n S0.key.c, .int .i64 D0.seq, .int .i64 D0.win.top, .slice S0.win.bits.a S0.win.bits.n S0.win.bits.c] 41) = x4 := ⟨_, rfl⟩
 have HW4 := hid (hx4)
 have b4 : Below x3.heap.size x3 x4 := by rw [← hx4]; exact (Below.refl _ _).alloc (Nat.le_refl _) _
 have KN : Blk x4 x3.heap.size 41 [.int .i64 D0.n, .slice S0.key.a S0.key.n S0.key.c, .int .i64 D0.seq, .int .i64 D0.win.top, .slice S0.win.bits.a S0.win.bits.n S0.win.bits.c] := by rw [← hx4]; exact Blk.new x3 _ _
 have HSZ4 : Hid (x4.heap.size = x3.heap.size + 1) := by rw [← hx4]; show _ = _; simp
 clear hx4
 have L4 := hid (b4.size)
 have B4 := hid (B3.out.trans (b4.mono B3.out.size))
 have KP4 := hid (KP3.out.later b4)
 have KO4 := hid (KO3.out.later b4)
 have R4 : Hid (Ready x1 a len cap l p x4) := rdyL R3.out b4
 have OE4 := hid (OE3.out.later b4)
 clear B3 KP3 KO3 R3 OE3 b4
 unfold epV
 go_upto_region 3 with fail
 rw [HW4.out]
 obtain ⟨ge, hge⟩ : ∃ g, x3.heap.size = g := ⟨_, rfl⟩
 have Gge : Hid (x3.heap.size = ge ∧ x4.heap.size = ge + 1) := ⟨hge, by rw [← hge]; exact HSZ4.out⟩
 rw [hge] at KN ⊢
 clear HW4 HSZ4 hge
 have KE4 := hid (KN)
 clear KN
 go_wp2_with fail
 refine (l9Kind R4.out).mono ?_
 rintro e x5 ⟨kd, Pt, lp, rfl, pl40, oN, r, b⟩
 have PLPt : Hid (lp.length ≤ 40) := pl40
 clear pl40
 have L5 := hid (b.size)
 have KQ : Kept p (p + 1) x4 x5 := Kept.of_grown b
 have B5 : Hid (Below w.heap.size w x5) := But.below b B4.out (by have := hid8 L1 GA L2 HP L3 L4 Gge L5; omega)
 have KP5 := hid (KP4.out.keep (KQ.block _ KP4.out.lt (by have := hid8 L1 GA L2 HP L3 L4 Gge L5; omega)))
 have KO5 := hid (KO4.out.keep (KQ.block _ KO4.out.lt (by have := hid8 L1 GA L2 HP L3 L4 Gge L5; omega)))
 have R5 := hid (r)
 have OE5 := hid (OE4.out.carry KQ (by have := hid8 L1 GA L2 HP L3 L4 Gge L5; omega))
 have KE5 := hid (KE4.out.keep (KQ.block _ KE4.out.lt (by have := hid8 L1 GA L2 HP L3 L4 Gge L5; omega)))
 clear B4 KP4 KO4 R4 OE4 KE4 b
 clear KQ r
 have OPt5 := hid (oN)
 clear oN
 go_wp2_with fail
 refine (Draw.below R5.out 2 (by omega) (by omega)).mono ?_
 rintro e x6 ⟨ro, rfl, va, vb, r, b⟩
 have VBro : Hid (0 ≤ ro ∧ ro < 2) := ⟨va, vb⟩
 clear va vb
 have L6 := hid (b.size)
 have KQ : Kept p (p + 1) x5 x6 := Kept.of_grown b
 have B6 : Hid (Below w.heap.size w x6) := But.below b B5.out (by have := hid8 L1 GA L2 HP L3 L4 Gge L5; have := L6.out; omega)
 have KP6 := hid (KP5.out.keep (KQ.block _ KP5.out.lt (by have := hid8 L1 GA L2 HP L3 L4 Gge L5; have := L6.out; omega)))
 have KO6 := hid (KO5.out.keep (KQ.block _ KO5.out.lt (by have := hid8 L1 GA L2 HP L3 L4 Gge L5; have := L6.out; omega)))
 have R6 := hid (r)
 have OE6 := hid (OE5.out.carry KQ (by have := hid8 L1 GA L2 HP L3 L4 Gge L5; have := L6.out; omega))
 have KE6 := hid (KE5.out.keep (KQ.block _ KE5.out.lt (by have := hid8 L1 GA L2 HP L3 L4 Gge L5; have := L6.out; omega)))
 have OPt6 := hid (OPt5.out.carry KQ (by have := hid8 L1 GA L2 HP L3 L4 Gge L5; have := L6.out; omega))
 clear B5 KP5 KO5 R5 OE5 KE5 OPt5 b
 clear KQ r
 have TA : Hid (Below x6.heap.size x6 (x6.drew.alloc (.cells #[.int .i64 1, .int .i64 1, .int .i64 2, .int .i64 0, .int .i64 (-1), .int .i64 (-2), .int .i64 (-1023), .int .i64 (-1024)] 3))) := ((Below.refl _ _).drew).alloc (Nat.le_refl _) _
 have TB : Hid (Below x6.heap.size x6 (x6.alloc (.cells #[.int .i64 1, .int .i64 1, .int .i64 2, .int .i64 0, .int .i64 (-1), .int .i64 (-2), .int .i64 (-1023), .int .i64 (-1024)] 3)).drew) := ((Below.refl _ _).alloc (Nat.le_refl _) _).drew
 have LIA : Hid (IntsAt (x6.drew.alloc (.cells #[.int .i64 1, .int .i64 1, .int .i64 2, .int .i64 0, .int .i64 (-1), .int .i64 (-2), .int .i64 (-1023), .int .i64 (-1024)] 3)) x6.heap.size [1, 1, 2, 0, -1, -2, -1023, -1024]) := ints_new x6.drew [1, 1, 2, 0, -1, -2, -1023, -1024]
 have LIB : Hid (IntsAt (x6.alloc (.cells #[.int .i64 1, .int .i64 1, .int .i64 2, .int .i64 0, .int .i64 (-1), .int .i64 (-2), .int .i64 (-1023), .int .i64 (-1024)] 3)).drew x6.heap.size [1, 1, 2, 0, -1, -2, -1023, -1024]) := ints_new x6 [1, 1, 2, 0, -1, -2, -1023, -1024]
 have NI : Hid (x6.heap.size ≠ p ∧ ge ≠ p) := by have := R6.out.hc.lt; have := hid8 L1 GA L2 HP L3 L4 Gge L5; have := L6.out; show _ ∧ _; omega
 go_upto_region 5 with fail
 go_cut [10] from 24 to 30 (fun s10 wx => ∃ z : Int, s10 = .int .i64 z ∧ Ready x1 a len cap l p wx ∧ But p x6 wx)
 case first =>
  rename_i J K' hRJ hMet
  have c3 := KE6.out.cell 3 rfl
  have cD := hide ((KE6.out.later (Below.refl _ _).drew).cell 3 rfl)
  have cA := hide ((KE6.out.later TA.out).cell 3 rfl)
  have cB := hide ((KE6.out.later TB.out).cell 3 rfl)
  have cC := hide ((KE6.out.alloc (.cells #[.int .i64 1, .int .i64 1, .int .i64 2, .int .i64 0, .int .i64 (-1), .int .i64 (-2), .int .i64 (-1023), .int .i64 (-1024)] 3)).cell 3 rfl)
  go_region_held3 (fun w' => w'.cell? ⟨ge, 3, none⟩ = some (.int .i64 D0.win.top)) (first | with_reducible exact d3 | with_reducible exact cA.out | with_reducible exact cB.out | with_reducible exact cC.out | with_reducible exact cD.out | with_reducible exact c3 | fail)
   (first
    | (go_at_call 52; refine (intOfList (rdyL R6.out TA.out) x6.heap.size 8 [1, 1, 2, 0, -1, -2, -1023, -1024] rfl LIA.out NI.out.1 (by omega) (by omega)).mono ?_; rintro e y1 ⟨u, rfl, _, r, b⟩; have R1 := hid (r); have T1 : Hid (But p x6 y1) := (butL (But.refl p x6) TA.out).trans b; have d3 := (KE6.out.keep (T1.out.block ge KE6.out.lt (by simp only [ne_eq, Option.some.injEq]; exact NI.out.2))).cell 3 rfl; clear r b)
    | (go_at_call 52; refine (intOfList (rdyL R6.out TB.out) x6.heap.size 8 [1, 1, 2, 0, -1, -2, -1023, -1024] rfl LIB.out NI.out.1 (by omega) (by omega)).mono ?_; rintro e y1 ⟨u, rfl, _, r, b⟩; have R1 := hid (r); have T1 : Hid (But p x6 y1) := (butL (But.refl p x6) TB.out).trans b; have d3 := (KE6.out.keep (T1.out.block ge KE6.out.lt (by simp only [ne_eq, Option.some.injEq]; exact NI.out.2))).cell 3 rfl; clear r b))
  all_goals (
   show K' _ _
   exact hMet _ _ (Met.intro (hRJ _ _ ⟨_, _, _, _, _, _, _, _, ⟨_, rfl, R1.out, T1.out⟩, rfl⟩)))
 case rest =>
 obtain ⟨x7, hxc⟩ : ∃ zz, zz = wc := ⟨_, rfl⟩
 subst hxc
 obtain ⟨z2, rfl, r, b⟩ := hcut
 clear TA TB LIA LIB NI
 have L7 := hid (b.size)
 have KQ : Kept p (p + 1) x6 x7 := Kept.of_grown b
 have B7 : Hid (Below w.heap.size w x7) := But.below b B6.out (by have := hid8 L1 GA L2 HP L3 L4 Gge L5; have := hid2 L6 L7; omega)
 have KP7 := hid (KP6.out.keep (KQ.block _ KP6.out.lt (by have := hid8 L1 GA L2 HP L3 L4 Gge L5; have := hid2 L6 L7; omega)))
 have KO7 := hid (KO6.out.keep (KQ.block _ KO6.out.lt (by have := hid8 L1 GA L2 HP L3 L4 Gge L5; have := hid2 L6 L7; omega)))
 have R7 := hid (r)
 have OE7 := hid (OE6.out.carry KQ (by have := hid8 L1 GA L2 HP L3 L4 Gge L5; have := hid2 L6 L7; omega))
 have KE7 := hid (KE6.out.keep (KQ.block _ KE6.out.lt (by have := hid8 L1 GA L2 HP L3 L4 Gge L5; have := hid2 L6 L7; omega)))
 have OPt7 := hid (OPt6.out.carry KQ (by have := hid8 L1 GA L2 HP L3 L4 Gge L5; have := hid2 L6 L7; omega))
 clear B6 KP6 KO6 R6 OE6 KE6 OPt6 b
 clear KQ r
 by_cases hz : z2 < 0
 case' pos =>
  go_wp2_with fail
  refine (Draw.below R7.out 5 (by omega) (by omega)).mono ?_
  rintro e x8 ⟨z2, rfl, va, vb, r, b⟩
  have VBz2 : Hid (0 ≤ z2 ∧ z2 < 5) := ⟨va, vb⟩
  clear va vb
  have L8 := hid (b.size)
  have KQ : Kept p (p + 1) x7 x8 := Kept.of_grown b
  have B8 : Hid (Below w.heap.size w x8) := But.below b B7.out (by have := hid8 L1 GA L2 HP L3 L4 Gge L5; have := hid3 L6 L7 L8; omega)
  have KP8 := hid (KP7.out.keep (KQ.block _ KP7.out.lt (by have := hid8 L1 GA L2 HP L3 L4 Gge L5; have := hid3 L6 L7 L8; omega)))
  have KO8 := hid (KO7.out.keep (KQ.block _ KO7.out.lt (by have := hid8 L1 GA L2 HP L3 L4 Gge L5; have := hid3 L6 L7 L8; omega)))
  have R8 := hid (r)
  have OE8 := hid (OE7.out.carry KQ (by have := hid8 L1 GA L2 HP L3 L4 Gge L5; have := hid3 L6 L7 L8; omega))
  have KE8 := hid (KE7.out.keep (KQ.block _ KE7.out.lt (by have := hid8 L1 GA L2 HP L3 L4 Gge L5; have := hid3 L6 L7 L8; omega)))
  have OPt8 := hid (OPt7.out.carry KQ (by have := hid8 L1 GA L2 HP L3 L4 Gge L5; have := hid3 L6 L7 L8; omega))
  clear B7 KP7 KO7 R7 OE7 KE7 OPt7 b
  clear KQ r
 case' neg =>
  obtain ⟨x8, hx9, b⟩ : ∃ y, y = x7 ∧ Below x7.heap.size x7 y := ⟨x7, rfl, Below.refl _ _⟩
  rw [← hx9]
  clear hx9
  have L8 := hid (b.size)
  have B8 := hid (B7.out.trans (b.mono B7.out.size))
  have KP8 := hid (KP7.out.later b)
  have KO8 := hid (KO7.out.later b)
  have R8 : Hid (Ready x1 a len cap l p x8) := rdyL R7.out b
  have OE8 := hid (OE7.out.later b)
  have KE8 := hid (KE7.out.later b)
  have OPt8 := hid (OPt7.out.later b)
  clear B7 KP7 KO7 R7 OE7 KE7 OPt7 b
 all_goals (
  have TD : Hid (Below x8.heap.size x8 x8.drew) := (Below.refl _ _).drew
  have TB : Hid (Below x8.heap.size x8 (x8.alloc (.cells #[.int .i64 0, .int .i64 0, .slice none 0 0, .slice none 0 0, .int .i64 0, .slice none 0 0, .slice none 0 0, .int .i64 0, .int .i64 0, .slice none 0 0, .slice none 0 0] 27)).drew) := ((Below.refl _ _).alloc (Nat.le_refl _) _).drew
  have GA : Hid (Blk (x8.alloc (.cells #[.int .i64 0, .int .i64 0, .slice none 0 0, .slice none 0 0, .int .i64 0, .slice none 0 0, .slice none 0 0, .int .i64 0, .int .i64 0, .slice none 0 0, .slice none 0 0] 27)).drew x8.heap.size 27 [.int .i64 0, .int .i64 0, .slice none 0 0, .slice none 0 0, .int .i64 0, .slice none 0 0, .slice none 0 0, .int .i64 0, .int .i64 0, .slice none 0 0, .slice none 0 0]) := Blk.new x8 _ _
  have NI : Hid (x8.heap.size ≠ p ∧ ge ≠ p ∧ p < x8.heap.size) := by have := R8.out.hc.lt; have := hid8 L1 GA L2 HP L3 L4 Gge L5; have := hid3 L6 L7 L8; show _ ∧ _; omega
  go_upto_region 8 with fail
  go_cut [11, 12] from 35 to 48 (fun s11 s12 wx => ∃ g D1 S1 pz qz bb, s11 = .pointer (some ⟨g, 0, none⟩) ∧ s12 = .bool bb ∧ Blk wx g 27 [.int .i64 D1.kind, .int .i64 D1.id, .slice S1.cn.a S1.cn.n S1.cn.c, .slice S1.sn.a S1.sn.n S1.sn.c, .int .i64 D1.tick, .slice S1.cookie.a S1.cookie.n S1.cookie.c, .slice S1.proof.a S1.proof.n S1.proof.c, .int .i64 D1.epoch, .int .i64 D1.seq, .slice S1.body.a S1.body.n S1.body.c, .slice S1.tag.a S1.tag.n S1.tag.c] ∧ FrIn wx pz qz S1 D1 ∧ FrShort D1 1000 ∧ (x8.heap.size ≤ pz ∧ pz ≤ qz ∧ qz ≤ wx.heap.size ∧ x8.heap.size ≤ g ∧ g + 1 ≤ wx.heap.size ∧ (g + 1 ≤ pz ∨ qz ≤ g)) ∧ Ready x1 a len cap l p wx ∧ But p x8 wx)
  case first =>
   rename_i J K' hRJ hMet
   have c0 := (KE8.out).cell 0 rfl
   have c1 := (KE8.out).cell 1 rfl
   have cD0 := hide ((KE8.out.later TD.out).cell 0 rfl)
   have cD1 := hide ((KE8.out.later TD.out).cell 1 rfl)
   have cB0 := hide ((KE8.out.later TB.out).cell 0 rfl)
   have cB1 := hide ((KE8.out.later TB.out).cell 1 rfl)
   have cC0 := hide ((KE8.out.alloc (.cells #[.int .i64 0, .int .i64 0, .slice none 0 0, .slice none 0 0, .int .i64 0, .slice none 0 0, .slice none 0 0, .int .i64 0, .int .i64 0, .slice none 0 0, .slice none 0 0] 27)).cell 0 rfl)
   have cC1 := hide ((KE8.out.alloc (.cells #[.int .i64 0, .int .i64 0, .slice none 0 0, .slice none 0 0, .int .i64 0, .slice none 0 0, .slice none 0 0, .int .i64 0, .int .i64 0, .slice none 0 0, .slice none 0 0] 27)).cell 1 rfl)
   go_region_held3 (fun w' => w'.cell? ⟨ge, 0, none⟩ = some (.int .i64 D0.n) ∧ w'.cell? ⟨ge, 1, none⟩ = some (.slice S0.key.a S0.key.n S0.key.c)) (first | with_reducible exact ⟨dn0.out, dn1.out⟩ | with_reducible exact ⟨fZ0.out, fZ1.out⟩ | with_reducible exact ⟨fY0.out, fY1.out⟩ | with_reducible exact ⟨f0, f1⟩ | with_reducible exact ⟨dZ0.out, dZ1.out⟩ | with_reducible exact ⟨d0, d1⟩ | with_reducible exact ⟨cB0.out, cB1.out⟩ | with_reducible exact ⟨cC0.out, cC1.out⟩ | with_reducible exact ⟨cD0.out, cD1.out⟩ | with_reducible exact ⟨c0, c1⟩ | fail)
    (first
     | (go_at_call 14; have GZ0 := GZ; obtain ⟨D1, hD1⟩ : ∃ zz, sealF D0.key ro ln D0.n z2 kd lp = zz := ⟨_, rfl⟩; refine (SealS.specSeal S0.key ⟨some ⟨gn, 0, none⟩, 12, cn⟩ Pt D0.key ln lp ro D0.n z2 kd y1 OE1.out.rd.key NM.out OP1.out.rd).mono ?_; unfold SealS.AnsS; rw [hD1]; rintro e y2 ⟨S1, rfl, o, b⟩; unfold frV; have HS1 : Hid (FrShort D1 1000) := (by rw [← hD1]; exact short_le (sealF_short _ _ _ _ _ _ _) (by omega)); have R2 : Hid (Ready x1 a len cap l p y2) := rdyL R1.out b; have T2 : Hid (But p x8 y2) := butL T1.out b; have O1 := hid (o); have LW : Hid (y1.heap.size ≤ y2.heap.size ∧ y1.heap.size ≤ y1.heap.size) := ⟨b.size, (by first | exact Nat.le_refl _ | (rw [World.size_alloc]; omega))⟩; have KE2 := hid (KE1.out.later b); have GZZ := hid (GZ.out.later b); have LGZ : Hid (x8.heap.size + 1 ≤ y1.heap.size ∧ x8.heap.size ≤ x8.heap.size) := (by have := LY1.out; have q9 := GZ.out.lt; exact ⟨q9, Nat.le_refl _⟩); have gNE : ge ≠ x8.heap.size := (by have := hid8 LGZ L1 GA L2 HP L3 L4 Gge; have := hid4 L5 L6 L7 L8; omega); obtain ⟨go0, go1, go2, go3, go4, go5, go6, go7, go8, go9, go10⟩ := c11 GZZ.out; obtain ⟨gp0, gp1, gp2, gp3, gp4, gp5, gp6, gp7, gp8, gp9, gp10⟩ := f11 GZZ.out; have dN := fr_other KE2.out gNE (.int .i64 D1.kind) (.int .i64 D1.id) (.slice S1.cn.a S1.cn.n S1.cn.c) (.slice S1.sn.a S1.sn.n S1.sn.c) (.int .i64 D1.tick) (.slice S1.cookie.a S1.cookie.n S1.cookie.c) (.slice S1.proof.a S1.proof.n S1.proof.c) (.int .i64 D1.epoch) (.int .i64 D1.seq) (.slice S1.body.a S1.body.n S1.body.c) (.slice S1.tag.a S1.tag.n S1.tag.c); have dn0 := hide ((dN).cell 0 rfl); have dn1 := hide ((dN).cell 1 rfl); clear dN; have f0 := (KE2.out).cell 0 rfl; have f1 := (KE2.out).cell 1 rfl; have fZ0 := hide ((KE2.out.alloc (.cells #[.int .i64 D1.kind, .int .i64 D1.id, .slice S1.cn.a S1.cn.n S1.cn.c, .slice S1.sn.a S1.sn.n S1.sn.c, .int .i64 D1.tick, .slice S1.cookie.a S1.cookie.n S1.cookie.c, .slice S1.proof.a S1.proof.n S1.proof.c, .int .i64 D1.epoch, .int .i64 D1.seq, .slice S1.body.a S1.body.n S1.body.c, .slice S1.tag.a S1.tag.n S1.tag.c] 27)).cell 0 rfl); have fZ1 := hide ((KE2.out.alloc (.cells #[.int .i64 D1.kind, .int .i64 D1.id, .slice S1.cn.a S1.cn.n S1.cn.c, .slice S1.sn.a S1.sn.n S1.sn.c, .int .i64 D1.tick, .slice S1.cookie.a S1.cookie.n S1.cookie.c, .slice S1.proof.a S1.proof.n S1.proof.c, .int .i64 D1.epoch, .int .i64 D1.seq, .slice S1.body.a S1.body.n S1.body.c, .slice S1.tag.a S1.tag.n S1.tag.c] 27)).cell 1 rfl); have fY0 := hide ((KE2.out.alloc (.cells #[.int .i64 0, .int .i64 0, .slice none 0 0, .slice none 0 0, .int .i64 0, .slice none 0 0, .slice none 0 0, .int .i64 0, .int .i64 0, .slice none 0 0, .slice none 0 0] 27)).cell 0 rfl); have fY1 := hide ((KE2.out.alloc (.cells #[.int .i64 0, .int .i64 0, .slice none 0 0, .slice none 0 0, .int .i64 0, .slice none 0 0, .slice none 0 0, .int .i64 0, .int .i64 0, .slice none 0 0, .slice none 0 0] 27)).cell 1 rfl); clear b o hD1)
     | (go_at_call 14; obtain ⟨D1, hD1⟩ : ∃ zz, sealF D0.key ro ln D0.n z2 kd lp = zz := ⟨_, rfl⟩; refine (SealS.specSeal S0.key ⟨some ⟨gn, 0, none⟩, 12, cn⟩ Pt D0.key ln lp ro D0.n z2 kd (y1.alloc (.cells #[.int .i64 0, .int .i64 0, .slice none 0 0, .slice none 0 0, .int .i64 0, .slice none 0 0, .slice none 0 0, .int .i64 0, .int .i64 0, .slice none 0 0, .slice none 0 0] 27)) (OE1.out.rd.later ((Below.refl _ _).alloc (Nat.le_refl _) _)).key (NM.out.later ((Below.refl _ _).alloc (Nat.le_refl _) _)) (OP1.out.rd.later ((Below.refl _ _).alloc (Nat.le_refl _) _))).mono ?_; unfold SealS.AnsS; rw [hD1]; rintro e y2 ⟨S1, rfl, o, b⟩; unfold frV; have HS1 : Hid (FrShort D1 1000) := (by rw [← hD1]; exact short_le (sealF_short _ _ _ _ _ _ _) (by omega)); have R2 : Hid (Ready x1 a len cap l p y2) := rdyL (R1.out.alloc _) b; have T2 : Hid (But p x8 y2) := butL (T1.out.alloc _) b; have O1 := hid (o); have LW : Hid ((y1.alloc (.cells #[.int .i64 0, .int .i64 0, .slice none 0 0, .slice none 0 0, .int .i64 0, .slice none 0 0, .slice none 0 0, .int .i64 0, .int .i64 0, .slice none 0 0, .slice none 0 0] 27)).heap.size ≤ y2.heap.size ∧ y1.heap.size ≤ (y1.alloc (.cells #[.int .i64 0, .int .i64 0, .slice none 0 0, .slice none 0 0, .int .i64 0, .slice none 0 0, .slice none 0 0, .int .i64 0, .int .i64 0, .slice none 0 0, .slice none 0 0] 27)).heap.size) := ⟨b.size, (by first | exact Nat.le_refl _ | (rw [World.size_alloc]; omega))⟩; have KE2 : Hid (Blk y2 ge 41 [.int .i64 D0.n, .slice S0.key.a S0.key.n S0.key.c, .int .i64 D0.seq, .int .i64 D0.win.top, .slice S0.win.bits.a S0.win.bits.n S0.win.bits.c]) := (KE1.out.alloc _).later b; have GZZ : Hid (Blk y2 (y1.heap.size) 27 [.int .i64 0, .int .i64 0, .slice none 0 0, .slice none 0 0, .int .i64 0, .slice none 0 0, .slice none 0 0, .int .i64 0, .int .i64 0, .slice none 0 0, .slice none 0 0]) := (Blk.new y1 27 [.int .i64 0, .int .i64 0, .slice none 0 0, .slice none 0 0, .int .i64 0, .slice none 0 0, .slice none 0 0, .int .i64 0, .int .i64 0, .slice none 0 0, .slice none 0 0]).later b; have LGZ : Hid (y1.heap.size + 1 ≤ (y1.alloc (.cells #[.int .i64 0, .int .i64 0, .slice none 0 0, .slice none 0 0, .int .i64 0, .slice none 0 0, .slice none 0 0, .int .i64 0, .int .i64 0, .slice none 0 0, .slice none 0 0] 27)).heap.size ∧ x8.heap.size ≤ y1.heap.size) := (by have := LY1.out; exact ⟨by rw [World.size_alloc]; exact Nat.le_refl _, LY1.out⟩); have gNE : ge ≠ y1.heap.size := (by have := hid8 LGZ L1 GA L2 HP L3 L4 Gge; have := hid4 L5 L6 L7 L8; omega); obtain ⟨go0, go1, go2, go3, go4, go5, go6, go7, go8, go9, go10⟩ := c11 GZZ.out; obtain ⟨gp0, gp1, gp2, gp3, gp4, gp5, gp6, gp7, gp8, gp9, gp10⟩ := f11 GZZ.out; have dN := fr_other KE2.out gNE (.int .i64 D1.kind) (.int .i64 D1.id) (.slice S1.cn.a S1.cn.n S1.cn.c) (.slice S1.sn.a S1.sn.n S1.sn.c) (.int .i64 D1.tick) (.slice S1.cookie.a S1.cookie.n S1.cookie.c) (.slice S1.proof.a S1.proof.n S1.proof.c) (.int .i64 D1.epoch) (.int .i64 D1.seq) (.slice S1.body.a S1.body.n S1.body.c) (.slice S1.tag.a S1.tag.n S1.tag.c); have dn0 := hide ((dN).cell 0 rfl); have dn1 := hide ((dN).cell 1 rfl); clear dN; have f0 := (KE2.out).cell 0 rfl; have f1 := (KE2.out).cell 1 rfl; have fZ0 := hide ((KE2.out.alloc (.cells #[.int .i64 D1.kind, .int .i64 D1.id, .slice S1.cn.a S1.cn.n S1.cn.c, .slice S1.sn.a S1.sn.n S1.sn.c, .int .i64 D1.tick, .slice S1.cookie.a S1.cookie.n S1.cookie.c, .slice S1.proof.a S1.proof.n S1.proof.c, .int .i64 D1.epoch, .int .i64 D1.seq, .slice S1.body.a S1.body.n S1.body.c, .slice S1.tag.a S1.tag.n S1.tag.c] 27)).cell 0 rfl); have fZ1 := hide ((KE2.out.alloc (.cells #[.int .i64 D1.kind, .int .i64 D1.id, .slice S1.cn.a S1.cn.n S1.cn.c, .slice S1.sn.a S1.sn.n S1.sn.c, .int .i64 D1.tick, .slice S1.cookie.a S1.cookie.n S1.cookie.c, .slice S1.proof.a S1.proof.n S1.proof.c, .int .i64 D1.epoch, .int .i64 D1.seq, .slice S1.body.a S1.body.n S1.body.c, .slice S1.tag.a S1.tag.n S1.tag.c] 27)).cell 1 rfl); have fY0 := hide ((KE2.out.alloc (.cells #[.int .i64 0, .int .i64 0, .slice none 0 0, .slice none 0 0, .int .i64 0, .slice none 0 0, .slice none 0 0, .int .i64 0, .int .i64 0, .slice none 0 0, .slice none 0 0] 27)).cell 0 rfl); have fY1 := hide ((KE2.out.alloc (.cells #[.int .i64 0, .int .i64 0, .slice none 0 0, .slice none 0 0, .int .i64 0, .slice none 0 0, .slice none 0 0, .int .i64 0, .int .i64 0, .slice none 0 0, .slice none 0 0] 27)).cell 1 rfl); clear b o hD1)
     | (go_at_call 14; obtain ⟨D1, hD1⟩ : ∃ zz, sealF D0.key ro ln D0.n z2 kd lp = zz := ⟨_, rfl⟩; refine (SealS.specSeal S0.key ⟨some ⟨gn, 0, none⟩, 12, cn⟩ Pt D0.key ln lp ro D0.n z2 kd y1 OE1.out.rd.key NM.out OP1.out.rd).mono ?_; unfold SealS.AnsS; rw [hD1]; rintro e y2 ⟨S1, rfl, o, b⟩; unfold frV; have HS1 : Hid (FrShort D1 1000) := (by rw [← hD1]; exact short_le (sealF_short _ _ _ _ _ _ _) (by omega)); have R2 : Hid (Ready x1 a len cap l p y2) := rdyL R1.out b; have T2 : Hid (But p x8 y2) := butL T1.out b; have O1 := hid (o); have LW : Hid (y1.heap.size ≤ y2.heap.size ∧ y1.heap.size ≤ y1.heap.size) := ⟨b.size, (by first | exact Nat.le_refl _ | (rw [World.size_alloc]; omega))⟩; have KE2 := hid (KE1.out.later b); have f0 := (KE2.out).cell 0 rfl; have f1 := (KE2.out).cell 1 rfl; have fZ0 := hide ((KE2.out.alloc (.cells #[.int .i64 D1.kind, .int .i64 D1.id, .slice S1.cn.a S1.cn.n S1.cn.c, .slice S1.sn.a S1.sn.n S1.sn.c, .int .i64 D1.tick, .slice S1.cookie.a S1.cookie.n S1.cookie.c, .slice S1.proof.a S1.proof.n S1.proof.c, .int .i64 D1.epoch, .int .i64 D1.seq, .slice S1.body.a S1.body.n S1.body.c, .slice S1.tag.a S1.tag.n S1.tag.c] 27)).cell 0 rfl); have fZ1 := hide ((KE2.out.alloc (.cells #[.int .i64 D1.kind, .int .i64 D1.id, .slice S1.cn.a S1.cn.n S1.cn.c, .slice S1.sn.a S1.sn.n S1.sn.c, .int .i64 D1.tick, .slice S1.cookie.a S1.cookie.n S1.cookie.c, .slice S1.proof.a S1.proof.n S1.proof.c, .int .i64 D1.epoch, .int .i64 D1.seq, .slice S1.body.a S1.body.n S1.body.c, .slice S1.tag.a S1.tag.n S1.tag.c] 27)).cell 1 rfl); have fY0 := hide ((KE2.out.alloc (.cells #[.int .i64 0, .int .i64 0, .slice none 0 0, .slice none 0 0, .int .i64 0, .slice none 0 0, .slice none 0 0, .int .i64 0, .int .i64 0, .slice none 0 0, .slice none 0 0] 27)).cell 0 rfl); have fY1 := hide ((KE2.out.alloc (.cells #[.int .i64 0, .int .i64 0, .slice none 0 0, .slice none 0 0, .int .i64 0, .slice none 0 0, .slice none 0 0, .int .i64 0, .int .i64 0, .slice none 0 0, .slice none 0 0] 27)).cell 1 rfl); clear b o hD1)
     | (go_at_call 51; refine (bytesOf (rdyL R8.out TB.out) 12 (by omega)).mono ?_; rintro e y1 ⟨gn, cn, ln, rfl, eln, hbn, kgn, rwn, r, b⟩; have R1 := hid (r); have T1 : Hid (But p x8 y1) := (butL (But.refl p x8) TB.out).trans b; have Kq : Kept p (p + 1) x8 y1 := Kept.of_grown T1.out; have KE1 := hid (KE8.out.keep (Kq.block ge KE8.out.lt (by have := hid8 NI L1 GA L2 HP L3 L4 Gge; have := hid4 L5 L6 L7 L8; omega))); have OE1 := hid (OE8.out.carry Kq (by have := hid8 L1 GA L2 HP L3 L4 Gge L5; have := hid3 L6 L7 L8; omega)); have OP1 := hid (OPt8.out.carry Kq (by have := hid8 L1 GA L2 HP L3 L4 Gge L5; have := hid3 L6 L7 L8; omega)); have NM : Hid (SRd y1 ⟨some ⟨gn, 0, none⟩, 12, cn⟩ ln) := (SOwn.row (lo := 0) (hi := y1.heap.size) rwn eln hbn (Nat.zero_le _) rwn.lt).rd; have LY1 := hid (T1.out.size); have GZ := hid (GA.out.keep ((Kept.of_grown b).block _ GA.out.lt (by have := NI.out; omega))); have d0 := (KE1.out).cell 0 rfl; have d1 := (KE1.out).cell 1 rfl; have dZ0 := hide ((KE1.out.alloc (.cells #[.int .i64 0, .int .i64 0, .slice none 0 0, .slice none 0 0, .int .i64 0, .slice none 0 0, .slice none 0 0, .int .i64 0, .int .i64 0, .slice none 0 0, .slice none 0 0] 27)).cell 0 rfl); have dZ1 := hide ((KE1.out.alloc (.cells #[.int .i64 0, .int .i64 0, .slice none 0 0, .slice none 0 0, .int .i64 0, .slice none 0 0, .slice none 0 0, .int .i64 0, .int .i64 0, .slice none 0 0, .slice none 0 0] 27)).cell 1 rfl); clear r b eln hbn kgn rwn Kq)
     | (go_at_call 51; refine (bytesOf (rdyL R8.out TD.out) 12 (by omega)).mono ?_; rintro e y1 ⟨gn, cn, ln, rfl, eln, hbn, kgn, rwn, r, b⟩; have R1 := hid (r); have T1 : Hid (But p x8 y1) := (butL (But.refl p x8) TD.out).trans b; have Kq : Kept p (p + 1) x8 y1 := Kept.of_grown T1.out; have KE1 := hid (KE8.out.keep (Kq.block ge KE8.out.lt (by have := hid8 NI L1 GA L2 HP L3 L4 Gge; have := hid4 L5 L6 L7 L8; omega))); have OE1 := hid (OE8.out.carry Kq (by have := hid8 L1 GA L2 HP L3 L4 Gge L5; have := hid3 L6 L7 L8; omega)); have OP1 := hid (OPt8.out.carry Kq (by have := hid8 L1 GA L2 HP L3 L4 Gge L5; have := hid3 L6 L7 L8; omega)); have NM : Hid (SRd y1 ⟨some ⟨gn, 0, none⟩, 12, cn⟩ ln) := (SOwn.row (lo := 0) (hi := y1.heap.size) rwn eln hbn (Nat.zero_le _) rwn.lt).rd; have LY1 := hid (T1.out.size); have d0 := (KE1.out).cell 0 rfl; have d1 := (KE1.out).cell 1 rfl; have dZ0 := hide ((KE1.out.alloc (.cells #[.int .i64 0, .int .i64 0, .slice none 0 0, .slice none 0 0, .int .i64 0, .slice none 0 0, .slice none 0 0, .int .i64 0, .int .i64 0, .slice none 0 0, .slice none 0 0] 27)).cell 0 rfl); have dZ1 := hide ((KE1.out.alloc (.cells #[.int .i64 0, .int .i64 0, .slice none 0 0, .slice none 0 0, .int .i64 0, .slice none 0 0, .slice none 0 0, .int .i64 0, .int .i64 0, .slice none 0 0, .slice none 0 0] 27)).cell 1 rfl); clear r b eln hbn kgn rwn Kq))
   ·
    show K' _ _
    have o9 : Below y2.heap.size y2 (y2.alloc (.cells #[.int .i64 D1.kind, .int .i64 D1.id, .slice S1.cn.a S1.cn.n S1.cn.c, .slice S1.sn.a S1.sn.n S1.sn.c, .int .i64 D1.tick, .slice S1.cookie.a S1.cookie.n S1.cookie.c, .slice S1.proof.a S1.proof.n S1.proof.c, .int .i64 D1.epoch, .int .i64 D1.seq, .slice S1.body.a S1.body.n S1.body.c, .slice S1.tag.a S1.tag.n S1.tag.c] 27)) := (Below.refl _ _).alloc (Nat.le_refl _) _
    have sz9 : (y2.alloc (.cells #[.int .i64 D1.kind, .int .i64 D1.id, .slice S1.cn.a S1.cn.n S1.cn.c, .slice S1.sn.a S1.sn.n S1.sn.c, .int .i64 D1.tick, .slice S1.cookie.a S1.cookie.n S1.cookie.c, .slice S1.proof.a S1.proof.n S1.proof.c, .int .i64 D1.epoch, .int .i64 D1.seq, .slice S1.body.a S1.body.n S1.body.c, .slice S1.tag.a S1.tag.n S1.tag.c] 27)).heap.size = y2.heap.size + 1 := by rw [World.size_alloc]
    exact hMet _ _ (Met.intro (hRJ _ _ ⟨_, _, _, _, _, _, _, _, _, _, _, _, _, _, _, _, ⟨y2.heap.size, D1, S1, _, _, _, rfl, rfl, Blk.new y2 _ _, (FrIn.of O1.out).later o9, HS1.out, (by rw [sz9]; have := hid2 LW LY1; omega), rdyL R2.out o9, butL T2.out o9⟩, rfl⟩))
   ·
    show K' _ _
    have sz9 := fr_size y2 (y1.heap.size) (.int .i64 D1.kind) (.int .i64 D1.id) (.slice S1.cn.a S1.cn.n S1.cn.c) (.slice S1.sn.a S1.sn.n S1.sn.c) (.int .i64 D1.tick) (.slice S1.cookie.a S1.cookie.n S1.cookie.c) (.slice S1.proof.a S1.proof.n S1.proof.c) (.int .i64 D1.epoch) (.int .i64 D1.seq) (.slice S1.body.a S1.body.n S1.body.c) (.slice S1.tag.a S1.tag.n S1.tag.c)
    have KP := fr_kept y2 (y1.heap.size) (.int .i64 D1.kind) (.int .i64 D1.id) (.slice S1.cn.a S1.cn.n S1.cn.c) (.slice S1.sn.a S1.sn.n S1.sn.c) (.int .i64 D1.tick) (.slice S1.cookie.a S1.cookie.n S1.cookie.c) (.slice S1.proof.a S1.proof.n S1.proof.c) (.int .i64 D1.epoch) (.int .i64 D1.seq) (.slice S1.body.a S1.body.n S1.body.c) (.slice S1.tag.a S1.tag.n S1.tag.c)
    exact hMet _ _ (Met.intro (hRJ _ _ ⟨_, _, _, _, _, _, _, _, _, _, _, _, _, _, _, _, ⟨y1.heap.size, D1, S1, _, _, _, rfl, rfl, fr_put GZZ.out (.int .i64 D1.kind) (.int .i64 D1.id) (.slice S1.cn.a S1.cn.n S1.cn.c) (.slice S1.sn.a S1.sn.n S1.sn.c) (.int .i64 D1.tick) (.slice S1.cookie.a S1.cookie.n S1.cookie.c) (.slice S1.proof.a S1.proof.n S1.proof.c) (.int .i64 D1.epoch) (.int .i64 D1.seq) (.slice S1.body.a S1.body.n S1.body.c) (.slice S1.tag.a S1.tag.n S1.tag.c), (FrIn.of O1.out).carry KP (.inr (by have := LGZ.out; omega)), HS1.out, (by rw [sz9]; have := hid3 LW LY1 LGZ; omega), rdyK R2.out KP (by have := hid2 LGZ NI; omega), butK T2.out KP (by have := LGZ.out; omega)⟩, rfl⟩))
   ·
    show K' _ _
    have sz9 := fr_size y2 (x8.heap.size) (.int .i64 D1.kind) (.int .i64 D1.id) (.slice S1.cn.a S1.cn.n S1.cn.c) (.slice S1.sn.a S1.sn.n S1.sn.c) (.int .i64 D1.tick) (.slice S1.cookie.a S1.cookie.n S1.cookie.c) (.slice S1.proof.a S1.proof.n S1.proof.c) (.int .i64 D1.epoch) (.int .i64 D1.seq) (.slice S1.body.a S1.body.n S1.body.c) (.slice S1.tag.a S1.tag.n S1.tag.c)
    have KP := fr_kept y2 (x8.heap.size) (.int .i64 D1.kind) (.int .i64 D1.id) (.slice S1.cn.a S1.cn.n S1.cn.c) (.slice S1.sn.a S1.sn.n S1.sn.c) (.int .i64 D1.tick) (.slice S1.cookie.a S1.cookie.n S1.cookie.c) (.slice S1.proof.a S1.proof.n S1.proof.c) (.int .i64 D1.epoch) (.int .i64 D1.seq) (.slice S1.body.a S1.body.n S1.body.c) (.slice S1.tag.a S1.tag.n S1.tag.c)
    exact hMet _ _ (Met.intro (hRJ _ _ ⟨_, _, _, _, _, _, _, _, _, _, _, _, _, _, _, _, ⟨x8.heap.size, D1, S1, _, _, _, rfl, rfl, fr_put GZZ.out (.int .i64 D1.kind) (.int .i64 D1.id) (.slice S1.cn.a S1.cn.n S1.cn.c) (.slice S1.sn.a S1.sn.n S1.sn.c) (.int .i64 D1.tick) (.slice S1.cookie.a S1.cookie.n S1.cookie.c) (.slice S1.proof.a S1.proof.n S1.proof.c) (.int .i64 D1.epoch) (.int .i64 D1.seq) (.slice S1.body.a S1.body.n S1.body.c) (.slice S1.tag.a S1.tag.n S1.tag.c), (FrIn.of O1.out).carry KP (.inr (by have := LGZ.out; omega)), HS1.out, (by rw [sz9]; have := hid3 LW LY1 LGZ; omega), rdyK R2.out KP (by have := hid2 LGZ NI; omega), butK T2.out KP (by have := LGZ.out; omega)⟩, rfl⟩))
  case rest =>
  obtain ⟨x9, hxc⟩ : ∃ zz, zz = wc := ⟨_, rfl⟩
  subst hxc
  obtain ⟨gf, D1, S1, pz, qz, bb, rfl, rfl, kf, of, hs1, z9, r, b⟩ := hcut
  have HS1 := hid (hs1)
  have Z9 : Hid (_ ∧ _) := z9
  clear hs1 z9 TD TB GA NI
  have L9 := hid (b.size)
  have KQ : Kept p (p + 1) x8 x9 := Kept.of_grown b
  have B9 : Hid (Below w.heap.size w x9) := But.below b B8.out (by have := hid8 L1 GA L2 HP L3 L4 Gge L5; have := hid4 L6 L7 L8 L9; omega)
  have KP9 := hid (KP8.out.keep (KQ.block _ KP8.out.lt (by have := hid8 L1 GA L2 HP L3 L4 Gge L5; have := hid4 L6 L7 L8 L9; omega)))
  have KO9 := hid (KO8.out.keep (KQ.block _ KO8.out.lt (by have := hid8 L1 GA L2 HP L3 L4 Gge L5; have := hid4 L6 L7 L8 L9; omega)))
  have R9 := hid (r)
  have OE9 := hid (OE8.out.carry KQ (by have := hid8 L1 GA L2 HP L3 L4 Gge L5; have := hid4 L6 L7 L8 L9; omega))
  have KE9 := hid (KE8.out.keep (KQ.block _ KE8.out.lt (by have := hid8 L1 GA L2 HP L3 L4 Gge L5; have := hid4 L6 L7 L8 L9; omega)))
  have OPt9 := hid (OPt8.out.carry KQ (by have := hid8 L1 GA L2 HP L3 L4 Gge L5; have := hid4 L6 L7 L8 L9; omega))
  clear B8 KP8 KO8 R8 OE8 KE8 OPt8 b
  clear KQ r
  have KF9 := hid (kf)
  have OF9 := hid (of)
  clear kf of
  clear OPt9
  go_wp2_with fail
  refine (Draw.once R9.out 8 (by omega) (by omega)).mono ?_
  rintro e x10 ⟨o1, rfl, r, b⟩
  have L10 := hid (b.size)
  have KQ : Kept p (p + 1) x9 x10 := Kept.of_grown b
  have B10 : Hid (Below w.heap.size w x10) := But.below b B9.out (by have := hid8 L1 GA L2 HP L3 L4 Gge L5; have := hid6 L6 L7 L8 L9 Z9 L10; omega)
  have KP10 := hid (KP9.out.keep (KQ.block _ KP9.out.lt (by have := hid8 L1 GA L2 HP L3 L4 Gge L5; have := hid6 L6 L7 L8 L9 Z9 L10; omega)))
  have KO10 := hid (KO9.out.keep (KQ.block _ KO9.out.lt (by have := hid8 L1 GA L2 HP L3 L4 Gge L5; have := hid6 L6 L7 L8 L9 Z9 L10; omega)))
  have R10 := hid (r)
  have OE10 := hid (OE9.out.carry KQ (by have := hid8 L1 GA L2 HP L3 L4 Gge L5; have := hid6 L6 L7 L8 L9 Z9 L10; omega))
  have KE10 := hid (KE9.out.keep (KQ.block _ KE9.out.lt (by have := hid8 L1 GA L2 HP L3 L4 Gge L5; have := hid6 L6 L7 L8 L9 Z9 L10; omega)))
  have KF10 := hid (KF9.out.keep (KQ.block _ KF9.out.lt (by have := hid8 L1 GA L2 HP L3 L4 Gge L5; have := hid6 L6 L7 L8 L9 Z9 L10; omega)))
  have OF10 := hid (OF9.out.carry KQ (by have := hid8 L1 GA L2 HP L3 L4 Gge L5; have := hid6 L6 L7 L8 L9 Z9 L10; omega))
  clear B9 KP9 KO9 R9 OE9 KE9 KF9 OF9 b
  clear KQ r
  cases o1
  case' true =>
   go_wp2_with fail
   refine (intOfList (R10.out.alloc _) x10.heap.size 3 [0, 1, 2] rfl (ints_new x10 _) (by have := R10.out.hc.lt; omega) (by omega) (by omega)).mono ?_
   rintro e x11 ⟨ro, rfl, vm, r, b0⟩
   have VMro : Hid (ro ∈ ([0, 1, 2] : List Int)) := vm
   have b : But p x10 x11 := ((But.refl p x10).alloc _).trans b0
   clear vm b0
   have L11 := hid (b.size)
   have KQ : Kept p (p + 1) x10 x11 := Kept.of_grown b
   have B11 : Hid (Below w.heap.size w x11) := But.below b B10.out (by have := hid8 L1 GA L2 HP L3 L4 Gge L5; have := hid7 L6 L7 L8 L9 Z9 L10 L11; omega)
   have KP11 := hid (KP10.out.keep (KQ.block _ KP10.out.lt (by have := hid8 L1 GA L2 HP L3 L4 Gge L5; have := hid7 L6 L7 L8 L9 Z9 L10 L11; omega)))
   have KO11 := hid (KO10.out.keep (KQ.block _ KO10.out.lt (by have := hid8 L1 GA L2 HP L3 L4 Gge L5; have := hid7 L6 L7 L8 L9 Z9 L10 L11; omega)))
   have R11 := hid (r)
   have OE11 := hid (OE10.out.carry KQ (by have := hid8 L1 GA L2 HP L3 L4 Gge L5; have := hid7 L6 L7 L8 L9 Z9 L10 L11; omega))
   have KE11 := hid (KE10.out.keep (KQ.block _ KE10.out.lt (by have := hid8 L1 GA L2 HP L3 L4 Gge L5; have := hid7 L6 L7 L8 L9 Z9 L10 L11; omega)))
   have KF11 := hid (KF10.out.keep (KQ.block _ KF10.out.lt (by have := hid8 L1 GA L2 HP L3 L4 Gge L5; have := hid7 L6 L7 L8 L9 Z9 L10 L11; omega)))
   have OF11 := hid (OF10.out.carry KQ (by have := hid8 L1 GA L2 HP L3 L4 Gge L5; have := hid7 L6 L7 L8 L9 Z9 L10 L11; omega))
   clear B10 KP10 KO10 R10 OE10 KE10 KF10 OF10 b
   clear KQ r
  case' false =>
   obtain ⟨x11, hx9, b⟩ : ∃ y, y = x10 ∧ Below x10.heap.size x10 y := ⟨x10, rfl, Below.refl _ _⟩
   rw [← hx9]
   clear hx9
   have L11 := hid (b.size)
   have B11 := hid (B10.out.trans (b.mono B10.out.size))
   have KP11 := hid (KP10.out.later b)
   have KO11 := hid (KO10.out.later b)
   have R11 : Hid (Ready x1 a len cap l p x11) := rdyL R10.out b
   have OE11 := hid (OE10.out.later b)
   have KE11 := hid (KE10.out.later b)
   have KF11 := hid (KF10.out.later b)
   have OF11 := hid (OF10.out.later b)
   clear B10 KP10 KO10 R10 OE10 KE10 KF10 OF10 b
  all_goals (
   go_wp2_with fail
   refine (Draw.once R11.out 3 (by omega) (by omega)).mono ?_
   rintro e x12 ⟨o2, rfl, r, b⟩
   have L12 := hid (b.size)
   have KQ : Kept p (p + 1) x11 x12 := Kept.of_grown b
   have B12 : Hid (Below w.heap.size w x12) := But.below b B11.out (by have := hid8 L1 GA L2 HP L3 L4 Gge L5; have := hid8 L6 L7 L8 L9 Z9 L10 L11 L12; omega)
   have KP12 := hid (KP11.out.keep (KQ.block _ KP11.out.lt (by have := hid8 L1 GA L2 HP L3 L4 Gge L5; have := hid8 L6 L7 L8 L9 Z9 L10 L11 L12; omega)))
   have KO12 := hid (KO11.out.keep (KQ.block _ KO11.out.lt (by have := hid8 L1 GA L2 HP L3 L4 Gge L5; have := hid8 L6 L7 L8 L9 Z9 L10 L11 L12; omega)))
   have R12 := hid (r)
   have OE12 := hid (OE11.out.carry KQ (by have := hid8 L1 GA L2 HP L3 L4 Gge L5; have := hid8 L6 L7 L8 L9 Z9 L10 L11 L12; omega))
   have KE12 := hid (KE11.out.keep (KQ.block _ KE11.out.lt (by have := hid8 L1 GA L2 HP L3 L4 Gge L5; have := hid8 L6 L7 L8 L9 Z9 L10 L11 L12; omega)))
   have KF12 := hid (KF11.out.keep (KQ.block _ KF11.out.lt (by have := hid8 L1 GA L2 HP L3 L4 Gge L5; have := hid8 L6 L7 L8 L9 Z9 L10 L11 L12; omega)))
   have OF12 := hid (OF11.out.carry KQ (by have := hid8 L1 GA L2 HP L3 L4 Gge L5; have := hid8 L6 L7 L8 L9 Z9 L10 L11 L12; omega))
   clear B11 KP11 KO11 R11 OE11 KE11 KF11 OF11 b
   clear KQ r
   cases o2
   case' true =>
    obtain ⟨d0, d1, d2, d3, d4, d5, d6, d7, d8, d9, d10⟩ := cells11 KF12.out
    go_wp2_with fail
    refine (l9Bent R12.out S1 D1 OF12.out.rd HS1.out).mono ?_
    rintro e x13 ⟨D2, S2, rfl, oi, r, b⟩
    unfold frV
    clear d0 d1 d2 d3 d4 d5 d6 d7 d8 d9 d10
    have L13 := hid (b.size)
    have KQ : Kept p (p + 1) x12 x13 := Kept.of_grown b
    have B13 : Hid (Below w.heap.size w x13) := But.below b B12.out (by have := hid8 L1 GA L2 HP L3 L4 Gge L5; have := hid8 L6 L7 L8 L9 Z9 L10 L11 L12; have := L13.out; omega)
    have KP13 := hid (KP12.out.keep (KQ.block _ KP12.out.lt (by have := hid8 L1 GA L2 HP L3 L4 Gge L5; have := hid8 L6 L7 L8 L9 Z9 L10 L11 L12; have := L13.out; omega)))
    have KO13 := hid (KO12.out.keep (KQ.block _ KO12.out.lt (by have := hid8 L1 GA L2 HP L3 L4 Gge L5; have := hid8 L6 L7 L8 L9 Z9 L10 L11 L12; have := L13.out; omega)))
    have R13 := hid (r)
    have OE13 := hid (OE12.out.carry KQ (by have := hid8 L1 GA L2 HP L3 L4 Gge L5; have := hid8 L6 L7 L8 L9 Z9 L10 L11 L12; have := L13.out; omega))
    have KE13 := hid (KE12.out.keep (KQ.block _ KE12.out.lt (by have := hid8 L1 GA L2 HP L3 L4 Gge L5; have := hid8 L6 L7 L8 L9 Z9 L10 L11 L12; have := L13.out; omega)))
    have KF13 := hid (KF12.out.keep (KQ.block _ KF12.out.lt (by have := hid8 L1 GA L2 HP L3 L4 Gge L5; have := hid8 L6 L7 L8 L9 Z9 L10 L11 L12; have := L13.out; omega)))
    have OF13 := hid (OF12.out.carry KQ (by have := hid8 L1 GA L2 HP L3 L4 Gge L5; have := hid8 L6 L7 L8 L9 Z9 L10 L11 L12; have := L13.out; omega))
    clear B12 KP12 KO12 R12 OE12 KE12 KF12 OF12 b
    clear KQ r
    clear OF13
    have OF13 := hid (oi)
    clear oi
    have co0 := KF13.out.cell 0 rfl
    have fo0 := KF13.out.frozen 0
    have co1 := KF13.out.cell 1 rfl
    have fo1 := KF13.out.frozen 1
    have co2 := KF13.out.cell 2 rfl
    have fo2 := KF13.out.frozen 2
    have co3 := KF13.out.cell 3 rfl
    have fo3 := KF13.out.frozen 3
    have co4 := KF13.out.cell 4 rfl
    have fo4 := KF13.out.frozen 4
    have co5 := KF13.out.cell 5 rfl
    have fo5 := KF13.out.frozen 5
    have co6 := KF13.out.cell 6 rfl
    have fo6 := KF13.out.frozen 6
    have co7 := KF13.out.cell 7 rfl
    have fo7 := KF13.out.frozen 7
    have co8 := KF13.out.cell 8 rfl
    have fo8 := KF13.out.frozen 8
    have co9 := KF13.out.cell 9 rfl
    have fo9 := KF13.out.frozen 9
    have co10 := KF13.out.cell 10 rfl
    have fo10 := KF13.out.frozen 10
    obtain ⟨x14, hx14⟩ : ∃ y, (((((((((((x13.setCell ⟨gf, 0, none⟩ (.int .i64 D2.kind)).setCell ⟨gf, 1, none⟩ (.int .i64 D2.id)).setCell ⟨gf, 2, none⟩ (.slice S2.cn.a S2.cn.n S2.cn.c)).setCell ⟨gf, 3, none⟩ (.slice S2.sn.a S2.sn.n S2.sn.c)).setCell ⟨gf, 4, none⟩ (.int .i64 D2.tick)).setCell ⟨gf, 5, none⟩ (.slice S2.cookie.a S2.cookie.n S2.cookie.c)).setCell ⟨gf, 6, none⟩ (.slice S2.proof.a S2.proof.n S2.proof.c)).setCell ⟨gf, 7, none⟩ (.int .i64 D2.epoch)).setCell ⟨gf, 8, none⟩ (.int .i64 D2.seq)).setCell ⟨gf, 9, none⟩ (.slice S2.body.a S2.body.n S2.body.c)).setCell ⟨gf, 10, none⟩ (.slice S2.tag.a S2.tag.n S2.tag.c)) = y := ⟨_, rfl⟩
    have HW14 := hid (hx14)
    have L14 : Hid (x14.heap.size = x13.heap.size) := by rw [← hx14]; show _ = _; simp
    have KS : Blk x14 gf 27 [.int .i64 D2.kind, .int .i64 D2.id, .slice S2.cn.a S2.cn.n S2.cn.c, .slice S2.sn.a S2.sn.n S2.sn.c, .int .i64 D2.tick, .slice S2.cookie.a S2.cookie.n S2.cookie.c, .slice S2.proof.a S2.proof.n S2.proof.c, .int .i64 D2.epoch, .int .i64 D2.seq, .slice S2.body.a S2.body.n S2.body.c, .slice S2.tag.a S2.tag.n S2.tag.c] := by rw [← hx14]; exact (((((((((((KF13.out.set 0 _ (by simp [maxLen])).set 1 _ (by simp [maxLen])).set 2 _ (by simp [maxLen])).set 3 _ (by simp [maxLen])).set 4 _ (by simp [maxLen])).set 5 _ (by simp [maxLen])).set 6 _ (by simp [maxLen])).set 7 _ (by simp [maxLen])).set 8 _ (by simp [maxLen])).set 9 _ (by simp [maxLen])).set 10 _ (by simp [maxLen]))
    have KQ : Kept gf (gf + 1) x13 x14 := by rw [← hx14]; exact (((((((((((Kept.setCell _ _ _ _).trans (Kept.setCell _ _ _ _)).trans (Kept.setCell _ _ _ _)).trans (Kept.setCell _ _ _ _)).trans (Kept.setCell _ _ _ _)).trans (Kept.setCell _ _ _ _)).trans (Kept.setCell _ _ _ _)).trans (Kept.setCell _ _ _ _)).trans (Kept.setCell _ _ _ _)).trans (Kept.setCell _ _ _ _)).trans (Kept.setCell _ _ _ _))
    clear hx14
    have B14 := hid (B13.out.trans (KQ.below (by have := hid8 L1 GA L2 HP L3 L4 Gge L5; have := hid8 L6 L7 L8 L9 Z9 L10 L11 L12; have := hid2 L13 L14; omega) B13.out.size))
    have KP14 := hid (KP13.out.keep (KQ.block _ KP13.out.lt (by have := hid8 L1 GA L2 HP L3 L4 Gge L5; have := hid8 L6 L7 L8 L9 Z9 L10 L11 L12; have := hid2 L13 L14; omega)))
    have KO14 := hid (KO13.out.keep (KQ.block _ KO13.out.lt (by have := hid8 L1 GA L2 HP L3 L4 Gge L5; have := hid8 L6 L7 L8 L9 Z9 L10 L11 L12; have := hid2 L13 L14; omega)))
    have R14 : Hid (Ready x1 a len cap l p x14) := rdyK R13.out KQ (by have := hid8 L1 GA L2 HP L3 L4 Gge L5; have := hid8 L6 L7 L8 L9 Z9 L10 L11 L12; have := hid2 L13 L14; omega)
    have OE14 := hid (OE13.out.carry KQ (by have := hid8 L1 GA L2 HP L3 L4 Gge L5; have := hid8 L6 L7 L8 L9 Z9 L10 L11 L12; have := hid2 L13 L14; omega))
    have KE14 := hid (KE13.out.keep (KQ.block _ KE13.out.lt (by have := hid8 L1 GA L2 HP L3 L4 Gge L5; have := hid8 L6 L7 L8 L9 Z9 L10 L11 L12; have := hid2 L13 L14; omega)))
    have OF14 := hid (OF13.out.carry KQ (by have := hid8 L1 GA L2 HP L3 L4 Gge L5; have := hid8 L6 L7 L8 L9 Z9 L10 L11 L12; have := hid2 L13 L14; omega))
    clear B13 KP13 KO13 R13 OE13 KE13 OF13 KQ
    clear KF13
    have KF14 := hid (KS)
    clear KS
    go_upto_region 13 with fail
    rw [HW14.out]
    clear HW14 co0 fo0 co1 fo1 co2 fo2 co3 fo3 co4 fo4 co5 fo5 co6 fo6 co7 fo7 co8 fo8 co9 fo9 co10 fo10
    obtain ⟨D1, hD⟩ : ∃ X : FrD, X = D2 := ⟨_, rfl⟩
    obtain ⟨S1, hS⟩ : ∃ X : FrS, X = S2 := ⟨_, rfl⟩
    obtain ⟨pz, hp⟩ : ∃ X : Nat, X = x12.heap.size := ⟨_, rfl⟩
    obtain ⟨qz, hq⟩ : ∃ X : Nat, X = x13.heap.size := ⟨_, rfl⟩
    have KN : Blk x14 gf 27 [.int .i64 D1.kind, .int .i64 D1.id, .slice S1.cn.a S1.cn.n S1.cn.c, .slice S1.sn.a S1.sn.n S1.sn.c, .int .i64 D1.tick, .slice S1.cookie.a S1.cookie.n S1.cookie.c, .slice S1.proof.a S1.proof.n S1.proof.c, .int .i64 D1.epoch, .int .i64 D1.seq, .slice S1.body.a S1.body.n S1.body.c, .slice S1.tag.a S1.tag.n S1.tag.c] := by rw [hD, hS]; exact KF14.out
    have ON : FrIn x14 pz qz S1 D1 := by rw [hD, hS, hp, hq]; exact OF14.out
    have Y9 : Hid (pz = x12.heap.size ∧ qz = x13.heap.size) := ⟨hp, hq⟩
    clear hD hS hp hq KF14 OF14
    have KF14 := hid (KN)
    have OF14 := hid (ON)
    clear KN ON
   case' false =>
    obtain ⟨x13, hx9, b⟩ : ∃ y, y = x12 ∧ Below x12.heap.size x12 y := ⟨x12, rfl, Below.refl _ _⟩
    rw [← hx9]
    clear hx9
    have L13 := hid (b.size)
    have B13 := hid (B12.out.trans (b.mono B12.out.size))
    have KP13 := hid (KP12.out.later b)
    have KO13 := hid (KO12.out.later b)
    have R13 : Hid (Ready x1 a len cap l p x13) := rdyL R12.out b
    have OE13 := hid (OE12.out.later b)
    have KE13 := hid (KE12.out.later b)
    have KF13 := hid (KF12.out.later b)
    have OF13 := hid (OF12.out.later b)
    clear B12 KP12 KO12 R12 OE12 KE12 KF12 OF12 b
    obtain ⟨x14, hx9, b⟩ : ∃ y, y = x13 ∧ Below x13.heap.size x13 y := ⟨x13, rfl, Below.refl _ _⟩
    rw [← hx9]
    clear hx9
    have L14 := hid (b.size)
    have B14 := hid (B13.out.trans (b.mono B13.out.size))
    have KP14 := hid (KP13.out.later b)
    have KO14 := hid (KO13.out.later b)
    have R14 : Hid (Ready x1 a len cap l p x14) := rdyL R13.out b
    have OE14 := hid (OE13.out.later b)
    have KE14 := hid (KE13.out.later b)
    have KF14 := hid (KF13.out.later b)
    have OF14 := hid (OF13.out.later b)
    clear B13 KP13 KO13 R13 OE13 KE13 KF13 OF13 b
    go_upto_region 13 with fail
    have Y9 : Hid (pz = pz ∧ qz = qz) := ⟨rfl, rfl⟩
   all_goals (
    have N1 : ge ≠ gp := by have := hid8 L1 GA L2 HP L3 L4 Gge L5; have := hid8 L6 L7 L8 L9 Z9 L10 L11 L12; have := hid3 L13 L14 Y9; omega
    have N2 : gf ≠ gp := by have := hid8 L1 GA L2 HP L3 L4 Gge L5; have := hid8 L6 L7 L8 L9 Z9 L10 L11 L12; have := hid3 L13 L14 Y9; omega
    have N3 : ge ≠ go := by have := hid8 L1 GA L2 HP L3 L4 Gge L5; have := hid8 L6 L7 L8 L9 Z9 L10 L11 L12; have := hid3 L13 L14 Y9; omega
    have N4 : gf ≠ go := by have := hid8 L1 GA L2 HP L3 L4 Gge L5; have := hid8 L6 L7 L8 L9 Z9 L10 L11 L12; have := hid3 L13 L14 Y9; omega
    have N5 : go ≠ gp := by have := hid8 L1 GA L2 HP L3 L4 Gge L5; have := hid8 L6 L7 L8 L9 Z9 L10 L11 L12; have := hid3 L13 L14 Y9; omega
    have XS := hide (s16 (drewB KE14.out) (drewB KF14.out))
    obtain ⟨vo0, vo1, vo2, vo3, vo4⟩ := c5 KP14.out
    obtain ⟨vp0, vp1, vp2, vp3, vp4⟩ := f5 KP14.out
    obtain ⟨ze0, ze1, ze2, ze3, ze4, zf0, zf1, zf2, zf3, zf4, zf5, zf6, zf7, zf8, zf9, zf10⟩ := s16 KE14.out KF14.out
    obtain ⟨vh0, vh1, vh2, vh3, vh4, vh5, vh6, vh7, vh8, vh9, vh10⟩ := c11 KO14.out
    obtain ⟨vg0, vg1, vg2, vg3, vg4, vg5, vg6, vg7, vg8, vg9, vg10⟩ := f11 KO14.out
    have zN := ep_other KE14.out N1 (.int .i64 D0.n) (.slice S0.key.a S0.key.n S0.key.c) (.int .i64 D0.seq) (.int .i64 D0.win.top) (.slice S0.win.bits.a S0.win.bits.n S0.win.bits.c)
    have zG := ep_other KF14.out N2 (.int .i64 D0.n) (.slice S0.key.a S0.key.n S0.key.c) (.int .i64 D0.seq) (.int .i64 D0.win.top) (.slice S0.win.bits.a S0.win.bits.n S0.win.bits.c)
    have ZS := hide (s16 (drewB zN) (drewB zG))
    have YS := hide (s16 (drewB (fr_other zN N3 (.int .i64 D1.kind) (.int .i64 D1.id) (.slice S1.cn.a S1.cn.n S1.cn.c) (.slice S1.sn.a S1.sn.n S1.sn.c) (.int .i64 D1.tick) (.slice S1.cookie.a S1.cookie.n S1.cookie.c) (.slice S1.proof.a S1.proof.n S1.proof.c) (.int .i64 D1.epoch) (.int .i64 D1.seq) (.slice S1.body.a S1.body.n S1.body.c) (.slice S1.tag.a S1.tag.n S1.tag.c))) (drewB (fr_other zG N4 (.int .i64 D1.kind) (.int .i64 D1.id) (.slice S1.cn.a S1.cn.n S1.cn.c) (.slice S1.sn.a S1.sn.n S1.sn.c) (.int .i64 D1.tick) (.slice S1.cookie.a S1.cookie.n S1.cookie.c) (.slice S1.proof.a S1.proof.n S1.proof.c) (.int .i64 D1.epoch) (.int .i64 D1.seq) (.slice S1.body.a S1.body.n S1.body.c) (.slice S1.tag.a S1.tag.n S1.tag.c))))
    clear zN zG
    go_region_held3 (fun w' => w'.cell? ⟨ge, 0, none⟩ = some (.int .i64 D0.n) ∧ w'.cell? ⟨ge, 1, none⟩ = some (.slice S0.key.a S0.key.n S0.key.c) ∧ w'.cell? ⟨ge, 2, none⟩ = some (.int .i64 D0.seq) ∧ w'.cell? ⟨ge, 3, none⟩ = some (.int .i64 D0.win.top) ∧ w'.cell? ⟨ge, 4, none⟩ = some (.slice S0.win.bits.a S0.win.bits.n S0.win.bits.c) ∧ w'.cell? ⟨gf, 0, none⟩ = some (.int .i64 D1.kind) ∧ w'.cell? ⟨gf, 1, none⟩ = some (.int .i64 D1.id) ∧ w'.cell? ⟨gf, 2, none⟩ = some (.slice S1.cn.a S1.cn.n S1.cn.c) ∧ w'.cell? ⟨gf, 3, none⟩ = some (.slice S1.sn.a S1.sn.n S1.sn.c) ∧ w'.cell? ⟨gf, 4, none⟩ = some (.int .i64 D1.tick) ∧ w'.cell? ⟨gf, 5, none⟩ = some (.slice S1.cookie.a S1.cookie.n S1.cookie.c) ∧ w'.cell? ⟨gf, 6, none⟩ = some (.slice S1.proof.a S1.proof.n S1.proof.c) ∧ w'.cell? ⟨gf, 7, none⟩ = some (.int .i64 D1.epoch) ∧ w'.cell? ⟨gf, 8, none⟩ = some (.int .i64 D1.seq) ∧ w'.cell? ⟨gf, 9, none⟩ = some (.slice S1.body.a S1.body.n S1.body.c) ∧ w'.cell? ⟨gf, 10, none⟩ = some (.slice S1.tag.a S1.tag.n S1.tag.c)) (first | with_reducible exact YS.out | with_reducible exact ZS.out | with_reducible exact ⟨ze0, ze1, ze2, ze3, ze4, zf0, zf1, zf2, zf3, zf4, zf5, zf6, zf7, zf8, zf9, zf10⟩ | with_reducible exact XS.out | go_keep) (fail)
    clear XS ZS YS ze0 vo0 vp0 ze1 vo1 vp1 ze2 vo2 vp2 ze3 vo3 vp3 ze4 vo4 vp4 zf0 vh0 vg0 zf1 vh1 vg1 zf2 vh2 vg2 zf3 vh3 vg3 zf4 vh4 vg4 zf5 vh5 vg5 zf6 vh6 vg6 zf7 vh7 vg7 zf8 vh8 vg8 zf9 vh9 vg9 zf10 vh10 vg10
    go_wp2
    have SZF : Hid (w.heap.size ≤ gp ∧ gp + 1 = go ∧ go + 1 ≤ x2.heap.size ∧ x2.heap.size ≤ x3.heap.size ∧ x3.heap.size ≤ x14.heap.size ∧ go + 1 ≤ pz ∧ qz ≤ x14.heap.size) := by have := hid8 L1 GA L2 HP L3 L4 Gge L5; have := hid8 L6 L7 L8 L9 Z9 L10 L11 L12; have := hid3 L13 L14 Y9; show _ ∧ _; omega
    obtain ⟨k1, k2, k3⟩ := ep_stored (D := D0) (S := S0) (lo := x2.heap.size) (hi := x3.heap.size) KP14.out OE14.out (.inl (by have := SZF.out; omega))
    have kh := ep_other KO14.out N5 (.int .i64 D0.n) (.slice S0.key.a S0.key.n S0.key.c) (.int .i64 D0.seq) (.int .i64 D0.win.top) (.slice S0.win.bits.a S0.win.bits.n S0.win.bits.c)
    have f1 := fr_put kh (.int .i64 D1.kind) (.int .i64 D1.id) (.slice S1.cn.a S1.cn.n S1.cn.c) (.slice S1.sn.a S1.sn.n S1.sn.c) (.int .i64 D1.tick) (.slice S1.cookie.a S1.cookie.n S1.cookie.c) (.slice S1.proof.a S1.proof.n S1.proof.c) (.int .i64 D1.epoch) (.int .i64 D1.seq) (.slice S1.body.a S1.body.n S1.body.c) (.slice S1.tag.a S1.tag.n S1.tag.c)
    have k4 := fr_other k1 (Ne.symm N5) (.int .i64 D1.kind) (.int .i64 D1.id) (.slice S1.cn.a S1.cn.n S1.cn.c) (.slice S1.sn.a S1.sn.n S1.sn.c) (.int .i64 D1.tick) (.slice S1.cookie.a S1.cookie.n S1.cookie.c) (.slice S1.proof.a S1.proof.n S1.proof.c) (.int .i64 D1.epoch) (.int .i64 D1.seq) (.slice S1.body.a S1.body.n S1.body.c) (.slice S1.tag.a S1.tag.n S1.tag.c)
    have of := (OF14.out.carry (ep_kept _ gp (.int .i64 D0.n) (.slice S0.key.a S0.key.n S0.key.c) (.int .i64 D0.seq) (.int .i64 D0.win.top) (.slice S0.win.bits.a S0.win.bits.n S0.win.bits.c)) (.inr (by have := SZF.out; omega))).carry (fr_kept _ go (.int .i64 D1.kind) (.int .i64 D1.id) (.slice S1.cn.a S1.cn.n S1.cn.c) (.slice S1.sn.a S1.sn.n S1.sn.c) (.int .i64 D1.tick) (.slice S1.cookie.a S1.cookie.n S1.cookie.c) (.slice S1.proof.a S1.proof.n S1.proof.c) (.int .i64 D1.epoch) (.int .i64 D1.seq) (.slice S1.body.a S1.body.n S1.body.c) (.slice S1.tag.a S1.tag.n S1.tag.c)) (.inr (by have := SZF.out; omega))
    have oe := k2.carry (fr_kept _ go (.int .i64 D1.kind) (.int .i64 D1.id) (.slice S1.cn.a S1.cn.n S1.cn.c) (.slice S1.sn.a S1.sn.n S1.sn.c) (.int .i64 D1.tick) (.slice S1.cookie.a S1.cookie.n S1.cookie.c) (.slice S1.proof.a S1.proof.n S1.proof.c) (.int .i64 D1.epoch) (.int .i64 D1.seq) (.slice S1.body.a S1.body.n S1.body.c) (.slice S1.tag.a S1.tag.n S1.tag.c)) (.inr (by have := SZF.out; omega))
    have b9 := fr_low (k3 _ _ (show w.heap.size ≤ gp by have := SZF.out; omega) B14.out) (g := go) (by have := SZF.out; omega) (.int .i64 D1.kind) (.int .i64 D1.id) (.slice S1.cn.a S1.cn.n S1.cn.c) (.slice S1.sn.a S1.sn.n S1.sn.c) (.int .i64 D1.tick) (.slice S1.cookie.a S1.cookie.n S1.cookie.c) (.slice S1.proof.a S1.proof.n S1.proof.c) (.int .i64 D1.epoch) (.int .i64 D1.seq) (.slice S1.body.a S1.body.n S1.body.c) (.slice S1.tag.a S1.tag.n S1.tag.c)
    exact bodyPost_ret (v := .tuple #[epV D0 S0, .int .i64 ro, frV D1 S1]) (res3 rfl (is_cell rfl (drewB k4) aggEp) (is_tmp rfl) (is_cell rfl (drewB f1) aggFr)) rfl ⟨D0, S0, ro, D1, S1, rfl, HS0.out, (oe.later ((Below.refl _ _).drew)).rd, (of.later ((Below.refl _ _).drew)).rd, b9.drew⟩)))
end Go.Proofs.YtmcflfpckpjphaaGreatDoor.DrOp
