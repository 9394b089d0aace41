/-
  What spec.DrawEpOpen gives: an epoch, a role and a frame, right or not.
-/
import Derived.Test.YtmcflfpckpjphaaGreatDoorDrEp
import Derived.Test.YtmcflfpckpjphaaGreatDoorDrBe
import Derived.Test.YtmcflfpckpjphaaGreatDoorSealS
import Derived.Deep.RegionHeld3
namespace Go.Proofs.YtmcflfpckpjphaaGreatDoor.DrOp
open Go.RowKit Go.Proofs.YtmcflfpckpjphaaGreatDoor.Mem Go.Proofs.YtmcflfpckpjphaaGreatDoor.App Go.Proofs.YtmcflfpckpjphaaGreatDoor.Blk Go.Proofs.YtmcflfpckpjphaaGreatDoor.Zone Go.Proofs.YtmcflfpckpjphaaGreatDoor.ZoneI Go.Proofs.YtmcflfpckpjphaaGreatDoor.Draw Go.Proofs.YtmcflfpckpjphaaGreatDoor.Res Go.Proofs.YtmcflfpckpjphaaGreatDoor.WnZ Go.Proofs.YtmcflfpckpjphaaGreatDoor.FrZ Go.Proofs.YtmcflfpckpjphaaGreatDoor.FrP Go.Proofs.YtmcflfpckpjphaaGreatDoor.FrL Go.Proofs.YtmcflfpckpjphaaGreatDoor.DrN Go.Proofs.YtmcflfpckpjphaaGreatDoor.DrCp Go.Proofs.YtmcflfpckpjphaaGreatDoor.DrBe Go.Proofs.YtmcflfpckpjphaaGreatDoor.DrKd Go.Proofs.YtmcflfpckpjphaaGreatDoor.DrEp Go.Proofs.YtmcflfpckpjphaaGreatDoor.SlP Go.Proofs.YtmcflfpckpjphaaGreatDoor.SlQ Go.Proofs.YtmcflfpckpjphaaGreatDoor.EpZ Go.Proofs.YtmcflfpckpjphaaGreatDoor.EpL Go.Proofs.YtmcflfpckpjphaaGreatDoor.EpP Go.Proofs.YtmcflfpckpjphaaGreatDoor.Each Go.Proofs.YtmcflfpckpjphaaGreatDoor.Copy Go.Proofs.YtmcflfpckpjphaaGreatDoor.Ops
set_option maxRecDepth 100000 in
theorem hide {p : Prop} (h : p) : Hid p := h
set_option maxRecDepth 100000 in
theorem drewB {w : World} {g : Nat} {t : TypeId} {cs : List Value} (h : Blk w g t cs) : Blk w.drew g t cs := h
set_option maxRecDepth 100000 in
set_option maxHeartbeats 40000000 in
theorem drawEpOpen (a : Option Addr) (len cap : Nat) (l : List Int) (w : World) (hl : len = l.length) (hr : Rd w a l) (hb : Bytes l) (hlen : len ≤ 1048576) :
    Calls Tryz.prog 31 #[.slice a len cap] w fun e w' => ∃ (D : EpD) (S : EpS) (ro : Int) (F : FrD) (T : FrS), e = .returned (.tuple #[epV D S, .int .i64 ro, frV F T]) ∧ EpShort D 65536 ∧ EpRd w' S D ∧ FrRd w' T F ∧ Below w.heap.size w w' := by
  have HR : Hid (Rd w a l) := hr
  have HL : Hid (len = l.length) := hl
  have HB : Hid (Bytes l) := hb
  clear hr hl hb
  have B0 : Hid (Below w.heap.size w w) := Below.refl _ _
  obtain ⟨x1, hx1⟩ : ∃ x1, ((w.alloc (.cells #[.int .i64 0, .slice none 0 0, .int .i64 0, .int .i64 0, .slice none 0 0] 41)).alloc (.cells #[.int .i64 0, .int .i64 0, .slice none 0 0, .slice none 0 0, .int .i64 0, .slice none 0 0, .slice none 0 0, .int .i64 0, .int .i64 0, .slice none 0 0, .slice none 0 0] 27)) = x1 := ⟨_, rfl⟩
  have HWA : Hid (((w.alloc (.cells #[.int .i64 0, .slice none 0 0, .int .i64 0, .int .i64 0, .slice none 0 0] 41)).alloc (.cells #[.int .i64 0, .int .i64 0, .slice none 0 0, .slice none 0 0, .int .i64 0, .slice none 0 0, .slice none 0 0, .int .i64 0, .int .i64 0, .slice none 0 0, .slice none 0 0] 27)) = x1) := hx1
  have b1 : Below w.heap.size w x1 := by rw [← hx1]; exact (((Below.refl _ _).alloc (Nat.le_refl _) _).alloc (by simp) _)
  have KPN : Blk x1 (w.heap.size) 41 [.int .i64 0, .slice none 0 0, .int .i64 0, .int .i64 0, .slice none 0 0] := by
    have q := (Blk.new w 41 [.int .i64 0, .slice none 0 0, .int .i64 0, .int .i64 0, .slice none 0 0])
    skip
    rw [← hx1]; exact q.alloc _
  have KON : Blk x1 (w.heap.size + 1) 27 [.int .i64 0, .int .i64 0, .slice none 0 0, .slice none 0 0, .int .i64 0, .slice none 0 0, .slice none 0 0, .int .i64 0, .int .i64 0, .slice none 0 0, .slice none 0 0] := by
    have q := (Blk.new (w.alloc (.cells #[.int .i64 0, .slice none 0 0, .int .i64 0, .int .i64 0, .slice none 0 0] 41)) 27 [.int .i64 0, .int .i64 0, .slice none 0 0, .slice none 0 0, .int .i64 0, .slice none 0 0, .slice none 0 0, .int .i64 0, .int .i64 0, .slice none 0 0, .slice none 0 0])
    rw [World.size_alloc] at q
    rw [← hx1]; exact q
  have SZA : x1.heap.size = w.heap.size + 2 := by rw [← hx1]; simp
  clear hx1
  have L1 : Hid (w.heap.size ≤ x1.heap.size) := b1.size
  have B1 : Hid (Below w.heap.size w x1) := B0.out.trans (b1.mono B0.out.size)
  clear B0 b1
  go_enter Tryz.func31, Tryz.ntmps31
  go_upto_region 1 with fail
  rw [HWA.out]
  obtain ⟨gp, hgp⟩ : ∃ g, w.heap.size = g := ⟨_, rfl⟩
  obtain ⟨go, hgo⟩ : ∃ g, w.heap.size + 1 = g := ⟨_, rfl⟩
  have GA : Hid (w.heap.size = gp ∧ gp + 1 = go ∧ x1.heap.size = gp + 2) := ⟨hgp, by omega, by omega⟩
  rw [hgp] at KPN
  rw [hgo] at KON
  rw [hgo, hgp]
  clear HWA SZA hgp hgo
  have KP1 : Hid (Blk x1 gp 41 [.int .i64 0, .slice none 0 0, .int .i64 0, .int .i64 0, .slice none 0 0]) := KPN
  have KO1 : Hid (Blk x1 go 27 [.int .i64 0, .int .i64 0, .slice none 0 0, .slice none 0 0, .int .i64 0, .slice none 0 0, .slice none 0 0, .int .i64 0, .int .i64 0, .slice none 0 0, .slice none 0 0]) := KON
  clear KPN KON
  go_wp2_with fail
  refine (newCur a len cap l x1 HL.out (HR.out.later B1.out (Nat.le_refl _)) HB.out hlen).mono ?_
  rintro e x2 ⟨p, rfl, r⟩
  have b := r.hB
  have HP : Hid (x1.heap.size ≤ p ∧ p < x2.heap.size) := ⟨r.hp, r.hc.lt⟩
  have L2 : Hid (x1.heap.size ≤ x2.heap.size) := b.size
  have B2 : Hid (Below w.heap.size w x2) := B1.out.trans (b.mono B1.out.size)
  have KP2 : Hid (Blk x2 gp 41 [.int .i64 0, .slice none 0 0, .int .i64 0, .int .i64 0, .slice none 0 0]) := KP1.out.later b
  have KO2 : Hid (Blk x2 go 27 [.int .i64 0, .int .i64 0, .slice none 0 0, .slice none 0 0, .int .i64 0, .slice none 0 0, .slice none 0 0, .int .i64 0, .int .i64 0, .slice none 0 0, .slice none 0 0]) := KO1.out.later b
  clear B1 KP1 KO1 b
  have R2 : Hid (Ready x1 a len cap l p x2) := r
  clear r
  go_wp2_with fail
  refine (l9Any R2.out).mono ?_
  rintro e x3 ⟨S0, D0, rfl, sh, o, r, b⟩
  have HS0 : Hid (EpShort D0 65536) := sh
  clear sh
  have L3 : Hid (x2.heap.size ≤ x3.heap.size) := b.size
  have KQ : Kept p (p + 1) x2 x3 := Kept.of_grown b
  have B3 : Hid (Below w.heap.size w x3) := But.below b B2.out (by have := L1.out; have := GA.out; have := L2.out; have := HP.out; have := L3.out; omega)
  have KP3 : Hid (Blk x3 gp 41 [.int .i64 0, .slice none 0 0, .int .i64 0, .int .i64 0, .slice none 0 0]) := KP2.out.keep (KQ.block _ KP2.out.lt (by have := L1.out; have := GA.out; have := L2.out; have := HP.out; have := L3.out; omega))
  have KO3 : Hid (Blk x3 go 27 [.int .i64 0, .int .i64 0, .slice none 0 0, .slice none 0 0, .int .i64 0, .slice none 0 0, .slice none 0 0, .int .i64 0, .int .i64 0, .slice none 0 0, .slice none 0 0]) := KO2.out.keep (KQ.block _ KO2.out.lt (by have := L1.out; have := GA.out; have := L2.out; have := HP.out; have := L3.out; omega))
  have R3 : Hid (Ready x1 a len cap l p x3) := r
  clear B2 KP2 KO2 R2 b
  clear KQ r
  have OE3 : Hid (EpOwn x3 x2.heap.size x3.heap.size S0 D0) := o
  clear o
  obtain ⟨x4, hx4⟩ : ∃ x4, x3.alloc (.cells #[.int .i64 D0.n, .slice S0.key.a S0.key.n S0.key.c, .int .i64 D0.seq, .int .i64 D0.win.top, .slice S0.win.bits.a S0.win.bits.n S0.win.bits.c] 41) = x4 := ⟨_, rfl⟩
  have HW4 : Hid (x3.alloc (.cells #[.int .i64 D0.n, .slice S0.key.a S0.key.n S0.key.c, .int .i64 D0.seq, .int .i64 D0.win.top, .slice S0.win.bits.a S0.win.bits.n S0.win.bits.c] 41) = x4) := hx4
  have b4 : Below x3.heap.size x3 x4 := by rw [← hx4]; exact (Below.refl _ _).alloc (Nat.le_refl _) _
  have KN : Blk x4 x3.heap.size 41 [.int .i64 D0.n, .slice S0.key.a S0.key.n S0.key.c, .int .i64 D0.seq, .int .i64 D0.win.top, .slice S0.win.bits.a S0.win.bits.n S0.win.bits.c] := by rw [← hx4]; exact Blk.new x3 _ _
  have HSZ4 : Hid (x4.heap.size = x3.heap.size + 1) := by rw [← hx4]; show _ = _; simp
  clear hx4
  have L4 : Hid (x3.heap.size ≤ x4.heap.size) := b4.size
  have B4 : Hid (Below w.heap.size w x4) := B3.out.trans (b4.mono B3.out.size)
  have KP4 : Hid (Blk x4 gp 41 [.int .i64 0, .slice none 0 0, .int .i64 0, .int .i64 0, .slice none 0 0]) := KP3.out.later b4
  have KO4 : Hid (Blk x4 go 27 [.int .i64 0, .int .i64 0, .slice none 0 0, .slice none 0 0, .int .i64 0, .slice none 0 0, .slice none 0 0, .int .i64 0, .int .i64 0, .slice none 0 0, .slice none 0 0]) := KO3.out.later b4
  have R4 : Hid (Ready x1 a len cap l p x4) := rdyL R3.out b4
  have OE4 : Hid (EpOwn x4 x2.heap.size x3.heap.size S0 D0) := OE3.out.later b4
  clear B3 KP3 KO3 R3 OE3 b4
  unfold epV
  go_upto_region 3 with fail
  rw [HW4.out]
  obtain ⟨ge, hge⟩ : ∃ g, x3.heap.size = g := ⟨_, rfl⟩
  have Gge : Hid (x3.heap.size = ge ∧ x4.heap.size = ge + 1) := ⟨hge, by rw [← hge]; exact HSZ4.out⟩
  rw [hge] at KN ⊢
  clear HW4 HSZ4 hge
  have KE4 : Hid (Blk x4 ge 41 [.int .i64 D0.n, .slice S0.key.a S0.key.n S0.key.c, .int .i64 D0.seq, .int .i64 D0.win.top, .slice S0.win.bits.a S0.win.bits.n S0.win.bits.c]) := KN
  clear KN
  go_wp2_with fail
  refine (l9Kind R4.out).mono ?_
  rintro e x5 ⟨kd, Pt, lp, rfl, pl40, oN, r, b⟩
  have PLPt : Hid (lp.length ≤ 40) := pl40
  clear pl40
  have L5 : Hid (x4.heap.size ≤ x5.heap.size) := b.size
  have KQ : Kept p (p + 1) x4 x5 := Kept.of_grown b
  have B5 : Hid (Below w.heap.size w x5) := But.below b B4.out (by have := L1.out; have := GA.out; have := L2.out; have := HP.out; have := L3.out; have := L4.out; have := Gge.out; have := L5.out; omega)
  have KP5 : Hid (Blk x5 gp 41 [.int .i64 0, .slice none 0 0, .int .i64 0, .int .i64 0, .slice none 0 0]) := KP4.out.keep (KQ.block _ KP4.out.lt (by have := L1.out; have := GA.out; have := L2.out; have := HP.out; have := L3.out; have := L4.out; have := Gge.out; have := L5.out; omega))
  have KO5 : Hid (Blk x5 go 27 [.int .i64 0, .int .i64 0, .slice none 0 0, .slice none 0 0, .int .i64 0, .slice none 0 0, .slice none 0 0, .int .i64 0, .int .i64 0, .slice none 0 0, .slice none 0 0]) := KO4.out.keep (KQ.block _ KO4.out.lt (by have := L1.out; have := GA.out; have := L2.out; have := HP.out; have := L3.out; have := L4.out; have := Gge.out; have := L5.out; omega))
  have R5 : Hid (Ready x1 a len cap l p x5) := r
  have OE5 : Hid (EpOwn x5 x2.heap.size x3.heap.size S0 D0) := OE4.out.carry KQ (by have := L1.out; have := GA.out; have := L2.out; have := HP.out; have := L3.out; have := L4.out; have := Gge.out; have := L5.out; omega)
  have KE5 : Hid (Blk x5 ge 41 [.int .i64 D0.n, .slice S0.key.a S0.key.n S0.key.c, .int .i64 D0.seq, .int .i64 D0.win.top, .slice S0.win.bits.a S0.win.bits.n S0.win.bits.c]) := KE4.out.keep (KQ.block _ KE4.out.lt (by have := L1.out; have := GA.out; have := L2.out; have := HP.out; have := L3.out; have := L4.out; have := Gge.out; have := L5.out; omega))
  clear B4 KP4 KO4 R4 OE4 KE4 b
  clear KQ r
  have OPt5 : Hid (SOwn x5 x4.heap.size x5.heap.size Pt lp) := oN
  clear oN
  go_wp2_with fail
  refine (Draw.below R5.out 2 (by omega) (by omega)).mono ?_
  rintro e x6 ⟨ro, rfl, va, vb, r, b⟩
  have VBro : Hid (0 ≤ ro ∧ ro < 2) := ⟨va, vb⟩
  clear va vb
  have L6 : Hid (x5.heap.size ≤ x6.heap.size) := b.size
  have KQ : Kept p (p + 1) x5 x6 := Kept.of_grown b
  have B6 : Hid (Below w.heap.size w x6) := But.below b B5.out (by have := L1.out; have := GA.out; have := L2.out; have := HP.out; have := L3.out; have := L4.out; have := Gge.out; have := L5.out; have := L6.out; omega)
  have KP6 : Hid (Blk x6 gp 41 [.int .i64 0, .slice none 0 0, .int .i64 0, .int .i64 0, .slice none 0 0]) := KP5.out.keep (KQ.block _ KP5.out.lt (by have := L1.out; have := GA.out; have := L2.out; have := HP.out; have := L3.out; have := L4.out; have := Gge.out; have := L5.out; have := L6.out; omega))
  have KO6 : Hid (Blk x6 go 27 [.int .i64 0, .int .i64 0, .slice none 0 0, .slice none 0 0, .int .i64 0, .slice none 0 0, .slice none 0 0, .int .i64 0, .int .i64 0, .slice none 0 0, .slice none 0 0]) := KO5.out.keep (KQ.block _ KO5.out.lt (by have := L1.out; have := GA.out; have := L2.out; have := HP.out; have := L3.out; have := L4.out; have := Gge.out; have := L5.out; have := L6.out; omega))
  have R6 : Hid (Ready x1 a len cap l p x6) := r
  have OE6 : Hid (EpOwn x6 x2.heap.size x3.heap.size S0 D0) := OE5.out.carry KQ (by have := L1.out; have := GA.out; have := L2.out; have := HP.out; have := L3.out; have := L4.out; have := Gge.out; have := L5.out; have := L6.out; omega)
  have KE6 : Hid (Blk x6 ge 41 [.int .i64 D0.n, .slice S0.key.a S0.key.n S0.key.c, .int .i64 D0.seq, .int .i64 D0.win.top, .slice S0.win.bits.a S0.win.bits.n S0.win.bits.c]) := KE5.out.keep (KQ.block _ KE5.out.lt (by have := L1.out; have := GA.out; have := L2.out; have := HP.out; have := L3.out; have := L4.out; have := Gge.out; have := L5.out; have := L6.out; omega))
  have OPt6 : Hid (SOwn x6 x4.heap.size x5.heap.size Pt lp) := OPt5.out.carry KQ (by have := L1.out; have := GA.out; have := L2.out; have := HP.out; have := L3.out; have := L4.out; have := Gge.out; have := L5.out; have := L6.out; omega)
  clear B5 KP5 KO5 R5 OE5 KE5 OPt5 b
  clear KQ r
  have TA : Hid (Below x6.heap.size x6 (x6.drew.alloc (.cells #[.int .i64 1, .int .i64 1, .int .i64 2, .int .i64 0, .int .i64 (-1), .int .i64 (-2), .int .i64 (-1023), .int .i64 (-1024)] 3))) := ((Below.refl _ _).drew).alloc (Nat.le_refl _) _
  have TB : Hid (Below x6.heap.size x6 (x6.alloc (.cells #[.int .i64 1, .int .i64 1, .int .i64 2, .int .i64 0, .int .i64 (-1), .int .i64 (-2), .int .i64 (-1023), .int .i64 (-1024)] 3)).drew) := ((Below.refl _ _).alloc (Nat.le_refl _) _).drew
  have LIA : Hid (IntsAt (x6.drew.alloc (.cells #[.int .i64 1, .int .i64 1, .int .i64 2, .int .i64 0, .int .i64 (-1), .int .i64 (-2), .int .i64 (-1023), .int .i64 (-1024)] 3)) x6.heap.size [1, 1, 2, 0, -1, -2, -1023, -1024]) := ints_new x6.drew [1, 1, 2, 0, -1, -2, -1023, -1024]
  have LIB : Hid (IntsAt (x6.alloc (.cells #[.int .i64 1, .int .i64 1, .int .i64 2, .int .i64 0, .int .i64 (-1), .int .i64 (-2), .int .i64 (-1023), .int .i64 (-1024)] 3)).drew x6.heap.size [1, 1, 2, 0, -1, -2, -1023, -1024]) := ints_new x6 [1, 1, 2, 0, -1, -2, -1023, -1024]
  have NI : Hid (x6.heap.size ≠ p ∧ ge ≠ p) := by have := R6.out.hc.lt; have := L1.out; have := GA.out; have := L2.out; have := HP.out; have := L3.out; have := L4.out; have := Gge.out; have := L5.out; have := L6.out; show _ ∧ _; omega
  go_upto_region 5 with fail
  go_cut [10] from 24 to 30 (fun s10 wx => ∃ z : Int, s10 = .int .i64 z ∧ Ready x1 a len cap l p wx ∧ But p x6 wx)
  case first =>
    rename_i J K' hRJ hMet
    have c3 := KE6.out.cell 3 rfl
    have cD := hide ((KE6.out.later (Below.refl _ _).drew).cell 3 rfl)
    have cA := hide ((KE6.out.later TA.out).cell 3 rfl)
    have cB := hide ((KE6.out.later TB.out).cell 3 rfl)
    have cC := hide ((KE6.out.alloc (.cells #[.int .i64 1, .int .i64 1, .int .i64 2, .int .i64 0, .int .i64 (-1), .int .i64 (-2), .int .i64 (-1023), .int .i64 (-1024)] 3)).cell 3 rfl)
    go_region_held3 (fun w' => w'.cell? ⟨ge, 3, none⟩ = some (.int .i64 D0.win.top)) (first | with_reducible exact d3 | with_reducible exact cA.out | with_reducible exact cB.out | with_reducible exact cC.out | with_reducible exact cD.out | with_reducible exact c3 | fail)
      (first
        | (go_at_call 52; refine (intOfList (rdyL R6.out TA.out) x6.heap.size 8 [1, 1, 2, 0, -1, -2, -1023, -1024] rfl LIA.out NI.out.1 (by omega) (by omega)).mono ?_; rintro e y1 ⟨u, rfl, _, r, b⟩; have R1 : Hid (Ready x1 a len cap l p y1) := r; have T1 : Hid (But p x6 y1) := (butL (But.refl p x6) TA.out).trans b; have d3 := (KE6.out.keep (T1.out.block ge KE6.out.lt (by simp only [ne_eq, Option.some.injEq]; exact NI.out.2))).cell 3 rfl; clear r b)
        | (go_at_call 52; refine (intOfList (rdyL R6.out TB.out) x6.heap.size 8 [1, 1, 2, 0, -1, -2, -1023, -1024] rfl LIB.out NI.out.1 (by omega) (by omega)).mono ?_; rintro e y1 ⟨u, rfl, _, r, b⟩; have R1 : Hid (Ready x1 a len cap l p y1) := r; have T1 : Hid (But p x6 y1) := (butL (But.refl p x6) TB.out).trans b; have d3 := (KE6.out.keep (T1.out.block ge KE6.out.lt (by simp only [ne_eq, Option.some.injEq]; exact NI.out.2))).cell 3 rfl; clear r b))
    all_goals (
      show K' _ _
      exact hMet _ _ (Met.intro (hRJ _ _ ⟨_, _, _, _, _, _, _, _, ⟨_, rfl, R1.out, T1.out⟩, rfl⟩)))
  case rest =>
  obtain ⟨x7, hxc⟩ : ∃ zz, zz = wc := ⟨_, rfl⟩
  subst hxc
  obtain ⟨z, rfl, r, b⟩ := hcut
  clear TA TB LIA LIB NI
  have L7 : Hid (x6.heap.size ≤ x7.heap.size) := b.size
  have KQ : Kept p (p + 1) x6 x7 := Kept.of_grown b
  have B7 : Hid (Below w.heap.size w x7) := But.below b B6.out (by have := L1.out; have := GA.out; have := L2.out; have := HP.out; have := L3.out; have := L4.out; have := Gge.out; have := L5.out; have := L6.out; have := L7.out; omega)
  have KP7 : Hid (Blk x7 gp 41 [.int .i64 0, .slice none 0 0, .int .i64 0, .int .i64 0, .slice none 0 0]) := KP6.out.keep (KQ.block _ KP6.out.lt (by have := L1.out; have := GA.out; have := L2.out; have := HP.out; have := L3.out; have := L4.out; have := Gge.out; have := L5.out; have := L6.out; have := L7.out; omega))
  have KO7 : Hid (Blk x7 go 27 [.int .i64 0, .int .i64 0, .slice none 0 0, .slice none 0 0, .int .i64 0, .slice none 0 0, .slice none 0 0, .int .i64 0, .int .i64 0, .slice none 0 0, .slice none 0 0]) := KO6.out.keep (KQ.block _ KO6.out.lt (by have := L1.out; have := GA.out; have := L2.out; have := HP.out; have := L3.out; have := L4.out; have := Gge.out; have := L5.out; have := L6.out; have := L7.out; omega))
  have R7 : Hid (Ready x1 a len cap l p x7) := r
  have OE7 : Hid (EpOwn x7 x2.heap.size x3.heap.size S0 D0) := OE6.out.carry KQ (by have := L1.out; have := GA.out; have := L2.out; have := HP.out; have := L3.out; have := L4.out; have := Gge.out; have := L5.out; have := L6.out; have := L7.out; omega)
  have KE7 : Hid (Blk x7 ge 41 [.int .i64 D0.n, .slice S0.key.a S0.key.n S0.key.c, .int .i64 D0.seq, .int .i64 D0.win.top, .slice S0.win.bits.a S0.win.bits.n S0.win.bits.c]) := KE6.out.keep (KQ.block _ KE6.out.lt (by have := L1.out; have := GA.out; have := L2.out; have := HP.out; have := L3.out; have := L4.out; have := Gge.out; have := L5.out; have := L6.out; have := L7.out; omega))
  have OPt7 : Hid (SOwn x7 x4.heap.size x5.heap.size Pt lp) := OPt6.out.carry KQ (by have := L1.out; have := GA.out; have := L2.out; have := HP.out; have := L3.out; have := L4.out; have := Gge.out; have := L5.out; have := L6.out; have := L7.out; omega)
  clear B6 KP6 KO6 R6 OE6 KE6 OPt6 b
  clear KQ r
  by_cases hz : z < 0
  case pos =>
    go_wp2_with fail
    refine (Draw.below R7.out 5 (by omega) (by omega)).mono ?_
    rintro e x8 ⟨u, rfl, va, vb, r, b⟩
    have VBu : Hid (0 ≤ u ∧ u < 5) := ⟨va, vb⟩
    clear va vb
    have L8 : Hid (x7.heap.size ≤ x8.heap.size) := b.size
    have KQ : Kept p (p + 1) x7 x8 := Kept.of_grown b
    have B8 : Hid (Below w.heap.size w x8) := But.below b B7.out (by have := L1.out; have := GA.out; have := L2.out; have := HP.out; have := L3.out; have := L4.out; have := Gge.out; have := L5.out; have := L6.out; have := L7.out; have := L8.out; omega)
    have KP8 : Hid (Blk x8 gp 41 [.int .i64 0, .slice none 0 0, .int .i64 0, .int .i64 0, .slice none 0 0]) := KP7.out.keep (KQ.block _ KP7.out.lt (by have := L1.out; have := GA.out; have := L2.out; have := HP.out; have := L3.out; have := L4.out; have := Gge.out; have := L5.out; have := L6.out; have := L7.out; have := L8.out; omega))
    have KO8 : Hid (Blk x8 go 27 [.int .i64 0, .int .i64 0, .slice none 0 0, .slice none 0 0, .int .i64 0, .slice none 0 0, .slice none 0 0, .int .i64 0, .int .i64 0, .slice none 0 0, .slice none 0 0]) := KO7.out.keep (KQ.block _ KO7.out.lt (by have := L1.out; have := GA.out; have := L2.out; have := HP.out; have := L3.out; have := L4.out; have := Gge.out; have := L5.out; have := L6.out; have := L7.out; have := L8.out; omega))
    have R8 : Hid (Ready x1 a len cap l p x8) := r
    have OE8 : Hid (EpOwn x8 x2.heap.size x3.heap.size S0 D0) := OE7.out.carry KQ (by have := L1.out; have := GA.out; have := L2.out; have := HP.out; have := L3.out; have := L4.out; have := Gge.out; have := L5.out; have := L6.out; have := L7.out; have := L8.out; omega)
    have KE8 : Hid (Blk x8 ge 41 [.int .i64 D0.n, .slice S0.key.a S0.key.n S0.key.c, .int .i64 D0.seq, .int .i64 D0.win.top, .slice S0.win.bits.a S0.win.bits.n S0.win.bits.c]) := KE7.out.keep (KQ.block _ KE7.out.lt (by have := L1.out; have := GA.out; have := L2.out; have := HP.out; have := L3.out; have := L4.out; have := Gge.out; have := L5.out; have := L6.out; have := L7.out; have := L8.out; omega))
    have OPt8 : Hid (SOwn x8 x4.heap.size x5.heap.size Pt lp) := OPt7.out.carry KQ (by have := L1.out; have := GA.out; have := L2.out; have := HP.out; have := L3.out; have := L4.out; have := Gge.out; have := L5.out; have := L6.out; have := L7.out; have := L8.out; omega)
    clear B7 KP7 KO7 R7 OE7 KE7 OPt7 b
    clear KQ r
    have TD : Hid (Below x8.heap.size x8 x8.drew) := (Below.refl _ _).drew
    have TB : Hid (Below x8.heap.size x8 (x8.alloc (.cells #[.int .i64 0, .int .i64 0, .slice none 0 0, .slice none 0 0, .int .i64 0, .slice none 0 0, .slice none 0 0, .int .i64 0, .int .i64 0, .slice none 0 0, .slice none 0 0] 27)).drew) := ((Below.refl _ _).alloc (Nat.le_refl _) _).drew
    have GA : Hid (Blk (x8.alloc (.cells #[.int .i64 0, .int .i64 0, .slice none 0 0, .slice none 0 0, .int .i64 0, .slice none 0 0, .slice none 0 0, .int .i64 0, .int .i64 0, .slice none 0 0, .slice none 0 0] 27)).drew x8.heap.size 27 [.int .i64 0, .int .i64 0, .slice none 0 0, .slice none 0 0, .int .i64 0, .slice none 0 0, .slice none 0 0, .int .i64 0, .int .i64 0, .slice none 0 0, .slice none 0 0]) := Blk.new x8 _ _
    have NI : Hid (x8.heap.size ≠ p ∧ ge ≠ p ∧ p < x8.heap.size) := by have := R8.out.hc.lt; have := L1.out; have := GA.out; have := L2.out; have := HP.out; have := L3.out; have := L4.out; have := Gge.out; have := L5.out; have := L6.out; have := L7.out; have := L8.out; show _ ∧ _; omega
    go_upto_region 8 with fail
    go_cut [11, 12] from 35 to 48 (fun s11 s12 wx => ∃ g D1 S1 pz qz bb, s11 = .pointer (some ⟨g, 0, none⟩) ∧ s12 = .bool bb ∧ Blk wx g 27 [.int .i64 D1.kind, .int .i64 D1.id, .slice S1.cn.a S1.cn.n S1.cn.c, .slice S1.sn.a S1.sn.n S1.sn.c, .int .i64 D1.tick, .slice S1.cookie.a S1.cookie.n S1.cookie.c, .slice S1.proof.a S1.proof.n S1.proof.c, .int .i64 D1.epoch, .int .i64 D1.seq, .slice S1.body.a S1.body.n S1.body.c, .slice S1.tag.a S1.tag.n S1.tag.c] ∧ FrIn wx pz qz S1 D1 ∧ FrShort D1 1000 ∧ (x8.heap.size ≤ pz ∧ pz ≤ qz ∧ qz ≤ wx.heap.size ∧ x8.heap.size ≤ g ∧ g + 1 ≤ wx.heap.size ∧ (g + 1 ≤ pz ∨ qz ≤ g)) ∧ Ready x1 a len cap l p wx ∧ But p x8 wx)
    case first =>
      rename_i J K' hRJ hMet
      have c0 := (KE8.out).cell 0 rfl
      have c1 := (KE8.out).cell 1 rfl
      have cD0 := hide ((KE8.out.later TD.out).cell 0 rfl)
      have cD1 := hide ((KE8.out.later TD.out).cell 1 rfl)
      have cB0 := hide ((KE8.out.later TB.out).cell 0 rfl)
      have cB1 := hide ((KE8.out.later TB.out).cell 1 rfl)
      have cC0 := hide ((KE8.out.alloc (.cells #[.int .i64 0, .int .i64 0, .slice none 0 0, .slice none 0 0, .int .i64 0, .slice none 0 0, .slice none 0 0, .int .i64 0, .int .i64 0, .slice none 0 0, .slice none 0 0] 27)).cell 0 rfl)
      have cC1 := hide ((KE8.out.alloc (.cells #[.int .i64 0, .int .i64 0, .slice none 0 0, .slice none 0 0, .int .i64 0, .slice none 0 0, .slice none 0 0, .int .i64 0, .int .i64 0, .slice none 0 0, .slice none 0 0] 27)).cell 1 rfl)
      go_region_held3 (fun w' => w'.cell? ⟨ge, 0, none⟩ = some (.int .i64 D0.n) ∧ w'.cell? ⟨ge, 1, none⟩ = some (.slice S0.key.a S0.key.n S0.key.c)) (first | with_reducible exact ⟨dn0.out, dn1.out⟩ | with_reducible exact ⟨fZ0.out, fZ1.out⟩ | with_reducible exact ⟨fY0.out, fY1.out⟩ | with_reducible exact ⟨f0, f1⟩ | with_reducible exact ⟨dZ0.out, dZ1.out⟩ | with_reducible exact ⟨d0, d1⟩ | with_reducible exact ⟨cB0.out, cB1.out⟩ | with_reducible exact ⟨cC0.out, cC1.out⟩ | with_reducible exact ⟨cD0.out, cD1.out⟩ | with_reducible exact ⟨c0, c1⟩ | fail)
        (first
          | (go_at_call 14; have GZ0 := GZ; obtain ⟨D1, hD1⟩ : ∃ zz, sealF D0.key ro ln D0.n u kd lp = zz := ⟨_, rfl⟩; refine (SealS.specSeal S0.key ⟨some ⟨gn, 0, none⟩, 12, cn⟩ Pt D0.key ln lp ro D0.n u kd y1 OE1.out.rd.key NM.out OP1.out.rd).mono ?_; unfold SealS.AnsS; rw [hD1]; rintro e y2 ⟨S1, rfl, o, b⟩; unfold frV; have HS1 : Hid (FrShort D1 1000) := (by rw [← hD1]; exact short_le (sealF_short _ _ _ _ _ _ _) (by omega)); have R2 : Hid (Ready x1 a len cap l p y2) := rdyL R1.out b; have T2 : Hid (But p x8 y2) := butL T1.out b; have O1 : Hid (FrOwn y2 y1.heap.size y2.heap.size S1 D1) := o; have LW : Hid (y1.heap.size ≤ y2.heap.size ∧ y1.heap.size ≤ y1.heap.size) := ⟨b.size, (by first | exact Nat.le_refl _ | (rw [World.size_alloc]; omega))⟩; have KE2 : Hid (Blk y2 ge 41 [.int .i64 D0.n, .slice S0.key.a S0.key.n S0.key.c, .int .i64 D0.seq, .int .i64 D0.win.top, .slice S0.win.bits.a S0.win.bits.n S0.win.bits.c]) := KE1.out.later b; have GZZ : Hid (Blk y2 (x8.heap.size) 27 [.int .i64 0, .int .i64 0, .slice none 0 0, .slice none 0 0, .int .i64 0, .slice none 0 0, .slice none 0 0, .int .i64 0, .int .i64 0, .slice none 0 0, .slice none 0 0]) := GZ.out.later b; have LGZ : Hid (x8.heap.size + 1 ≤ y1.heap.size ∧ x8.heap.size ≤ x8.heap.size) := (by have := LY1.out; have q9 := GZ.out.lt; exact ⟨q9, Nat.le_refl _⟩); have gNE : ge ≠ x8.heap.size := (by have := LGZ.out; have := L1.out; have := GA.out; have := L2.out; have := HP.out; have := L3.out; have := L4.out; have := Gge.out; have := L5.out; have := L6.out; have := L7.out; have := L8.out; omega); have go0 := GZZ.out.cell 0 rfl; have gp0 := GZZ.out.frozen 0; have go1 := GZZ.out.cell 1 rfl; have gp1 := GZZ.out.frozen 1; have go2 := GZZ.out.cell 2 rfl; have gp2 := GZZ.out.frozen 2; have go3 := GZZ.out.cell 3 rfl; have gp3 := GZZ.out.frozen 3; have go4 := GZZ.out.cell 4 rfl; have gp4 := GZZ.out.frozen 4; have go5 := GZZ.out.cell 5 rfl; have gp5 := GZZ.out.frozen 5; have go6 := GZZ.out.cell 6 rfl; have gp6 := GZZ.out.frozen 6; have go7 := GZZ.out.cell 7 rfl; have gp7 := GZZ.out.frozen 7; have go8 := GZZ.out.cell 8 rfl; have gp8 := GZZ.out.frozen 8; have go9 := GZZ.out.cell 9 rfl; have gp9 := GZZ.out.frozen 9; have go10 := GZZ.out.cell 10 rfl; have gp10 := GZZ.out.frozen 10; have dN := fr_other KE2.out gNE (.int .i64 D1.kind) (.int .i64 D1.id) (.slice S1.cn.a S1.cn.n S1.cn.c) (.slice S1.sn.a S1.sn.n S1.sn.c) (.int .i64 D1.tick) (.slice S1.cookie.a S1.cookie.n S1.cookie.c) (.slice S1.proof.a S1.proof.n S1.proof.c) (.int .i64 D1.epoch) (.int .i64 D1.seq) (.slice S1.body.a S1.body.n S1.body.c) (.slice S1.tag.a S1.tag.n S1.tag.c); have dn0 := hide ((dN).cell 0 rfl); have dn1 := hide ((dN).cell 1 rfl); clear dN; have f0 := (KE2.out).cell 0 rfl; have f1 := (KE2.out).cell 1 rfl; have fZ0 := hide ((KE2.out.alloc (.cells #[.int .i64 D1.kind, .int .i64 D1.id, .slice S1.cn.a S1.cn.n S1.cn.c, .slice S1.sn.a S1.sn.n S1.sn.c, .int .i64 D1.tick, .slice S1.cookie.a S1.cookie.n S1.cookie.c, .slice S1.proof.a S1.proof.n S1.proof.c, .int .i64 D1.epoch, .int .i64 D1.seq, .slice S1.body.a S1.body.n S1.body.c, .slice S1.tag.a S1.tag.n S1.tag.c] 27)).cell 0 rfl); have fZ1 := hide ((KE2.out.alloc (.cells #[.int .i64 D1.kind, .int .i64 D1.id, .slice S1.cn.a S1.cn.n S1.cn.c, .slice S1.sn.a S1.sn.n S1.sn.c, .int .i64 D1.tick, .slice S1.cookie.a S1.cookie.n S1.cookie.c, .slice S1.proof.a S1.proof.n S1.proof.c, .int .i64 D1.epoch, .int .i64 D1.seq, .slice S1.body.a S1.body.n S1.body.c, .slice S1.tag.a S1.tag.n S1.tag.c] 27)).cell 1 rfl); have fY0 := hide ((KE2.out.alloc (.cells #[.int .i64 0, .int .i64 0, .slice none 0 0, .slice none 0 0, .int .i64 0, .slice none 0 0, .slice none 0 0, .int .i64 0, .int .i64 0, .slice none 0 0, .slice none 0 0] 27)).cell 0 rfl); have fY1 := hide ((KE2.out.alloc (.cells #[.int .i64 0, .int .i64 0, .slice none 0 0, .slice none 0 0, .int .i64 0, .slice none 0 0, .slice none 0 0, .int .i64 0, .int .i64 0, .slice none 0 0, .slice none 0 0] 27)).cell 1 rfl); clear b o hD1)
          | (go_at_call 14; obtain ⟨D1, hD1⟩ : ∃ zz, sealF D0.key ro ln D0.n u kd lp = zz := ⟨_, rfl⟩; refine (SealS.specSeal S0.key ⟨some ⟨gn, 0, none⟩, 12, cn⟩ Pt D0.key ln lp ro D0.n u kd (y1.alloc (.cells #[.int .i64 0, .int .i64 0, .slice none 0 0, .slice none 0 0, .int .i64 0, .slice none 0 0, .slice none 0 0, .int .i64 0, .int .i64 0, .slice none 0 0, .slice none 0 0] 27)) (OE1.out.rd.later ((Below.refl _ _).alloc (Nat.le_refl _) _)).key (NM.out.later ((Below.refl _ _).alloc (Nat.le_refl _) _)) (OP1.out.rd.later ((Below.refl _ _).alloc (Nat.le_refl _) _))).mono ?_; unfold SealS.AnsS; rw [hD1]; rintro e y2 ⟨S1, rfl, o, b⟩; unfold frV; have HS1 : Hid (FrShort D1 1000) := (by rw [← hD1]; exact short_le (sealF_short _ _ _ _ _ _ _) (by omega)); have R2 : Hid (Ready x1 a len cap l p y2) := rdyL (R1.out.alloc _) b; have T2 : Hid (But p x8 y2) := butL (T1.out.alloc _) b; have O1 : Hid (FrOwn y2 (y1.alloc (.cells #[.int .i64 0, .int .i64 0, .slice none 0 0, .slice none 0 0, .int .i64 0, .slice none 0 0, .slice none 0 0, .int .i64 0, .int .i64 0, .slice none 0 0, .slice none 0 0] 27)).heap.size y2.heap.size S1 D1) := o; have LW : Hid ((y1.alloc (.cells #[.int .i64 0, .int .i64 0, .slice none 0 0, .slice none 0 0, .int .i64 0, .slice none 0 0, .slice none 0 0, .int .i64 0, .int .i64 0, .slice none 0 0, .slice none 0 0] 27)).heap.size ≤ y2.heap.size ∧ y1.heap.size ≤ (y1.alloc (.cells #[.int .i64 0, .int .i64 0, .slice none 0 0, .slice none 0 0, .int .i64 0, .slice none 0 0, .slice none 0 0, .int .i64 0, .int .i64 0, .slice none 0 0, .slice none 0 0] 27)).heap.size) := ⟨b.size, (by first | exact Nat.le_refl _ | (rw [World.size_alloc]; omega))⟩; have KE2 : Hid (Blk y2 ge 41 [.int .i64 D0.n, .slice S0.key.a S0.key.n S0.key.c, .int .i64 D0.seq, .int .i64 D0.win.top, .slice S0.win.bits.a S0.win.bits.n S0.win.bits.c]) := (KE1.out.alloc _).later b; have GZZ : Hid (Blk y2 (y1.heap.size) 27 [.int .i64 0, .int .i64 0, .slice none 0 0, .slice none 0 0, .int .i64 0, .slice none 0 0, .slice none 0 0, .int .i64 0, .int .i64 0, .slice none 0 0, .slice none 0 0]) := (Blk.new y1 27 [.int .i64 0, .int .i64 0, .slice none 0 0, .slice none 0 0, .int .i64 0, .slice none 0 0, .slice none 0 0, .int .i64 0, .int .i64 0, .slice none 0 0, .slice none 0 0]).later b; have LGZ : Hid (y1.heap.size + 1 ≤ (y1.alloc (.cells #[.int .i64 0, .int .i64 0, .slice none 0 0, .slice none 0 0, .int .i64 0, .slice none 0 0, .slice none 0 0, .int .i64 0, .int .i64 0, .slice none 0 0, .slice none 0 0] 27)).heap.size ∧ x8.heap.size ≤ y1.heap.size) := (by have := LY1.out; exact ⟨by rw [World.size_alloc]; exact Nat.le_refl _, LY1.out⟩); have gNE : ge ≠ y1.heap.size := (by have := LGZ.out; have := L1.out; have := GA.out; have := L2.out; have := HP.out; have := L3.out; have := L4.out; have := Gge.out; have := L5.out; have := L6.out; have := L7.out; have := L8.out; omega); have go0 := GZZ.out.cell 0 rfl; have gp0 := GZZ.out.frozen 0; have go1 := GZZ.out.cell 1 rfl; have gp1 := GZZ.out.frozen 1; have go2 := GZZ.out.cell 2 rfl; have gp2 := GZZ.out.frozen 2; have go3 := GZZ.out.cell 3 rfl; have gp3 := GZZ.out.frozen 3; have go4 := GZZ.out.cell 4 rfl; have gp4 := GZZ.out.frozen 4; have go5 := GZZ.out.cell 5 rfl; have gp5 := GZZ.out.frozen 5; have go6 := GZZ.out.cell 6 rfl; have gp6 := GZZ.out.frozen 6; have go7 := GZZ.out.cell 7 rfl; have gp7 := GZZ.out.frozen 7; have go8 := GZZ.out.cell 8 rfl; have gp8 := GZZ.out.frozen 8; have go9 := GZZ.out.cell 9 rfl; have gp9 := GZZ.out.frozen 9; have go10 := GZZ.out.cell 10 rfl; have gp10 := GZZ.out.frozen 10; have dN := fr_other KE2.out gNE (.int .i64 D1.kind) (.int .i64 D1.id) (.slice S1.cn.a S1.cn.n S1.cn.c) (.slice S1.sn.a S1.sn.n S1.sn.c) (.int .i64 D1.tick) (.slice S1.cookie.a S1.cookie.n S1.cookie.c) (.slice S1.proof.a S1.proof.n S1.proof.c) (.int .i64 D1.epoch) (.int .i64 D1.seq) (.slice S1.body.a S1.body.n S1.body.c) (.slice S1.tag.a S1.tag.n S1.tag.c); have dn0 := hide ((dN).cell 0 rfl); have dn1 := hide ((dN).cell 1 rfl); clear dN; have f0 := (KE2.out).cell 0 rfl; have f1 := (KE2.out).cell 1 rfl; have fZ0 := hide ((KE2.out.alloc (.cells #[.int .i64 D1.kind, .int .i64 D1.id, .slice S1.cn.a S1.cn.n S1.cn.c, .slice S1.sn.a S1.sn.n S1.sn.c, .int .i64 D1.tick, .slice S1.cookie.a S1.cookie.n S1.cookie.c, .slice S1.proof.a S1.proof.n S1.proof.c, .int .i64 D1.epoch, .int .i64 D1.seq, .slice S1.body.a S1.body.n S1.body.c, .slice S1.tag.a S1.tag.n S1.tag.c] 27)).cell 0 rfl); have fZ1 := hide ((KE2.out.alloc (.cells #[.int .i64 D1.kind, .int .i64 D1.id, .slice S1.cn.a S1.cn.n S1.cn.c, .slice S1.sn.a S1.sn.n S1.sn.c, .int .i64 D1.tick, .slice S1.cookie.a S1.cookie.n S1.cookie.c, .slice S1.proof.a S1.proof.n S1.proof.c, .int .i64 D1.epoch, .int .i64 D1.seq, .slice S1.body.a S1.body.n S1.body.c, .slice S1.tag.a S1.tag.n S1.tag.c] 27)).cell 1 rfl); have fY0 := hide ((KE2.out.alloc (.cells #[.int .i64 0, .int .i64 0, .slice none 0 0, .slice none 0 0, .int .i64 0, .slice none 0 0, .slice none 0 0, .int .i64 0, .int .i64 0, .slice none 0 0, .slice none 0 0] 27)).cell 0 rfl); have fY1 := hide ((KE2.out.alloc (.cells #[.int .i64 0, .int .i64 0, .slice none 0 0, .slice none 0 0, .int .i64 0, .slice none 0 0, .slice none 0 0, .int .i64 0, .int .i64 0, .slice none 0 0, .slice none 0 0] 27)).cell 1 rfl); clear b o hD1)
          | (go_at_call 14; obtain ⟨D1, hD1⟩ : ∃ zz, sealF D0.key ro ln D0.n u kd lp = zz := ⟨_, rfl⟩; refine (SealS.specSeal S0.key ⟨some ⟨gn, 0, none⟩, 12, cn⟩ Pt D0.key ln lp ro D0.n u kd y1 OE1.out.rd.key NM.out OP1.out.rd).mono ?_; unfold SealS.AnsS; rw [hD1]; rintro e y2 ⟨S1, rfl, o, b⟩; unfold frV; have HS1 : Hid (FrShort D1 1000) := (by rw [← hD1]; exact short_le (sealF_short _ _ _ _ _ _ _) (by omega)); have R2 : Hid (Ready x1 a len cap l p y2) := rdyL R1.out b; have T2 : Hid (But p x8 y2) := butL T1.out b; have O1 : Hid (FrOwn y2 y1.heap.size y2.heap.size S1 D1) := o; have LW : Hid (y1.heap.size ≤ y2.heap.size ∧ y1.heap.size ≤ y1.heap.size) := ⟨b.size, (by first | exact Nat.le_refl _ | (rw [World.size_alloc]; omega))⟩; have KE2 : Hid (Blk y2 ge 41 [.int .i64 D0.n, .slice S0.key.a S0.key.n S0.key.c, .int .i64 D0.seq, .int .i64 D0.win.top, .slice S0.win.bits.a S0.win.bits.n S0.win.bits.c]) := KE1.out.later b; have f0 := (KE2.out).cell 0 rfl; have f1 := (KE2.out).cell 1 rfl; have fZ0 := hide ((KE2.out.alloc (.cells #[.int .i64 D1.kind, .int .i64 D1.id, .slice S1.cn.a S1.cn.n S1.cn.c, .slice S1.sn.a S1.sn.n S1.sn.c, .int .i64 D1.tick, .slice S1.cookie.a S1.cookie.n S1.cookie.c, .slice S1.proof.a S1.proof.n S1.proof.c, .int .i64 D1.epoch, .int .i64 D1.seq, .slice S1.body.a S1.body.n S1.body.c, .slice S1.tag.a S1.tag.n S1.tag.c] 27)).cell 0 rfl); have fZ1 := hide ((KE2.out.alloc (.cells #[.int .i64 D1.kind, .int .i64 D1.id, .slice S1.cn.a S1.cn.n S1.cn.c, .slice S1.sn.a S1.sn.n S1.sn.c, .int .i64 D1.tick, .slice S1.cookie.a S1.cookie.n S1.cookie.c, .slice S1.proof.a S1.proof.n S1.proof.c, .int .i64 D1.epoch, .int .i64 D1.seq, .slice S1.body.a S1.body.n S1.body.c, .slice S1.tag.a S1.tag.n S1.tag.c] 27)).cell 1 rfl); have fY0 := hide ((KE2.out.alloc (.cells #[.int .i64 0, .int .i64 0, .slice none 0 0, .slice none 0 0, .int .i64 0, .slice none 0 0, .slice none 0 0, .int .i64 0, .int .i64 0, .slice none 0 0, .slice none 0 0] 27)).cell 0 rfl); have fY1 := hide ((KE2.out.alloc (.cells #[.int .i64 0, .int .i64 0, .slice none 0 0, .slice none 0 0, .int .i64 0, .slice none 0 0, .slice none 0 0, .int .i64 0, .int .i64 0, .slice none 0 0, .slice none 0 0] 27)).cell 1 rfl); clear b o hD1)
          | (go_at_call 51; refine (bytesOf (rdyL R8.out TB.out) 12 (by omega)).mono ?_; rintro e y1 ⟨gn, cn, ln, rfl, eln, hbn, kgn, rwn, r, b⟩; have R1 : Hid (Ready x1 a len cap l p y1) := r; have T1 : Hid (But p x8 y1) := (butL (But.refl p x8) TB.out).trans b; have Kq : Kept p (p + 1) x8 y1 := Kept.of_grown T1.out; have KE1 : Hid (Blk y1 ge 41 [.int .i64 D0.n, .slice S0.key.a S0.key.n S0.key.c, .int .i64 D0.seq, .int .i64 D0.win.top, .slice S0.win.bits.a S0.win.bits.n S0.win.bits.c]) := KE8.out.keep (Kq.block ge KE8.out.lt (by have := NI.out; have := L1.out; have := GA.out; have := L2.out; have := HP.out; have := L3.out; have := L4.out; have := Gge.out; have := L5.out; have := L6.out; have := L7.out; have := L8.out; omega)); have OE1 : Hid (EpOwn y1 x2.heap.size x3.heap.size S0 D0) := OE8.out.carry Kq (by have := L1.out; have := GA.out; have := L2.out; have := HP.out; have := L3.out; have := L4.out; have := Gge.out; have := L5.out; have := L6.out; have := L7.out; have := L8.out; omega); have OP1 : Hid (SOwn y1 x4.heap.size x5.heap.size Pt lp) := OPt8.out.carry Kq (by have := L1.out; have := GA.out; have := L2.out; have := HP.out; have := L3.out; have := L4.out; have := Gge.out; have := L5.out; have := L6.out; have := L7.out; have := L8.out; omega); have NM : Hid (SRd y1 ⟨some ⟨gn, 0, none⟩, 12, cn⟩ ln) := (SOwn.row (lo := 0) (hi := y1.heap.size) rwn eln hbn (Nat.zero_le _) rwn.lt).rd; have LY1 : Hid (x8.heap.size ≤ y1.heap.size) := T1.out.size; have GZ : Hid (Blk y1 x8.heap.size 27 [.int .i64 0, .int .i64 0, .slice none 0 0, .slice none 0 0, .int .i64 0, .slice none 0 0, .slice none 0 0, .int .i64 0, .int .i64 0, .slice none 0 0, .slice none 0 0]) := GA.out.keep ((Kept.of_grown b).block _ GA.out.lt (by have := NI.out; omega)); have d0 := (KE1.out).cell 0 rfl; have d1 := (KE1.out).cell 1 rfl; have dZ0 := hide ((KE1.out.alloc (.cells #[.int .i64 0, .int .i64 0, .slice none 0 0, .slice none 0 0, .int .i64 0, .slice none 0 0, .slice none 0 0, .int .i64 0, .int .i64 0, .slice none 0 0, .slice none 0 0] 27)).cell 0 rfl); have dZ1 := hide ((KE1.out.alloc (.cells #[.int .i64 0, .int .i64 0, .slice none 0 0, .slice none 0 0, .int .i64 0, .slice none 0 0, .slice none 0 0, .int .i64 0, .int .i64 0, .slice none 0 0, .slice none 0 0] 27)).cell 1 rfl); clear r b eln hbn kgn rwn Kq)
          | (go_at_call 51; refine (bytesOf (rdyL R8.out TD.out) 12 (by omega)).mono ?_; rintro e y1 ⟨gn, cn, ln, rfl, eln, hbn, kgn, rwn, r, b⟩; have R1 : Hid (Ready x1 a len cap l p y1) := r; have T1 : Hid (But p x8 y1) := (butL (But.refl p x8) TD.out).trans b; have Kq : Kept p (p + 1) x8 y1 := Kept.of_grown T1.out; have KE1 : Hid (Blk y1 ge 41 [.int .i64 D0.n, .slice S0.key.a S0.key.n S0.key.c, .int .i64 D0.seq, .int .i64 D0.win.top, .slice S0.win.bits.a S0.win.bits.n S0.win.bits.c]) := KE8.out.keep (Kq.block ge KE8.out.lt (by have := NI.out; have := L1.out; have := GA.out; have := L2.out; have := HP.out; have := L3.out; have := L4.out; have := Gge.out; have := L5.out; have := L6.out; have := L7.out; have := L8.out; omega)); have OE1 : Hid (EpOwn y1 x2.heap.size x3.heap.size S0 D0) := OE8.out.carry Kq (by have := L1.out; have := GA.out; have := L2.out; have := HP.out; have := L3.out; have := L4.out; have := Gge.out; have := L5.out; have := L6.out; have := L7.out; have := L8.out; omega); have OP1 : Hid (SOwn y1 x4.heap.size x5.heap.size Pt lp) := OPt8.out.carry Kq (by have := L1.out; have := GA.out; have := L2.out; have := HP.out; have := L3.out; have := L4.out; have := Gge.out; have := L5.out; have := L6.out; have := L7.out; have := L8.out; omega); have NM : Hid (SRd y1 ⟨some ⟨gn, 0, none⟩, 12, cn⟩ ln) := (SOwn.row (lo := 0) (hi := y1.heap.size) rwn eln hbn (Nat.zero_le _) rwn.lt).rd; have LY1 : Hid (x8.heap.size ≤ y1.heap.size) := T1.out.size; have d0 := (KE1.out).cell 0 rfl; have d1 := (KE1.out).cell 1 rfl; have dZ0 := hide ((KE1.out.alloc (.cells #[.int .i64 0, .int .i64 0, .slice none 0 0, .slice none 0 0, .int .i64 0, .slice none 0 0, .slice none 0 0, .int .i64 0, .int .i64 0, .slice none 0 0, .slice none 0 0] 27)).cell 0 rfl); have dZ1 := hide ((KE1.out.alloc (.cells #[.int .i64 0, .int .i64 0, .slice none 0 0, .slice none 0 0, .int .i64 0, .slice none 0 0, .slice none 0 0, .int .i64 0, .int .i64 0, .slice none 0 0, .slice none 0 0] 27)).cell 1 rfl); clear r b eln hbn kgn rwn Kq))
      · show K' _ _
        have o9 : Below y2.heap.size y2 (y2.alloc (.cells #[.int .i64 D1.kind, .int .i64 D1.id, .slice S1.cn.a S1.cn.n S1.cn.c, .slice S1.sn.a S1.sn.n S1.sn.c, .int .i64 D1.tick, .slice S1.cookie.a S1.cookie.n S1.cookie.c, .slice S1.proof.a S1.proof.n S1.proof.c, .int .i64 D1.epoch, .int .i64 D1.seq, .slice S1.body.a S1.body.n S1.body.c, .slice S1.tag.a S1.tag.n S1.tag.c] 27)) := (Below.refl _ _).alloc (Nat.le_refl _) _
        have sz9 : (y2.alloc (.cells #[.int .i64 D1.kind, .int .i64 D1.id, .slice S1.cn.a S1.cn.n S1.cn.c, .slice S1.sn.a S1.sn.n S1.sn.c, .int .i64 D1.tick, .slice S1.cookie.a S1.cookie.n S1.cookie.c, .slice S1.proof.a S1.proof.n S1.proof.c, .int .i64 D1.epoch, .int .i64 D1.seq, .slice S1.body.a S1.body.n S1.body.c, .slice S1.tag.a S1.tag.n S1.tag.c] 27)).heap.size = y2.heap.size + 1 := by rw [World.size_alloc]
        exact hMet _ _ (Met.intro (hRJ _ _ ⟨_, _, _, _, _, _, _, _, _, _, _, _, _, _, _, _, ⟨y2.heap.size, D1, S1, _, _, _, rfl, rfl, Blk.new y2 _ _, (FrIn.of O1.out).later o9, HS1.out, (by rw [sz9]; have := LW.out; have := LY1.out; omega), rdyL R2.out o9, butL T2.out o9⟩, rfl⟩))
      · show K' _ _
        have sz9 : (((((((((((y2.setCell ⟨y1.heap.size, 0, none⟩ (.int .i64 D1.kind)).setCell ⟨y1.heap.size, 1, none⟩ (.int .i64 D1.id)).setCell ⟨y1.heap.size, 2, none⟩ (.slice S1.cn.a S1.cn.n S1.cn.c)).setCell ⟨y1.heap.size, 3, none⟩ (.slice S1.sn.a S1.sn.n S1.sn.c)).setCell ⟨y1.heap.size, 4, none⟩ (.int .i64 D1.tick)).setCell ⟨y1.heap.size, 5, none⟩ (.slice S1.cookie.a S1.cookie.n S1.cookie.c)).setCell ⟨y1.heap.size, 6, none⟩ (.slice S1.proof.a S1.proof.n S1.proof.c)).setCell ⟨y1.heap.size, 7, none⟩ (.int .i64 D1.epoch)).setCell ⟨y1.heap.size, 8, none⟩ (.int .i64 D1.seq)).setCell ⟨y1.heap.size, 9, none⟩ (.slice S1.body.a S1.body.n S1.body.c)).setCell ⟨y1.heap.size, 10, none⟩ (.slice S1.tag.a S1.tag.n S1.tag.c)).heap.size = y2.heap.size := fr_size _ _ (.int .i64 D1.kind) (.int .i64 D1.id) (.slice S1.cn.a S1.cn.n S1.cn.c) (.slice S1.sn.a S1.sn.n S1.sn.c) (.int .i64 D1.tick) (.slice S1.cookie.a S1.cookie.n S1.cookie.c) (.slice S1.proof.a S1.proof.n S1.proof.c) (.int .i64 D1.epoch) (.int .i64 D1.seq) (.slice S1.body.a S1.body.n S1.body.c) (.slice S1.tag.a S1.tag.n S1.tag.c)
        have KP := fr_kept y2 (y1.heap.size) (.int .i64 D1.kind) (.int .i64 D1.id) (.slice S1.cn.a S1.cn.n S1.cn.c) (.slice S1.sn.a S1.sn.n S1.sn.c) (.int .i64 D1.tick) (.slice S1.cookie.a S1.cookie.n S1.cookie.c) (.slice S1.proof.a S1.proof.n S1.proof.c) (.int .i64 D1.epoch) (.int .i64 D1.seq) (.slice S1.body.a S1.body.n S1.body.c) (.slice S1.tag.a S1.tag.n S1.tag.c)
        exact hMet _ _ (Met.intro (hRJ _ _ ⟨_, _, _, _, _, _, _, _, _, _, _, _, _, _, _, _, ⟨y1.heap.size, D1, S1, _, _, _, rfl, rfl, fr_put GZZ.out (.int .i64 D1.kind) (.int .i64 D1.id) (.slice S1.cn.a S1.cn.n S1.cn.c) (.slice S1.sn.a S1.sn.n S1.sn.c) (.int .i64 D1.tick) (.slice S1.cookie.a S1.cookie.n S1.cookie.c) (.slice S1.proof.a S1.proof.n S1.proof.c) (.int .i64 D1.epoch) (.int .i64 D1.seq) (.slice S1.body.a S1.body.n S1.body.c) (.slice S1.tag.a S1.tag.n S1.tag.c), (FrIn.of O1.out).carry KP (.inr (by have := LGZ.out; omega)), HS1.out, (by rw [sz9]; have := LW.out; have := LY1.out; have := LGZ.out; omega), rdyK R2.out KP (by have := LGZ.out; have := NI.out; omega), butK T2.out KP (by have := LGZ.out; omega)⟩, rfl⟩))
      · show K' _ _
        have sz9 : (((((((((((y2.setCell ⟨x8.heap.size, 0, none⟩ (.int .i64 D1.kind)).setCell ⟨x8.heap.size, 1, none⟩ (.int .i64 D1.id)).setCell ⟨x8.heap.size, 2, none⟩ (.slice S1.cn.a S1.cn.n S1.cn.c)).setCell ⟨x8.heap.size, 3, none⟩ (.slice S1.sn.a S1.sn.n S1.sn.c)).setCell ⟨x8.heap.size, 4, none⟩ (.int .i64 D1.tick)).setCell ⟨x8.heap.size, 5, none⟩ (.slice S1.cookie.a S1.cookie.n S1.cookie.c)).setCell ⟨x8.heap.size, 6, none⟩ (.slice S1.proof.a S1.proof.n S1.proof.c)).setCell ⟨x8.heap.size, 7, none⟩ (.int .i64 D1.epoch)).setCell ⟨x8.heap.size, 8, none⟩ (.int .i64 D1.seq)).setCell ⟨x8.heap.size, 9, none⟩ (.slice S1.body.a S1.body.n S1.body.c)).setCell ⟨x8.heap.size, 10, none⟩ (.slice S1.tag.a S1.tag.n S1.tag.c)).heap.size = y2.heap.size := fr_size _ _ (.int .i64 D1.kind) (.int .i64 D1.id) (.slice S1.cn.a S1.cn.n S1.cn.c) (.slice S1.sn.a S1.sn.n S1.sn.c) (.int .i64 D1.tick) (.slice S1.cookie.a S1.cookie.n S1.cookie.c) (.slice S1.proof.a S1.proof.n S1.proof.c) (.int .i64 D1.epoch) (.int .i64 D1.seq) (.slice S1.body.a S1.body.n S1.body.c) (.slice S1.tag.a S1.tag.n S1.tag.c)
        have KP := fr_kept y2 (x8.heap.size) (.int .i64 D1.kind) (.int .i64 D1.id) (.slice S1.cn.a S1.cn.n S1.cn.c) (.slice S1.sn.a S1.sn.n S1.sn.c) (.int .i64 D1.tick) (.slice S1.cookie.a S1.cookie.n S1.cookie.c) (.slice S1.proof.a S1.proof.n S1.proof.c) (.int .i64 D1.epoch) (.int .i64 D1.seq) (.slice S1.body.a S1.body.n S1.body.c) (.slice S1.tag.a S1.tag.n S1.tag.c)
        exact hMet _ _ (Met.intro (hRJ _ _ ⟨_, _, _, _, _, _, _, _, _, _, _, _, _, _, _, _, ⟨x8.heap.size, D1, S1, _, _, _, rfl, rfl, fr_put GZZ.out (.int .i64 D1.kind) (.int .i64 D1.id) (.slice S1.cn.a S1.cn.n S1.cn.c) (.slice S1.sn.a S1.sn.n S1.sn.c) (.int .i64 D1.tick) (.slice S1.cookie.a S1.cookie.n S1.cookie.c) (.slice S1.proof.a S1.proof.n S1.proof.c) (.int .i64 D1.epoch) (.int .i64 D1.seq) (.slice S1.body.a S1.body.n S1.body.c) (.slice S1.tag.a S1.tag.n S1.tag.c), (FrIn.of O1.out).carry KP (.inr (by have := LGZ.out; omega)), HS1.out, (by rw [sz9]; have := LW.out; have := LY1.out; have := LGZ.out; omega), rdyK R2.out KP (by have := LGZ.out; have := NI.out; omega), butK T2.out KP (by have := LGZ.out; omega)⟩, rfl⟩))
    case rest =>
    obtain ⟨x9, hxc⟩ : ∃ zz, zz = wc := ⟨_, rfl⟩
    subst hxc
    obtain ⟨gf, D1, S1, pz, qz, bb, rfl, rfl, kf, of, hs1, z9, r, b⟩ := hcut
    have HS1 : Hid (FrShort D1 1000) := hs1
    have Z9 : Hid (_ ∧ _) := z9
    clear hs1 z9 TD TB GA NI
    have L9 : Hid (x8.heap.size ≤ x9.heap.size) := b.size
    have KQ : Kept p (p + 1) x8 x9 := Kept.of_grown b
    have B9 : Hid (Below w.heap.size w x9) := But.below b B8.out (by have := L1.out; have := GA.out; have := L2.out; have := HP.out; have := L3.out; have := L4.out; have := Gge.out; have := L5.out; have := L6.out; have := L7.out; have := L8.out; have := L9.out; omega)
    have KP9 : Hid (Blk x9 gp 41 [.int .i64 0, .slice none 0 0, .int .i64 0, .int .i64 0, .slice none 0 0]) := KP8.out.keep (KQ.block _ KP8.out.lt (by have := L1.out; have := GA.out; have := L2.out; have := HP.out; have := L3.out; have := L4.out; have := Gge.out; have := L5.out; have := L6.out; have := L7.out; have := L8.out; have := L9.out; omega))
    have KO9 : Hid (Blk x9 go 27 [.int .i64 0, .int .i64 0, .slice none 0 0, .slice none 0 0, .int .i64 0, .slice none 0 0, .slice none 0 0, .int .i64 0, .int .i64 0, .slice none 0 0, .slice none 0 0]) := KO8.out.keep (KQ.block _ KO8.out.lt (by have := L1.out; have := GA.out; have := L2.out; have := HP.out; have := L3.out; have := L4.out; have := Gge.out; have := L5.out; have := L6.out; have := L7.out; have := L8.out; have := L9.out; omega))
    have R9 : Hid (Ready x1 a len cap l p x9) := r
    have OE9 : Hid (EpOwn x9 x2.heap.size x3.heap.size S0 D0) := OE8.out.carry KQ (by have := L1.out; have := GA.out; have := L2.out; have := HP.out; have := L3.out; have := L4.out; have := Gge.out; have := L5.out; have := L6.out; have := L7.out; have := L8.out; have := L9.out; omega)
    have KE9 : Hid (Blk x9 ge 41 [.int .i64 D0.n, .slice S0.key.a S0.key.n S0.key.c, .int .i64 D0.seq, .int .i64 D0.win.top, .slice S0.win.bits.a S0.win.bits.n S0.win.bits.c]) := KE8.out.keep (KQ.block _ KE8.out.lt (by have := L1.out; have := GA.out; have := L2.out; have := HP.out; have := L3.out; have := L4.out; have := Gge.out; have := L5.out; have := L6.out; have := L7.out; have := L8.out; have := L9.out; omega))
    have OPt9 : Hid (SOwn x9 x4.heap.size x5.heap.size Pt lp) := OPt8.out.carry KQ (by have := L1.out; have := GA.out; have := L2.out; have := HP.out; have := L3.out; have := L4.out; have := Gge.out; have := L5.out; have := L6.out; have := L7.out; have := L8.out; have := L9.out; omega)
    clear B8 KP8 KO8 R8 OE8 KE8 OPt8 b
    clear KQ r
    have KF9 : Hid (Blk x9 gf 27 [.int .i64 D1.kind, .int .i64 D1.id, .slice S1.cn.a S1.cn.n S1.cn.c, .slice S1.sn.a S1.sn.n S1.sn.c, .int .i64 D1.tick, .slice S1.cookie.a S1.cookie.n S1.cookie.c, .slice S1.proof.a S1.proof.n S1.proof.c, .int .i64 D1.epoch, .int .i64 D1.seq, .slice S1.body.a S1.body.n S1.body.c, .slice S1.tag.a S1.tag.n S1.tag.c]) := kf
    have OF9 : Hid (FrIn x9 pz qz S1 D1) := of
    clear kf of
    clear OPt9
    go_wp2_with fail
    refine (Draw.once R9.out 8 (by omega) (by omega)).mono ?_
    rintro e x10 ⟨o1, rfl, r, b⟩
    have L10 : Hid (x9.heap.size ≤ x10.heap.size) := b.size
    have KQ : Kept p (p + 1) x9 x10 := Kept.of_grown b
    have B10 : Hid (Below w.heap.size w x10) := But.below b B9.out (by have := L1.out; have := GA.out; have := L2.out; have := HP.out; have := L3.out; have := L4.out; have := Gge.out; have := L5.out; have := L6.out; have := L7.out; have := L8.out; have := L9.out; have := Z9.out; have := L10.out; omega)
    have KP10 : Hid (Blk x10 gp 41 [.int .i64 0, .slice none 0 0, .int .i64 0, .int .i64 0, .slice none 0 0]) := KP9.out.keep (KQ.block _ KP9.out.lt (by have := L1.out; have := GA.out; have := L2.out; have := HP.out; have := L3.out; have := L4.out; have := Gge.out; have := L5.out; have := L6.out; have := L7.out; have := L8.out; have := L9.out; have := Z9.out; have := L10.out; omega))
    have KO10 : Hid (Blk x10 go 27 [.int .i64 0, .int .i64 0, .slice none 0 0, .slice none 0 0, .int .i64 0, .slice none 0 0, .slice none 0 0, .int .i64 0, .int .i64 0, .slice none 0 0, .slice none 0 0]) := KO9.out.keep (KQ.block _ KO9.out.lt (by have := L1.out; have := GA.out; have := L2.out; have := HP.out; have := L3.out; have := L4.out; have := Gge.out; have := L5.out; have := L6.out; have := L7.out; have := L8.out; have := L9.out; have := Z9.out; have := L10.out; omega))
    have R10 : Hid (Ready x1 a len cap l p x10) := r
    have OE10 : Hid (EpOwn x10 x2.heap.size x3.heap.size S0 D0) := OE9.out.carry KQ (by have := L1.out; have := GA.out; have := L2.out; have := HP.out; have := L3.out; have := L4.out; have := Gge.out; have := L5.out; have := L6.out; have := L7.out; have := L8.out; have := L9.out; have := Z9.out; have := L10.out; omega)
    have KE10 : Hid (Blk x10 ge 41 [.int .i64 D0.n, .slice S0.key.a S0.key.n S0.key.c, .int .i64 D0.seq, .int .i64 D0.win.top, .slice S0.win.bits.a S0.win.bits.n S0.win.bits.c]) := KE9.out.keep (KQ.block _ KE9.out.lt (by have := L1.out; have := GA.out; have := L2.out; have := HP.out; have := L3.out; have := L4.out; have := Gge.out; have := L5.out; have := L6.out; have := L7.out; have := L8.out; have := L9.out; have := Z9.out; have := L10.out; omega))
    have KF10 : Hid (Blk x10 gf 27 [.int .i64 D1.kind, .int .i64 D1.id, .slice S1.cn.a S1.cn.n S1.cn.c, .slice S1.sn.a S1.sn.n S1.sn.c, .int .i64 D1.tick, .slice S1.cookie.a S1.cookie.n S1.cookie.c, .slice S1.proof.a S1.proof.n S1.proof.c, .int .i64 D1.epoch, .int .i64 D1.seq, .slice S1.body.a S1.body.n S1.body.c, .slice S1.tag.a S1.tag.n S1.tag.c]) := KF9.out.keep (KQ.block _ KF9.out.lt (by have := L1.out; have := GA.out; have := L2.out; have := HP.out; have := L3.out; have := L4.out; have := Gge.out; have := L5.out; have := L6.out; have := L7.out; have := L8.out; have := L9.out; have := Z9.out; have := L10.out; omega))
    have OF10 : Hid (FrIn x10 pz qz S1 D1) := OF9.out.carry KQ (by have := L1.out; have := GA.out; have := L2.out; have := HP.out; have := L3.out; have := L4.out; have := Gge.out; have := L5.out; have := L6.out; have := L7.out; have := L8.out; have := L9.out; have := Z9.out; have := L10.out; omega)
    clear B9 KP9 KO9 R9 OE9 KE9 KF9 OF9 b
    clear KQ r
    cases o1 with
    | true =>
      go_wp2_with fail
      refine (intOfList (R10.out.alloc _) x10.heap.size 3 [0, 1, 2] rfl (ints_new x10 _) (by have := R10.out.hc.lt; omega) (by omega) (by omega)).mono ?_
      rintro e x11 ⟨r3, rfl, vm, r, b0⟩
      have VMr3 : Hid (r3 ∈ ([0, 1, 2] : List Int)) := vm
      have b : But p x10 x11 := ((But.refl p x10).alloc _).trans b0
      clear vm b0
      have L11 : Hid (x10.heap.size ≤ x11.heap.size) := b.size
      have KQ : Kept p (p + 1) x10 x11 := Kept.of_grown b
      have B11 : Hid (Below w.heap.size w x11) := But.below b B10.out (by have := L1.out; have := GA.out; have := L2.out; have := HP.out; have := L3.out; have := L4.out; have := Gge.out; have := L5.out; have := L6.out; have := L7.out; have := L8.out; have := L9.out; have := Z9.out; have := L10.out; have := L11.out; omega)
      have KP11 : Hid (Blk x11 gp 41 [.int .i64 0, .slice none 0 0, .int .i64 0, .int .i64 0, .slice none 0 0]) := KP10.out.keep (KQ.block _ KP10.out.lt (by have := L1.out; have := GA.out; have := L2.out; have := HP.out; have := L3.out; have := L4.out; have := Gge.out; have := L5.out; have := L6.out; have := L7.out; have := L8.out; have := L9.out; have := Z9.out; have := L10.out; have := L11.out; omega))
      have KO11 : Hid (Blk x11 go 27 [.int .i64 0, .int .i64 0, .slice none 0 0, .slice none 0 0, .int .i64 0, .slice none 0 0, .slice none 0 0, .int .i64 0, .int .i64 0, .slice none 0 0, .slice none 0 0]) := KO10.out.keep (KQ.block _ KO10.out.lt (by have := L1.out; have := GA.out; have := L2.out; have := HP.out; have := L3.out; have := L4.out; have := Gge.out; have := L5.out; have := L6.out; have := L7.out; have := L8.out; have := L9.out; have := Z9.out; have := L10.out; have := L11.out; omega))
      have R11 : Hid (Ready x1 a len cap l p x11) := r
      have OE11 : Hid (EpOwn x11 x2.heap.size x3.heap.size S0 D0) := OE10.out.carry KQ (by have := L1.out; have := GA.out; have := L2.out; have := HP.out; have := L3.out; have := L4.out; have := Gge.out; have := L5.out; have := L6.out; have := L7.out; have := L8.out; have := L9.out; have := Z9.out; have := L10.out; have := L11.out; omega)
      have KE11 : Hid (Blk x11 ge 41 [.int .i64 D0.n, .slice S0.key.a S0.key.n S0.key.c, .int .i64 D0.seq, .int .i64 D0.win.top, .slice S0.win.bits.a S0.win.bits.n S0.win.bits.c]) := KE10.out.keep (KQ.block _ KE10.out.lt (by have := L1.out; have := GA.out; have := L2.out; have := HP.out; have := L3.out; have := L4.out; have := Gge.out; have := L5.out; have := L6.out; have := L7.out; have := L8.out; have := L9.out; have := Z9.out; have := L10.out; have := L11.out; omega))
      have KF11 : Hid (Blk x11 gf 27 [.int .i64 D1.kind, .int .i64 D1.id, .slice S1.cn.a S1.cn.n S1.cn.c, .slice S1.sn.a S1.sn.n S1.sn.c, .int .i64 D1.tick, .slice S1.cookie.a S1.cookie.n S1.cookie.c, .slice S1.proof.a S1.proof.n S1.proof.c, .int .i64 D1.epoch, .int .i64 D1.seq, .slice S1.body.a S1.body.n S1.body.c, .slice S1.tag.a S1.tag.n S1.tag.c]) := KF10.out.keep (KQ.block _ KF10.out.lt (by have := L1.out; have := GA.out; have := L2.out; have := HP.out; have := L3.out; have := L4.out; have := Gge.out; have := L5.out; have := L6.out; have := L7.out; have := L8.out; have := L9.out; have := Z9.out; have := L10.out; have := L11.out; omega))
      have OF11 : Hid (FrIn x11 pz qz S1 D1) := OF10.out.carry KQ (by have := L1.out; have := GA.out; have := L2.out; have := HP.out; have := L3.out; have := L4.out; have := Gge.out; have := L5.out; have := L6.out; have := L7.out; have := L8.out; have := L9.out; have := Z9.out; have := L10.out; have := L11.out; omega)
      clear B10 KP10 KO10 R10 OE10 KE10 KF10 OF10 b
      clear KQ r
      go_wp2_with fail
      refine (Draw.once R11.out 3 (by omega) (by omega)).mono ?_
      rintro e x12 ⟨o2, rfl, r, b⟩
      have L12 : Hid (x11.heap.size ≤ x12.heap.size) := b.size
      have KQ : Kept p (p + 1) x11 x12 := Kept.of_grown b
      have B12 : Hid (Below w.heap.size w x12) := But.below b B11.out (by have := L1.out; have := GA.out; have := L2.out; have := HP.out; have := L3.out; have := L4.out; have := Gge.out; have := L5.out; have := L6.out; have := L7.out; have := L8.out; have := L9.out; have := Z9.out; have := L10.out; have := L11.out; have := L12.out; omega)
      have KP12 : Hid (Blk x12 gp 41 [.int .i64 0, .slice none 0 0, .int .i64 0, .int .i64 0, .slice none 0 0]) := KP11.out.keep (KQ.block _ KP11.out.lt (by have := L1.out; have := GA.out; have := L2.out; have := HP.out; have := L3.out; have := L4.out; have := Gge.out; have := L5.out; have := L6.out; have := L7.out; have := L8.out; have := L9.out; have := Z9.out; have := L10.out; have := L11.out; have := L12.out; omega))
      have KO12 : Hid (Blk x12 go 27 [.int .i64 0, .int .i64 0, .slice none 0 0, .slice none 0 0, .int .i64 0, .slice none 0 0, .slice none 0 0, .int .i64 0, .int .i64 0, .slice none 0 0, .slice none 0 0]) := KO11.out.keep (KQ.block _ KO11.out.lt (by have := L1.out; have := GA.out; have := L2.out; have := HP.out; have := L3.out; have := L4.out; have := Gge.out; have := L5.out; have := L6.out; have := L7.out; have := L8.out; have := L9.out; have := Z9.out; have := L10.out; have := L11.out; have := L12.out; omega))
      have R12 : Hid (Ready x1 a len cap l p x12) := r
      have OE12 : Hid (EpOwn x12 x2.heap.size x3.heap.size S0 D0) := OE11.out.carry KQ (by have := L1.out; have := GA.out; have := L2.out; have := HP.out; have := L3.out; have := L4.out; have := Gge.out; have := L5.out; have := L6.out; have := L7.out; have := L8.out; have := L9.out; have := Z9.out; have := L10.out; have := L11.out; have := L12.out; omega)
      have KE12 : Hid (Blk x12 ge 41 [.int .i64 D0.n, .slice S0.key.a S0.key.n S0.key.c, .int .i64 D0.seq, .int .i64 D0.win.top, .slice S0.win.bits.a S0.win.bits.n S0.win.bits.c]) := KE11.out.keep (KQ.block _ KE11.out.lt (by have := L1.out; have := GA.out; have := L2.out; have := HP.out; have := L3.out; have := L4.out; have := Gge.out; have := L5.out; have := L6.out; have := L7.out; have := L8.out; have := L9.out; have := Z9.out; have := L10.out; have := L11.out; have := L12.out; omega))
      have KF12 : Hid (Blk x12 gf 27 [.int .i64 D1.kind, .int .i64 D1.id, .slice S1.cn.a S1.cn.n S1.cn.c, .slice S1.sn.a S1.sn.n S1.sn.c, .int .i64 D1.tick, .slice S1.cookie.a S1.cookie.n S1.cookie.c, .slice S1.proof.a S1.proof.n S1.proof.c, .int .i64 D1.epoch, .int .i64 D1.seq, .slice S1.body.a S1.body.n S1.body.c, .slice S1.tag.a S1.tag.n S1.tag.c]) := KF11.out.keep (KQ.block _ KF11.out.lt (by have := L1.out; have := GA.out; have := L2.out; have := HP.out; have := L3.out; have := L4.out; have := Gge.out; have := L5.out; have := L6.out; have := L7.out; have := L8.out; have := L9.out; have := Z9.out; have := L10.out; have := L11.out; have := L12.out; omega))
      have OF12 : Hid (FrIn x12 pz qz S1 D1) := OF11.out.carry KQ (by have := L1.out; have := GA.out; have := L2.out; have := HP.out; have := L3.out; have := L4.out; have := Gge.out; have := L5.out; have := L6.out; have := L7.out; have := L8.out; have := L9.out; have := Z9.out; have := L10.out; have := L11.out; have := L12.out; omega)
      clear B11 KP11 KO11 R11 OE11 KE11 KF11 OF11 b
      clear KQ r
      cases o2 with
      | true =>
        have d0 := KF12.out.cell 0 rfl
        have d1 := KF12.out.cell 1 rfl
        have d2 := KF12.out.cell 2 rfl
        have d3 := KF12.out.cell 3 rfl
        have d4 := KF12.out.cell 4 rfl
        have d5 := KF12.out.cell 5 rfl
        have d6 := KF12.out.cell 6 rfl
        have d7 := KF12.out.cell 7 rfl
        have d8 := KF12.out.cell 8 rfl
        have d9 := KF12.out.cell 9 rfl
        have d10 := KF12.out.cell 10 rfl
        go_wp2_with fail
        refine (l9Bent R12.out S1 D1 OF12.out.rd HS1.out).mono ?_
        rintro e x13 ⟨D2, S2, rfl, oi, r, b⟩
        unfold frV
        clear d0 d1 d2 d3 d4 d5 d6 d7 d8 d9 d10
        have L13 : Hid (x12.heap.size ≤ x13.heap.size) := b.size
        have KQ : Kept p (p + 1) x12 x13 := Kept.of_grown b
        have B13 : Hid (Below w.heap.size w x13) := But.below b B12.out (by have := L1.out; have := GA.out; have := L2.out; have := HP.out; have := L3.out; have := L4.out; have := Gge.out; have := L5.out; have := L6.out; have := L7.out; have := L8.out; have := L9.out; have := Z9.out; have := L10.out; have := L11.out; have := L12.out; have := L13.out; omega)
        have KP13 : Hid (Blk x13 gp 41 [.int .i64 0, .slice none 0 0, .int .i64 0, .int .i64 0, .slice none 0 0]) := KP12.out.keep (KQ.block _ KP12.out.lt (by have := L1.out; have := GA.out; have := L2.out; have := HP.out; have := L3.out; have := L4.out; have := Gge.out; have := L5.out; have := L6.out; have := L7.out; have := L8.out; have := L9.out; have := Z9.out; have := L10.out; have := L11.out; have := L12.out; have := L13.out; omega))
        have KO13 : Hid (Blk x13 go 27 [.int .i64 0, .int .i64 0, .slice none 0 0, .slice none 0 0, .int .i64 0, .slice none 0 0, .slice none 0 0, .int .i64 0, .int .i64 0, .slice none 0 0, .slice none 0 0]) := KO12.out.keep (KQ.block _ KO12.out.lt (by have := L1.out; have := GA.out; have := L2.out; have := HP.out; have := L3.out; have := L4.out; have := Gge.out; have := L5.out; have := L6.out; have := L7.out; have := L8.out; have := L9.out; have := Z9.out; have := L10.out; have := L11.out; have := L12.out; have := L13.out; omega))
        have R13 : Hid (Ready x1 a len cap l p x13) := r
        have OE13 : Hid (EpOwn x13 x2.heap.size x3.heap.size S0 D0) := OE12.out.carry KQ (by have := L1.out; have := GA.out; have := L2.out; have := HP.out; have := L3.out; have := L4.out; have := Gge.out; have := L5.out; have := L6.out; have := L7.out; have := L8.out; have := L9.out; have := Z9.out; have := L10.out; have := L11.out; have := L12.out; have := L13.out; omega)
        have KE13 : Hid (Blk x13 ge 41 [.int .i64 D0.n, .slice S0.key.a S0.key.n S0.key.c, .int .i64 D0.seq, .int .i64 D0.win.top, .slice S0.win.bits.a S0.win.bits.n S0.win.bits.c]) := KE12.out.keep (KQ.block _ KE12.out.lt (by have := L1.out; have := GA.out; have := L2.out; have := HP.out; have := L3.out; have := L4.out; have := Gge.out; have := L5.out; have := L6.out; have := L7.out; have := L8.out; have := L9.out; have := Z9.out; have := L10.out; have := L11.out; have := L12.out; have := L13.out; omega))
        have KF13 : Hid (Blk x13 gf 27 [.int .i64 D1.kind, .int .i64 D1.id, .slice S1.cn.a S1.cn.n S1.cn.c, .slice S1.sn.a S1.sn.n S1.sn.c, .int .i64 D1.tick, .slice S1.cookie.a S1.cookie.n S1.cookie.c, .slice S1.proof.a S1.proof.n S1.proof.c, .int .i64 D1.epoch, .int .i64 D1.seq, .slice S1.body.a S1.body.n S1.body.c, .slice S1.tag.a S1.tag.n S1.tag.c]) := KF12.out.keep (KQ.block _ KF12.out.lt (by have := L1.out; have := GA.out; have := L2.out; have := HP.out; have := L3.out; have := L4.out; have := Gge.out; have := L5.out; have := L6.out; have := L7.out; have := L8.out; have := L9.out; have := Z9.out; have := L10.out; have := L11.out; have := L12.out; have := L13.out; omega))
        have OF13 : Hid (FrIn x13 pz qz S1 D1) := OF12.out.carry KQ (by have := L1.out; have := GA.out; have := L2.out; have := HP.out; have := L3.out; have := L4.out; have := Gge.out; have := L5.out; have := L6.out; have := L7.out; have := L8.out; have := L9.out; have := Z9.out; have := L10.out; have := L11.out; have := L12.out; have := L13.out; omega)
        clear B12 KP12 KO12 R12 OE12 KE12 KF12 OF12 b
        clear KQ r
        clear OF13
        have OF13 : Hid (FrIn x13 x12.heap.size x13.heap.size S2 D2) := oi
        clear oi
        have co0 := KF13.out.cell 0 rfl
        have fo0 := KF13.out.frozen 0
        have co1 := KF13.out.cell 1 rfl
        have fo1 := KF13.out.frozen 1
        have co2 := KF13.out.cell 2 rfl
        have fo2 := KF13.out.frozen 2
        have co3 := KF13.out.cell 3 rfl
        have fo3 := KF13.out.frozen 3
        have co4 := KF13.out.cell 4 rfl
        have fo4 := KF13.out.frozen 4
        have co5 := KF13.out.cell 5 rfl
        have fo5 := KF13.out.frozen 5
        have co6 := KF13.out.cell 6 rfl
        have fo6 := KF13.out.frozen 6
        have co7 := KF13.out.cell 7 rfl
        have fo7 := KF13.out.frozen 7
        have co8 := KF13.out.cell 8 rfl
        have fo8 := KF13.out.frozen 8
        have co9 := KF13.out.cell 9 rfl
        have fo9 := KF13.out.frozen 9
        have co10 := KF13.out.cell 10 rfl
        have fo10 := KF13.out.frozen 10
        obtain ⟨x14, hx14⟩ : ∃ y, (((((((((((x13.setCell ⟨gf, 0, none⟩ (.int .i64 D2.kind)).setCell ⟨gf, 1, none⟩ (.int .i64 D2.id)).setCell ⟨gf, 2, none⟩ (.slice S2.cn.a S2.cn.n S2.cn.c)).setCell ⟨gf, 3, none⟩ (.slice S2.sn.a S2.sn.n S2.sn.c)).setCell ⟨gf, 4, none⟩ (.int .i64 D2.tick)).setCell ⟨gf, 5, none⟩ (.slice S2.cookie.a S2.cookie.n S2.cookie.c)).setCell ⟨gf, 6, none⟩ (.slice S2.proof.a S2.proof.n S2.proof.c)).setCell ⟨gf, 7, none⟩ (.int .i64 D2.epoch)).setCell ⟨gf, 8, none⟩ (.int .i64 D2.seq)).setCell ⟨gf, 9, none⟩ (.slice S2.body.a S2.body.n S2.body.c)).setCell ⟨gf, 10, none⟩ (.slice S2.tag.a S2.tag.n S2.tag.c)) = y := ⟨_, rfl⟩
        have HW14 : Hid ((((((((((((x13.setCell ⟨gf, 0, none⟩ (.int .i64 D2.kind)).setCell ⟨gf, 1, none⟩ (.int .i64 D2.id)).setCell ⟨gf, 2, none⟩ (.slice S2.cn.a S2.cn.n S2.cn.c)).setCell ⟨gf, 3, none⟩ (.slice S2.sn.a S2.sn.n S2.sn.c)).setCell ⟨gf, 4, none⟩ (.int .i64 D2.tick)).setCell ⟨gf, 5, none⟩ (.slice S2.cookie.a S2.cookie.n S2.cookie.c)).setCell ⟨gf, 6, none⟩ (.slice S2.proof.a S2.proof.n S2.proof.c)).setCell ⟨gf, 7, none⟩ (.int .i64 D2.epoch)).setCell ⟨gf, 8, none⟩ (.int .i64 D2.seq)).setCell ⟨gf, 9, none⟩ (.slice S2.body.a S2.body.n S2.body.c)).setCell ⟨gf, 10, none⟩ (.slice S2.tag.a S2.tag.n S2.tag.c)) = x14) := hx14
        have L14 : Hid (x14.heap.size = x13.heap.size) := by rw [← hx14]; show _ = _; simp
        have KS : Blk x14 gf 27 [.int .i64 D2.kind, .int .i64 D2.id, .slice S2.cn.a S2.cn.n S2.cn.c, .slice S2.sn.a S2.sn.n S2.sn.c, .int .i64 D2.tick, .slice S2.cookie.a S2.cookie.n S2.cookie.c, .slice S2.proof.a S2.proof.n S2.proof.c, .int .i64 D2.epoch, .int .i64 D2.seq, .slice S2.body.a S2.body.n S2.body.c, .slice S2.tag.a S2.tag.n S2.tag.c] := by rw [← hx14]; exact (((((((((((KF13.out.set 0 _ (by simp [maxLen])).set 1 _ (by simp [maxLen])).set 2 _ (by simp [maxLen])).set 3 _ (by simp [maxLen])).set 4 _ (by simp [maxLen])).set 5 _ (by simp [maxLen])).set 6 _ (by simp [maxLen])).set 7 _ (by simp [maxLen])).set 8 _ (by simp [maxLen])).set 9 _ (by simp [maxLen])).set 10 _ (by simp [maxLen]))
        have KQ : Kept gf (gf + 1) x13 x14 := by rw [← hx14]; exact (((((((((((Kept.setCell _ _ _ _).trans (Kept.setCell _ _ _ _)).trans (Kept.setCell _ _ _ _)).trans (Kept.setCell _ _ _ _)).trans (Kept.setCell _ _ _ _)).trans (Kept.setCell _ _ _ _)).trans (Kept.setCell _ _ _ _)).trans (Kept.setCell _ _ _ _)).trans (Kept.setCell _ _ _ _)).trans (Kept.setCell _ _ _ _)).trans (Kept.setCell _ _ _ _))
        clear hx14
        have B14 : Hid (Below w.heap.size w x14) := B13.out.trans (KQ.below (by have := L1.out; have := GA.out; have := L2.out; have := HP.out; have := L3.out; have := L4.out; have := Gge.out; have := L5.out; have := L6.out; have := L7.out; have := L8.out; have := L9.out; have := Z9.out; have := L10.out; have := L11.out; have := L12.out; have := L13.out; have := L14.out; omega) B13.out.size)
        have KP14 : Hid (Blk x14 gp 41 [.int .i64 0, .slice none 0 0, .int .i64 0, .int .i64 0, .slice none 0 0]) := KP13.out.keep (KQ.block _ KP13.out.lt (by have := L1.out; have := GA.out; have := L2.out; have := HP.out; have := L3.out; have := L4.out; have := Gge.out; have := L5.out; have := L6.out; have := L7.out; have := L8.out; have := L9.out; have := Z9.out; have := L10.out; have := L11.out; have := L12.out; have := L13.out; have := L14.out; omega))
        have KO14 : Hid (Blk x14 go 27 [.int .i64 0, .int .i64 0, .slice none 0 0, .slice none 0 0, .int .i64 0, .slice none 0 0, .slice none 0 0, .int .i64 0, .int .i64 0, .slice none 0 0, .slice none 0 0]) := KO13.out.keep (KQ.block _ KO13.out.lt (by have := L1.out; have := GA.out; have := L2.out; have := HP.out; have := L3.out; have := L4.out; have := Gge.out; have := L5.out; have := L6.out; have := L7.out; have := L8.out; have := L9.out; have := Z9.out; have := L10.out; have := L11.out; have := L12.out; have := L13.out; have := L14.out; omega))
        have R14 : Hid (Ready x1 a len cap l p x14) := rdyK R13.out KQ (by have := L1.out; have := GA.out; have := L2.out; have := HP.out; have := L3.out; have := L4.out; have := Gge.out; have := L5.out; have := L6.out; have := L7.out; have := L8.out; have := L9.out; have := Z9.out; have := L10.out; have := L11.out; have := L12.out; have := L13.out; have := L14.out; omega)
        have OE14 : Hid (EpOwn x14 x2.heap.size x3.heap.size S0 D0) := OE13.out.carry KQ (by have := L1.out; have := GA.out; have := L2.out; have := HP.out; have := L3.out; have := L4.out; have := Gge.out; have := L5.out; have := L6.out; have := L7.out; have := L8.out; have := L9.out; have := Z9.out; have := L10.out; have := L11.out; have := L12.out; have := L13.out; have := L14.out; omega)
        have KE14 : Hid (Blk x14 ge 41 [.int .i64 D0.n, .slice S0.key.a S0.key.n S0.key.c, .int .i64 D0.seq, .int .i64 D0.win.top, .slice S0.win.bits.a S0.win.bits.n S0.win.bits.c]) := KE13.out.keep (KQ.block _ KE13.out.lt (by have := L1.out; have := GA.out; have := L2.out; have := HP.out; have := L3.out; have := L4.out; have := Gge.out; have := L5.out; have := L6.out; have := L7.out; have := L8.out; have := L9.out; have := Z9.out; have := L10.out; have := L11.out; have := L12.out; have := L13.out; have := L14.out; omega))
        have OF14 : Hid (FrIn x14 x12.heap.size x13.heap.size S2 D2) := OF13.out.carry KQ (by have := L1.out; have := GA.out; have := L2.out; have := HP.out; have := L3.out; have := L4.out; have := Gge.out; have := L5.out; have := L6.out; have := L7.out; have := L8.out; have := L9.out; have := Z9.out; have := L10.out; have := L11.out; have := L12.out; have := L13.out; have := L14.out; omega)
        clear B13 KP13 KO13 R13 OE13 KE13 OF13 KQ
        clear KF13
        have KF14 : Hid (Blk x14 gf 27 [.int .i64 D2.kind, .int .i64 D2.id, .slice S2.cn.a S2.cn.n S2.cn.c, .slice S2.sn.a S2.sn.n S2.sn.c, .int .i64 D2.tick, .slice S2.cookie.a S2.cookie.n S2.cookie.c, .slice S2.proof.a S2.proof.n S2.proof.c, .int .i64 D2.epoch, .int .i64 D2.seq, .slice S2.body.a S2.body.n S2.body.c, .slice S2.tag.a S2.tag.n S2.tag.c]) := KS
        clear KS
        go_upto_region 13 with fail
        rw [HW14.out]
        clear HW14 co0 fo0 co1 fo1 co2 fo2 co3 fo3 co4 fo4 co5 fo5 co6 fo6 co7 fo7 co8 fo8 co9 fo9 co10 fo10
        have N1 : ge ≠ gp := by have := L1.out; have := GA.out; have := L2.out; have := HP.out; have := L3.out; have := L4.out; have := Gge.out; have := L5.out; have := L6.out; have := L7.out; have := L8.out; have := L9.out; have := Z9.out; have := L10.out; have := L11.out; have := L12.out; have := L13.out; have := L14.out; omega
        have N2 : gf ≠ gp := by have := L1.out; have := GA.out; have := L2.out; have := HP.out; have := L3.out; have := L4.out; have := Gge.out; have := L5.out; have := L6.out; have := L7.out; have := L8.out; have := L9.out; have := Z9.out; have := L10.out; have := L11.out; have := L12.out; have := L13.out; have := L14.out; omega
        have N3 : ge ≠ go := by have := L1.out; have := GA.out; have := L2.out; have := HP.out; have := L3.out; have := L4.out; have := Gge.out; have := L5.out; have := L6.out; have := L7.out; have := L8.out; have := L9.out; have := Z9.out; have := L10.out; have := L11.out; have := L12.out; have := L13.out; have := L14.out; omega
        have N4 : gf ≠ go := by have := L1.out; have := GA.out; have := L2.out; have := HP.out; have := L3.out; have := L4.out; have := Gge.out; have := L5.out; have := L6.out; have := L7.out; have := L8.out; have := L9.out; have := Z9.out; have := L10.out; have := L11.out; have := L12.out; have := L13.out; have := L14.out; omega
        have N5 : go ≠ gp := by have := L1.out; have := GA.out; have := L2.out; have := HP.out; have := L3.out; have := L4.out; have := Gge.out; have := L5.out; have := L6.out; have := L7.out; have := L8.out; have := L9.out; have := Z9.out; have := L10.out; have := L11.out; have := L12.out; have := L13.out; have := L14.out; omega
        have xe0 := hide ((drewB KE14.out).cell 0 rfl)
        have xe1 := hide ((drewB KE14.out).cell 1 rfl)
        have xe2 := hide ((drewB KE14.out).cell 2 rfl)
        have xe3 := hide ((drewB KE14.out).cell 3 rfl)
        have xe4 := hide ((drewB KE14.out).cell 4 rfl)
        have xf0 := hide ((drewB KF14.out).cell 0 rfl)
        have xf1 := hide ((drewB KF14.out).cell 1 rfl)
        have xf2 := hide ((drewB KF14.out).cell 2 rfl)
        have xf3 := hide ((drewB KF14.out).cell 3 rfl)
        have xf4 := hide ((drewB KF14.out).cell 4 rfl)
        have xf5 := hide ((drewB KF14.out).cell 5 rfl)
        have xf6 := hide ((drewB KF14.out).cell 6 rfl)
        have xf7 := hide ((drewB KF14.out).cell 7 rfl)
        have xf8 := hide ((drewB KF14.out).cell 8 rfl)
        have xf9 := hide ((drewB KF14.out).cell 9 rfl)
        have xf10 := hide ((drewB KF14.out).cell 10 rfl)
        have vo0 := KP14.out.cell 0 rfl
        have vo1 := KP14.out.cell 1 rfl
        have vo2 := KP14.out.cell 2 rfl
        have vo3 := KP14.out.cell 3 rfl
        have vo4 := KP14.out.cell 4 rfl
        have vp0 := KP14.out.frozen 0
        have vp1 := KP14.out.frozen 1
        have vp2 := KP14.out.frozen 2
        have vp3 := KP14.out.frozen 3
        have vp4 := KP14.out.frozen 4
        have ze0 := KE14.out.cell 0 rfl
        have ze1 := KE14.out.cell 1 rfl
        have ze2 := KE14.out.cell 2 rfl
        have ze3 := KE14.out.cell 3 rfl
        have ze4 := KE14.out.cell 4 rfl
        have zf0 := KF14.out.cell 0 rfl
        have zf1 := KF14.out.cell 1 rfl
        have zf2 := KF14.out.cell 2 rfl
        have zf3 := KF14.out.cell 3 rfl
        have zf4 := KF14.out.cell 4 rfl
        have zf5 := KF14.out.cell 5 rfl
        have zf6 := KF14.out.cell 6 rfl
        have zf7 := KF14.out.cell 7 rfl
        have zf8 := KF14.out.cell 8 rfl
        have zf9 := KF14.out.cell 9 rfl
        have zf10 := KF14.out.cell 10 rfl
        have zH := ep_other KO14.out N5 (.int .i64 D0.n) (.slice S0.key.a S0.key.n S0.key.c) (.int .i64 D0.seq) (.int .i64 D0.win.top) (.slice S0.win.bits.a S0.win.bits.n S0.win.bits.c)
        have zN := ep_other KE14.out N1 (.int .i64 D0.n) (.slice S0.key.a S0.key.n S0.key.c) (.int .i64 D0.seq) (.int .i64 D0.win.top) (.slice S0.win.bits.a S0.win.bits.n S0.win.bits.c)
        have zG := ep_other KF14.out N2 (.int .i64 D0.n) (.slice S0.key.a S0.key.n S0.key.c) (.int .i64 D0.seq) (.int .i64 D0.win.top) (.slice S0.win.bits.a S0.win.bits.n S0.win.bits.c)
        have vh0 := KO14.out.cell 0 rfl
        have vh1 := KO14.out.cell 1 rfl
        have vh2 := KO14.out.cell 2 rfl
        have vh3 := KO14.out.cell 3 rfl
        have vh4 := KO14.out.cell 4 rfl
        have vh5 := KO14.out.cell 5 rfl
        have vh6 := KO14.out.cell 6 rfl
        have vh7 := KO14.out.cell 7 rfl
        have vh8 := KO14.out.cell 8 rfl
        have vh9 := KO14.out.cell 9 rfl
        have vh10 := KO14.out.cell 10 rfl
        have vg0 := KO14.out.frozen 0
        have vg1 := KO14.out.frozen 1
        have vg2 := KO14.out.frozen 2
        have vg3 := KO14.out.frozen 3
        have vg4 := KO14.out.frozen 4
        have vg5 := KO14.out.frozen 5
        have vg6 := KO14.out.frozen 6
        have vg7 := KO14.out.frozen 7
        have vg8 := KO14.out.frozen 8
        have vg9 := KO14.out.frozen 9
        have vg10 := KO14.out.frozen 10
        have zm0 := hide ((drewB zN).cell 0 rfl)
        have zm1 := hide ((drewB zN).cell 1 rfl)
        have zm2 := hide ((drewB zN).cell 2 rfl)
        have zm3 := hide ((drewB zN).cell 3 rfl)
        have zm4 := hide ((drewB zN).cell 4 rfl)
        have zn0 := hide ((drewB zG).cell 0 rfl)
        have zn1 := hide ((drewB zG).cell 1 rfl)
        have zn2 := hide ((drewB zG).cell 2 rfl)
        have zn3 := hide ((drewB zG).cell 3 rfl)
        have zn4 := hide ((drewB zG).cell 4 rfl)
        have zn5 := hide ((drewB zG).cell 5 rfl)
        have zn6 := hide ((drewB zG).cell 6 rfl)
        have zn7 := hide ((drewB zG).cell 7 rfl)
        have zn8 := hide ((drewB zG).cell 8 rfl)
        have zn9 := hide ((drewB zG).cell 9 rfl)
        have zn10 := hide ((drewB zG).cell 10 rfl)
        have zM := fr_other zN N3 (.int .i64 D2.kind) (.int .i64 D2.id) (.slice S2.cn.a S2.cn.n S2.cn.c) (.slice S2.sn.a S2.sn.n S2.sn.c) (.int .i64 D2.tick) (.slice S2.cookie.a S2.cookie.n S2.cookie.c) (.slice S2.proof.a S2.proof.n S2.proof.c) (.int .i64 D2.epoch) (.int .i64 D2.seq) (.slice S2.body.a S2.body.n S2.body.c) (.slice S2.tag.a S2.tag.n S2.tag.c)
        have zK := fr_other zG N4 (.int .i64 D2.kind) (.int .i64 D2.id) (.slice S2.cn.a S2.cn.n S2.cn.c) (.slice S2.sn.a S2.sn.n S2.sn.c) (.int .i64 D2.tick) (.slice S2.cookie.a S2.cookie.n S2.cookie.c) (.slice S2.proof.a S2.proof.n S2.proof.c) (.int .i64 D2.epoch) (.int .i64 D2.seq) (.slice S2.body.a S2.body.n S2.body.c) (.slice S2.tag.a S2.tag.n S2.tag.c)
        have zr0 := hide ((drewB zM).cell 0 rfl)
        have zr1 := hide ((drewB zM).cell 1 rfl)
        have zr2 := hide ((drewB zM).cell 2 rfl)
        have zr3 := hide ((drewB zM).cell 3 rfl)
        have zr4 := hide ((drewB zM).cell 4 rfl)
        have zs0 := hide ((drewB zK).cell 0 rfl)
        have zs1 := hide ((drewB zK).cell 1 rfl)
        have zs2 := hide ((drewB zK).cell 2 rfl)
        have zs3 := hide ((drewB zK).cell 3 rfl)
        have zs4 := hide ((drewB zK).cell 4 rfl)
        have zs5 := hide ((drewB zK).cell 5 rfl)
        have zs6 := hide ((drewB zK).cell 6 rfl)
        have zs7 := hide ((drewB zK).cell 7 rfl)
        have zs8 := hide ((drewB zK).cell 8 rfl)
        have zs9 := hide ((drewB zK).cell 9 rfl)
        have zs10 := hide ((drewB zK).cell 10 rfl)
        clear zH zN zG zM zK
        go_region_held3 (fun w' => w'.cell? ⟨ge, 0, none⟩ = some (.int .i64 D0.n) ∧ w'.cell? ⟨ge, 1, none⟩ = some (.slice S0.key.a S0.key.n S0.key.c) ∧ w'.cell? ⟨ge, 2, none⟩ = some (.int .i64 D0.seq) ∧ w'.cell? ⟨ge, 3, none⟩ = some (.int .i64 D0.win.top) ∧ w'.cell? ⟨ge, 4, none⟩ = some (.slice S0.win.bits.a S0.win.bits.n S0.win.bits.c) ∧ w'.cell? ⟨gf, 0, none⟩ = some (.int .i64 D2.kind) ∧ w'.cell? ⟨gf, 1, none⟩ = some (.int .i64 D2.id) ∧ w'.cell? ⟨gf, 2, none⟩ = some (.slice S2.cn.a S2.cn.n S2.cn.c) ∧ w'.cell? ⟨gf, 3, none⟩ = some (.slice S2.sn.a S2.sn.n S2.sn.c) ∧ w'.cell? ⟨gf, 4, none⟩ = some (.int .i64 D2.tick) ∧ w'.cell? ⟨gf, 5, none⟩ = some (.slice S2.cookie.a S2.cookie.n S2.cookie.c) ∧ w'.cell? ⟨gf, 6, none⟩ = some (.slice S2.proof.a S2.proof.n S2.proof.c) ∧ w'.cell? ⟨gf, 7, none⟩ = some (.int .i64 D2.epoch) ∧ w'.cell? ⟨gf, 8, none⟩ = some (.int .i64 D2.seq) ∧ w'.cell? ⟨gf, 9, none⟩ = some (.slice S2.body.a S2.body.n S2.body.c) ∧ w'.cell? ⟨gf, 10, none⟩ = some (.slice S2.tag.a S2.tag.n S2.tag.c)) (first | with_reducible exact ⟨zr0.out, zr1.out, zr2.out, zr3.out, zr4.out, zs0.out, zs1.out, zs2.out, zs3.out, zs4.out, zs5.out, zs6.out, zs7.out, zs8.out, zs9.out, zs10.out⟩ | with_reducible exact ⟨zm0.out, zm1.out, zm2.out, zm3.out, zm4.out, zn0.out, zn1.out, zn2.out, zn3.out, zn4.out, zn5.out, zn6.out, zn7.out, zn8.out, zn9.out, zn10.out⟩ | with_reducible exact ⟨ze0, ze1, ze2, ze3, ze4, zf0, zf1, zf2, zf3, zf4, zf5, zf6, zf7, zf8, zf9, zf10⟩ | with_reducible exact ⟨xe0.out, xe1.out, xe2.out, xe3.out, xe4.out, xf0.out, xf1.out, xf2.out, xf3.out, xf4.out, xf5.out, xf6.out, xf7.out, xf8.out, xf9.out, xf10.out⟩ | go_keep) (fail)
        clear ze0 zm0 zr0 vo0 vp0 xe0 ze1 zm1 zr1 vo1 vp1 xe1 ze2 zm2 zr2 vo2 vp2 xe2 ze3 zm3 zr3 vo3 vp3 xe3 ze4 zm4 zr4 vo4 vp4 xe4 zf0 zn0 zs0 vh0 vg0 xf0 zf1 zn1 zs1 vh1 vg1 xf1 zf2 zn2 zs2 vh2 vg2 xf2 zf3 zn3 zs3 vh3 vg3 xf3 zf4 zn4 zs4 vh4 vg4 xf4 zf5 zn5 zs5 vh5 vg5 xf5 zf6 zn6 zs6 vh6 vg6 xf6 zf7 zn7 zs7 vh7 vg7 xf7 zf8 zn8 zs8 vh8 vg8 xf8 zf9 zn9 zs9 vh9 vg9 xf9 zf10 zn10 zs10 vh10 vg10 xf10
        go_wp2
        have SZF : Hid (w.heap.size ≤ gp ∧ gp + 1 = go ∧ go + 1 ≤ x2.heap.size ∧ x2.heap.size ≤ x3.heap.size ∧ x3.heap.size ≤ x14.heap.size ∧ go + 1 ≤ x12.heap.size ∧ x13.heap.size ≤ x14.heap.size) := by have := L1.out; have := GA.out; have := L2.out; have := HP.out; have := L3.out; have := L4.out; have := Gge.out; have := L5.out; have := L6.out; have := L7.out; have := L8.out; have := L9.out; have := Z9.out; have := L10.out; have := L11.out; have := L12.out; have := L13.out; have := L14.out; show _ ∧ _; omega
        obtain ⟨k1, k2, k3⟩ := ep_stored (D := D0) (S := S0) (lo := x2.heap.size) (hi := x3.heap.size) KP14.out OE14.out (.inl (by have := SZF.out; omega))
        have kh := ep_other KO14.out N5 (.int .i64 D0.n) (.slice S0.key.a S0.key.n S0.key.c) (.int .i64 D0.seq) (.int .i64 D0.win.top) (.slice S0.win.bits.a S0.win.bits.n S0.win.bits.c)
        have f1 := fr_put kh (.int .i64 D2.kind) (.int .i64 D2.id) (.slice S2.cn.a S2.cn.n S2.cn.c) (.slice S2.sn.a S2.sn.n S2.sn.c) (.int .i64 D2.tick) (.slice S2.cookie.a S2.cookie.n S2.cookie.c) (.slice S2.proof.a S2.proof.n S2.proof.c) (.int .i64 D2.epoch) (.int .i64 D2.seq) (.slice S2.body.a S2.body.n S2.body.c) (.slice S2.tag.a S2.tag.n S2.tag.c)
        have k4 := fr_other k1 (Ne.symm N5) (.int .i64 D2.kind) (.int .i64 D2.id) (.slice S2.cn.a S2.cn.n S2.cn.c) (.slice S2.sn.a S2.sn.n S2.sn.c) (.int .i64 D2.tick) (.slice S2.cookie.a S2.cookie.n S2.cookie.c) (.slice S2.proof.a S2.proof.n S2.proof.c) (.int .i64 D2.epoch) (.int .i64 D2.seq) (.slice S2.body.a S2.body.n S2.body.c) (.slice S2.tag.a S2.tag.n S2.tag.c)
        have of := (OF14.out.carry (ep_kept _ gp (.int .i64 D0.n) (.slice S0.key.a S0.key.n S0.key.c) (.int .i64 D0.seq) (.int .i64 D0.win.top) (.slice S0.win.bits.a S0.win.bits.n S0.win.bits.c)) (.inr (by have := SZF.out; omega))).carry (fr_kept _ go (.int .i64 D2.kind) (.int .i64 D2.id) (.slice S2.cn.a S2.cn.n S2.cn.c) (.slice S2.sn.a S2.sn.n S2.sn.c) (.int .i64 D2.tick) (.slice S2.cookie.a S2.cookie.n S2.cookie.c) (.slice S2.proof.a S2.proof.n S2.proof.c) (.int .i64 D2.epoch) (.int .i64 D2.seq) (.slice S2.body.a S2.body.n S2.body.c) (.slice S2.tag.a S2.tag.n S2.tag.c)) (.inr (by have := SZF.out; omega))
        have oe := k2.carry (fr_kept _ go (.int .i64 D2.kind) (.int .i64 D2.id) (.slice S2.cn.a S2.cn.n S2.cn.c) (.slice S2.sn.a S2.sn.n S2.sn.c) (.int .i64 D2.tick) (.slice S2.cookie.a S2.cookie.n S2.cookie.c) (.slice S2.proof.a S2.proof.n S2.proof.c) (.int .i64 D2.epoch) (.int .i64 D2.seq) (.slice S2.body.a S2.body.n S2.body.c) (.slice S2.tag.a S2.tag.n S2.tag.c)) (.inr (by have := SZF.out; omega))
        have b9 := fr_low (k3 _ _ (show w.heap.size ≤ gp by have := SZF.out; omega) B14.out) (g := go) (by have := SZF.out; omega) (.int .i64 D2.kind) (.int .i64 D2.id) (.slice S2.cn.a S2.cn.n S2.cn.c) (.slice S2.sn.a S2.sn.n S2.sn.c) (.int .i64 D2.tick) (.slice S2.cookie.a S2.cookie.n S2.cookie.c) (.slice S2.proof.a S2.proof.n S2.proof.c) (.int .i64 D2.epoch) (.int .i64 D2.seq) (.slice S2.body.a S2.body.n S2.body.c) (.slice S2.tag.a S2.tag.n S2.tag.c)
        exact bodyPost_ret (v := .tuple #[epV D0 S0, .int .i64 r3, frV D2 S2]) (res3 rfl (is_cell rfl (drewB k4) aggEp) (is_tmp rfl) (is_cell rfl (drewB f1) aggFr)) rfl ⟨D0, S0, r3, D2, S2, rfl, HS0.out, (oe.later ((Below.refl _ _).drew)).rd, (of.later ((Below.refl _ _).drew)).rd, b9.drew⟩
      | false =>
        go_upto_region 13 with fail
        have N1 : ge ≠ gp := by have := L1.out; have := GA.out; have := L2.out; have := HP.out; have := L3.out; have := L4.out; have := Gge.out; have := L5.out; have := L6.out; have := L7.out; have := L8.out; have := L9.out; have := Z9.out; have := L10.out; have := L11.out; have := L12.out; omega
        have N2 : gf ≠ gp := by have := L1.out; have := GA.out; have := L2.out; have := HP.out; have := L3.out; have := L4.out; have := Gge.out; have := L5.out; have := L6.out; have := L7.out; have := L8.out; have := L9.out; have := Z9.out; have := L10.out; have := L11.out; have := L12.out; omega
        have N3 : ge ≠ go := by have := L1.out; have := GA.out; have := L2.out; have := HP.out; have := L3.out; have := L4.out; have := Gge.out; have := L5.out; have := L6.out; have := L7.out; have := L8.out; have := L9.out; have := Z9.out; have := L10.out; have := L11.out; have := L12.out; omega
        have N4 : gf ≠ go := by have := L1.out; have := GA.out; have := L2.out; have := HP.out; have := L3.out; have := L4.out; have := Gge.out; have := L5.out; have := L6.out; have := L7.out; have := L8.out; have := L9.out; have := Z9.out; have := L10.out; have := L11.out; have := L12.out; omega
        have N5 : go ≠ gp := by have := L1.out; have := GA.out; have := L2.out; have := HP.out; have := L3.out; have := L4.out; have := Gge.out; have := L5.out; have := L6.out; have := L7.out; have := L8.out; have := L9.out; have := Z9.out; have := L10.out; have := L11.out; have := L12.out; omega
        have xe0 := hide ((drewB KE12.out).cell 0 rfl)
        have xe1 := hide ((drewB KE12.out).cell 1 rfl)
        have xe2 := hide ((drewB KE12.out).cell 2 rfl)
        have xe3 := hide ((drewB KE12.out).cell 3 rfl)
        have xe4 := hide ((drewB KE12.out).cell 4 rfl)
        have xf0 := hide ((drewB KF12.out).cell 0 rfl)
        have xf1 := hide ((drewB KF12.out).cell 1 rfl)
        have xf2 := hide ((drewB KF12.out).cell 2 rfl)
        have xf3 := hide ((drewB KF12.out).cell 3 rfl)
        have xf4 := hide ((drewB KF12.out).cell 4 rfl)
        have xf5 := hide ((drewB KF12.out).cell 5 rfl)
        have xf6 := hide ((drewB KF12.out).cell 6 rfl)
        have xf7 := hide ((drewB KF12.out).cell 7 rfl)
        have xf8 := hide ((drewB KF12.out).cell 8 rfl)
        have xf9 := hide ((drewB KF12.out).cell 9 rfl)
        have xf10 := hide ((drewB KF12.out).cell 10 rfl)
        have vo0 := KP12.out.cell 0 rfl
        have vo1 := KP12.out.cell 1 rfl
        have vo2 := KP12.out.cell 2 rfl
        have vo3 := KP12.out.cell 3 rfl
        have vo4 := KP12.out.cell 4 rfl
        have vp0 := KP12.out.frozen 0
        have vp1 := KP12.out.frozen 1
        have vp2 := KP12.out.frozen 2
        have vp3 := KP12.out.frozen 3
        have vp4 := KP12.out.frozen 4
        have ze0 := KE12.out.cell 0 rfl
        have ze1 := KE12.out.cell 1 rfl
        have ze2 := KE12.out.cell 2 rfl
        have ze3 := KE12.out.cell 3 rfl
        have ze4 := KE12.out.cell 4 rfl
        have zf0 := KF12.out.cell 0 rfl
        have zf1 := KF12.out.cell 1 rfl
        have zf2 := KF12.out.cell 2 rfl
        have zf3 := KF12.out.cell 3 rfl
        have zf4 := KF12.out.cell 4 rfl
        have zf5 := KF12.out.cell 5 rfl
        have zf6 := KF12.out.cell 6 rfl
        have zf7 := KF12.out.cell 7 rfl
        have zf8 := KF12.out.cell 8 rfl
        have zf9 := KF12.out.cell 9 rfl
        have zf10 := KF12.out.cell 10 rfl
        have zH := ep_other KO12.out N5 (.int .i64 D0.n) (.slice S0.key.a S0.key.n S0.key.c) (.int .i64 D0.seq) (.int .i64 D0.win.top) (.slice S0.win.bits.a S0.win.bits.n S0.win.bits.c)
        have zN := ep_other KE12.out N1 (.int .i64 D0.n) (.slice S0.key.a S0.key.n S0.key.c) (.int .i64 D0.seq) (.int .i64 D0.win.top) (.slice S0.win.bits.a S0.win.bits.n S0.win.bits.c)
        have zG := ep_other KF12.out N2 (.int .i64 D0.n) (.slice S0.key.a S0.key.n S0.key.c) (.int .i64 D0.seq) (.int .i64 D0.win.top) (.slice S0.win.bits.a S0.win.bits.n S0.win.bits.c)
        have vh0 := KO12.out.cell 0 rfl
        have vh1 := KO12.out.cell 1 rfl
        have vh2 := KO12.out.cell 2 rfl
        have vh3 := KO12.out.cell 3 rfl
        have vh4 := KO12.out.cell 4 rfl
        have vh5 := KO12.out.cell 5 rfl
        have vh6 := KO12.out.cell 6 rfl
        have vh7 := KO12.out.cell 7 rfl
        have vh8 := KO12.out.cell 8 rfl
        have vh9 := KO12.out.cell 9 rfl
        have vh10 := KO12.out.cell 10 rfl
        have vg0 := KO12.out.frozen 0
        have vg1 := KO12.out.frozen 1
        have vg2 := KO12.out.frozen 2
        have vg3 := KO12.out.frozen 3
        have vg4 := KO12.out.frozen 4
        have vg5 := KO12.out.frozen 5
        have vg6 := KO12.out.frozen 6
        have vg7 := KO12.out.frozen 7
        have vg8 := KO12.out.frozen 8
        have vg9 := KO12.out.frozen 9
        have vg10 := KO12.out.frozen 10
        have zm0 := hide ((drewB zN).cell 0 rfl)
        have zm1 := hide ((drewB zN).cell 1 rfl)
        have zm2 := hide ((drewB zN).cell 2 rfl)
        have zm3 := hide ((drewB zN).cell 3 rfl)
        have zm4 := hide ((drewB zN).cell 4 rfl)
        have zn0 := hide ((drewB zG).cell 0 rfl)
        have zn1 := hide ((drewB zG).cell 1 rfl)
        have zn2 := hide ((drewB zG).cell 2 rfl)
        have zn3 := hide ((drewB zG).cell 3 rfl)
        have zn4 := hide ((drewB zG).cell 4 rfl)
        have zn5 := hide ((drewB zG).cell 5 rfl)
        have zn6 := hide ((drewB zG).cell 6 rfl)
        have zn7 := hide ((drewB zG).cell 7 rfl)
        have zn8 := hide ((drewB zG).cell 8 rfl)
        have zn9 := hide ((drewB zG).cell 9 rfl)
        have zn10 := hide ((drewB zG).cell 10 rfl)
        have zM := fr_other zN N3 (.int .i64 D1.kind) (.int .i64 D1.id) (.slice S1.cn.a S1.cn.n S1.cn.c) (.slice S1.sn.a S1.sn.n S1.sn.c) (.int .i64 D1.tick) (.slice S1.cookie.a S1.cookie.n S1.cookie.c) (.slice S1.proof.a S1.proof.n S1.proof.c) (.int .i64 D1.epoch) (.int .i64 D1.seq) (.slice S1.body.a S1.body.n S1.body.c) (.slice S1.tag.a S1.tag.n S1.tag.c)
        have zK := fr_other zG N4 (.int .i64 D1.kind) (.int .i64 D1.id) (.slice S1.cn.a S1.cn.n S1.cn.c) (.slice S1.sn.a S1.sn.n S1.sn.c) (.int .i64 D1.tick) (.slice S1.cookie.a S1.cookie.n S1.cookie.c) (.slice S1.proof.a S1.proof.n S1.proof.c) (.int .i64 D1.epoch) (.int .i64 D1.seq) (.slice S1.body.a S1.body.n S1.body.c) (.slice S1.tag.a S1.tag.n S1.tag.c)
        have zr0 := hide ((drewB zM).cell 0 rfl)
        have zr1 := hide ((drewB zM).cell 1 rfl)
        have zr2 := hide ((drewB zM).cell 2 rfl)
        have zr3 := hide ((drewB zM).cell 3 rfl)
        have zr4 := hide ((drewB zM).cell 4 rfl)
        have zs0 := hide ((drewB zK).cell 0 rfl)
        have zs1 := hide ((drewB zK).cell 1 rfl)
        have zs2 := hide ((drewB zK).cell 2 rfl)
        have zs3 := hide ((drewB zK).cell 3 rfl)
        have zs4 := hide ((drewB zK).cell 4 rfl)
        have zs5 := hide ((drewB zK).cell 5 rfl)
        have zs6 := hide ((drewB zK).cell 6 rfl)
        have zs7 := hide ((drewB zK).cell 7 rfl)
        have zs8 := hide ((drewB zK).cell 8 rfl)
        have zs9 := hide ((drewB zK).cell 9 rfl)
        have zs10 := hide ((drewB zK).cell 10 rfl)
        clear zH zN zG zM zK
        go_region_held3 (fun w' => w'.cell? ⟨ge, 0, none⟩ = some (.int .i64 D0.n) ∧ w'.cell? ⟨ge, 1, none⟩ = some (.slice S0.key.a S0.key.n S0.key.c) ∧ w'.cell? ⟨ge, 2, none⟩ = some (.int .i64 D0.seq) ∧ w'.cell? ⟨ge, 3, none⟩ = some (.int .i64 D0.win.top) ∧ w'.cell? ⟨ge, 4, none⟩ = some (.slice S0.win.bits.a S0.win.bits.n S0.win.bits.c) ∧ w'.cell? ⟨gf, 0, none⟩ = some (.int .i64 D1.kind) ∧ w'.cell? ⟨gf, 1, none⟩ = some (.int .i64 D1.id) ∧ w'.cell? ⟨gf, 2, none⟩ = some (.slice S1.cn.a S1.cn.n S1.cn.c) ∧ w'.cell? ⟨gf, 3, none⟩ = some (.slice S1.sn.a S1.sn.n S1.sn.c) ∧ w'.cell? ⟨gf, 4, none⟩ = some (.int .i64 D1.tick) ∧ w'.cell? ⟨gf, 5, none⟩ = some (.slice S1.cookie.a S1.cookie.n S1.cookie.c) ∧ w'.cell? ⟨gf, 6, none⟩ = some (.slice S1.proof.a S1.proof.n S1.proof.c) ∧ w'.cell? ⟨gf, 7, none⟩ = some (.int .i64 D1.epoch) ∧ w'.cell? ⟨gf, 8, none⟩ = some (.int .i64 D1.seq) ∧ w'.cell? ⟨gf, 9, none⟩ = some (.slice S1.body.a S1.body.n S1.body.c) ∧ w'.cell? ⟨gf, 10, none⟩ = some (.slice S1.tag.a S1.tag.n S1.tag.c)) (first | with_reducible exact ⟨zr0.out, zr1.out, zr2.out, zr3.out, zr4.out, zs0.out, zs1.out, zs2.out, zs3.out, zs4.out, zs5.out, zs6.out, zs7.out, zs8.out, zs9.out, zs10.out⟩ | with_reducible exact ⟨zm0.out, zm1.out, zm2.out, zm3.out, zm4.out, zn0.out, zn1.out, zn2.out, zn3.out, zn4.out, zn5.out, zn6.out, zn7.out, zn8.out, zn9.out, zn10.out⟩ | with_reducible exact ⟨ze0, ze1, ze2, ze3, ze4, zf0, zf1, zf2, zf3, zf4, zf5, zf6, zf7, zf8, zf9, zf10⟩ | with_reducible exact ⟨xe0.out, xe1.out, xe2.out, xe3.out, xe4.out, xf0.out, xf1.out, xf2.out, xf3.out, xf4.out, xf5.out, xf6.out, xf7.out, xf8.out, xf9.out, xf10.out⟩ | go_keep) (fail)
        clear ze0 zm0 zr0 vo0 vp0 xe0 ze1 zm1 zr1 vo1 vp1 xe1 ze2 zm2 zr2 vo2 vp2 xe2 ze3 zm3 zr3 vo3 vp3 xe3 ze4 zm4 zr4 vo4 vp4 xe4 zf0 zn0 zs0 vh0 vg0 xf0 zf1 zn1 zs1 vh1 vg1 xf1 zf2 zn2 zs2 vh2 vg2 xf2 zf3 zn3 zs3 vh3 vg3 xf3 zf4 zn4 zs4 vh4 vg4 xf4 zf5 zn5 zs5 vh5 vg5 xf5 zf6 zn6 zs6 vh6 vg6 xf6 zf7 zn7 zs7 vh7 vg7 xf7 zf8 zn8 zs8 vh8 vg8 xf8 zf9 zn9 zs9 vh9 vg9 xf9 zf10 zn10 zs10 vh10 vg10 xf10
        go_wp2
        have SZF : Hid (w.heap.size ≤ gp ∧ gp + 1 = go ∧ go + 1 ≤ x2.heap.size ∧ x2.heap.size ≤ x3.heap.size ∧ x3.heap.size ≤ x12.heap.size ∧ go + 1 ≤ pz ∧ qz ≤ x12.heap.size) := by have := L1.out; have := GA.out; have := L2.out; have := HP.out; have := L3.out; have := L4.out; have := Gge.out; have := L5.out; have := L6.out; have := L7.out; have := L8.out; have := L9.out; have := Z9.out; have := L10.out; have := L11.out; have := L12.out; show _ ∧ _; omega
        obtain ⟨k1, k2, k3⟩ := ep_stored (D := D0) (S := S0) (lo := x2.heap.size) (hi := x3.heap.size) KP12.out OE12.out (.inl (by have := SZF.out; omega))
        have kh := ep_other KO12.out N5 (.int .i64 D0.n) (.slice S0.key.a S0.key.n S0.key.c) (.int .i64 D0.seq) (.int .i64 D0.win.top) (.slice S0.win.bits.a S0.win.bits.n S0.win.bits.c)
        have f1 := fr_put kh (.int .i64 D1.kind) (.int .i64 D1.id) (.slice S1.cn.a S1.cn.n S1.cn.c) (.slice S1.sn.a S1.sn.n S1.sn.c) (.int .i64 D1.tick) (.slice S1.cookie.a S1.cookie.n S1.cookie.c) (.slice S1.proof.a S1.proof.n S1.proof.c) (.int .i64 D1.epoch) (.int .i64 D1.seq) (.slice S1.body.a S1.body.n S1.body.c) (.slice S1.tag.a S1.tag.n S1.tag.c)
        have k4 := fr_other k1 (Ne.symm N5) (.int .i64 D1.kind) (.int .i64 D1.id) (.slice S1.cn.a S1.cn.n S1.cn.c) (.slice S1.sn.a S1.sn.n S1.sn.c) (.int .i64 D1.tick) (.slice S1.cookie.a S1.cookie.n S1.cookie.c) (.slice S1.proof.a S1.proof.n S1.proof.c) (.int .i64 D1.epoch) (.int .i64 D1.seq) (.slice S1.body.a S1.body.n S1.body.c) (.slice S1.tag.a S1.tag.n S1.tag.c)
        have of := (OF12.out.carry (ep_kept _ gp (.int .i64 D0.n) (.slice S0.key.a S0.key.n S0.key.c) (.int .i64 D0.seq) (.int .i64 D0.win.top) (.slice S0.win.bits.a S0.win.bits.n S0.win.bits.c)) (.inr (by have := SZF.out; omega))).carry (fr_kept _ go (.int .i64 D1.kind) (.int .i64 D1.id) (.slice S1.cn.a S1.cn.n S1.cn.c) (.slice S1.sn.a S1.sn.n S1.sn.c) (.int .i64 D1.tick) (.slice S1.cookie.a S1.cookie.n S1.cookie.c) (.slice S1.proof.a S1.proof.n S1.proof.c) (.int .i64 D1.epoch) (.int .i64 D1.seq) (.slice S1.body.a S1.body.n S1.body.c) (.slice S1.tag.a S1.tag.n S1.tag.c)) (.inr (by have := SZF.out; omega))
        have oe := k2.carry (fr_kept _ go (.int .i64 D1.kind) (.int .i64 D1.id) (.slice S1.cn.a S1.cn.n S1.cn.c) (.slice S1.sn.a S1.sn.n S1.sn.c) (.int .i64 D1.tick) (.slice S1.cookie.a S1.cookie.n S1.cookie.c) (.slice S1.proof.a S1.proof.n S1.proof.c) (.int .i64 D1.epoch) (.int .i64 D1.seq) (.slice S1.body.a S1.body.n S1.body.c) (.slice S1.tag.a S1.tag.n S1.tag.c)) (.inr (by have := SZF.out; omega))
        have b9 := fr_low (k3 _ _ (show w.heap.size ≤ gp by have := SZF.out; omega) B12.out) (g := go) (by have := SZF.out; omega) (.int .i64 D1.kind) (.int .i64 D1.id) (.slice S1.cn.a S1.cn.n S1.cn.c) (.slice S1.sn.a S1.sn.n S1.sn.c) (.int .i64 D1.tick) (.slice S1.cookie.a S1.cookie.n S1.cookie.c) (.slice S1.proof.a S1.proof.n S1.proof.c) (.int .i64 D1.epoch) (.int .i64 D1.seq) (.slice S1.body.a S1.body.n S1.body.c) (.slice S1.tag.a S1.tag.n S1.tag.c)
        exact bodyPost_ret (v := .tuple #[epV D0 S0, .int .i64 r3, frV D1 S1]) (res3 rfl (is_cell rfl (drewB k4) aggEp) (is_tmp rfl) (is_cell rfl (drewB f1) aggFr)) rfl ⟨D0, S0, r3, D1, S1, rfl, HS0.out, (oe.later ((Below.refl _ _).drew)).rd, (of.later ((Below.refl _ _).drew)).rd, b9.drew⟩
    | false =>
      go_wp2_with fail
      refine (Draw.once R10.out 3 (by omega) (by omega)).mono ?_
      rintro e x11 ⟨o2, rfl, r, b⟩
      have L11 : Hid (x10.heap.size ≤ x11.heap.size) := b.size
      have KQ : Kept p (p + 1) x10 x11 := Kept.of_grown b
      have B11 : Hid (Below w.heap.size w x11) := But.below b B10.out (by have := L1.out; have := GA.out; have := L2.out; have := HP.out; have := L3.out; have := L4.out; have := Gge.out; have := L5.out; have := L6.out; have := L7.out; have := L8.out; have := L9.out; have := Z9.out; have := L10.out; have := L11.out; omega)
      have KP11 : Hid (Blk x11 gp 41 [.int .i64 0, .slice none 0 0, .int .i64 0, .int .i64 0, .slice none 0 0]) := KP10.out.keep (KQ.block _ KP10.out.lt (by have := L1.out; have := GA.out; have := L2.out; have := HP.out; have := L3.out; have := L4.out; have := Gge.out; have := L5.out; have := L6.out; have := L7.out; have := L8.out; have := L9.out; have := Z9.out; have := L10.out; have := L11.out; omega))
      have KO11 : Hid (Blk x11 go 27 [.int .i64 0, .int .i64 0, .slice none 0 0, .slice none 0 0, .int .i64 0, .slice none 0 0, .slice none 0 0, .int .i64 0, .int .i64 0, .slice none 0 0, .slice none 0 0]) := KO10.out.keep (KQ.block _ KO10.out.lt (by have := L1.out; have := GA.out; have := L2.out; have := HP.out; have := L3.out; have := L4.out; have := Gge.out; have := L5.out; have := L6.out; have := L7.out; have := L8.out; have := L9.out; have := Z9.out; have := L10.out; have := L11.out; omega))
      have R11 : Hid (Ready x1 a len cap l p x11) := r
      have OE11 : Hid (EpOwn x11 x2.heap.size x3.heap.size S0 D0) := OE10.out.carry KQ (by have := L1.out; have := GA.out; have := L2.out; have := HP.out; have := L3.out; have := L4.out; have := Gge.out; have := L5.out; have := L6.out; have := L7.out; have := L8.out; have := L9.out; have := Z9.out; have := L10.out; have := L11.out; omega)
      have KE11 : Hid (Blk x11 ge 41 [.int .i64 D0.n, .slice S0.key.a S0.key.n S0.key.c, .int .i64 D0.seq, .int .i64 D0.win.top, .slice S0.win.bits.a S0.win.bits.n S0.win.bits.c]) := KE10.out.keep (KQ.block _ KE10.out.lt (by have := L1.out; have := GA.out; have := L2.out; have := HP.out; have := L3.out; have := L4.out; have := Gge.out; have := L5.out; have := L6.out; have := L7.out; have := L8.out; have := L9.out; have := Z9.out; have := L10.out; have := L11.out; omega))
      have KF11 : Hid (Blk x11 gf 27 [.int .i64 D1.kind, .int .i64 D1.id, .slice S1.cn.a S1.cn.n S1.cn.c, .slice S1.sn.a S1.sn.n S1.sn.c, .int .i64 D1.tick, .slice S1.cookie.a S1.cookie.n S1.cookie.c, .slice S1.proof.a S1.proof.n S1.proof.c, .int .i64 D1.epoch, .int .i64 D1.seq, .slice S1.body.a S1.body.n S1.body.c, .slice S1.tag.a S1.tag.n S1.tag.c]) := KF10.out.keep (KQ.block _ KF10.out.lt (by have := L1.out; have := GA.out; have := L2.out; have := HP.out; have := L3.out; have := L4.out; have := Gge.out; have := L5.out; have := L6.out; have := L7.out; have := L8.out; have := L9.out; have := Z9.out; have := L10.out; have := L11.out; omega))
      have OF11 : Hid (FrIn x11 pz qz S1 D1) := OF10.out.carry KQ (by have := L1.out; have := GA.out; have := L2.out; have := HP.out; have := L3.out; have := L4.out; have := Gge.out; have := L5.out; have := L6.out; have := L7.out; have := L8.out; have := L9.out; have := Z9.out; have := L10.out; have := L11.out; omega)
      clear B10 KP10 KO10 R10 OE10 KE10 KF10 OF10 b
      clear KQ r
      cases o2 with
      | true =>
        have d0 := KF11.out.cell 0 rfl
        have d1 := KF11.out.cell 1 rfl
        have d2 := KF11.out.cell 2 rfl
        have d3 := KF11.out.cell 3 rfl
        have d4 := KF11.out.cell 4 rfl
        have d5 := KF11.out.cell 5 rfl
        have d6 := KF11.out.cell 6 rfl
        have d7 := KF11.out.cell 7 rfl
        have d8 := KF11.out.cell 8 rfl
        have d9 := KF11.out.cell 9 rfl
        have d10 := KF11.out.cell 10 rfl
        go_wp2_with fail
        refine (l9Bent R11.out S1 D1 OF11.out.rd HS1.out).mono ?_
        rintro e x12 ⟨D2, S2, rfl, oi, r, b⟩
        unfold frV
        clear d0 d1 d2 d3 d4 d5 d6 d7 d8 d9 d10
        have L12 : Hid (x11.heap.size ≤ x12.heap.size) := b.size
        have KQ : Kept p (p + 1) x11 x12 := Kept.of_grown b
        have B12 : Hid (Below w.heap.size w x12) := But.below b B11.out (by have := L1.out; have := GA.out; have := L2.out; have := HP.out; have := L3.out; have := L4.out; have := Gge.out; have := L5.out; have := L6.out; have := L7.out; have := L8.out; have := L9.out; have := Z9.out; have := L10.out; have := L11.out; have := L12.out; omega)
        have KP12 : Hid (Blk x12 gp 41 [.int .i64 0, .slice none 0 0, .int .i64 0, .int .i64 0, .slice none 0 0]) := KP11.out.keep (KQ.block _ KP11.out.lt (by have := L1.out; have := GA.out; have := L2.out; have := HP.out; have := L3.out; have := L4.out; have := Gge.out; have := L5.out; have := L6.out; have := L7.out; have := L8.out; have := L9.out; have := Z9.out; have := L10.out; have := L11.out; have := L12.out; omega))
        have KO12 : Hid (Blk x12 go 27 [.int .i64 0, .int .i64 0, .slice none 0 0, .slice none 0 0, .int .i64 0, .slice none 0 0, .slice none 0 0, .int .i64 0, .int .i64 0, .slice none 0 0, .slice none 0 0]) := KO11.out.keep (KQ.block _ KO11.out.lt (by have := L1.out; have := GA.out; have := L2.out; have := HP.out; have := L3.out; have := L4.out; have := Gge.out; have := L5.out; have := L6.out; have := L7.out; have := L8.out; have := L9.out; have := Z9.out; have := L10.out; have := L11.out; have := L12.out; omega))
        have R12 : Hid (Ready x1 a len cap l p x12) := r
        have OE12 : Hid (EpOwn x12 x2.heap.size x3.heap.size S0 D0) := OE11.out.carry KQ (by have := L1.out; have := GA.out; have := L2.out; have := HP.out; have := L3.out; have := L4.out; have := Gge.out; have := L5.out; have := L6.out; have := L7.out; have := L8.out; have := L9.out; have := Z9.out; have := L10.out; have := L11.out; have := L12.out; omega)
        have KE12 : Hid (Blk x12 ge 41 [.int .i64 D0.n, .slice S0.key.a S0.key.n S0.key.c, .int .i64 D0.seq, .int .i64 D0.win.top, .slice S0.win.bits.a S0.win.bits.n S0.win.bits.c]) := KE11.out.keep (KQ.block _ KE11.out.lt (by have := L1.out; have := GA.out; have := L2.out; have := HP.out; have := L3.out; have := L4.out; have := Gge.out; have := L5.out; have := L6.out; have := L7.out; have := L8.out; have := L9.out; have := Z9.out; have := L10.out; have := L11.out; have := L12.out; omega))
        have KF12 : Hid (Blk x12 gf 27 [.int .i64 D1.kind, .int .i64 D1.id, .slice S1.cn.a S1.cn.n S1.cn.c, .slice S1.sn.a S1.sn.n S1.sn.c, .int .i64 D1.tick, .slice S1.cookie.a S1.cookie.n S1.cookie.c, .slice S1.proof.a S1.proof.n S1.proof.c, .int .i64 D1.epoch, .int .i64 D1.seq, .slice S1.body.a S1.body.n S1.body.c, .slice S1.tag.a S1.tag.n S1.tag.c]) := KF11.out.keep (KQ.block _ KF11.out.lt (by have := L1.out; have := GA.out; have := L2.out; have := HP.out; have := L3.out; have := L4.out; have := Gge.out; have := L5.out; have := L6.out; have := L7.out; have := L8.out; have := L9.out; have := Z9.out; have := L10.out; have := L11.out; have := L12.out; omega))
        have OF12 : Hid (FrIn x12 pz qz S1 D1) := OF11.out.carry KQ (by have := L1.out; have := GA.out; have := L2.out; have := HP.out; have := L3.out; have := L4.out; have := Gge.out; have := L5.out; have := L6.out; have := L7.out; have := L8.out; have := L9.out; have := Z9.out; have := L10.out; have := L11.out; have := L12.out; omega)
        clear B11 KP11 KO11 R11 OE11 KE11 KF11 OF11 b
        clear KQ r
        clear OF12
        have OF12 : Hid (FrIn x12 x11.heap.size x12.heap.size S2 D2) := oi
        clear oi
        have co0 := KF12.out.cell 0 rfl
        have fo0 := KF12.out.frozen 0
        have co1 := KF12.out.cell 1 rfl
        have fo1 := KF12.out.frozen 1
        have co2 := KF12.out.cell 2 rfl
        have fo2 := KF12.out.frozen 2
        have co3 := KF12.out.cell 3 rfl
        have fo3 := KF12.out.frozen 3
        have co4 := KF12.out.cell 4 rfl
        have fo4 := KF12.out.frozen 4
        have co5 := KF12.out.cell 5 rfl
        have fo5 := KF12.out.frozen 5
        have co6 := KF12.out.cell 6 rfl
        have fo6 := KF12.out.frozen 6
        have co7 := KF12.out.cell 7 rfl
        have fo7 := KF12.out.frozen 7
        have co8 := KF12.out.cell 8 rfl
        have fo8 := KF12.out.frozen 8
        have co9 := KF12.out.cell 9 rfl
        have fo9 := KF12.out.frozen 9
        have co10 := KF12.out.cell 10 rfl
        have fo10 := KF12.out.frozen 10
        obtain ⟨x13, hx13⟩ : ∃ y, (((((((((((x12.setCell ⟨gf, 0, none⟩ (.int .i64 D2.kind)).setCell ⟨gf, 1, none⟩ (.int .i64 D2.id)).setCell ⟨gf, 2, none⟩ (.slice S2.cn.a S2.cn.n S2.cn.c)).setCell ⟨gf, 3, none⟩ (.slice S2.sn.a S2.sn.n S2.sn.c)).setCell ⟨gf, 4, none⟩ (.int .i64 D2.tick)).setCell ⟨gf, 5, none⟩ (.slice S2.cookie.a S2.cookie.n S2.cookie.c)).setCell ⟨gf, 6, none⟩ (.slice S2.proof.a S2.proof.n S2.proof.c)).setCell ⟨gf, 7, none⟩ (.int .i64 D2.epoch)).setCell ⟨gf, 8, none⟩ (.int .i64 D2.seq)).setCell ⟨gf, 9, none⟩ (.slice S2.body.a S2.body.n S2.body.c)).setCell ⟨gf, 10, none⟩ (.slice S2.tag.a S2.tag.n S2.tag.c)) = y := ⟨_, rfl⟩
        have HW13 : Hid ((((((((((((x12.setCell ⟨gf, 0, none⟩ (.int .i64 D2.kind)).setCell ⟨gf, 1, none⟩ (.int .i64 D2.id)).setCell ⟨gf, 2, none⟩ (.slice S2.cn.a S2.cn.n S2.cn.c)).setCell ⟨gf, 3, none⟩ (.slice S2.sn.a S2.sn.n S2.sn.c)).setCell ⟨gf, 4, none⟩ (.int .i64 D2.tick)).setCell ⟨gf, 5, none⟩ (.slice S2.cookie.a S2.cookie.n S2.cookie.c)).setCell ⟨gf, 6, none⟩ (.slice S2.proof.a S2.proof.n S2.proof.c)).setCell ⟨gf, 7, none⟩ (.int .i64 D2.epoch)).setCell ⟨gf, 8, none⟩ (.int .i64 D2.seq)).setCell ⟨gf, 9, none⟩ (.slice S2.body.a S2.body.n S2.body.c)).setCell ⟨gf, 10, none⟩ (.slice S2.tag.a S2.tag.n S2.tag.c)) = x13) := hx13
        have L13 : Hid (x13.heap.size = x12.heap.size) := by rw [← hx13]; show _ = _; simp
        have KS : Blk x13 gf 27 [.int .i64 D2.kind, .int .i64 D2.id, .slice S2.cn.a S2.cn.n S2.cn.c, .slice S2.sn.a S2.sn.n S2.sn.c, .int .i64 D2.tick, .slice S2.cookie.a S2.cookie.n S2.cookie.c, .slice S2.proof.a S2.proof.n S2.proof.c, .int .i64 D2.epoch, .int .i64 D2.seq, .slice S2.body.a S2.body.n S2.body.c, .slice S2.tag.a S2.tag.n S2.tag.c] := by rw [← hx13]; exact (((((((((((KF12.out.set 0 _ (by simp [maxLen])).set 1 _ (by simp [maxLen])).set 2 _ (by simp [maxLen])).set 3 _ (by simp [maxLen])).set 4 _ (by simp [maxLen])).set 5 _ (by simp [maxLen])).set 6 _ (by simp [maxLen])).set 7 _ (by simp [maxLen])).set 8 _ (by simp [maxLen])).set 9 _ (by simp [maxLen])).set 10 _ (by simp [maxLen]))
        have KQ : Kept gf (gf + 1) x12 x13 := by rw [← hx13]; exact (((((((((((Kept.setCell _ _ _ _).trans (Kept.setCell _ _ _ _)).trans (Kept.setCell _ _ _ _)).trans (Kept.setCell _ _ _ _)).trans (Kept.setCell _ _ _ _)).trans (Kept.setCell _ _ _ _)).trans (Kept.setCell _ _ _ _)).trans (Kept.setCell _ _ _ _)).trans (Kept.setCell _ _ _ _)).trans (Kept.setCell _ _ _ _)).trans (Kept.setCell _ _ _ _))
        clear hx13
        have B13 : Hid (Below w.heap.size w x13) := B12.out.trans (KQ.below (by have := L1.out; have := GA.out; have := L2.out; have := HP.out; have := L3.out; have := L4.out; have := Gge.out; have := L5.out; have := L6.out; have := L7.out; have := L8.out; have := L9.out; have := Z9.out; have := L10.out; have := L11.out; have := L12.out; have := L13.out; omega) B12.out.size)
        have KP13 : Hid (Blk x13 gp 41 [.int .i64 0, .slice none 0 0, .int .i64 0, .int .i64 0, .slice none 0 0]) := KP12.out.keep (KQ.block _ KP12.out.lt (by have := L1.out; have := GA.out; have := L2.out; have := HP.out; have := L3.out; have := L4.out; have := Gge.out; have := L5.out; have := L6.out; have := L7.out; have := L8.out; have := L9.out; have := Z9.out; have := L10.out; have := L11.out; have := L12.out; have := L13.out; omega))
        have KO13 : Hid (Blk x13 go 27 [.int .i64 0, .int .i64 0, .slice none 0 0, .slice none 0 0, .int .i64 0, .slice none 0 0, .slice none 0 0, .int .i64 0, .int .i64 0, .slice none 0 0, .slice none 0 0]) := KO12.out.keep (KQ.block _ KO12.out.lt (by have := L1.out; have := GA.out; have := L2.out; have := HP.out; have := L3.out; have := L4.out; have := Gge.out; have := L5.out; have := L6.out; have := L7.out; have := L8.out; have := L9.out; have := Z9.out; have := L10.out; have := L11.out; have := L12.out; have := L13.out; omega))
        have R13 : Hid (Ready x1 a len cap l p x13) := rdyK R12.out KQ (by have := L1.out; have := GA.out; have := L2.out; have := HP.out; have := L3.out; have := L4.out; have := Gge.out; have := L5.out; have := L6.out; have := L7.out; have := L8.out; have := L9.out; have := Z9.out; have := L10.out; have := L11.out; have := L12.out; have := L13.out; omega)
        have OE13 : Hid (EpOwn x13 x2.heap.size x3.heap.size S0 D0) := OE12.out.carry KQ (by have := L1.out; have := GA.out; have := L2.out; have := HP.out; have := L3.out; have := L4.out; have := Gge.out; have := L5.out; have := L6.out; have := L7.out; have := L8.out; have := L9.out; have := Z9.out; have := L10.out; have := L11.out; have := L12.out; have := L13.out; omega)
        have KE13 : Hid (Blk x13 ge 41 [.int .i64 D0.n, .slice S0.key.a S0.key.n S0.key.c, .int .i64 D0.seq, .int .i64 D0.win.top, .slice S0.win.bits.a S0.win.bits.n S0.win.bits.c]) := KE12.out.keep (KQ.block _ KE12.out.lt (by have := L1.out; have := GA.out; have := L2.out; have := HP.out; have := L3.out; have := L4.out; have := Gge.out; have := L5.out; have := L6.out; have := L7.out; have := L8.out; have := L9.out; have := Z9.out; have := L10.out; have := L11.out; have := L12.out; have := L13.out; omega))
        have OF13 : Hid (FrIn x13 x11.heap.size x12.heap.size S2 D2) := OF12.out.carry KQ (by have := L1.out; have := GA.out; have := L2.out; have := HP.out; have := L3.out; have := L4.out; have := Gge.out; have := L5.out; have := L6.out; have := L7.out; have := L8.out; have := L9.out; have := Z9.out; have := L10.out; have := L11.out; have := L12.out; have := L13.out; omega)
        clear B12 KP12 KO12 R12 OE12 KE12 OF12 KQ
        clear KF12
        have KF13 : Hid (Blk x13 gf 27 [.int .i64 D2.kind, .int .i64 D2.id, .slice S2.cn.a S2.cn.n S2.cn.c, .slice S2.sn.a S2.sn.n S2.sn.c, .int .i64 D2.tick, .slice S2.cookie.a S2.cookie.n S2.cookie.c, .slice S2.proof.a S2.proof.n S2.proof.c, .int .i64 D2.epoch, .int .i64 D2.seq, .slice S2.body.a S2.body.n S2.body.c, .slice S2.tag.a S2.tag.n S2.tag.c]) := KS
        clear KS
        go_upto_region 13 with fail
        rw [HW13.out]
        clear HW13 co0 fo0 co1 fo1 co2 fo2 co3 fo3 co4 fo4 co5 fo5 co6 fo6 co7 fo7 co8 fo8 co9 fo9 co10 fo10
        have N1 : ge ≠ gp := by have := L1.out; have := GA.out; have := L2.out; have := HP.out; have := L3.out; have := L4.out; have := Gge.out; have := L5.out; have := L6.out; have := L7.out; have := L8.out; have := L9.out; have := Z9.out; have := L10.out; have := L11.out; have := L12.out; have := L13.out; omega
        have N2 : gf ≠ gp := by have := L1.out; have := GA.out; have := L2.out; have := HP.out; have := L3.out; have := L4.out; have := Gge.out; have := L5.out; have := L6.out; have := L7.out; have := L8.out; have := L9.out; have := Z9.out; have := L10.out; have := L11.out; have := L12.out; have := L13.out; omega
        have N3 : ge ≠ go := by have := L1.out; have := GA.out; have := L2.out; have := HP.out; have := L3.out; have := L4.out; have := Gge.out; have := L5.out; have := L6.out; have := L7.out; have := L8.out; have := L9.out; have := Z9.out; have := L10.out; have := L11.out; have := L12.out; have := L13.out; omega
        have N4 : gf ≠ go := by have := L1.out; have := GA.out; have := L2.out; have := HP.out; have := L3.out; have := L4.out; have := Gge.out; have := L5.out; have := L6.out; have := L7.out; have := L8.out; have := L9.out; have := Z9.out; have := L10.out; have := L11.out; have := L12.out; have := L13.out; omega
        have N5 : go ≠ gp := by have := L1.out; have := GA.out; have := L2.out; have := HP.out; have := L3.out; have := L4.out; have := Gge.out; have := L5.out; have := L6.out; have := L7.out; have := L8.out; have := L9.out; have := Z9.out; have := L10.out; have := L11.out; have := L12.out; have := L13.out; omega
        have xe0 := hide ((drewB KE13.out).cell 0 rfl)
        have xe1 := hide ((drewB KE13.out).cell 1 rfl)
        have xe2 := hide ((drewB KE13.out).cell 2 rfl)
        have xe3 := hide ((drewB KE13.out).cell 3 rfl)
        have xe4 := hide ((drewB KE13.out).cell 4 rfl)
        have xf0 := hide ((drewB KF13.out).cell 0 rfl)
        have xf1 := hide ((drewB KF13.out).cell 1 rfl)
        have xf2 := hide ((drewB KF13.out).cell 2 rfl)
        have xf3 := hide ((drewB KF13.out).cell 3 rfl)
        have xf4 := hide ((drewB KF13.out).cell 4 rfl)
        have xf5 := hide ((drewB KF13.out).cell 5 rfl)
        have xf6 := hide ((drewB KF13.out).cell 6 rfl)
        have xf7 := hide ((drewB KF13.out).cell 7 rfl)
        have xf8 := hide ((drewB KF13.out).cell 8 rfl)
        have xf9 := hide ((drewB KF13.out).cell 9 rfl)
        have xf10 := hide ((drewB KF13.out).cell 10 rfl)
        have vo0 := KP13.out.cell 0 rfl
        have vo1 := KP13.out.cell 1 rfl
        have vo2 := KP13.out.cell 2 rfl
        have vo3 := KP13.out.cell 3 rfl
        have vo4 := KP13.out.cell 4 rfl
        have vp0 := KP13.out.frozen 0
        have vp1 := KP13.out.frozen 1
        have vp2 := KP13.out.frozen 2
        have vp3 := KP13.out.frozen 3
        have vp4 := KP13.out.frozen 4
        have ze0 := KE13.out.cell 0 rfl
        have ze1 := KE13.out.cell 1 rfl
        have ze2 := KE13.out.cell 2 rfl
        have ze3 := KE13.out.cell 3 rfl
        have ze4 := KE13.out.cell 4 rfl
        have zf0 := KF13.out.cell 0 rfl
        have zf1 := KF13.out.cell 1 rfl
        have zf2 := KF13.out.cell 2 rfl
        have zf3 := KF13.out.cell 3 rfl
        have zf4 := KF13.out.cell 4 rfl
        have zf5 := KF13.out.cell 5 rfl
        have zf6 := KF13.out.cell 6 rfl
        have zf7 := KF13.out.cell 7 rfl
        have zf8 := KF13.out.cell 8 rfl
        have zf9 := KF13.out.cell 9 rfl
        have zf10 := KF13.out.cell 10 rfl
        have zH := ep_other KO13.out N5 (.int .i64 D0.n) (.slice S0.key.a S0.key.n S0.key.c) (.int .i64 D0.seq) (.int .i64 D0.win.top) (.slice S0.win.bits.a S0.win.bits.n S0.win.bits.c)
        have zN := ep_other KE13.out N1 (.int .i64 D0.n) (.slice S0.key.a S0.key.n S0.key.c) (.int .i64 D0.seq) (.int .i64 D0.win.top) (.slice S0.win.bits.a S0.win.bits.n S0.win.bits.c)
        have zG := ep_other KF13.out N2 (.int .i64 D0.n) (.slice S0.key.a S0.key.n S0.key.c) (.int .i64 D0.seq) (.int .i64 D0.win.top) (.slice S0.win.bits.a S0.win.bits.n S0.win.bits.c)
        have vh0 := KO13.out.cell 0 rfl
        have vh1 := KO13.out.cell 1 rfl
        have vh2 := KO13.out.cell 2 rfl
        have vh3 := KO13.out.cell 3 rfl
        have vh4 := KO13.out.cell 4 rfl
        have vh5 := KO13.out.cell 5 rfl
        have vh6 := KO13.out.cell 6 rfl
        have vh7 := KO13.out.cell 7 rfl
        have vh8 := KO13.out.cell 8 rfl
        have vh9 := KO13.out.cell 9 rfl
        have vh10 := KO13.out.cell 10 rfl
        have vg0 := KO13.out.frozen 0
        have vg1 := KO13.out.frozen 1
        have vg2 := KO13.out.frozen 2
        have vg3 := KO13.out.frozen 3
        have vg4 := KO13.out.frozen 4
        have vg5 := KO13.out.frozen 5
        have vg6 := KO13.out.frozen 6
        have vg7 := KO13.out.frozen 7
        have vg8 := KO13.out.frozen 8
        have vg9 := KO13.out.frozen 9
        have vg10 := KO13.out.frozen 10
        have zm0 := hide ((drewB zN).cell 0 rfl)
        have zm1 := hide ((drewB zN).cell 1 rfl)
        have zm2 := hide ((drewB zN).cell 2 rfl)
        have zm3 := hide ((drewB zN).cell 3 rfl)
        have zm4 := hide ((drewB zN).cell 4 rfl)
        have zn0 := hide ((drewB zG).cell 0 rfl)
        have zn1 := hide ((drewB zG).cell 1 rfl)
        have zn2 := hide ((drewB zG).cell 2 rfl)
        have zn3 := hide ((drewB zG).cell 3 rfl)
        have zn4 := hide ((drewB zG).cell 4 rfl)
        have zn5 := hide ((drewB zG).cell 5 rfl)
        have zn6 := hide ((drewB zG).cell 6 rfl)
        have zn7 := hide ((drewB zG).cell 7 rfl)
        have zn8 := hide ((drewB zG).cell 8 rfl)
        have zn9 := hide ((drewB zG).cell 9 rfl)
        have zn10 := hide ((drewB zG).cell 10 rfl)
        have zM := fr_other zN N3 (.int .i64 D2.kind) (.int .i64 D2.id) (.slice S2.cn.a S2.cn.n S2.cn.c) (.slice S2.sn.a S2.sn.n S2.sn.c) (.int .i64 D2.tick) (.slice S2.cookie.a S2.cookie.n S2.cookie.c) (.slice S2.proof.a S2.proof.n S2.proof.c) (.int .i64 D2.epoch) (.int .i64 D2.seq) (.slice S2.body.a S2.body.n S2.body.c) (.slice S2.tag.a S2.tag.n S2.tag.c)
        have zK := fr_other zG N4 (.int .i64 D2.kind) (.int .i64 D2.id) (.slice S2.cn.a S2.cn.n S2.cn.c) (.slice S2.sn.a S2.sn.n S2.sn.c) (.int .i64 D2.tick) (.slice S2.cookie.a S2.cookie.n S2.cookie.c) (.slice S2.proof.a S2.proof.n S2.proof.c) (.int .i64 D2.epoch) (.int .i64 D2.seq) (.slice S2.body.a S2.body.n S2.body.c) (.slice S2.tag.a S2.tag.n S2.tag.c)
        have zr0 := hide ((drewB zM).cell 0 rfl)
        have zr1 := hide ((drewB zM).cell 1 rfl)
        have zr2 := hide ((drewB zM).cell 2 rfl)
        have zr3 := hide ((drewB zM).cell 3 rfl)
        have zr4 := hide ((drewB zM).cell 4 rfl)
        have zs0 := hide ((drewB zK).cell 0 rfl)
        have zs1 := hide ((drewB zK).cell 1 rfl)
        have zs2 := hide ((drewB zK).cell 2 rfl)
        have zs3 := hide ((drewB zK).cell 3 rfl)
        have zs4 := hide ((drewB zK).cell 4 rfl)
        have zs5 := hide ((drewB zK).cell 5 rfl)
        have zs6 := hide ((drewB zK).cell 6 rfl)
        have zs7 := hide ((drewB zK).cell 7 rfl)
        have zs8 := hide ((drewB zK).cell 8 rfl)
        have zs9 := hide ((drewB zK).cell 9 rfl)
        have zs10 := hide ((drewB zK).cell 10 rfl)
        clear zH zN zG zM zK
        go_region_held3 (fun w' => w'.cell? ⟨ge, 0, none⟩ = some (.int .i64 D0.n) ∧ w'.cell? ⟨ge, 1, none⟩ = some (.slice S0.key.a S0.key.n S0.key.c) ∧ w'.cell? ⟨ge, 2, none⟩ = some (.int .i64 D0.seq) ∧ w'.cell? ⟨ge, 3, none⟩ = some (.int .i64 D0.win.top) ∧ w'.cell? ⟨ge, 4, none⟩ = some (.slice S0.win.bits.a S0.win.bits.n S0.win.bits.c) ∧ w'.cell? ⟨gf, 0, none⟩ = some (.int .i64 D2.kind) ∧ w'.cell? ⟨gf, 1, none⟩ = some (.int .i64 D2.id) ∧ w'.cell? ⟨gf, 2, none⟩ = some (.slice S2.cn.a S2.cn.n S2.cn.c) ∧ w'.cell? ⟨gf, 3, none⟩ = some (.slice S2.sn.a S2.sn.n S2.sn.c) ∧ w'.cell? ⟨gf, 4, none⟩ = some (.int .i64 D2.tick) ∧ w'.cell? ⟨gf, 5, none⟩ = some (.slice S2.cookie.a S2.cookie.n S2.cookie.c) ∧ w'.cell? ⟨gf, 6, none⟩ = some (.slice S2.proof.a S2.proof.n S2.proof.c) ∧ w'.cell? ⟨gf, 7, none⟩ = some (.int .i64 D2.epoch) ∧ w'.cell? ⟨gf, 8, none⟩ = some (.int .i64 D2.seq) ∧ w'.cell? ⟨gf, 9, none⟩ = some (.slice S2.body.a S2.body.n S2.body.c) ∧ w'.cell? ⟨gf, 10, none⟩ = some (.slice S2.tag.a S2.tag.n S2.tag.c)) (first | with_reducible exact ⟨zr0.out, zr1.out, zr2.out, zr3.out, zr4.out, zs0.out, zs1.out, zs2.out, zs3.out, zs4.out, zs5.out, zs6.out, zs7.out, zs8.out, zs9.out, zs10.out⟩ | with_reducible exact ⟨zm0.out, zm1.out, zm2.out, zm3.out, zm4.out, zn0.out, zn1.out, zn2.out, zn3.out, zn4.out, zn5.out, zn6.out, zn7.out, zn8.out, zn9.out, zn10.out⟩ | with_reducible exact ⟨ze0, ze1, ze2, ze3, ze4, zf0, zf1, zf2, zf3, zf4, zf5, zf6, zf7, zf8, zf9, zf10⟩ | with_reducible exact ⟨xe0.out, xe1.out, xe2.out, xe3.out, xe4.out, xf0.out, xf1.out, xf2.out, xf3.out, xf4.out, xf5.out, xf6.out, xf7.out, xf8.out, xf9.out, xf10.out⟩ | go_keep) (fail)
        clear ze0 zm0 zr0 vo0 vp0 xe0 ze1 zm1 zr1 vo1 vp1 xe1 ze2 zm2 zr2 vo2 vp2 xe2 ze3 zm3 zr3 vo3 vp3 xe3 ze4 zm4 zr4 vo4 vp4 xe4 zf0 zn0 zs0 vh0 vg0 xf0 zf1 zn1 zs1 vh1 vg1 xf1 zf2 zn2 zs2 vh2 vg2 xf2 zf3 zn3 zs3 vh3 vg3 xf3 zf4 zn4 zs4 vh4 vg4 xf4 zf5 zn5 zs5 vh5 vg5 xf5 zf6 zn6 zs6 vh6 vg6 xf6 zf7 zn7 zs7 vh7 vg7 xf7 zf8 zn8 zs8 vh8 vg8 xf8 zf9 zn9 zs9 vh9 vg9 xf9 zf10 zn10 zs10 vh10 vg10 xf10
        go_wp2
        have SZF : Hid (w.heap.size ≤ gp ∧ gp + 1 = go ∧ go + 1 ≤ x2.heap.size ∧ x2.heap.size ≤ x3.heap.size ∧ x3.heap.size ≤ x13.heap.size ∧ go + 1 ≤ x11.heap.size ∧ x12.heap.size ≤ x13.heap.size) := by have := L1.out; have := GA.out; have := L2.out; have := HP.out; have := L3.out; have := L4.out; have := Gge.out; have := L5.out; have := L6.out; have := L7.out; have := L8.out; have := L9.out; have := Z9.out; have := L10.out; have := L11.out; have := L12.out; have := L13.out; show _ ∧ _; omega
        obtain ⟨k1, k2, k3⟩ := ep_stored (D := D0) (S := S0) (lo := x2.heap.size) (hi := x3.heap.size) KP13.out OE13.out (.inl (by have := SZF.out; omega))
        have kh := ep_other KO13.out N5 (.int .i64 D0.n) (.slice S0.key.a S0.key.n S0.key.c) (.int .i64 D0.seq) (.int .i64 D0.win.top) (.slice S0.win.bits.a S0.win.bits.n S0.win.bits.c)
        have f1 := fr_put kh (.int .i64 D2.kind) (.int .i64 D2.id) (.slice S2.cn.a S2.cn.n S2.cn.c) (.slice S2.sn.a S2.sn.n S2.sn.c) (.int .i64 D2.tick) (.slice S2.cookie.a S2.cookie.n S2.cookie.c) (.slice S2.proof.a S2.proof.n S2.proof.c) (.int .i64 D2.epoch) (.int .i64 D2.seq) (.slice S2.body.a S2.body.n S2.body.c) (.slice S2.tag.a S2.tag.n S2.tag.c)
        have k4 := fr_other k1 (Ne.symm N5) (.int .i64 D2.kind) (.int .i64 D2.id) (.slice S2.cn.a S2.cn.n S2.cn.c) (.slice S2.sn.a S2.sn.n S2.sn.c) (.int .i64 D2.tick) (.slice S2.cookie.a S2.cookie.n S2.cookie.c) (.slice S2.proof.a S2.proof.n S2.proof.c) (.int .i64 D2.epoch) (.int .i64 D2.seq) (.slice S2.body.a S2.body.n S2.body.c) (.slice S2.tag.a S2.tag.n S2.tag.c)
        have of := (OF13.out.carry (ep_kept _ gp (.int .i64 D0.n) (.slice S0.key.a S0.key.n S0.key.c) (.int .i64 D0.seq) (.int .i64 D0.win.top) (.slice S0.win.bits.a S0.win.bits.n S0.win.bits.c)) (.inr (by have := SZF.out; omega))).carry (fr_kept _ go (.int .i64 D2.kind) (.int .i64 D2.id) (.slice S2.cn.a S2.cn.n S2.cn.c) (.slice S2.sn.a S2.sn.n S2.sn.c) (.int .i64 D2.tick) (.slice S2.cookie.a S2.cookie.n S2.cookie.c) (.slice S2.proof.a S2.proof.n S2.proof.c) (.int .i64 D2.epoch) (.int .i64 D2.seq) (.slice S2.body.a S2.body.n S2.body.c) (.slice S2.tag.a S2.tag.n S2.tag.c)) (.inr (by have := SZF.out; omega))
        have oe := k2.carry (fr_kept _ go (.int .i64 D2.kind) (.int .i64 D2.id) (.slice S2.cn.a S2.cn.n S2.cn.c) (.slice S2.sn.a S2.sn.n S2.sn.c) (.int .i64 D2.tick) (.slice S2.cookie.a S2.cookie.n S2.cookie.c) (.slice S2.proof.a S2.proof.n S2.proof.c) (.int .i64 D2.epoch) (.int .i64 D2.seq) (.slice S2.body.a S2.body.n S2.body.c) (.slice S2.tag.a S2.tag.n S2.tag.c)) (.inr (by have := SZF.out; omega))
        have b9 := fr_low (k3 _ _ (show w.heap.size ≤ gp by have := SZF.out; omega) B13.out) (g := go) (by have := SZF.out; omega) (.int .i64 D2.kind) (.int .i64 D2.id) (.slice S2.cn.a S2.cn.n S2.cn.c) (.slice S2.sn.a S2.sn.n S2.sn.c) (.int .i64 D2.tick) (.slice S2.cookie.a S2.cookie.n S2.cookie.c) (.slice S2.proof.a S2.proof.n S2.proof.c) (.int .i64 D2.epoch) (.int .i64 D2.seq) (.slice S2.body.a S2.body.n S2.body.c) (.slice S2.tag.a S2.tag.n S2.tag.c)
        exact bodyPost_ret (v := .tuple #[epV D0 S0, .int .i64 ro, frV D2 S2]) (res3 rfl (is_cell rfl (drewB k4) aggEp) (is_tmp rfl) (is_cell rfl (drewB f1) aggFr)) rfl ⟨D0, S0, ro, D2, S2, rfl, HS0.out, (oe.later ((Below.refl _ _).drew)).rd, (of.later ((Below.refl _ _).drew)).rd, b9.drew⟩
      | false =>
        go_upto_region 13 with fail
        have N1 : ge ≠ gp := by have := L1.out; have := GA.out; have := L2.out; have := HP.out; have := L3.out; have := L4.out; have := Gge.out; have := L5.out; have := L6.out; have := L7.out; have := L8.out; have := L9.out; have := Z9.out; have := L10.out; have := L11.out; omega
        have N2 : gf ≠ gp := by have := L1.out; have := GA.out; have := L2.out; have := HP.out; have := L3.out; have := L4.out; have := Gge.out; have := L5.out; have := L6.out; have := L7.out; have := L8.out; have := L9.out; have := Z9.out; have := L10.out; have := L11.out; omega
        have N3 : ge ≠ go := by have := L1.out; have := GA.out; have := L2.out; have := HP.out; have := L3.out; have := L4.out; have := Gge.out; have := L5.out; have := L6.out; have := L7.out; have := L8.out; have := L9.out; have := Z9.out; have := L10.out; have := L11.out; omega
        have N4 : gf ≠ go := by have := L1.out; have := GA.out; have := L2.out; have := HP.out; have := L3.out; have := L4.out; have := Gge.out; have := L5.out; have := L6.out; have := L7.out; have := L8.out; have := L9.out; have := Z9.out; have := L10.out; have := L11.out; omega
        have N5 : go ≠ gp := by have := L1.out; have := GA.out; have := L2.out; have := HP.out; have := L3.out; have := L4.out; have := Gge.out; have := L5.out; have := L6.out; have := L7.out; have := L8.out; have := L9.out; have := Z9.out; have := L10.out; have := L11.out; omega
        have xe0 := hide ((drewB KE11.out).cell 0 rfl)
        have xe1 := hide ((drewB KE11.out).cell 1 rfl)
        have xe2 := hide ((drewB KE11.out).cell 2 rfl)
        have xe3 := hide ((drewB KE11.out).cell 3 rfl)
        have xe4 := hide ((drewB KE11.out).cell 4 rfl)
        have xf0 := hide ((drewB KF11.out).cell 0 rfl)
        have xf1 := hide ((drewB KF11.out).cell 1 rfl)
        have xf2 := hide ((drewB KF11.out).cell 2 rfl)
        have xf3 := hide ((drewB KF11.out).cell 3 rfl)
        have xf4 := hide ((drewB KF11.out).cell 4 rfl)
        have xf5 := hide ((drewB KF11.out).cell 5 rfl)
        have xf6 := hide ((drewB KF11.out).cell 6 rfl)
        have xf7 := hide ((drewB KF11.out).cell 7 rfl)
        have xf8 := hide ((drewB KF11.out).cell 8 rfl)
        have xf9 := hide ((drewB KF11.out).cell 9 rfl)
        have xf10 := hide ((drewB KF11.out).cell 10 rfl)
        have vo0 := KP11.out.cell 0 rfl
        have vo1 := KP11.out.cell 1 rfl
        have vo2 := KP11.out.cell 2 rfl
        have vo3 := KP11.out.cell 3 rfl
        have vo4 := KP11.out.cell 4 rfl
        have vp0 := KP11.out.frozen 0
        have vp1 := KP11.out.frozen 1
        have vp2 := KP11.out.frozen 2
        have vp3 := KP11.out.frozen 3
        have vp4 := KP11.out.frozen 4
        have ze0 := KE11.out.cell 0 rfl
        have ze1 := KE11.out.cell 1 rfl
        have ze2 := KE11.out.cell 2 rfl
        have ze3 := KE11.out.cell 3 rfl
        have ze4 := KE11.out.cell 4 rfl
        have zf0 := KF11.out.cell 0 rfl
        have zf1 := KF11.out.cell 1 rfl
        have zf2 := KF11.out.cell 2 rfl
        have zf3 := KF11.out.cell 3 rfl
        have zf4 := KF11.out.cell 4 rfl
        have zf5 := KF11.out.cell 5 rfl
        have zf6 := KF11.out.cell 6 rfl
        have zf7 := KF11.out.cell 7 rfl
        have zf8 := KF11.out.cell 8 rfl
        have zf9 := KF11.out.cell 9 rfl
        have zf10 := KF11.out.cell 10 rfl
        have zH := ep_other KO11.out N5 (.int .i64 D0.n) (.slice S0.key.a S0.key.n S0.key.c) (.int .i64 D0.seq) (.int .i64 D0.win.top) (.slice S0.win.bits.a S0.win.bits.n S0.win.bits.c)
        have zN := ep_other KE11.out N1 (.int .i64 D0.n) (.slice S0.key.a S0.key.n S0.key.c) (.int .i64 D0.seq) (.int .i64 D0.win.top) (.slice S0.win.bits.a S0.win.bits.n S0.win.bits.c)
        have zG := ep_other KF11.out N2 (.int .i64 D0.n) (.slice S0.key.a S0.key.n S0.key.c) (.int .i64 D0.seq) (.int .i64 D0.win.top) (.slice S0.win.bits.a S0.win.bits.n S0.win.bits.c)
        have vh0 := KO11.out.cell 0 rfl
        have vh1 := KO11.out.cell 1 rfl
        have vh2 := KO11.out.cell 2 rfl
        have vh3 := KO11.out.cell 3 rfl
        have vh4 := KO11.out.cell 4 rfl
        have vh5 := KO11.out.cell 5 rfl
        have vh6 := KO11.out.cell 6 rfl
        have vh7 := KO11.out.cell 7 rfl
        have vh8 := KO11.out.cell 8 rfl
        have vh9 := KO11.out.cell 9 rfl
        have vh10 := KO11.out.cell 10 rfl
        have vg0 := KO11.out.frozen 0
        have vg1 := KO11.out.frozen 1
        have vg2 := KO11.out.frozen 2
        have vg3 := KO11.out.frozen 3
        have vg4 := KO11.out.frozen 4
        have vg5 := KO11.out.frozen 5
        have vg6 := KO11.out.frozen 6
        have vg7 := KO11.out.frozen 7
        have vg8 := KO11.out.frozen 8
        have vg9 := KO11.out.frozen 9
        have vg10 := KO11.out.frozen 10
        have zm0 := hide ((drewB zN).cell 0 rfl)
        have zm1 := hide ((drewB zN).cell 1 rfl)
        have zm2 := hide ((drewB zN).cell 2 rfl)
        have zm3 := hide ((drewB zN).cell 3 rfl)
        have zm4 := hide ((drewB zN).cell 4 rfl)
        have zn0 := hide ((drewB zG).cell 0 rfl)
        have zn1 := hide ((drewB zG).cell 1 rfl)
        have zn2 := hide ((drewB zG).cell 2 rfl)
        have zn3 := hide ((drewB zG).cell 3 rfl)
        have zn4 := hide ((drewB zG).cell 4 rfl)
        have zn5 := hide ((drewB zG).cell 5 rfl)
        have zn6 := hide ((drewB zG).cell 6 rfl)
        have zn7 := hide ((drewB zG).cell 7 rfl)
        have zn8 := hide ((drewB zG).cell 8 rfl)
        have zn9 := hide ((drewB zG).cell 9 rfl)
        have zn10 := hide ((drewB zG).cell 10 rfl)
        have zM := fr_other zN N3 (.int .i64 D1.kind) (.int .i64 D1.id) (.slice S1.cn.a S1.cn.n S1.cn.c) (.slice S1.sn.a S1.sn.n S1.sn.c) (.int .i64 D1.tick) (.slice S1.cookie.a S1.cookie.n S1.cookie.c) (.slice S1.proof.a S1.proof.n S1.proof.c) (.int .i64 D1.epoch) (.int .i64 D1.seq) (.slice S1.body.a S1.body.n S1.body.c) (.slice S1.tag.a S1.tag.n S1.tag.c)
        have zK := fr_other zG N4 (.int .i64 D1.kind) (.int .i64 D1.id) (.slice S1.cn.a S1.cn.n S1.cn.c) (.slice S1.sn.a S1.sn.n S1.sn.c) (.int .i64 D1.tick) (.slice S1.cookie.a S1.cookie.n S1.cookie.c) (.slice S1.proof.a S1.proof.n S1.proof.c) (.int .i64 D1.epoch) (.int .i64 D1.seq) (.slice S1.body.a S1.body.n S1.body.c) (.slice S1.tag.a S1.tag.n S1.tag.c)
        have zr0 := hide ((drewB zM).cell 0 rfl)
        have zr1 := hide ((drewB zM).cell 1 rfl)
        have zr2 := hide ((drewB zM).cell 2 rfl)
        have zr3 := hide ((drewB zM).cell 3 rfl)
        have zr4 := hide ((drewB zM).cell 4 rfl)
        have zs0 := hide ((drewB zK).cell 0 rfl)
        have zs1 := hide ((drewB zK).cell 1 rfl)
        have zs2 := hide ((drewB zK).cell 2 rfl)
        have zs3 := hide ((drewB zK).cell 3 rfl)
        have zs4 := hide ((drewB zK).cell 4 rfl)
        have zs5 := hide ((drewB zK).cell 5 rfl)
        have zs6 := hide ((drewB zK).cell 6 rfl)
        have zs7 := hide ((drewB zK).cell 7 rfl)
        have zs8 := hide ((drewB zK).cell 8 rfl)
        have zs9 := hide ((drewB zK).cell 9 rfl)
        have zs10 := hide ((drewB zK).cell 10 rfl)
        clear zH zN zG zM zK
        go_region_held3 (fun w' => w'.cell? ⟨ge, 0, none⟩ = some (.int .i64 D0.n) ∧ w'.cell? ⟨ge, 1, none⟩ = some (.slice S0.key.a S0.key.n S0.key.c) ∧ w'.cell? ⟨ge, 2, none⟩ = some (.int .i64 D0.seq) ∧ w'.cell? ⟨ge, 3, none⟩ = some (.int .i64 D0.win.top) ∧ w'.cell? ⟨ge, 4, none⟩ = some (.slice S0.win.bits.a S0.win.bits.n S0.win.bits.c) ∧ w'.cell? ⟨gf, 0, none⟩ = some (.int .i64 D1.kind) ∧ w'.cell? ⟨gf, 1, none⟩ = some (.int .i64 D1.id) ∧ w'.cell? ⟨gf, 2, none⟩ = some (.slice S1.cn.a S1.cn.n S1.cn.c) ∧ w'.cell? ⟨gf, 3, none⟩ = some (.slice S1.sn.a S1.sn.n S1.sn.c) ∧ w'.cell? ⟨gf, 4, none⟩ = some (.int .i64 D1.tick) ∧ w'.cell? ⟨gf, 5, none⟩ = some (.slice S1.cookie.a S1.cookie.n S1.cookie.c) ∧ w'.cell? ⟨gf, 6, none⟩ = some (.slice S1.proof.a S1.proof.n S1.proof.c) ∧ w'.cell? ⟨gf, 7, none⟩ = some (.int .i64 D1.epoch) ∧ w'.cell? ⟨gf, 8, none⟩ = some (.int .i64 D1.seq) ∧ w'.cell? ⟨gf, 9, none⟩ = some (.slice S1.body.a S1.body.n S1.body.c) ∧ w'.cell? ⟨gf, 10, none⟩ = some (.slice S1.tag.a S1.tag.n S1.tag.c)) (first | with_reducible exact ⟨zr0.out, zr1.out, zr2.out, zr3.out, zr4.out, zs0.out, zs1.out, zs2.out, zs3.out, zs4.out, zs5.out, zs6.out, zs7.out, zs8.out, zs9.out, zs10.out⟩ | with_reducible exact ⟨zm0.out, zm1.out, zm2.out, zm3.out, zm4.out, zn0.out, zn1.out, zn2.out, zn3.out, zn4.out, zn5.out, zn6.out, zn7.out, zn8.out, zn9.out, zn10.out⟩ | with_reducible exact ⟨ze0, ze1, ze2, ze3, ze4, zf0, zf1, zf2, zf3, zf4, zf5, zf6, zf7, zf8, zf9, zf10⟩ | with_reducible exact ⟨xe0.out, xe1.out, xe2.out, xe3.out, xe4.out, xf0.out, xf1.out, xf2.out, xf3.out, xf4.out, xf5.out, xf6.out, xf7.out, xf8.out, xf9.out, xf10.out⟩ | go_keep) (fail)
        clear ze0 zm0 zr0 vo0 vp0 xe0 ze1 zm1 zr1 vo1 vp1 xe1 ze2 zm2 zr2 vo2 vp2 xe2 ze3 zm3 zr3 vo3 vp3 xe3 ze4 zm4 zr4 vo4 vp4 xe4 zf0 zn0 zs0 vh0 vg0 xf0 zf1 zn1 zs1 vh1 vg1 xf1 zf2 zn2 zs2 vh2 vg2 xf2 zf3 zn3 zs3 vh3 vg3 xf3 zf4 zn4 zs4 vh4 vg4 xf4 zf5 zn5 zs5 vh5 vg5 xf5 zf6 zn6 zs6 vh6 vg6 xf6 zf7 zn7 zs7 vh7 vg7 xf7 zf8 zn8 zs8 vh8 vg8 xf8 zf9 zn9 zs9 vh9 vg9 xf9 zf10 zn10 zs10 vh10 vg10 xf10
        go_wp2
        have SZF : Hid (w.heap.size ≤ gp ∧ gp + 1 = go ∧ go + 1 ≤ x2.heap.size ∧ x2.heap.size ≤ x3.heap.size ∧ x3.heap.size ≤ x11.heap.size ∧ go + 1 ≤ pz ∧ qz ≤ x11.heap.size) := by have := L1.out; have := GA.out; have := L2.out; have := HP.out; have := L3.out; have := L4.out; have := Gge.out; have := L5.out; have := L6.out; have := L7.out; have := L8.out; have := L9.out; have := Z9.out; have := L10.out; have := L11.out; show _ ∧ _; omega
        obtain ⟨k1, k2, k3⟩ := ep_stored (D := D0) (S := S0) (lo := x2.heap.size) (hi := x3.heap.size) KP11.out OE11.out (.inl (by have := SZF.out; omega))
        have kh := ep_other KO11.out N5 (.int .i64 D0.n) (.slice S0.key.a S0.key.n S0.key.c) (.int .i64 D0.seq) (.int .i64 D0.win.top) (.slice S0.win.bits.a S0.win.bits.n S0.win.bits.c)
        have f1 := fr_put kh (.int .i64 D1.kind) (.int .i64 D1.id) (.slice S1.cn.a S1.cn.n S1.cn.c) (.slice S1.sn.a S1.sn.n S1.sn.c) (.int .i64 D1.tick) (.slice S1.cookie.a S1.cookie.n S1.cookie.c) (.slice S1.proof.a S1.proof.n S1.proof.c) (.int .i64 D1.epoch) (.int .i64 D1.seq) (.slice S1.body.a S1.body.n S1.body.c) (.slice S1.tag.a S1.tag.n S1.tag.c)
        have k4 := fr_other k1 (Ne.symm N5) (.int .i64 D1.kind) (.int .i64 D1.id) (.slice S1.cn.a S1.cn.n S1.cn.c) (.slice S1.sn.a S1.sn.n S1.sn.c) (.int .i64 D1.tick) (.slice S1.cookie.a S1.cookie.n S1.cookie.c) (.slice S1.proof.a S1.proof.n S1.proof.c) (.int .i64 D1.epoch) (.int .i64 D1.seq) (.slice S1.body.a S1.body.n S1.body.c) (.slice S1.tag.a S1.tag.n S1.tag.c)
        have of := (OF11.out.carry (ep_kept _ gp (.int .i64 D0.n) (.slice S0.key.a S0.key.n S0.key.c) (.int .i64 D0.seq) (.int .i64 D0.win.top) (.slice S0.win.bits.a S0.win.bits.n S0.win.bits.c)) (.inr (by have := SZF.out; omega))).carry (fr_kept _ go (.int .i64 D1.kind) (.int .i64 D1.id) (.slice S1.cn.a S1.cn.n S1.cn.c) (.slice S1.sn.a S1.sn.n S1.sn.c) (.int .i64 D1.tick) (.slice S1.cookie.a S1.cookie.n S1.cookie.c) (.slice S1.proof.a S1.proof.n S1.proof.c) (.int .i64 D1.epoch) (.int .i64 D1.seq) (.slice S1.body.a S1.body.n S1.body.c) (.slice S1.tag.a S1.tag.n S1.tag.c)) (.inr (by have := SZF.out; omega))
        have oe := k2.carry (fr_kept _ go (.int .i64 D1.kind) (.int .i64 D1.id) (.slice S1.cn.a S1.cn.n S1.cn.c) (.slice S1.sn.a S1.sn.n S1.sn.c) (.int .i64 D1.tick) (.slice S1.cookie.a S1.cookie.n S1.cookie.c) (.slice S1.proof.a S1.proof.n S1.proof.c) (.int .i64 D1.epoch) (.int .i64 D1.seq) (.slice S1.body.a S1.body.n S1.body.c) (.slice S1.tag.a S1.tag.n S1.tag.c)) (.inr (by have := SZF.out; omega))
        have b9 := fr_low (k3 _ _ (show w.heap.size ≤ gp by have := SZF.out; omega) B11.out) (g := go) (by have := SZF.out; omega) (.int .i64 D1.kind) (.int .i64 D1.id) (.slice S1.cn.a S1.cn.n S1.cn.c) (.slice S1.sn.a S1.sn.n S1.sn.c) (.int .i64 D1.tick) (.slice S1.cookie.a S1.cookie.n S1.cookie.c) (.slice S1.proof.a S1.proof.n S1.proof.c) (.int .i64 D1.epoch) (.int .i64 D1.seq) (.slice S1.body.a S1.body.n S1.body.c) (.slice S1.tag.a S1.tag.n S1.tag.c)
        exact bodyPost_ret (v := .tuple #[epV D0 S0, .int .i64 ro, frV D1 S1]) (res3 rfl (is_cell rfl (drewB k4) aggEp) (is_tmp rfl) (is_cell rfl (drewB f1) aggFr)) rfl ⟨D0, S0, ro, D1, S1, rfl, HS0.out, (oe.later ((Below.refl _ _).drew)).rd, (of.later ((Below.refl _ _).drew)).rd, b9.drew⟩
  case neg =>
    have TD : Hid (Below x7.heap.size x7 x7.drew) := (Below.refl _ _).drew
    have TB : Hid (Below x7.heap.size x7 (x7.alloc (.cells #[.int .i64 0, .int .i64 0, .slice none 0 0, .slice none 0 0, .int .i64 0, .slice none 0 0, .slice none 0 0, .int .i64 0, .int .i64 0, .slice none 0 0, .slice none 0 0] 27)).drew) := ((Below.refl _ _).alloc (Nat.le_refl _) _).drew
    have GA : Hid (Blk (x7.alloc (.cells #[.int .i64 0, .int .i64 0, .slice none 0 0, .slice none 0 0, .int .i64 0, .slice none 0 0, .slice none 0 0, .int .i64 0, .int .i64 0, .slice none 0 0, .slice none 0 0] 27)).drew x7.heap.size 27 [.int .i64 0, .int .i64 0, .slice none 0 0, .slice none 0 0, .int .i64 0, .slice none 0 0, .slice none 0 0, .int .i64 0, .int .i64 0, .slice none 0 0, .slice none 0 0]) := Blk.new x7 _ _
    have NI : Hid (x7.heap.size ≠ p ∧ ge ≠ p ∧ p < x7.heap.size) := by have := R7.out.hc.lt; have := L1.out; have := GA.out; have := L2.out; have := HP.out; have := L3.out; have := L4.out; have := Gge.out; have := L5.out; have := L6.out; have := L7.out; show _ ∧ _; omega
    go_upto_region 8 with fail
    go_cut [11, 12] from 35 to 48 (fun s11 s12 wx => ∃ g D1 S1 pz qz bb, s11 = .pointer (some ⟨g, 0, none⟩) ∧ s12 = .bool bb ∧ Blk wx g 27 [.int .i64 D1.kind, .int .i64 D1.id, .slice S1.cn.a S1.cn.n S1.cn.c, .slice S1.sn.a S1.sn.n S1.sn.c, .int .i64 D1.tick, .slice S1.cookie.a S1.cookie.n S1.cookie.c, .slice S1.proof.a S1.proof.n S1.proof.c, .int .i64 D1.epoch, .int .i64 D1.seq, .slice S1.body.a S1.body.n S1.body.c, .slice S1.tag.a S1.tag.n S1.tag.c] ∧ FrIn wx pz qz S1 D1 ∧ FrShort D1 1000 ∧ (x7.heap.size ≤ pz ∧ pz ≤ qz ∧ qz ≤ wx.heap.size ∧ x7.heap.size ≤ g ∧ g + 1 ≤ wx.heap.size ∧ (g + 1 ≤ pz ∨ qz ≤ g)) ∧ Ready x1 a len cap l p wx ∧ But p x7 wx)
    case first =>
      rename_i J K' hRJ hMet
      have c0 := (KE7.out).cell 0 rfl
      have c1 := (KE7.out).cell 1 rfl
      have cD0 := hide ((KE7.out.later TD.out).cell 0 rfl)
      have cD1 := hide ((KE7.out.later TD.out).cell 1 rfl)
      have cB0 := hide ((KE7.out.later TB.out).cell 0 rfl)
      have cB1 := hide ((KE7.out.later TB.out).cell 1 rfl)
      have cC0 := hide ((KE7.out.alloc (.cells #[.int .i64 0, .int .i64 0, .slice none 0 0, .slice none 0 0, .int .i64 0, .slice none 0 0, .slice none 0 0, .int .i64 0, .int .i64 0, .slice none 0 0, .slice none 0 0] 27)).cell 0 rfl)
      have cC1 := hide ((KE7.out.alloc (.cells #[.int .i64 0, .int .i64 0, .slice none 0 0, .slice none 0 0, .int .i64 0, .slice none 0 0, .slice none 0 0, .int .i64 0, .int .i64 0, .slice none 0 0, .slice none 0 0] 27)).cell 1 rfl)
      go_region_held3 (fun w' => w'.cell? ⟨ge, 0, none⟩ = some (.int .i64 D0.n) ∧ w'.cell? ⟨ge, 1, none⟩ = some (.slice S0.key.a S0.key.n S0.key.c)) (first | with_reducible exact ⟨dn0.out, dn1.out⟩ | with_reducible exact ⟨fZ0.out, fZ1.out⟩ | with_reducible exact ⟨fY0.out, fY1.out⟩ | with_reducible exact ⟨f0, f1⟩ | with_reducible exact ⟨dZ0.out, dZ1.out⟩ | with_reducible exact ⟨d0, d1⟩ | with_reducible exact ⟨cB0.out, cB1.out⟩ | with_reducible exact ⟨cC0.out, cC1.out⟩ | with_reducible exact ⟨cD0.out, cD1.out⟩ | with_reducible exact ⟨c0, c1⟩ | fail)
        (first
          | (go_at_call 14; have GZ0 := GZ; obtain ⟨D1, hD1⟩ : ∃ zz, sealF D0.key ro ln D0.n z kd lp = zz := ⟨_, rfl⟩; refine (SealS.specSeal S0.key ⟨some ⟨gn, 0, none⟩, 12, cn⟩ Pt D0.key ln lp ro D0.n z kd y1 OE1.out.rd.key NM.out OP1.out.rd).mono ?_; unfold SealS.AnsS; rw [hD1]; rintro e y2 ⟨S1, rfl, o, b⟩; unfold frV; have HS1 : Hid (FrShort D1 1000) := (by rw [← hD1]; exact short_le (sealF_short _ _ _ _ _ _ _) (by omega)); have R2 : Hid (Ready x1 a len cap l p y2) := rdyL R1.out b; have T2 : Hid (But p x7 y2) := butL T1.out b; have O1 : Hid (FrOwn y2 y1.heap.size y2.heap.size S1 D1) := o; have LW : Hid (y1.heap.size ≤ y2.heap.size ∧ y1.heap.size ≤ y1.heap.size) := ⟨b.size, (by first | exact Nat.le_refl _ | (rw [World.size_alloc]; omega))⟩; have KE2 : Hid (Blk y2 ge 41 [.int .i64 D0.n, .slice S0.key.a S0.key.n S0.key.c, .int .i64 D0.seq, .int .i64 D0.win.top, .slice S0.win.bits.a S0.win.bits.n S0.win.bits.c]) := KE1.out.later b; have GZZ : Hid (Blk y2 (x7.heap.size) 27 [.int .i64 0, .int .i64 0, .slice none 0 0, .slice none 0 0, .int .i64 0, .slice none 0 0, .slice none 0 0, .int .i64 0, .int .i64 0, .slice none 0 0, .slice none 0 0]) := GZ.out.later b; have LGZ : Hid (x7.heap.size + 1 ≤ y1.heap.size ∧ x7.heap.size ≤ x7.heap.size) := (by have := LY1.out; have q9 := GZ.out.lt; exact ⟨q9, Nat.le_refl _⟩); have gNE : ge ≠ x7.heap.size := (by have := LGZ.out; have := L1.out; have := GA.out; have := L2.out; have := HP.out; have := L3.out; have := L4.out; have := Gge.out; have := L5.out; have := L6.out; have := L7.out; omega); have go0 := GZZ.out.cell 0 rfl; have gp0 := GZZ.out.frozen 0; have go1 := GZZ.out.cell 1 rfl; have gp1 := GZZ.out.frozen 1; have go2 := GZZ.out.cell 2 rfl; have gp2 := GZZ.out.frozen 2; have go3 := GZZ.out.cell 3 rfl; have gp3 := GZZ.out.frozen 3; have go4 := GZZ.out.cell 4 rfl; have gp4 := GZZ.out.frozen 4; have go5 := GZZ.out.cell 5 rfl; have gp5 := GZZ.out.frozen 5; have go6 := GZZ.out.cell 6 rfl; have gp6 := GZZ.out.frozen 6; have go7 := GZZ.out.cell 7 rfl; have gp7 := GZZ.out.frozen 7; have go8 := GZZ.out.cell 8 rfl; have gp8 := GZZ.out.frozen 8; have go9 := GZZ.out.cell 9 rfl; have gp9 := GZZ.out.frozen 9; have go10 := GZZ.out.cell 10 rfl; have gp10 := GZZ.out.frozen 10; have dN := fr_other KE2.out gNE (.int .i64 D1.kind) (.int .i64 D1.id) (.slice S1.cn.a S1.cn.n S1.cn.c) (.slice S1.sn.a S1.sn.n S1.sn.c) (.int .i64 D1.tick) (.slice S1.cookie.a S1.cookie.n S1.cookie.c) (.slice S1.proof.a S1.proof.n S1.proof.c) (.int .i64 D1.epoch) (.int .i64 D1.seq) (.slice S1.body.a S1.body.n S1.body.c) (.slice S1.tag.a S1.tag.n S1.tag.c); have dn0 := hide ((dN).cell 0 rfl); have dn1 := hide ((dN).cell 1 rfl); clear dN; have f0 := (KE2.out).cell 0 rfl; have f1 := (KE2.out).cell 1 rfl; have fZ0 := hide ((KE2.out.alloc (.cells #[.int .i64 D1.kind, .int .i64 D1.id, .slice S1.cn.a S1.cn.n S1.cn.c, .slice S1.sn.a S1.sn.n S1.sn.c, .int .i64 D1.tick, .slice S1.cookie.a S1.cookie.n S1.cookie.c, .slice S1.proof.a S1.proof.n S1.proof.c, .int .i64 D1.epoch, .int .i64 D1.seq, .slice S1.body.a S1.body.n S1.body.c, .slice S1.tag.a S1.tag.n S1.tag.c] 27)).cell 0 rfl); have fZ1 := hide ((KE2.out.alloc (.cells #[.int .i64 D1.kind, .int .i64 D1.id, .slice S1.cn.a S1.cn.n S1.cn.c, .slice S1.sn.a S1.sn.n S1.sn.c, .int .i64 D1.tick, .slice S1.cookie.a S1.cookie.n S1.cookie.c, .slice S1.proof.a S1.proof.n S1.proof.c, .int .i64 D1.epoch, .int .i64 D1.seq, .slice S1.body.a S1.body.n S1.body.c, .slice S1.tag.a S1.tag.n S1.tag.c] 27)).cell 1 rfl); have fY0 := hide ((KE2.out.alloc (.cells #[.int .i64 0, .int .i64 0, .slice none 0 0, .slice none 0 0, .int .i64 0, .slice none 0 0, .slice none 0 0, .int .i64 0, .int .i64 0, .slice none 0 0, .slice none 0 0] 27)).cell 0 rfl); have fY1 := hide ((KE2.out.alloc (.cells #[.int .i64 0, .int .i64 0, .slice none 0 0, .slice none 0 0, .int .i64 0, .slice none 0 0, .slice none 0 0, .int .i64 0, .int .i64 0, .slice none 0 0, .slice none 0 0] 27)).cell 1 rfl); clear b o hD1)
          | (go_at_call 14; obtain ⟨D1, hD1⟩ : ∃ zz, sealF D0.key ro ln D0.n z kd lp = zz := ⟨_, rfl⟩; refine (SealS.specSeal S0.key ⟨some ⟨gn, 0, none⟩, 12, cn⟩ Pt D0.key ln lp ro D0.n z kd (y1.alloc (.cells #[.int .i64 0, .int .i64 0, .slice none 0 0, .slice none 0 0, .int .i64 0, .slice none 0 0, .slice none 0 0, .int .i64 0, .int .i64 0, .slice none 0 0, .slice none 0 0] 27)) (OE1.out.rd.later ((Below.refl _ _).alloc (Nat.le_refl _) _)).key (NM.out.later ((Below.refl _ _).alloc (Nat.le_refl _) _)) (OP1.out.rd.later ((Below.refl _ _).alloc (Nat.le_refl _) _))).mono ?_; unfold SealS.AnsS; rw [hD1]; rintro e y2 ⟨S1, rfl, o, b⟩; unfold frV; have HS1 : Hid (FrShort D1 1000) := (by rw [← hD1]; exact short_le (sealF_short _ _ _ _ _ _ _) (by omega)); have R2 : Hid (Ready x1 a len cap l p y2) := rdyL (R1.out.alloc _) b; have T2 : Hid (But p x7 y2) := butL (T1.out.alloc _) b; have O1 : Hid (FrOwn y2 (y1.alloc (.cells #[.int .i64 0, .int .i64 0, .slice none 0 0, .slice none 0 0, .int .i64 0, .slice none 0 0, .slice none 0 0, .int .i64 0, .int .i64 0, .slice none 0 0, .slice none 0 0] 27)).heap.size y2.heap.size S1 D1) := o; have LW : Hid ((y1.alloc (.cells #[.int .i64 0, .int .i64 0, .slice none 0 0, .slice none 0 0, .int .i64 0, .slice none 0 0, .slice none 0 0, .int .i64 0, .int .i64 0, .slice none 0 0, .slice none 0 0] 27)).heap.size ≤ y2.heap.size ∧ y1.heap.size ≤ (y1.alloc (.cells #[.int .i64 0, .int .i64 0, .slice none 0 0, .slice none 0 0, .int .i64 0, .slice none 0 0, .slice none 0 0, .int .i64 0, .int .i64 0, .slice none 0 0, .slice none 0 0] 27)).heap.size) := ⟨b.size, (by first | exact Nat.le_refl _ | (rw [World.size_alloc]; omega))⟩; have KE2 : Hid (Blk y2 ge 41 [.int .i64 D0.n, .slice S0.key.a S0.key.n S0.key.c, .int .i64 D0.seq, .int .i64 D0.win.top, .slice S0.win.bits.a S0.win.bits.n S0.win.bits.c]) := (KE1.out.alloc _).later b; have GZZ : Hid (Blk y2 (y1.heap.size) 27 [.int .i64 0, .int .i64 0, .slice none 0 0, .slice none 0 0, .int .i64 0, .slice none 0 0, .slice none 0 0, .int .i64 0, .int .i64 0, .slice none 0 0, .slice none 0 0]) := (Blk.new y1 27 [.int .i64 0, .int .i64 0, .slice none 0 0, .slice none 0 0, .int .i64 0, .slice none 0 0, .slice none 0 0, .int .i64 0, .int .i64 0, .slice none 0 0, .slice none 0 0]).later b; have LGZ : Hid (y1.heap.size + 1 ≤ (y1.alloc (.cells #[.int .i64 0, .int .i64 0, .slice none 0 0, .slice none 0 0, .int .i64 0, .slice none 0 0, .slice none 0 0, .int .i64 0, .int .i64 0, .slice none 0 0, .slice none 0 0] 27)).heap.size ∧ x7.heap.size ≤ y1.heap.size) := (by have := LY1.out; exact ⟨by rw [World.size_alloc]; exact Nat.le_refl _, LY1.out⟩); have gNE : ge ≠ y1.heap.size := (by have := LGZ.out; have := L1.out; have := GA.out; have := L2.out; have := HP.out; have := L3.out; have := L4.out; have := Gge.out; have := L5.out; have := L6.out; have := L7.out; omega); have go0 := GZZ.out.cell 0 rfl; have gp0 := GZZ.out.frozen 0; have go1 := GZZ.out.cell 1 rfl; have gp1 := GZZ.out.frozen 1; have go2 := GZZ.out.cell 2 rfl; have gp2 := GZZ.out.frozen 2; have go3 := GZZ.out.cell 3 rfl; have gp3 := GZZ.out.frozen 3; have go4 := GZZ.out.cell 4 rfl; have gp4 := GZZ.out.frozen 4; have go5 := GZZ.out.cell 5 rfl; have gp5 := GZZ.out.frozen 5; have go6 := GZZ.out.cell 6 rfl; have gp6 := GZZ.out.frozen 6; have go7 := GZZ.out.cell 7 rfl; have gp7 := GZZ.out.frozen 7; have go8 := GZZ.out.cell 8 rfl; have gp8 := GZZ.out.frozen 8; have go9 := GZZ.out.cell 9 rfl; have gp9 := GZZ.out.frozen 9; have go10 := GZZ.out.cell 10 rfl; have gp10 := GZZ.out.frozen 10; have dN := fr_other KE2.out gNE (.int .i64 D1.kind) (.int .i64 D1.id) (.slice S1.cn.a S1.cn.n S1.cn.c) (.slice S1.sn.a S1.sn.n S1.sn.c) (.int .i64 D1.tick) (.slice S1.cookie.a S1.cookie.n S1.cookie.c) (.slice S1.proof.a S1.proof.n S1.proof.c) (.int .i64 D1.epoch) (.int .i64 D1.seq) (.slice S1.body.a S1.body.n S1.body.c) (.slice S1.tag.a S1.tag.n S1.tag.c); have dn0 := hide ((dN).cell 0 rfl); have dn1 := hide ((dN).cell 1 rfl); clear dN; have f0 := (KE2.out).cell 0 rfl; have f1 := (KE2.out).cell 1 rfl; have fZ0 := hide ((KE2.out.alloc (.cells #[.int .i64 D1.kind, .int .i64 D1.id, .slice S1.cn.a S1.cn.n S1.cn.c, .slice S1.sn.a S1.sn.n S1.sn.c, .int .i64 D1.tick, .slice S1.cookie.a S1.cookie.n S1.cookie.c, .slice S1.proof.a S1.proof.n S1.proof.c, .int .i64 D1.epoch, .int .i64 D1.seq, .slice S1.body.a S1.body.n S1.body.c, .slice S1.tag.a S1.tag.n S1.tag.c] 27)).cell 0 rfl); have fZ1 := hide ((KE2.out.alloc (.cells #[.int .i64 D1.kind, .int .i64 D1.id, .slice S1.cn.a S1.cn.n S1.cn.c, .slice S1.sn.a S1.sn.n S1.sn.c, .int .i64 D1.tick, .slice S1.cookie.a S1.cookie.n S1.cookie.c, .slice S1.proof.a S1.proof.n S1.proof.c, .int .i64 D1.epoch, .int .i64 D1.seq, .slice S1.body.a S1.body.n S1.body.c, .slice S1.tag.a S1.tag.n S1.tag.c] 27)).cell 1 rfl); have fY0 := hide ((KE2.out.alloc (.cells #[.int .i64 0, .int .i64 0, .slice none 0 0, .slice none 0 0, .int .i64 0, .slice none 0 0, .slice none 0 0, .int .i64 0, .int .i64 0, .slice none 0 0, .slice none 0 0] 27)).cell 0 rfl); have fY1 := hide ((KE2.out.alloc (.cells #[.int .i64 0, .int .i64 0, .slice none 0 0, .slice none 0 0, .int .i64 0, .slice none 0 0, .slice none 0 0, .int .i64 0, .int .i64 0, .slice none 0 0, .slice none 0 0] 27)).cell 1 rfl); clear b o hD1)
          | (go_at_call 14; obtain ⟨D1, hD1⟩ : ∃ zz, sealF D0.key ro ln D0.n z kd lp = zz := ⟨_, rfl⟩; refine (SealS.specSeal S0.key ⟨some ⟨gn, 0, none⟩, 12, cn⟩ Pt D0.key ln lp ro D0.n z kd y1 OE1.out.rd.key NM.out OP1.out.rd).mono ?_; unfold SealS.AnsS; rw [hD1]; rintro e y2 ⟨S1, rfl, o, b⟩; unfold frV; have HS1 : Hid (FrShort D1 1000) := (by rw [← hD1]; exact short_le (sealF_short _ _ _ _ _ _ _) (by omega)); have R2 : Hid (Ready x1 a len cap l p y2) := rdyL R1.out b; have T2 : Hid (But p x7 y2) := butL T1.out b; have O1 : Hid (FrOwn y2 y1.heap.size y2.heap.size S1 D1) := o; have LW : Hid (y1.heap.size ≤ y2.heap.size ∧ y1.heap.size ≤ y1.heap.size) := ⟨b.size, (by first | exact Nat.le_refl _ | (rw [World.size_alloc]; omega))⟩; have KE2 : Hid (Blk y2 ge 41 [.int .i64 D0.n, .slice S0.key.a S0.key.n S0.key.c, .int .i64 D0.seq, .int .i64 D0.win.top, .slice S0.win.bits.a S0.win.bits.n S0.win.bits.c]) := KE1.out.later b; have f0 := (KE2.out).cell 0 rfl; have f1 := (KE2.out).cell 1 rfl; have fZ0 := hide ((KE2.out.alloc (.cells #[.int .i64 D1.kind, .int .i64 D1.id, .slice S1.cn.a S1.cn.n S1.cn.c, .slice S1.sn.a S1.sn.n S1.sn.c, .int .i64 D1.tick, .slice S1.cookie.a S1.cookie.n S1.cookie.c, .slice S1.proof.a S1.proof.n S1.proof.c, .int .i64 D1.epoch, .int .i64 D1.seq, .slice S1.body.a S1.body.n S1.body.c, .slice S1.tag.a S1.tag.n S1.tag.c] 27)).cell 0 rfl); have fZ1 := hide ((KE2.out.alloc (.cells #[.int .i64 D1.kind, .int .i64 D1.id, .slice S1.cn.a S1.cn.n S1.cn.c, .slice S1.sn.a S1.sn.n S1.sn.c, .int .i64 D1.tick, .slice S1.cookie.a S1.cookie.n S1.cookie.c, .slice S1.proof.a S1.proof.n S1.proof.c, .int .i64 D1.epoch, .int .i64 D1.seq, .slice S1.body.a S1.body.n S1.body.c, .slice S1.tag.a S1.tag.n S1.tag.c] 27)).cell 1 rfl); have fY0 := hide ((KE2.out.alloc (.cells #[.int .i64 0, .int .i64 0, .slice none 0 0, .slice none 0 0, .int .i64 0, .slice none 0 0, .slice none 0 0, .int .i64 0, .int .i64 0, .slice none 0 0, .slice none 0 0] 27)).cell 0 rfl); have fY1 := hide ((KE2.out.alloc (.cells #[.int .i64 0, .int .i64 0, .slice none 0 0, .slice none 0 0, .int .i64 0, .slice none 0 0, .slice none 0 0, .int .i64 0, .int .i64 0, .slice none 0 0, .slice none 0 0] 27)).cell 1 rfl); clear b o hD1)
          | (go_at_call 51; refine (bytesOf (rdyL R7.out TB.out) 12 (by omega)).mono ?_; rintro e y1 ⟨gn, cn, ln, rfl, eln, hbn, kgn, rwn, r, b⟩; have R1 : Hid (Ready x1 a len cap l p y1) := r; have T1 : Hid (But p x7 y1) := (butL (But.refl p x7) TB.out).trans b; have Kq : Kept p (p + 1) x7 y1 := Kept.of_grown T1.out; have KE1 : Hid (Blk y1 ge 41 [.int .i64 D0.n, .slice S0.key.a S0.key.n S0.key.c, .int .i64 D0.seq, .int .i64 D0.win.top, .slice S0.win.bits.a S0.win.bits.n S0.win.bits.c]) := KE7.out.keep (Kq.block ge KE7.out.lt (by have := NI.out; have := L1.out; have := GA.out; have := L2.out; have := HP.out; have := L3.out; have := L4.out; have := Gge.out; have := L5.out; have := L6.out; have := L7.out; omega)); have OE1 : Hid (EpOwn y1 x2.heap.size x3.heap.size S0 D0) := OE7.out.carry Kq (by have := L1.out; have := GA.out; have := L2.out; have := HP.out; have := L3.out; have := L4.out; have := Gge.out; have := L5.out; have := L6.out; have := L7.out; omega); have OP1 : Hid (SOwn y1 x4.heap.size x5.heap.size Pt lp) := OPt7.out.carry Kq (by have := L1.out; have := GA.out; have := L2.out; have := HP.out; have := L3.out; have := L4.out; have := Gge.out; have := L5.out; have := L6.out; have := L7.out; omega); have NM : Hid (SRd y1 ⟨some ⟨gn, 0, none⟩, 12, cn⟩ ln) := (SOwn.row (lo := 0) (hi := y1.heap.size) rwn eln hbn (Nat.zero_le _) rwn.lt).rd; have LY1 : Hid (x7.heap.size ≤ y1.heap.size) := T1.out.size; have GZ : Hid (Blk y1 x7.heap.size 27 [.int .i64 0, .int .i64 0, .slice none 0 0, .slice none 0 0, .int .i64 0, .slice none 0 0, .slice none 0 0, .int .i64 0, .int .i64 0, .slice none 0 0, .slice none 0 0]) := GA.out.keep ((Kept.of_grown b).block _ GA.out.lt (by have := NI.out; omega)); have d0 := (KE1.out).cell 0 rfl; have d1 := (KE1.out).cell 1 rfl; have dZ0 := hide ((KE1.out.alloc (.cells #[.int .i64 0, .int .i64 0, .slice none 0 0, .slice none 0 0, .int .i64 0, .slice none 0 0, .slice none 0 0, .int .i64 0, .int .i64 0, .slice none 0 0, .slice none 0 0] 27)).cell 0 rfl); have dZ1 := hide ((KE1.out.alloc (.cells #[.int .i64 0, .int .i64 0, .slice none 0 0, .slice none 0 0, .int .i64 0, .slice none 0 0, .slice none 0 0, .int .i64 0, .int .i64 0, .slice none 0 0, .slice none 0 0] 27)).cell 1 rfl); clear r b eln hbn kgn rwn Kq)
          | (go_at_call 51; refine (bytesOf (rdyL R7.out TD.out) 12 (by omega)).mono ?_; rintro e y1 ⟨gn, cn, ln, rfl, eln, hbn, kgn, rwn, r, b⟩; have R1 : Hid (Ready x1 a len cap l p y1) := r; have T1 : Hid (But p x7 y1) := (butL (But.refl p x7) TD.out).trans b; have Kq : Kept p (p + 1) x7 y1 := Kept.of_grown T1.out; have KE1 : Hid (Blk y1 ge 41 [.int .i64 D0.n, .slice S0.key.a S0.key.n S0.key.c, .int .i64 D0.seq, .int .i64 D0.win.top, .slice S0.win.bits.a S0.win.bits.n S0.win.bits.c]) := KE7.out.keep (Kq.block ge KE7.out.lt (by have := NI.out; have := L1.out; have := GA.out; have := L2.out; have := HP.out; have := L3.out; have := L4.out; have := Gge.out; have := L5.out; have := L6.out; have := L7.out; omega)); have OE1 : Hid (EpOwn y1 x2.heap.size x3.heap.size S0 D0) := OE7.out.carry Kq (by have := L1.out; have := GA.out; have := L2.out; have := HP.out; have := L3.out; have := L4.out; have := Gge.out; have := L5.out; have := L6.out; have := L7.out; omega); have OP1 : Hid (SOwn y1 x4.heap.size x5.heap.size Pt lp) := OPt7.out.carry Kq (by have := L1.out; have := GA.out; have := L2.out; have := HP.out; have := L3.out; have := L4.out; have := Gge.out; have := L5.out; have := L6.out; have := L7.out; omega); have NM : Hid (SRd y1 ⟨some ⟨gn, 0, none⟩, 12, cn⟩ ln) := (SOwn.row (lo := 0) (hi := y1.heap.size) rwn eln hbn (Nat.zero_le _) rwn.lt).rd; have LY1 : Hid (x7.heap.size ≤ y1.heap.size) := T1.out.size; have d0 := (KE1.out).cell 0 rfl; have d1 := (KE1.out).cell 1 rfl; have dZ0 := hide ((KE1.out.alloc (.cells #[.int .i64 0, .int .i64 0, .slice none 0 0, .slice none 0 0, .int .i64 0, .slice none 0 0, .slice none 0 0, .int .i64 0, .int .i64 0, .slice none 0 0, .slice none 0 0] 27)).cell 0 rfl); have dZ1 := hide ((KE1.out.alloc (.cells #[.int .i64 0, .int .i64 0, .slice none 0 0, .slice none 0 0, .int .i64 0, .slice none 0 0, .slice none 0 0, .int .i64 0, .int .i64 0, .slice none 0 0, .slice none 0 0] 27)).cell 1 rfl); clear r b eln hbn kgn rwn Kq))
      · show K' _ _
        have o9 : Below y2.heap.size y2 (y2.alloc (.cells #[.int .i64 D1.kind, .int .i64 D1.id, .slice S1.cn.a S1.cn.n S1.cn.c, .slice S1.sn.a S1.sn.n S1.sn.c, .int .i64 D1.tick, .slice S1.cookie.a S1.cookie.n S1.cookie.c, .slice S1.proof.a S1.proof.n S1.proof.c, .int .i64 D1.epoch, .int .i64 D1.seq, .slice S1.body.a S1.body.n S1.body.c, .slice S1.tag.a S1.tag.n S1.tag.c] 27)) := (Below.refl _ _).alloc (Nat.le_refl _) _
        have sz9 : (y2.alloc (.cells #[.int .i64 D1.kind, .int .i64 D1.id, .slice S1.cn.a S1.cn.n S1.cn.c, .slice S1.sn.a S1.sn.n S1.sn.c, .int .i64 D1.tick, .slice S1.cookie.a S1.cookie.n S1.cookie.c, .slice S1.proof.a S1.proof.n S1.proof.c, .int .i64 D1.epoch, .int .i64 D1.seq, .slice S1.body.a S1.body.n S1.body.c, .slice S1.tag.a S1.tag.n S1.tag.c] 27)).heap.size = y2.heap.size + 1 := by rw [World.size_alloc]
        exact hMet _ _ (Met.intro (hRJ _ _ ⟨_, _, _, _, _, _, _, _, _, _, _, _, _, _, _, _, ⟨y2.heap.size, D1, S1, _, _, _, rfl, rfl, Blk.new y2 _ _, (FrIn.of O1.out).later o9, HS1.out, (by rw [sz9]; have := LW.out; have := LY1.out; omega), rdyL R2.out o9, butL T2.out o9⟩, rfl⟩))
      · show K' _ _
        have sz9 : (((((((((((y2.setCell ⟨y1.heap.size, 0, none⟩ (.int .i64 D1.kind)).setCell ⟨y1.heap.size, 1, none⟩ (.int .i64 D1.id)).setCell ⟨y1.heap.size, 2, none⟩ (.slice S1.cn.a S1.cn.n S1.cn.c)).setCell ⟨y1.heap.size, 3, none⟩ (.slice S1.sn.a S1.sn.n S1.sn.c)).setCell ⟨y1.heap.size, 4, none⟩ (.int .i64 D1.tick)).setCell ⟨y1.heap.size, 5, none⟩ (.slice S1.cookie.a S1.cookie.n S1.cookie.c)).setCell ⟨y1.heap.size, 6, none⟩ (.slice S1.proof.a S1.proof.n S1.proof.c)).setCell ⟨y1.heap.size, 7, none⟩ (.int .i64 D1.epoch)).setCell ⟨y1.heap.size, 8, none⟩ (.int .i64 D1.seq)).setCell ⟨y1.heap.size, 9, none⟩ (.slice S1.body.a S1.body.n S1.body.c)).setCell ⟨y1.heap.size, 10, none⟩ (.slice S1.tag.a S1.tag.n S1.tag.c)).heap.size = y2.heap.size := fr_size _ _ (.int .i64 D1.kind) (.int .i64 D1.id) (.slice S1.cn.a S1.cn.n S1.cn.c) (.slice S1.sn.a S1.sn.n S1.sn.c) (.int .i64 D1.tick) (.slice S1.cookie.a S1.cookie.n S1.cookie.c) (.slice S1.proof.a S1.proof.n S1.proof.c) (.int .i64 D1.epoch) (.int .i64 D1.seq) (.slice S1.body.a S1.body.n S1.body.c) (.slice S1.tag.a S1.tag.n S1.tag.c)
        have KP := fr_kept y2 (y1.heap.size) (.int .i64 D1.kind) (.int .i64 D1.id) (.slice S1.cn.a S1.cn.n S1.cn.c) (.slice S1.sn.a S1.sn.n S1.sn.c) (.int .i64 D1.tick) (.slice S1.cookie.a S1.cookie.n S1.cookie.c) (.slice S1.proof.a S1.proof.n S1.proof.c) (.int .i64 D1.epoch) (.int .i64 D1.seq) (.slice S1.body.a S1.body.n S1.body.c) (.slice S1.tag.a S1.tag.n S1.tag.c)
        exact hMet _ _ (Met.intro (hRJ _ _ ⟨_, _, _, _, _, _, _, _, _, _, _, _, _, _, _, _, ⟨y1.heap.size, D1, S1, _, _, _, rfl, rfl, fr_put GZZ.out (.int .i64 D1.kind) (.int .i64 D1.id) (.slice S1.cn.a S1.cn.n S1.cn.c) (.slice S1.sn.a S1.sn.n S1.sn.c) (.int .i64 D1.tick) (.slice S1.cookie.a S1.cookie.n S1.cookie.c) (.slice S1.proof.a S1.proof.n S1.proof.c) (.int .i64 D1.epoch) (.int .i64 D1.seq) (.slice S1.body.a S1.body.n S1.body.c) (.slice S1.tag.a S1.tag.n S1.tag.c), (FrIn.of O1.out).carry KP (.inr (by have := LGZ.out; omega)), HS1.out, (by rw [sz9]; have := LW.out; have := LY1.out; have := LGZ.out; omega), rdyK R2.out KP (by have := LGZ.out; have := NI.out; omega), butK T2.out KP (by have := LGZ.out; omega)⟩, rfl⟩))
      · show K' _ _
        have sz9 : (((((((((((y2.setCell ⟨x7.heap.size, 0, none⟩ (.int .i64 D1.kind)).setCell ⟨x7.heap.size, 1, none⟩ (.int .i64 D1.id)).setCell ⟨x7.heap.size, 2, none⟩ (.slice S1.cn.a S1.cn.n S1.cn.c)).setCell ⟨x7.heap.size, 3, none⟩ (.slice S1.sn.a S1.sn.n S1.sn.c)).setCell ⟨x7.heap.size, 4, none⟩ (.int .i64 D1.tick)).setCell ⟨x7.heap.size, 5, none⟩ (.slice S1.cookie.a S1.cookie.n S1.cookie.c)).setCell ⟨x7.heap.size, 6, none⟩ (.slice S1.proof.a S1.proof.n S1.proof.c)).setCell ⟨x7.heap.size, 7, none⟩ (.int .i64 D1.epoch)).setCell ⟨x7.heap.size, 8, none⟩ (.int .i64 D1.seq)).setCell ⟨x7.heap.size, 9, none⟩ (.slice S1.body.a S1.body.n S1.body.c)).setCell ⟨x7.heap.size, 10, none⟩ (.slice S1.tag.a S1.tag.n S1.tag.c)).heap.size = y2.heap.size := fr_size _ _ (.int .i64 D1.kind) (.int .i64 D1.id) (.slice S1.cn.a S1.cn.n S1.cn.c) (.slice S1.sn.a S1.sn.n S1.sn.c) (.int .i64 D1.tick) (.slice S1.cookie.a S1.cookie.n S1.cookie.c) (.slice S1.proof.a S1.proof.n S1.proof.c) (.int .i64 D1.epoch) (.int .i64 D1.seq) (.slice S1.body.a S1.body.n S1.body.c) (.slice S1.tag.a S1.tag.n S1.tag.c)
        have KP := fr_kept y2 (x7.heap.size) (.int .i64 D1.kind) (.int .i64 D1.id) (.slice S1.cn.a S1.cn.n S1.cn.c) (.slice S1.sn.a S1.sn.n S1.sn.c) (.int .i64 D1.tick) (.slice S1.cookie.a S1.cookie.n S1.cookie.c) (.slice S1.proof.a S1.proof.n S1.proof.c) (.int .i64 D1.epoch) (.int .i64 D1.seq) (.slice S1.body.a S1.body.n S1.body.c) (.slice S1.tag.a S1.tag.n S1.tag.c)
        exact hMet _ _ (Met.intro (hRJ _ _ ⟨_, _, _, _, _, _, _, _, _, _, _, _, _, _, _, _, ⟨x7.heap.size, D1, S1, _, _, _, rfl, rfl, fr_put GZZ.out (.int .i64 D1.kind) (.int .i64 D1.id) (.slice S1.cn.a S1.cn.n S1.cn.c) (.slice S1.sn.a S1.sn.n S1.sn.c) (.int .i64 D1.tick) (.slice S1.cookie.a S1.cookie.n S1.cookie.c) (.slice S1.proof.a S1.proof.n S1.proof.c) (.int .i64 D1.epoch) (.int .i64 D1.seq) (.slice S1.body.a S1.body.n S1.body.c) (.slice S1.tag.a S1.tag.n S1.tag.c), (FrIn.of O1.out).carry KP (.inr (by have := LGZ.out; omega)), HS1.out, (by rw [sz9]; have := LW.out; have := LY1.out; have := LGZ.out; omega), rdyK R2.out KP (by have := LGZ.out; have := NI.out; omega), butK T2.out KP (by have := LGZ.out; omega)⟩, rfl⟩))
    case rest =>
    obtain ⟨x8, hxc⟩ : ∃ zz, zz = wc := ⟨_, rfl⟩
    subst hxc
    obtain ⟨gf, D1, S1, pz, qz, bb, rfl, rfl, kf, of, hs1, z9, r, b⟩ := hcut
    have HS1 : Hid (FrShort D1 1000) := hs1
    have Z9 : Hid (_ ∧ _) := z9
    clear hs1 z9 TD TB GA NI
    have L8 : Hid (x7.heap.size ≤ x8.heap.size) := b.size
    have KQ : Kept p (p + 1) x7 x8 := Kept.of_grown b
    have B8 : Hid (Below w.heap.size w x8) := But.below b B7.out (by have := L1.out; have := GA.out; have := L2.out; have := HP.out; have := L3.out; have := L4.out; have := Gge.out; have := L5.out; have := L6.out; have := L7.out; have := L8.out; omega)
    have KP8 : Hid (Blk x8 gp 41 [.int .i64 0, .slice none 0 0, .int .i64 0, .int .i64 0, .slice none 0 0]) := KP7.out.keep (KQ.block _ KP7.out.lt (by have := L1.out; have := GA.out; have := L2.out; have := HP.out; have := L3.out; have := L4.out; have := Gge.out; have := L5.out; have := L6.out; have := L7.out; have := L8.out; omega))
    have KO8 : Hid (Blk x8 go 27 [.int .i64 0, .int .i64 0, .slice none 0 0, .slice none 0 0, .int .i64 0, .slice none 0 0, .slice none 0 0, .int .i64 0, .int .i64 0, .slice none 0 0, .slice none 0 0]) := KO7.out.keep (KQ.block _ KO7.out.lt (by have := L1.out; have := GA.out; have := L2.out; have := HP.out; have := L3.out; have := L4.out; have := Gge.out; have := L5.out; have := L6.out; have := L7.out; have := L8.out; omega))
    have R8 : Hid (Ready x1 a len cap l p x8) := r
    have OE8 : Hid (EpOwn x8 x2.heap.size x3.heap.size S0 D0) := OE7.out.carry KQ (by have := L1.out; have := GA.out; have := L2.out; have := HP.out; have := L3.out; have := L4.out; have := Gge.out; have := L5.out; have := L6.out; have := L7.out; have := L8.out; omega)
    have KE8 : Hid (Blk x8 ge 41 [.int .i64 D0.n, .slice S0.key.a S0.key.n S0.key.c, .int .i64 D0.seq, .int .i64 D0.win.top, .slice S0.win.bits.a S0.win.bits.n S0.win.bits.c]) := KE7.out.keep (KQ.block _ KE7.out.lt (by have := L1.out; have := GA.out; have := L2.out; have := HP.out; have := L3.out; have := L4.out; have := Gge.out; have := L5.out; have := L6.out; have := L7.out; have := L8.out; omega))
    have OPt8 : Hid (SOwn x8 x4.heap.size x5.heap.size Pt lp) := OPt7.out.carry KQ (by have := L1.out; have := GA.out; have := L2.out; have := HP.out; have := L3.out; have := L4.out; have := Gge.out; have := L5.out; have := L6.out; have := L7.out; have := L8.out; omega)
    clear B7 KP7 KO7 R7 OE7 KE7 OPt7 b
    clear KQ r
    have KF8 : Hid (Blk x8 gf 27 [.int .i64 D1.kind, .int .i64 D1.id, .slice S1.cn.a S1.cn.n S1.cn.c, .slice S1.sn.a S1.sn.n S1.sn.c, .int .i64 D1.tick, .slice S1.cookie.a S1.cookie.n S1.cookie.c, .slice S1.proof.a S1.proof.n S1.proof.c, .int .i64 D1.epoch, .int .i64 D1.seq, .slice S1.body.a S1.body.n S1.body.c, .slice S1.tag.a S1.tag.n S1.tag.c]) := kf
    have OF8 : Hid (FrIn x8 pz qz S1 D1) := of
    clear kf of
    clear OPt8
    go_wp2_with fail
    refine (Draw.once R8.out 8 (by omega) (by omega)).mono ?_
    rintro e x9 ⟨o1, rfl, r, b⟩
    have L9 : Hid (x8.heap.size ≤ x9.heap.size) := b.size
    have KQ : Kept p (p + 1) x8 x9 := Kept.of_grown b
    have B9 : Hid (Below w.heap.size w x9) := But.below b B8.out (by have := L1.out; have := GA.out; have := L2.out; have := HP.out; have := L3.out; have := L4.out; have := Gge.out; have := L5.out; have := L6.out; have := L7.out; have := L8.out; have := Z9.out; have := L9.out; omega)
    have KP9 : Hid (Blk x9 gp 41 [.int .i64 0, .slice none 0 0, .int .i64 0, .int .i64 0, .slice none 0 0]) := KP8.out.keep (KQ.block _ KP8.out.lt (by have := L1.out; have := GA.out; have := L2.out; have := HP.out; have := L3.out; have := L4.out; have := Gge.out; have := L5.out; have := L6.out; have := L7.out; have := L8.out; have := Z9.out; have := L9.out; omega))
    have KO9 : Hid (Blk x9 go 27 [.int .i64 0, .int .i64 0, .slice none 0 0, .slice none 0 0, .int .i64 0, .slice none 0 0, .slice none 0 0, .int .i64 0, .int .i64 0, .slice none 0 0, .slice none 0 0]) := KO8.out.keep (KQ.block _ KO8.out.lt (by have := L1.out; have := GA.out; have := L2.out; have := HP.out; have := L3.out; have := L4.out; have := Gge.out; have := L5.out; have := L6.out; have := L7.out; have := L8.out; have := Z9.out; have := L9.out; omega))
    have R9 : Hid (Ready x1 a len cap l p x9) := r
    have OE9 : Hid (EpOwn x9 x2.heap.size x3.heap.size S0 D0) := OE8.out.carry KQ (by have := L1.out; have := GA.out; have := L2.out; have := HP.out; have := L3.out; have := L4.out; have := Gge.out; have := L5.out; have := L6.out; have := L7.out; have := L8.out; have := Z9.out; have := L9.out; omega)
    have KE9 : Hid (Blk x9 ge 41 [.int .i64 D0.n, .slice S0.key.a S0.key.n S0.key.c, .int .i64 D0.seq, .int .i64 D0.win.top, .slice S0.win.bits.a S0.win.bits.n S0.win.bits.c]) := KE8.out.keep (KQ.block _ KE8.out.lt (by have := L1.out; have := GA.out; have := L2.out; have := HP.out; have := L3.out; have := L4.out; have := Gge.out; have := L5.out; have := L6.out; have := L7.out; have := L8.out; have := Z9.out; have := L9.out; omega))
    have KF9 : Hid (Blk x9 gf 27 [.int .i64 D1.kind, .int .i64 D1.id, .slice S1.cn.a S1.cn.n S1.cn.c, .slice S1.sn.a S1.sn.n S1.sn.c, .int .i64 D1.tick, .slice S1.cookie.a S1.cookie.n S1.cookie.c, .slice S1.proof.a S1.proof.n S1.proof.c, .int .i64 D1.epoch, .int .i64 D1.seq, .slice S1.body.a S1.body.n S1.body.c, .slice S1.tag.a S1.tag.n S1.tag.c]) := KF8.out.keep (KQ.block _ KF8.out.lt (by have := L1.out; have := GA.out; have := L2.out; have := HP.out; have := L3.out; have := L4.out; have := Gge.out; have := L5.out; have := L6.out; have := L7.out; have := L8.out; have := Z9.out; have := L9.out; omega))
    have OF9 : Hid (FrIn x9 pz qz S1 D1) := OF8.out.carry KQ (by have := L1.out; have := GA.out; have := L2.out; have := HP.out; have := L3.out; have := L4.out; have := Gge.out; have := L5.out; have := L6.out; have := L7.out; have := L8.out; have := Z9.out; have := L9.out; omega)
    clear B8 KP8 KO8 R8 OE8 KE8 KF8 OF8 b
    clear KQ r
    cases o1 with
    | true =>
      go_wp2_with fail
      refine (intOfList (R9.out.alloc _) x9.heap.size 3 [0, 1, 2] rfl (ints_new x9 _) (by have := R9.out.hc.lt; omega) (by omega) (by omega)).mono ?_
      rintro e x10 ⟨r3, rfl, vm, r, b0⟩
      have VMr3 : Hid (r3 ∈ ([0, 1, 2] : List Int)) := vm
      have b : But p x9 x10 := ((But.refl p x9).alloc _).trans b0
      clear vm b0
      have L10 : Hid (x9.heap.size ≤ x10.heap.size) := b.size
      have KQ : Kept p (p + 1) x9 x10 := Kept.of_grown b
      have B10 : Hid (Below w.heap.size w x10) := But.below b B9.out (by have := L1.out; have := GA.out; have := L2.out; have := HP.out; have := L3.out; have := L4.out; have := Gge.out; have := L5.out; have := L6.out; have := L7.out; have := L8.out; have := Z9.out; have := L9.out; have := L10.out; omega)
      have KP10 : Hid (Blk x10 gp 41 [.int .i64 0, .slice none 0 0, .int .i64 0, .int .i64 0, .slice none 0 0]) := KP9.out.keep (KQ.block _ KP9.out.lt (by have := L1.out; have := GA.out; have := L2.out; have := HP.out; have := L3.out; have := L4.out; have := Gge.out; have := L5.out; have := L6.out; have := L7.out; have := L8.out; have := Z9.out; have := L9.out; have := L10.out; omega))
      have KO10 : Hid (Blk x10 go 27 [.int .i64 0, .int .i64 0, .slice none 0 0, .slice none 0 0, .int .i64 0, .slice none 0 0, .slice none 0 0, .int .i64 0, .int .i64 0, .slice none 0 0, .slice none 0 0]) := KO9.out.keep (KQ.block _ KO9.out.lt (by have := L1.out; have := GA.out; have := L2.out; have := HP.out; have := L3.out; have := L4.out; have := Gge.out; have := L5.out; have := L6.out; have := L7.out; have := L8.out; have := Z9.out; have := L9.out; have := L10.out; omega))
      have R10 : Hid (Ready x1 a len cap l p x10) := r
      have OE10 : Hid (EpOwn x10 x2.heap.size x3.heap.size S0 D0) := OE9.out.carry KQ (by have := L1.out; have := GA.out; have := L2.out; have := HP.out; have := L3.out; have := L4.out; have := Gge.out; have := L5.out; have := L6.out; have := L7.out; have := L8.out; have := Z9.out; have := L9.out; have := L10.out; omega)
      have KE10 : Hid (Blk x10 ge 41 [.int .i64 D0.n, .slice S0.key.a S0.key.n S0.key.c, .int .i64 D0.seq, .int .i64 D0.win.top, .slice S0.win.bits.a S0.win.bits.n S0.win.bits.c]) := KE9.out.keep (KQ.block _ KE9.out.lt (by have := L1.out; have := GA.out; have := L2.out; have := HP.out; have := L3.out; have := L4.out; have := Gge.out; have := L5.out; have := L6.out; have := L7.out; have := L8.out; have := Z9.out; have := L9.out; have := L10.out; omega))
      have KF10 : Hid (Blk x10 gf 27 [.int .i64 D1.kind, .int .i64 D1.id, .slice S1.cn.a S1.cn.n S1.cn.c, .slice S1.sn.a S1.sn.n S1.sn.c, .int .i64 D1.tick, .slice S1.cookie.a S1.cookie.n S1.cookie.c, .slice S1.proof.a S1.proof.n S1.proof.c, .int .i64 D1.epoch, .int .i64 D1.seq, .slice S1.body.a S1.body.n S1.body.c, .slice S1.tag.a S1.tag.n S1.tag.c]) := KF9.out.keep (KQ.block _ KF9.out.lt (by have := L1.out; have := GA.out; have := L2.out; have := HP.out; have := L3.out; have := L4.out; have := Gge.out; have := L5.out; have := L6.out; have := L7.out; have := L8.out; have := Z9.out; have := L9.out; have := L10.out; omega))
      have OF10 : Hid (FrIn x10 pz qz S1 D1) := OF9.out.carry KQ (by have := L1.out; have := GA.out; have := L2.out; have := HP.out; have := L3.out; have := L4.out; have := Gge.out; have := L5.out; have := L6.out; have := L7.out; have := L8.out; have := Z9.out; have := L9.out; have := L10.out; omega)
      clear B9 KP9 KO9 R9 OE9 KE9 KF9 OF9 b
      clear KQ r
      go_wp2_with fail
      refine (Draw.once R10.out 3 (by omega) (by omega)).mono ?_
      rintro e x11 ⟨o2, rfl, r, b⟩
      have L11 : Hid (x10.heap.size ≤ x11.heap.size) := b.size
      have KQ : Kept p (p + 1) x10 x11 := Kept.of_grown b
      have B11 : Hid (Below w.heap.size w x11) := But.below b B10.out (by have := L1.out; have := GA.out; have := L2.out; have := HP.out; have := L3.out; have := L4.out; have := Gge.out; have := L5.out; have := L6.out; have := L7.out; have := L8.out; have := Z9.out; have := L9.out; have := L10.out; have := L11.out; omega)
      have KP11 : Hid (Blk x11 gp 41 [.int .i64 0, .slice none 0 0, .int .i64 0, .int .i64 0, .slice none 0 0]) := KP10.out.keep (KQ.block _ KP10.out.lt (by have := L1.out; have := GA.out; have := L2.out; have := HP.out; have := L3.out; have := L4.out; have := Gge.out; have := L5.out; have := L6.out; have := L7.out; have := L8.out; have := Z9.out; have := L9.out; have := L10.out; have := L11.out; omega))
      have KO11 : Hid (Blk x11 go 27 [.int .i64 0, .int .i64 0, .slice none 0 0, .slice none 0 0, .int .i64 0, .slice none 0 0, .slice none 0 0, .int .i64 0, .int .i64 0, .slice none 0 0, .slice none 0 0]) := KO10.out.keep (KQ.block _ KO10.out.lt (by have := L1.out; have := GA.out; have := L2.out; have := HP.out; have := L3.out; have := L4.out; have := Gge.out; have := L5.out; have := L6.out; have := L7.out; have := L8.out; have := Z9.out; have := L9.out; have := L10.out; have := L11.out; omega))
      have R11 : Hid (Ready x1 a len cap l p x11) := r
      have OE11 : Hid (EpOwn x11 x2.heap.size x3.heap.size S0 D0) := OE10.out.carry KQ (by have := L1.out; have := GA.out; have := L2.out; have := HP.out; have := L3.out; have := L4.out; have := Gge.out; have := L5.out; have := L6.out; have := L7.out; have := L8.out; have := Z9.out; have := L9.out; have := L10.out; have := L11.out; omega)
      have KE11 : Hid (Blk x11 ge 41 [.int .i64 D0.n, .slice S0.key.a S0.key.n S0.key.c, .int .i64 D0.seq, .int .i64 D0.win.top, .slice S0.win.bits.a S0.win.bits.n S0.win.bits.c]) := KE10.out.keep (KQ.block _ KE10.out.lt (by have := L1.out; have := GA.out; have := L2.out; have := HP.out; have := L3.out; have := L4.out; have := Gge.out; have := L5.out; have := L6.out; have := L7.out; have := L8.out; have := Z9.out; have := L9.out; have := L10.out; have := L11.out; omega))
      have KF11 : Hid (Blk x11 gf 27 [.int .i64 D1.kind, .int .i64 D1.id, .slice S1.cn.a S1.cn.n S1.cn.c, .slice S1.sn.a S1.sn.n S1.sn.c, .int .i64 D1.tick, .slice S1.cookie.a S1.cookie.n S1.cookie.c, .slice S1.proof.a S1.proof.n S1.proof.c, .int .i64 D1.epoch, .int .i64 D1.seq, .slice S1.body.a S1.body.n S1.body.c, .slice S1.tag.a S1.tag.n S1.tag.c]) := KF10.out.keep (KQ.block _ KF10.out.lt (by have := L1.out; have := GA.out; have := L2.out; have := HP.out; have := L3.out; have := L4.out; have := Gge.out; have := L5.out; have := L6.out; have := L7.out; have := L8.out; have := Z9.out; have := L9.out; have := L10.out; have := L11.out; omega))
      have OF11 : Hid (FrIn x11 pz qz S1 D1) := OF10.out.carry KQ (by have := L1.out; have := GA.out; have := L2.out; have := HP.out; have := L3.out; have := L4.out; have := Gge.out; have := L5.out; have := L6.out; have := L7.out; have := L8.out; have := Z9.out; have := L9.out; have := L10.out; have := L11.out; omega)
      clear B10 KP10 KO10 R10 OE10 KE10 KF10 OF10 b
      clear KQ r
      cases o2 with
      | true =>
        have d0 := KF11.out.cell 0 rfl
        have d1 := KF11.out.cell 1 rfl
        have d2 := KF11.out.cell 2 rfl
        have d3 := KF11.out.cell 3 rfl
        have d4 := KF11.out.cell 4 rfl
        have d5 := KF11.out.cell 5 rfl
        have d6 := KF11.out.cell 6 rfl
        have d7 := KF11.out.cell 7 rfl
        have d8 := KF11.out.cell 8 rfl
        have d9 := KF11.out.cell 9 rfl
        have d10 := KF11.out.cell 10 rfl
        go_wp2_with fail
        refine (l9Bent R11.out S1 D1 OF11.out.rd HS1.out).mono ?_
        rintro e x12 ⟨D2, S2, rfl, oi, r, b⟩
        unfold frV
        clear d0 d1 d2 d3 d4 d5 d6 d7 d8 d9 d10
        have L12 : Hid (x11.heap.size ≤ x12.heap.size) := b.size
        have KQ : Kept p (p + 1) x11 x12 := Kept.of_grown b
        have B12 : Hid (Below w.heap.size w x12) := But.below b B11.out (by have := L1.out; have := GA.out; have := L2.out; have := HP.out; have := L3.out; have := L4.out; have := Gge.out; have := L5.out; have := L6.out; have := L7.out; have := L8.out; have := Z9.out; have := L9.out; have := L10.out; have := L11.out; have := L12.out; omega)
        have KP12 : Hid (Blk x12 gp 41 [.int .i64 0, .slice none 0 0, .int .i64 0, .int .i64 0, .slice none 0 0]) := KP11.out.keep (KQ.block _ KP11.out.lt (by have := L1.out; have := GA.out; have := L2.out; have := HP.out; have := L3.out; have := L4.out; have := Gge.out; have := L5.out; have := L6.out; have := L7.out; have := L8.out; have := Z9.out; have := L9.out; have := L10.out; have := L11.out; have := L12.out; omega))
        have KO12 : Hid (Blk x12 go 27 [.int .i64 0, .int .i64 0, .slice none 0 0, .slice none 0 0, .int .i64 0, .slice none 0 0, .slice none 0 0, .int .i64 0, .int .i64 0, .slice none 0 0, .slice none 0 0]) := KO11.out.keep (KQ.block _ KO11.out.lt (by have := L1.out; have := GA.out; have := L2.out; have := HP.out; have := L3.out; have := L4.out; have := Gge.out; have := L5.out; have := L6.out; have := L7.out; have := L8.out; have := Z9.out; have := L9.out; have := L10.out; have := L11.out; have := L12.out; omega))
        have R12 : Hid (Ready x1 a len cap l p x12) := r
        have OE12 : Hid (EpOwn x12 x2.heap.size x3.heap.size S0 D0) := OE11.out.carry KQ (by have := L1.out; have := GA.out; have := L2.out; have := HP.out; have := L3.out; have := L4.out; have := Gge.out; have := L5.out; have := L6.out; have := L7.out; have := L8.out; have := Z9.out; have := L9.out; have := L10.out; have := L11.out; have := L12.out; omega)
        have KE12 : Hid (Blk x12 ge 41 [.int .i64 D0.n, .slice S0.key.a S0.key.n S0.key.c, .int .i64 D0.seq, .int .i64 D0.win.top, .slice S0.win.bits.a S0.win.bits.n S0.win.bits.c]) := KE11.out.keep (KQ.block _ KE11.out.lt (by have := L1.out; have := GA.out; have := L2.out; have := HP.out; have := L3.out; have := L4.out; have := Gge.out; have := L5.out; have := L6.out; have := L7.out; have := L8.out; have := Z9.out; have := L9.out; have := L10.out; have := L11.out; have := L12.out; omega))
        have KF12 : Hid (Blk x12 gf 27 [.int .i64 D1.kind, .int .i64 D1.id, .slice S1.cn.a S1.cn.n S1.cn.c, .slice S1.sn.a S1.sn.n S1.sn.c, .int .i64 D1.tick, .slice S1.cookie.a S1.cookie.n S1.cookie.c, .slice S1.proof.a S1.proof.n S1.proof.c, .int .i64 D1.epoch, .int .i64 D1.seq, .slice S1.body.a S1.body.n S1.body.c, .slice S1.tag.a S1.tag.n S1.tag.c]) := KF11.out.keep (KQ.block _ KF11.out.lt (by have := L1.out; have := GA.out; have := L2.out; have := HP.out; have := L3.out; have := L4.out; have := Gge.out; have := L5.out; have := L6.out; have := L7.out; have := L8.out; have := Z9.out; have := L9.out; have := L10.out; have := L11.out; have := L12.out; omega))
        have OF12 : Hid (FrIn x12 pz qz S1 D1) := OF11.out.carry KQ (by have := L1.out; have := GA.out; have := L2.out; have := HP.out; have := L3.out; have := L4.out; have := Gge.out; have := L5.out; have := L6.out; have := L7.out; have := L8.out; have := Z9.out; have := L9.out; have := L10.out; have := L11.out; have := L12.out; omega)
        clear B11 KP11 KO11 R11 OE11 KE11 KF11 OF11 b
        clear KQ r
        clear OF12
        have OF12 : Hid (FrIn x12 x11.heap.size x12.heap.size S2 D2) := oi
        clear oi
        have co0 := KF12.out.cell 0 rfl
        have fo0 := KF12.out.frozen 0
        have co1 := KF12.out.cell 1 rfl
        have fo1 := KF12.out.frozen 1
        have co2 := KF12.out.cell 2 rfl
        have fo2 := KF12.out.frozen 2
        have co3 := KF12.out.cell 3 rfl
        have fo3 := KF12.out.frozen 3
        have co4 := KF12.out.cell 4 rfl
        have fo4 := KF12.out.frozen 4
        have co5 := KF12.out.cell 5 rfl
        have fo5 := KF12.out.frozen 5
        have co6 := KF12.out.cell 6 rfl
        have fo6 := KF12.out.frozen 6
        have co7 := KF12.out.cell 7 rfl
        have fo7 := KF12.out.frozen 7
        have co8 := KF12.out.cell 8 rfl
        have fo8 := KF12.out.frozen 8
        have co9 := KF12.out.cell 9 rfl
        have fo9 := KF12.out.frozen 9
        have co10 := KF12.out.cell 10 rfl
        have fo10 := KF12.out.frozen 10
        obtain ⟨x13, hx13⟩ : ∃ y, (((((((((((x12.setCell ⟨gf, 0, none⟩ (.int .i64 D2.kind)).setCell ⟨gf, 1, none⟩ (.int .i64 D2.id)).setCell ⟨gf, 2, none⟩ (.slice S2.cn.a S2.cn.n S2.cn.c)).setCell ⟨gf, 3, none⟩ (.slice S2.sn.a S2.sn.n S2.sn.c)).setCell ⟨gf, 4, none⟩ (.int .i64 D2.tick)).setCell ⟨gf, 5, none⟩ (.slice S2.cookie.a S2.cookie.n S2.cookie.c)).setCell ⟨gf, 6, none⟩ (.slice S2.proof.a S2.proof.n S2.proof.c)).setCell ⟨gf, 7, none⟩ (.int .i64 D2.epoch)).setCell ⟨gf, 8, none⟩ (.int .i64 D2.seq)).setCell ⟨gf, 9, none⟩ (.slice S2.body.a S2.body.n S2.body.c)).setCell ⟨gf, 10, none⟩ (.slice S2.tag.a S2.tag.n S2.tag.c)) = y := ⟨_, rfl⟩
        have HW13 : Hid ((((((((((((x12.setCell ⟨gf, 0, none⟩ (.int .i64 D2.kind)).setCell ⟨gf, 1, none⟩ (.int .i64 D2.id)).setCell ⟨gf, 2, none⟩ (.slice S2.cn.a S2.cn.n S2.cn.c)).setCell ⟨gf, 3, none⟩ (.slice S2.sn.a S2.sn.n S2.sn.c)).setCell ⟨gf, 4, none⟩ (.int .i64 D2.tick)).setCell ⟨gf, 5, none⟩ (.slice S2.cookie.a S2.cookie.n S2.cookie.c)).setCell ⟨gf, 6, none⟩ (.slice S2.proof.a S2.proof.n S2.proof.c)).setCell ⟨gf, 7, none⟩ (.int .i64 D2.epoch)).setCell ⟨gf, 8, none⟩ (.int .i64 D2.seq)).setCell ⟨gf, 9, none⟩ (.slice S2.body.a S2.body.n S2.body.c)).setCell ⟨gf, 10, none⟩ (.slice S2.tag.a S2.tag.n S2.tag.c)) = x13) := hx13
        have L13 : Hid (x13.heap.size = x12.heap.size) := by rw [← hx13]; show _ = _; simp
        have KS : Blk x13 gf 27 [.int .i64 D2.kind, .int .i64 D2.id, .slice S2.cn.a S2.cn.n S2.cn.c, .slice S2.sn.a S2.sn.n S2.sn.c, .int .i64 D2.tick, .slice S2.cookie.a S2.cookie.n S2.cookie.c, .slice S2.proof.a S2.proof.n S2.proof.c, .int .i64 D2.epoch, .int .i64 D2.seq, .slice S2.body.a S2.body.n S2.body.c, .slice S2.tag.a S2.tag.n S2.tag.c] := by rw [← hx13]; exact (((((((((((KF12.out.set 0 _ (by simp [maxLen])).set 1 _ (by simp [maxLen])).set 2 _ (by simp [maxLen])).set 3 _ (by simp [maxLen])).set 4 _ (by simp [maxLen])).set 5 _ (by simp [maxLen])).set 6 _ (by simp [maxLen])).set 7 _ (by simp [maxLen])).set 8 _ (by simp [maxLen])).set 9 _ (by simp [maxLen])).set 10 _ (by simp [maxLen]))
        have KQ : Kept gf (gf + 1) x12 x13 := by rw [← hx13]; exact (((((((((((Kept.setCell _ _ _ _).trans (Kept.setCell _ _ _ _)).trans (Kept.setCell _ _ _ _)).trans (Kept.setCell _ _ _ _)).trans (Kept.setCell _ _ _ _)).trans (Kept.setCell _ _ _ _)).trans (Kept.setCell _ _ _ _)).trans (Kept.setCell _ _ _ _)).trans (Kept.setCell _ _ _ _)).trans (Kept.setCell _ _ _ _)).trans (Kept.setCell _ _ _ _))
        clear hx13
        have B13 : Hid (Below w.heap.size w x13) := B12.out.trans (KQ.below (by have := L1.out; have := GA.out; have := L2.out; have := HP.out; have := L3.out; have := L4.out; have := Gge.out; have := L5.out; have := L6.out; have := L7.out; have := L8.out; have := Z9.out; have := L9.out; have := L10.out; have := L11.out; have := L12.out; have := L13.out; omega) B12.out.size)
        have KP13 : Hid (Blk x13 gp 41 [.int .i64 0, .slice none 0 0, .int .i64 0, .int .i64 0, .slice none 0 0]) := KP12.out.keep (KQ.block _ KP12.out.lt (by have := L1.out; have := GA.out; have := L2.out; have := HP.out; have := L3.out; have := L4.out; have := Gge.out; have := L5.out; have := L6.out; have := L7.out; have := L8.out; have := Z9.out; have := L9.out; have := L10.out; have := L11.out; have := L12.out; have := L13.out; omega))
        have KO13 : Hid (Blk x13 go 27 [.int .i64 0, .int .i64 0, .slice none 0 0, .slice none 0 0, .int .i64 0, .slice none 0 0, .slice none 0 0, .int .i64 0, .int .i64 0, .slice none 0 0, .slice none 0 0]) := KO12.out.keep (KQ.block _ KO12.out.lt (by have := L1.out; have := GA.out; have := L2.out; have := HP.out; have := L3.out; have := L4.out; have := Gge.out; have := L5.out; have := L6.out; have := L7.out; have := L8.out; have := Z9.out; have := L9.out; have := L10.out; have := L11.out; have := L12.out; have := L13.out; omega))
        have R13 : Hid (Ready x1 a len cap l p x13) := rdyK R12.out KQ (by have := L1.out; have := GA.out; have := L2.out; have := HP.out; have := L3.out; have := L4.out; have := Gge.out; have := L5.out; have := L6.out; have := L7.out; have := L8.out; have := Z9.out; have := L9.out; have := L10.out; have := L11.out; have := L12.out; have := L13.out; omega)
        have OE13 : Hid (EpOwn x13 x2.heap.size x3.heap.size S0 D0) := OE12.out.carry KQ (by have := L1.out; have := GA.out; have := L2.out; have := HP.out; have := L3.out; have := L4.out; have := Gge.out; have := L5.out; have := L6.out; have := L7.out; have := L8.out; have := Z9.out; have := L9.out; have := L10.out; have := L11.out; have := L12.out; have := L13.out; omega)
        have KE13 : Hid (Blk x13 ge 41 [.int .i64 D0.n, .slice S0.key.a S0.key.n S0.key.c, .int .i64 D0.seq, .int .i64 D0.win.top, .slice S0.win.bits.a S0.win.bits.n S0.win.bits.c]) := KE12.out.keep (KQ.block _ KE12.out.lt (by have := L1.out; have := GA.out; have := L2.out; have := HP.out; have := L3.out; have := L4.out; have := Gge.out; have := L5.out; have := L6.out; have := L7.out; have := L8.out; have := Z9.out; have := L9.out; have := L10.out; have := L11.out; have := L12.out; have := L13.out; omega))
        have OF13 : Hid (FrIn x13 x11.heap.size x12.heap.size S2 D2) := OF12.out.carry KQ (by have := L1.out; have := GA.out; have := L2.out; have := HP.out; have := L3.out; have := L4.out; have := Gge.out; have := L5.out; have := L6.out; have := L7.out; have := L8.out; have := Z9.out; have := L9.out; have := L10.out; have := L11.out; have := L12.out; have := L13.out; omega)
        clear B12 KP12 KO12 R12 OE12 KE12 OF12 KQ
        clear KF12
        have KF13 : Hid (Blk x13 gf 27 [.int .i64 D2.kind, .int .i64 D2.id, .slice S2.cn.a S2.cn.n S2.cn.c, .slice S2.sn.a S2.sn.n S2.sn.c, .int .i64 D2.tick, .slice S2.cookie.a S2.cookie.n S2.cookie.c, .slice S2.proof.a S2.proof.n S2.proof.c, .int .i64 D2.epoch, .int .i64 D2.seq, .slice S2.body.a S2.body.n S2.body.c, .slice S2.tag.a S2.tag.n S2.tag.c]) := KS
        clear KS
        go_upto_region 13 with fail
        rw [HW13.out]
        clear HW13 co0 fo0 co1 fo1 co2 fo2 co3 fo3 co4 fo4 co5 fo5 co6 fo6 co7 fo7 co8 fo8 co9 fo9 co10 fo10
        have N1 : ge ≠ gp := by have := L1.out; have := GA.out; have := L2.out; have := HP.out; have := L3.out; have := L4.out; have := Gge.out; have := L5.out; have := L6.out; have := L7.out; have := L8.out; have := Z9.out; have := L9.out; have := L10.out; have := L11.out; have := L12.out; have := L13.out; omega
        have N2 : gf ≠ gp := by have := L1.out; have := GA.out; have := L2.out; have := HP.out; have := L3.out; have := L4.out; have := Gge.out; have := L5.out; have := L6.out; have := L7.out; have := L8.out; have := Z9.out; have := L9.out; have := L10.out; have := L11.out; have := L12.out; have := L13.out; omega
        have N3 : ge ≠ go := by have := L1.out; have := GA.out; have := L2.out; have := HP.out; have := L3.out; have := L4.out; have := Gge.out; have := L5.out; have := L6.out; have := L7.out; have := L8.out; have := Z9.out; have := L9.out; have := L10.out; have := L11.out; have := L12.out; have := L13.out; omega
        have N4 : gf ≠ go := by have := L1.out; have := GA.out; have := L2.out; have := HP.out; have := L3.out; have := L4.out; have := Gge.out; have := L5.out; have := L6.out; have := L7.out; have := L8.out; have := Z9.out; have := L9.out; have := L10.out; have := L11.out; have := L12.out; have := L13.out; omega
        have N5 : go ≠ gp := by have := L1.out; have := GA.out; have := L2.out; have := HP.out; have := L3.out; have := L4.out; have := Gge.out; have := L5.out; have := L6.out; have := L7.out; have := L8.out; have := Z9.out; have := L9.out; have := L10.out; have := L11.out; have := L12.out; have := L13.out; omega
        have xe0 := hide ((drewB KE13.out).cell 0 rfl)
        have xe1 := hide ((drewB KE13.out).cell 1 rfl)
        have xe2 := hide ((drewB KE13.out).cell 2 rfl)
        have xe3 := hide ((drewB KE13.out).cell 3 rfl)
        have xe4 := hide ((drewB KE13.out).cell 4 rfl)
        have xf0 := hide ((drewB KF13.out).cell 0 rfl)
        have xf1 := hide ((drewB KF13.out).cell 1 rfl)
        have xf2 := hide ((drewB KF13.out).cell 2 rfl)
        have xf3 := hide ((drewB KF13.out).cell 3 rfl)
        have xf4 := hide ((drewB KF13.out).cell 4 rfl)
        have xf5 := hide ((drewB KF13.out).cell 5 rfl)
        have xf6 := hide ((drewB KF13.out).cell 6 rfl)
        have xf7 := hide ((drewB KF13.out).cell 7 rfl)
        have xf8 := hide ((drewB KF13.out).cell 8 rfl)
        have xf9 := hide ((drewB KF13.out).cell 9 rfl)
        have xf10 := hide ((drewB KF13.out).cell 10 rfl)
        have vo0 := KP13.out.cell 0 rfl
        have vo1 := KP13.out.cell 1 rfl
        have vo2 := KP13.out.cell 2 rfl
        have vo3 := KP13.out.cell 3 rfl
        have vo4 := KP13.out.cell 4 rfl
        have vp0 := KP13.out.frozen 0
        have vp1 := KP13.out.frozen 1
        have vp2 := KP13.out.frozen 2
        have vp3 := KP13.out.frozen 3
        have vp4 := KP13.out.frozen 4
        have ze0 := KE13.out.cell 0 rfl
        have ze1 := KE13.out.cell 1 rfl
        have ze2 := KE13.out.cell 2 rfl
        have ze3 := KE13.out.cell 3 rfl
        have ze4 := KE13.out.cell 4 rfl
        have zf0 := KF13.out.cell 0 rfl
        have zf1 := KF13.out.cell 1 rfl
        have zf2 := KF13.out.cell 2 rfl
        have zf3 := KF13.out.cell 3 rfl
        have zf4 := KF13.out.cell 4 rfl
        have zf5 := KF13.out.cell 5 rfl
        have zf6 := KF13.out.cell 6 rfl
        have zf7 := KF13.out.cell 7 rfl
        have zf8 := KF13.out.cell 8 rfl
        have zf9 := KF13.out.cell 9 rfl
        have zf10 := KF13.out.cell 10 rfl
        have zH := ep_other KO13.out N5 (.int .i64 D0.n) (.slice S0.key.a S0.key.n S0.key.c) (.int .i64 D0.seq) (.int .i64 D0.win.top) (.slice S0.win.bits.a S0.win.bits.n S0.win.bits.c)
        have zN := ep_other KE13.out N1 (.int .i64 D0.n) (.slice S0.key.a S0.key.n S0.key.c) (.int .i64 D0.seq) (.int .i64 D0.win.top) (.slice S0.win.bits.a S0.win.bits.n S0.win.bits.c)
        have zG := ep_other KF13.out N2 (.int .i64 D0.n) (.slice S0.key.a S0.key.n S0.key.c) (.int .i64 D0.seq) (.int .i64 D0.win.top) (.slice S0.win.bits.a S0.win.bits.n S0.win.bits.c)
        have vh0 := KO13.out.cell 0 rfl
        have vh1 := KO13.out.cell 1 rfl
        have vh2 := KO13.out.cell 2 rfl
        have vh3 := KO13.out.cell 3 rfl
        have vh4 := KO13.out.cell 4 rfl
        have vh5 := KO13.out.cell 5 rfl
        have vh6 := KO13.out.cell 6 rfl
        have vh7 := KO13.out.cell 7 rfl
        have vh8 := KO13.out.cell 8 rfl
        have vh9 := KO13.out.cell 9 rfl
        have vh10 := KO13.out.cell 10 rfl
        have vg0 := KO13.out.frozen 0
        have vg1 := KO13.out.frozen 1
        have vg2 := KO13.out.frozen 2
        have vg3 := KO13.out.frozen 3
        have vg4 := KO13.out.frozen 4
        have vg5 := KO13.out.frozen 5
        have vg6 := KO13.out.frozen 6
        have vg7 := KO13.out.frozen 7
        have vg8 := KO13.out.frozen 8
        have vg9 := KO13.out.frozen 9
        have vg10 := KO13.out.frozen 10
        have zm0 := hide ((drewB zN).cell 0 rfl)
        have zm1 := hide ((drewB zN).cell 1 rfl)
        have zm2 := hide ((drewB zN).cell 2 rfl)
        have zm3 := hide ((drewB zN).cell 3 rfl)
        have zm4 := hide ((drewB zN).cell 4 rfl)
        have zn0 := hide ((drewB zG).cell 0 rfl)
        have zn1 := hide ((drewB zG).cell 1 rfl)
        have zn2 := hide ((drewB zG).cell 2 rfl)
        have zn3 := hide ((drewB zG).cell 3 rfl)
        have zn4 := hide ((drewB zG).cell 4 rfl)
        have zn5 := hide ((drewB zG).cell 5 rfl)
        have zn6 := hide ((drewB zG).cell 6 rfl)
        have zn7 := hide ((drewB zG).cell 7 rfl)
        have zn8 := hide ((drewB zG).cell 8 rfl)
        have zn9 := hide ((drewB zG).cell 9 rfl)
        have zn10 := hide ((drewB zG).cell 10 rfl)
        have zM := fr_other zN N3 (.int .i64 D2.kind) (.int .i64 D2.id) (.slice S2.cn.a S2.cn.n S2.cn.c) (.slice S2.sn.a S2.sn.n S2.sn.c) (.int .i64 D2.tick) (.slice S2.cookie.a S2.cookie.n S2.cookie.c) (.slice S2.proof.a S2.proof.n S2.proof.c) (.int .i64 D2.epoch) (.int .i64 D2.seq) (.slice S2.body.a S2.body.n S2.body.c) (.slice S2.tag.a S2.tag.n S2.tag.c)
        have zK := fr_other zG N4 (.int .i64 D2.kind) (.int .i64 D2.id) (.slice S2.cn.a S2.cn.n S2.cn.c) (.slice S2.sn.a S2.sn.n S2.sn.c) (.int .i64 D2.tick) (.slice S2.cookie.a S2.cookie.n S2.cookie.c) (.slice S2.proof.a S2.proof.n S2.proof.c) (.int .i64 D2.epoch) (.int .i64 D2.seq) (.slice S2.body.a S2.body.n S2.body.c) (.slice S2.tag.a S2.tag.n S2.tag.c)
        have zr0 := hide ((drewB zM).cell 0 rfl)
        have zr1 := hide ((drewB zM).cell 1 rfl)
        have zr2 := hide ((drewB zM).cell 2 rfl)
        have zr3 := hide ((drewB zM).cell 3 rfl)
        have zr4 := hide ((drewB zM).cell 4 rfl)
        have zs0 := hide ((drewB zK).cell 0 rfl)
        have zs1 := hide ((drewB zK).cell 1 rfl)
        have zs2 := hide ((drewB zK).cell 2 rfl)
        have zs3 := hide ((drewB zK).cell 3 rfl)
        have zs4 := hide ((drewB zK).cell 4 rfl)
        have zs5 := hide ((drewB zK).cell 5 rfl)
        have zs6 := hide ((drewB zK).cell 6 rfl)
        have zs7 := hide ((drewB zK).cell 7 rfl)
        have zs8 := hide ((drewB zK).cell 8 rfl)
        have zs9 := hide ((drewB zK).cell 9 rfl)
        have zs10 := hide ((drewB zK).cell 10 rfl)
        clear zH zN zG zM zK
        go_region_held3 (fun w' => w'.cell? ⟨ge, 0, none⟩ = some (.int .i64 D0.n) ∧ w'.cell? ⟨ge, 1, none⟩ = some (.slice S0.key.a S0.key.n S0.key.c) ∧ w'.cell? ⟨ge, 2, none⟩ = some (.int .i64 D0.seq) ∧ w'.cell? ⟨ge, 3, none⟩ = some (.int .i64 D0.win.top) ∧ w'.cell? ⟨ge, 4, none⟩ = some (.slice S0.win.bits.a S0.win.bits.n S0.win.bits.c) ∧ w'.cell? ⟨gf, 0, none⟩ = some (.int .i64 D2.kind) ∧ w'.cell? ⟨gf, 1, none⟩ = some (.int .i64 D2.id) ∧ w'.cell? ⟨gf, 2, none⟩ = some (.slice S2.cn.a S2.cn.n S2.cn.c) ∧ w'.cell? ⟨gf, 3, none⟩ = some (.slice S2.sn.a S2.sn.n S2.sn.c) ∧ w'.cell? ⟨gf, 4, none⟩ = some (.int .i64 D2.tick) ∧ w'.cell? ⟨gf, 5, none⟩ = some (.slice S2.cookie.a S2.cookie.n S2.cookie.c) ∧ w'.cell? ⟨gf, 6, none⟩ = some (.slice S2.proof.a S2.proof.n S2.proof.c) ∧ w'.cell? ⟨gf, 7, none⟩ = some (.int .i64 D2.epoch) ∧ w'.cell? ⟨gf, 8, none⟩ = some (.int .i64 D2.seq) ∧ w'.cell? ⟨gf, 9, none⟩ = some (.slice S2.body.a S2.body.n S2.body.c) ∧ w'.cell? ⟨gf, 10, none⟩ = some (.slice S2.tag.a S2.tag.n S2.tag.c)) (first | with_reducible exact ⟨zr0.out, zr1.out, zr2.out, zr3.out, zr4.out, zs0.out, zs1.out, zs2.out, zs3.out, zs4.out, zs5.out, zs6.out, zs7.out, zs8.out, zs9.out, zs10.out⟩ | with_reducible exact ⟨zm0.out, zm1.out, zm2.out, zm3.out, zm4.out, zn0.out, zn1.out, zn2.out, zn3.out, zn4.out, zn5.out, zn6.out, zn7.out, zn8.out, zn9.out, zn10.out⟩ | with_reducible exact ⟨ze0, ze1, ze2, ze3, ze4, zf0, zf1, zf2, zf3, zf4, zf5, zf6, zf7, zf8, zf9, zf10⟩ | with_reducible exact ⟨xe0.out, xe1.out, xe2.out, xe3.out, xe4.out, xf0.out, xf1.out, xf2.out, xf3.out, xf4.out, xf5.out, xf6.out, xf7.out, xf8.out, xf9.out, xf10.out⟩ | go_keep) (fail)
        clear ze0 zm0 zr0 vo0 vp0 xe0 ze1 zm1 zr1 vo1 vp1 xe1 ze2 zm2 zr2 vo2 vp2 xe2 ze3 zm3 zr3 vo3 vp3 xe3 ze4 zm4 zr4 vo4 vp4 xe4 zf0 zn0 zs0 vh0 vg0 xf0 zf1 zn1 zs1 vh1 vg1 xf1 zf2 zn2 zs2 vh2 vg2 xf2 zf3 zn3 zs3 vh3 vg3 xf3 zf4 zn4 zs4 vh4 vg4 xf4 zf5 zn5 zs5 vh5 vg5 xf5 zf6 zn6 zs6 vh6 vg6 xf6 zf7 zn7 zs7 vh7 vg7 xf7 zf8 zn8 zs8 vh8 vg8 xf8 zf9 zn9 zs9 vh9 vg9 xf9 zf10 zn10 zs10 vh10 vg10 xf10
        go_wp2
        have SZF : Hid (w.heap.size ≤ gp ∧ gp + 1 = go ∧ go + 1 ≤ x2.heap.size ∧ x2.heap.size ≤ x3.heap.size ∧ x3.heap.size ≤ x13.heap.size ∧ go + 1 ≤ x11.heap.size ∧ x12.heap.size ≤ x13.heap.size) := by have := L1.out; have := GA.out; have := L2.out; have := HP.out; have := L3.out; have := L4.out; have := Gge.out; have := L5.out; have := L6.out; have := L7.out; have := L8.out; have := Z9.out; have := L9.out; have := L10.out; have := L11.out; have := L12.out; have := L13.out; show _ ∧ _; omega
        obtain ⟨k1, k2, k3⟩ := ep_stored (D := D0) (S := S0) (lo := x2.heap.size) (hi := x3.heap.size) KP13.out OE13.out (.inl (by have := SZF.out; omega))
        have kh := ep_other KO13.out N5 (.int .i64 D0.n) (.slice S0.key.a S0.key.n S0.key.c) (.int .i64 D0.seq) (.int .i64 D0.win.top) (.slice S0.win.bits.a S0.win.bits.n S0.win.bits.c)
        have f1 := fr_put kh (.int .i64 D2.kind) (.int .i64 D2.id) (.slice S2.cn.a S2.cn.n S2.cn.c) (.slice S2.sn.a S2.sn.n S2.sn.c) (.int .i64 D2.tick) (.slice S2.cookie.a S2.cookie.n S2.cookie.c) (.slice S2.proof.a S2.proof.n S2.proof.c) (.int .i64 D2.epoch) (.int .i64 D2.seq) (.slice S2.body.a S2.body.n S2.body.c) (.slice S2.tag.a S2.tag.n S2.tag.c)
        have k4 := fr_other k1 (Ne.symm N5) (.int .i64 D2.kind) (.int .i64 D2.id) (.slice S2.cn.a S2.cn.n S2.cn.c) (.slice S2.sn.a S2.sn.n S2.sn.c) (.int .i64 D2.tick) (.slice S2.cookie.a S2.cookie.n S2.cookie.c) (.slice S2.proof.a S2.proof.n S2.proof.c) (.int .i64 D2.epoch) (.int .i64 D2.seq) (.slice S2.body.a S2.body.n S2.body.c) (.slice S2.tag.a S2.tag.n S2.tag.c)
        have of := (OF13.out.carry (ep_kept _ gp (.int .i64 D0.n) (.slice S0.key.a S0.key.n S0.key.c) (.int .i64 D0.seq) (.int .i64 D0.win.top) (.slice S0.win.bits.a S0.win.bits.n S0.win.bits.c)) (.inr (by have := SZF.out; omega))).carry (fr_kept _ go (.int .i64 D2.kind) (.int .i64 D2.id) (.slice S2.cn.a S2.cn.n S2.cn.c) (.slice S2.sn.a S2.sn.n S2.sn.c) (.int .i64 D2.tick) (.slice S2.cookie.a S2.cookie.n S2.cookie.c) (.slice S2.proof.a S2.proof.n S2.proof.c) (.int .i64 D2.epoch) (.int .i64 D2.seq) (.slice S2.body.a S2.body.n S2.body.c) (.slice S2.tag.a S2.tag.n S2.tag.c)) (.inr (by have := SZF.out; omega))
        have oe := k2.carry (fr_kept _ go (.int .i64 D2.kind) (.int .i64 D2.id) (.slice S2.cn.a S2.cn.n S2.cn.c) (.slice S2.sn.a S2.sn.n S2.sn.c) (.int .i64 D2.tick) (.slice S2.cookie.a S2.cookie.n S2.cookie.c) (.slice S2.proof.a S2.proof.n S2.proof.c) (.int .i64 D2.epoch) (.int .i64 D2.seq) (.slice S2.body.a S2.body.n S2.body.c) (.slice S2.tag.a S2.tag.n S2.tag.c)) (.inr (by have := SZF.out; omega))
        have b9 := fr_low (k3 _ _ (show w.heap.size ≤ gp by have := SZF.out; omega) B13.out) (g := go) (by have := SZF.out; omega) (.int .i64 D2.kind) (.int .i64 D2.id) (.slice S2.cn.a S2.cn.n S2.cn.c) (.slice S2.sn.a S2.sn.n S2.sn.c) (.int .i64 D2.tick) (.slice S2.cookie.a S2.cookie.n S2.cookie.c) (.slice S2.proof.a S2.proof.n S2.proof.c) (.int .i64 D2.epoch) (.int .i64 D2.seq) (.slice S2.body.a S2.body.n S2.body.c) (.slice S2.tag.a S2.tag.n S2.tag.c)
        exact bodyPost_ret (v := .tuple #[epV D0 S0, .int .i64 r3, frV D2 S2]) (res3 rfl (is_cell rfl (drewB k4) aggEp) (is_tmp rfl) (is_cell rfl (drewB f1) aggFr)) rfl ⟨D0, S0, r3, D2, S2, rfl, HS0.out, (oe.later ((Below.refl _ _).drew)).rd, (of.later ((Below.refl _ _).drew)).rd, b9.drew⟩
      | false =>
        go_upto_region 13 with fail
        have N1 : ge ≠ gp := by have := L1.out; have := GA.out; have := L2.out; have := HP.out; have := L3.out; have := L4.out; have := Gge.out; have := L5.out; have := L6.out; have := L7.out; have := L8.out; have := Z9.out; have := L9.out; have := L10.out; have := L11.out; omega
        have N2 : gf ≠ gp := by have := L1.out; have := GA.out; have := L2.out; have := HP.out; have := L3.out; have := L4.out; have := Gge.out; have := L5.out; have := L6.out; have := L7.out; have := L8.out; have := Z9.out; have := L9.out; have := L10.out; have := L11.out; omega
        have N3 : ge ≠ go := by have := L1.out; have := GA.out; have := L2.out; have := HP.out; have := L3.out; have := L4.out; have := Gge.out; have := L5.out; have := L6.out; have := L7.out; have := L8.out; have := Z9.out; have := L9.out; have := L10.out; have := L11.out; omega
        have N4 : gf ≠ go := by have := L1.out; have := GA.out; have := L2.out; have := HP.out; have := L3.out; have := L4.out; have := Gge.out; have := L5.out; have := L6.out; have := L7.out; have := L8.out; have := Z9.out; have := L9.out; have := L10.out; have := L11.out; omega
        have N5 : go ≠ gp := by have := L1.out; have := GA.out; have := L2.out; have := HP.out; have := L3.out; have := L4.out; have := Gge.out; have := L5.out; have := L6.out; have := L7.out; have := L8.out; have := Z9.out; have := L9.out; have := L10.out; have := L11.out; omega
        have xe0 := hide ((drewB KE11.out).cell 0 rfl)
        have xe1 := hide ((drewB KE11.out).cell 1 rfl)
        have xe2 := hide ((drewB KE11.out).cell 2 rfl)
        have xe3 := hide ((drewB KE11.out).cell 3 rfl)
        have xe4 := hide ((drewB KE11.out).cell 4 rfl)
        have xf0 := hide ((drewB KF11.out).cell 0 rfl)
        have xf1 := hide ((drewB KF11.out).cell 1 rfl)
        have xf2 := hide ((drewB KF11.out).cell 2 rfl)
        have xf3 := hide ((drewB KF11.out).cell 3 rfl)
        have xf4 := hide ((drewB KF11.out).cell 4 rfl)
        have xf5 := hide ((drewB KF11.out).cell 5 rfl)
        have xf6 := hide ((drewB KF11.out).cell 6 rfl)
        have xf7 := hide ((drewB KF11.out).cell 7 rfl)
        have xf8 := hide ((drewB KF11.out).cell 8 rfl)
        have xf9 := hide ((drewB KF11.out).cell 9 rfl)
        have xf10 := hide ((drewB KF11.out).cell 10 rfl)
        have vo0 := KP11.out.cell 0 rfl
        have vo1 := KP11.out.cell 1 rfl
        have vo2 := KP11.out.cell 2 rfl
        have vo3 := KP11.out.cell 3 rfl
        have vo4 := KP11.out.cell 4 rfl
        have vp0 := KP11.out.frozen 0
        have vp1 := KP11.out.frozen 1
        have vp2 := KP11.out.frozen 2
        have vp3 := KP11.out.frozen 3
        have vp4 := KP11.out.frozen 4
        have ze0 := KE11.out.cell 0 rfl
        have ze1 := KE11.out.cell 1 rfl
        have ze2 := KE11.out.cell 2 rfl
        have ze3 := KE11.out.cell 3 rfl
        have ze4 := KE11.out.cell 4 rfl
        have zf0 := KF11.out.cell 0 rfl
        have zf1 := KF11.out.cell 1 rfl
        have zf2 := KF11.out.cell 2 rfl
        have zf3 := KF11.out.cell 3 rfl
        have zf4 := KF11.out.cell 4 rfl
        have zf5 := KF11.out.cell 5 rfl
        have zf6 := KF11.out.cell 6 rfl
        have zf7 := KF11.out.cell 7 rfl
        have zf8 := KF11.out.cell 8 rfl
        have zf9 := KF11.out.cell 9 rfl
        have zf10 := KF11.out.cell 10 rfl
        have zH := ep_other KO11.out N5 (.int .i64 D0.n) (.slice S0.key.a S0.key.n S0.key.c) (.int .i64 D0.seq) (.int .i64 D0.win.top) (.slice S0.win.bits.a S0.win.bits.n S0.win.bits.c)
        have zN := ep_other KE11.out N1 (.int .i64 D0.n) (.slice S0.key.a S0.key.n S0.key.c) (.int .i64 D0.seq) (.int .i64 D0.win.top) (.slice S0.win.bits.a S0.win.bits.n S0.win.bits.c)
        have zG := ep_other KF11.out N2 (.int .i64 D0.n) (.slice S0.key.a S0.key.n S0.key.c) (.int .i64 D0.seq) (.int .i64 D0.win.top) (.slice S0.win.bits.a S0.win.bits.n S0.win.bits.c)
        have vh0 := KO11.out.cell 0 rfl
        have vh1 := KO11.out.cell 1 rfl
        have vh2 := KO11.out.cell 2 rfl
        have vh3 := KO11.out.cell 3 rfl
        have vh4 := KO11.out.cell 4 rfl
        have vh5 := KO11.out.cell 5 rfl
        have vh6 := KO11.out.cell 6 rfl
        have vh7 := KO11.out.cell 7 rfl
        have vh8 := KO11.out.cell 8 rfl
        have vh9 := KO11.out.cell 9 rfl
        have vh10 := KO11.out.cell 10 rfl
        have vg0 := KO11.out.frozen 0
        have vg1 := KO11.out.frozen 1
        have vg2 := KO11.out.frozen 2
        have vg3 := KO11.out.frozen 3
        have vg4 := KO11.out.frozen 4
        have vg5 := KO11.out.frozen 5
        have vg6 := KO11.out.frozen 6
        have vg7 := KO11.out.frozen 7
        have vg8 := KO11.out.frozen 8
        have vg9 := KO11.out.frozen 9
        have vg10 := KO11.out.frozen 10
        have zm0 := hide ((drewB zN).cell 0 rfl)
        have zm1 := hide ((drewB zN).cell 1 rfl)
        have zm2 := hide ((drewB zN).cell 2 rfl)
        have zm3 := hide ((drewB zN).cell 3 rfl)
        have zm4 := hide ((drewB zN).cell 4 rfl)
        have zn0 := hide ((drewB zG).cell 0 rfl)
        have zn1 := hide ((drewB zG).cell 1 rfl)
        have zn2 := hide ((drewB zG).cell 2 rfl)
        have zn3 := hide ((drewB zG).cell 3 rfl)
        have zn4 := hide ((drewB zG).cell 4 rfl)
        have zn5 := hide ((drewB zG).cell 5 rfl)
        have zn6 := hide ((drewB zG).cell 6 rfl)
        have zn7 := hide ((drewB zG).cell 7 rfl)
        have zn8 := hide ((drewB zG).cell 8 rfl)
        have zn9 := hide ((drewB zG).cell 9 rfl)
        have zn10 := hide ((drewB zG).cell 10 rfl)
        have zM := fr_other zN N3 (.int .i64 D1.kind) (.int .i64 D1.id) (.slice S1.cn.a S1.cn.n S1.cn.c) (.slice S1.sn.a S1.sn.n S1.sn.c) (.int .i64 D1.tick) (.slice S1.cookie.a S1.cookie.n S1.cookie.c) (.slice S1.proof.a S1.proof.n S1.proof.c) (.int .i64 D1.epoch) (.int .i64 D1.seq) (.slice S1.body.a S1.body.n S1.body.c) (.slice S1.tag.a S1.tag.n S1.tag.c)
        have zK := fr_other zG N4 (.int .i64 D1.kind) (.int .i64 D1.id) (.slice S1.cn.a S1.cn.n S1.cn.c) (.slice S1.sn.a S1.sn.n S1.sn.c) (.int .i64 D1.tick) (.slice S1.cookie.a S1.cookie.n S1.cookie.c) (.slice S1.proof.a S1.proof.n S1.proof.c) (.int .i64 D1.epoch) (.int .i64 D1.seq) (.slice S1.body.a S1.body.n S1.body.c) (.slice S1.tag.a S1.tag.n S1.tag.c)
        have zr0 := hide ((drewB zM).cell 0 rfl)
        have zr1 := hide ((drewB zM).cell 1 rfl)
        have zr2 := hide ((drewB zM).cell 2 rfl)
        have zr3 := hide ((drewB zM).cell 3 rfl)
        have zr4 := hide ((drewB zM).cell 4 rfl)
        have zs0 := hide ((drewB zK).cell 0 rfl)
        have zs1 := hide ((drewB zK).cell 1 rfl)
        have zs2 := hide ((drewB zK).cell 2 rfl)
        have zs3 := hide ((drewB zK).cell 3 rfl)
        have zs4 := hide ((drewB zK).cell 4 rfl)
        have zs5 := hide ((drewB zK).cell 5 rfl)
        have zs6 := hide ((drewB zK).cell 6 rfl)
        have zs7 := hide ((drewB zK).cell 7 rfl)
        have zs8 := hide ((drewB zK).cell 8 rfl)
        have zs9 := hide ((drewB zK).cell 9 rfl)
        have zs10 := hide ((drewB zK).cell 10 rfl)
        clear zH zN zG zM zK
        go_region_held3 (fun w' => w'.cell? ⟨ge, 0, none⟩ = some (.int .i64 D0.n) ∧ w'.cell? ⟨ge, 1, none⟩ = some (.slice S0.key.a S0.key.n S0.key.c) ∧ w'.cell? ⟨ge, 2, none⟩ = some (.int .i64 D0.seq) ∧ w'.cell? ⟨ge, 3, none⟩ = some (.int .i64 D0.win.top) ∧ w'.cell? ⟨ge, 4, none⟩ = some (.slice S0.win.bits.a S0.win.bits.n S0.win.bits.c) ∧ w'.cell? ⟨gf, 0, none⟩ = some (.int .i64 D1.kind) ∧ w'.cell? ⟨gf, 1, none⟩ = some (.int .i64 D1.id) ∧ w'.cell? ⟨gf, 2, none⟩ = some (.slice S1.cn.a S1.cn.n S1.cn.c) ∧ w'.cell? ⟨gf, 3, none⟩ = some (.slice S1.sn.a S1.sn.n S1.sn.c) ∧ w'.cell? ⟨gf, 4, none⟩ = some (.int .i64 D1.tick) ∧ w'.cell? ⟨gf, 5, none⟩ = some (.slice S1.cookie.a S1.cookie.n S1.cookie.c) ∧ w'.cell? ⟨gf, 6, none⟩ = some (.slice S1.proof.a S1.proof.n S1.proof.c) ∧ w'.cell? ⟨gf, 7, none⟩ = some (.int .i64 D1.epoch) ∧ w'.cell? ⟨gf, 8, none⟩ = some (.int .i64 D1.seq) ∧ w'.cell? ⟨gf, 9, none⟩ = some (.slice S1.body.a S1.body.n S1.body.c) ∧ w'.cell? ⟨gf, 10, none⟩ = some (.slice S1.tag.a S1.tag.n S1.tag.c)) (first | with_reducible exact ⟨zr0.out, zr1.out, zr2.out, zr3.out, zr4.out, zs0.out, zs1.out, zs2.out, zs3.out, zs4.out, zs5.out, zs6.out, zs7.out, zs8.out, zs9.out, zs10.out⟩ | with_reducible exact ⟨zm0.out, zm1.out, zm2.out, zm3.out, zm4.out, zn0.out, zn1.out, zn2.out, zn3.out, zn4.out, zn5.out, zn6.out, zn7.out, zn8.out, zn9.out, zn10.out⟩ | with_reducible exact ⟨ze0, ze1, ze2, ze3, ze4, zf0, zf1, zf2, zf3, zf4, zf5, zf6, zf7, zf8, zf9, zf10⟩ | with_reducible exact ⟨xe0.out, xe1.out, xe2.out, xe3.out, xe4.out, xf0.out, xf1.out, xf2.out, xf3.out, xf4.out, xf5.out, xf6.out, xf7.out, xf8.out, xf9.out, xf10.out⟩ | go_keep) (fail)
        clear ze0 zm0 zr0 vo0 vp0 xe0 ze1 zm1 zr1 vo1 vp1 xe1 ze2 zm2 zr2 vo2 vp2 xe2 ze3 zm3 zr3 vo3 vp3 xe3 ze4 zm4 zr4 vo4 vp4 xe4 zf0 zn0 zs0 vh0 vg0 xf0 zf1 zn1 zs1 vh1 vg1 xf1 zf2 zn2 zs2 vh2 vg2 xf2 zf3 zn3 zs3 vh3 vg3 xf3 zf4 zn4 zs4 vh4 vg4 xf4 zf5 zn5 zs5 vh5 vg5 xf5 zf6 zn6 zs6 vh6 vg6 xf6 zf7 zn7 zs7 vh7 vg7 xf7 zf8 zn8 zs8 vh8 vg8 xf8 zf9 zn9 zs9 vh9 vg9 xf9 zf10 zn10 zs10 vh10 vg10 xf10
        go_wp2
        have SZF : Hid (w.heap.size ≤ gp ∧ gp + 1 = go ∧ go + 1 ≤ x2.heap.size ∧ x2.heap.size ≤ x3.heap.size ∧ x3.heap.size ≤ x11.heap.size ∧ go + 1 ≤ pz ∧ qz ≤ x11.heap.size) := by have := L1.out; have := GA.out; have := L2.out; have := HP.out; have := L3.out; have := L4.out; have := Gge.out; have := L5.out; have := L6.out; have := L7.out; have := L8.out; have := Z9.out; have := L9.out; have := L10.out; have := L11.out; show _ ∧ _; omega
        obtain ⟨k1, k2, k3⟩ := ep_stored (D := D0) (S := S0) (lo := x2.heap.size) (hi := x3.heap.size) KP11.out OE11.out (.inl (by have := SZF.out; omega))
        have kh := ep_other KO11.out N5 (.int .i64 D0.n) (.slice S0.key.a S0.key.n S0.key.c) (.int .i64 D0.seq) (.int .i64 D0.win.top) (.slice S0.win.bits.a S0.win.bits.n S0.win.bits.c)
        have f1 := fr_put kh (.int .i64 D1.kind) (.int .i64 D1.id) (.slice S1.cn.a S1.cn.n S1.cn.c) (.slice S1.sn.a S1.sn.n S1.sn.c) (.int .i64 D1.tick) (.slice S1.cookie.a S1.cookie.n S1.cookie.c) (.slice S1.proof.a S1.proof.n S1.proof.c) (.int .i64 D1.epoch) (.int .i64 D1.seq) (.slice S1.body.a S1.body.n S1.body.c) (.slice S1.tag.a S1.tag.n S1.tag.c)
        have k4 := fr_other k1 (Ne.symm N5) (.int .i64 D1.kind) (.int .i64 D1.id) (.slice S1.cn.a S1.cn.n S1.cn.c) (.slice S1.sn.a S1.sn.n S1.sn.c) (.int .i64 D1.tick) (.slice S1.cookie.a S1.cookie.n S1.cookie.c) (.slice S1.proof.a S1.proof.n S1.proof.c) (.int .i64 D1.epoch) (.int .i64 D1.seq) (.slice S1.body.a S1.body.n S1.body.c) (.slice S1.tag.a S1.tag.n S1.tag.c)
        have of := (OF11.out.carry (ep_kept _ gp (.int .i64 D0.n) (.slice S0.key.a S0.key.n S0.key.c) (.int .i64 D0.seq) (.int .i64 D0.win.top) (.slice S0.win.bits.a S0.win.bits.n S0.win.bits.c)) (.inr (by have := SZF.out; omega))).carry (fr_kept _ go (.int .i64 D1.kind) (.int .i64 D1.id) (.slice S1.cn.a S1.cn.n S1.cn.c) (.slice S1.sn.a S1.sn.n S1.sn.c) (.int .i64 D1.tick) (.slice S1.cookie.a S1.cookie.n S1.cookie.c) (.slice S1.proof.a S1.proof.n S1.proof.c) (.int .i64 D1.epoch) (.int .i64 D1.seq) (.slice S1.body.a S1.body.n S1.body.c) (.slice S1.tag.a S1.tag.n S1.tag.c)) (.inr (by have := SZF.out; omega))
        have oe := k2.carry (fr_kept _ go (.int .i64 D1.kind) (.int .i64 D1.id) (.slice S1.cn.a S1.cn.n S1.cn.c) (.slice S1.sn.a S1.sn.n S1.sn.c) (.int .i64 D1.tick) (.slice S1.cookie.a S1.cookie.n S1.cookie.c) (.slice S1.proof.a S1.proof.n S1.proof.c) (.int .i64 D1.epoch) (.int .i64 D1.seq) (.slice S1.body.a S1.body.n S1.body.c) (.slice S1.tag.a S1.tag.n S1.tag.c)) (.inr (by have := SZF.out; omega))
        have b9 := fr_low (k3 _ _ (show w.heap.size ≤ gp by have := SZF.out; omega) B11.out) (g := go) (by have := SZF.out; omega) (.int .i64 D1.kind) (.int .i64 D1.id) (.slice S1.cn.a S1.cn.n S1.cn.c) (.slice S1.sn.a S1.sn.n S1.sn.c) (.int .i64 D1.tick) (.slice S1.cookie.a S1.cookie.n S1.cookie.c) (.slice S1.proof.a S1.proof.n S1.proof.c) (.int .i64 D1.epoch) (.int .i64 D1.seq) (.slice S1.body.a S1.body.n S1.body.c) (.slice S1.tag.a S1.tag.n S1.tag.c)
        exact bodyPost_ret (v := .tuple #[epV D0 S0, .int .i64 r3, frV D1 S1]) (res3 rfl (is_cell rfl (drewB k4) aggEp) (is_tmp rfl) (is_cell rfl (drewB f1) aggFr)) rfl ⟨D0, S0, r3, D1, S1, rfl, HS0.out, (oe.later ((Below.refl _ _).drew)).rd, (of.later ((Below.refl _ _).drew)).rd, b9.drew⟩
    | false =>
      go_wp2_with fail
      refine (Draw.once R9.out 3 (by omega) (by omega)).mono ?_
      rintro e x10 ⟨o2, rfl, r, b⟩
      have L10 : Hid (x9.heap.size ≤ x10.heap.size) := b.size
      have KQ : Kept p (p + 1) x9 x10 := Kept.of_grown b
      have B10 : Hid (Below w.heap.size w x10) := But.below b B9.out (by have := L1.out; have := GA.out; have := L2.out; have := HP.out; have := L3.out; have := L4.out; have := Gge.out; have := L5.out; have := L6.out; have := L7.out; have := L8.out; have := Z9.out; have := L9.out; have := L10.out; omega)
      have KP10 : Hid (Blk x10 gp 41 [.int .i64 0, .slice none 0 0, .int .i64 0, .int .i64 0, .slice none 0 0]) := KP9.out.keep (KQ.block _ KP9.out.lt (by have := L1.out; have := GA.out; have := L2.out; have := HP.out; have := L3.out; have := L4.out; have := Gge.out; have := L5.out; have := L6.out; have := L7.out; have := L8.out; have := Z9.out; have := L9.out; have := L10.out; omega))
      have KO10 : Hid (Blk x10 go 27 [.int .i64 0, .int .i64 0, .slice none 0 0, .slice none 0 0, .int .i64 0, .slice none 0 0, .slice none 0 0, .int .i64 0, .int .i64 0, .slice none 0 0, .slice none 0 0]) := KO9.out.keep (KQ.block _ KO9.out.lt (by have := L1.out; have := GA.out; have := L2.out; have := HP.out; have := L3.out; have := L4.out; have := Gge.out; have := L5.out; have := L6.out; have := L7.out; have := L8.out; have := Z9.out; have := L9.out; have := L10.out; omega))
      have R10 : Hid (Ready x1 a len cap l p x10) := r
      have OE10 : Hid (EpOwn x10 x2.heap.size x3.heap.size S0 D0) := OE9.out.carry KQ (by have := L1.out; have := GA.out; have := L2.out; have := HP.out; have := L3.out; have := L4.out; have := Gge.out; have := L5.out; have := L6.out; have := L7.out; have := L8.out; have := Z9.out; have := L9.out; have := L10.out; omega)
      have KE10 : Hid (Blk x10 ge 41 [.int .i64 D0.n, .slice S0.key.a S0.key.n S0.key.c, .int .i64 D0.seq, .int .i64 D0.win.top, .slice S0.win.bits.a S0.win.bits.n S0.win.bits.c]) := KE9.out.keep (KQ.block _ KE9.out.lt (by have := L1.out; have := GA.out; have := L2.out; have := HP.out; have := L3.out; have := L4.out; have := Gge.out; have := L5.out; have := L6.out; have := L7.out; have := L8.out; have := Z9.out; have := L9.out; have := L10.out; omega))
      have KF10 : Hid (Blk x10 gf 27 [.int .i64 D1.kind, .int .i64 D1.id, .slice S1.cn.a S1.cn.n S1.cn.c, .slice S1.sn.a S1.sn.n S1.sn.c, .int .i64 D1.tick, .slice S1.cookie.a S1.cookie.n S1.cookie.c, .slice S1.proof.a S1.proof.n S1.proof.c, .int .i64 D1.epoch, .int .i64 D1.seq, .slice S1.body.a S1.body.n S1.body.c, .slice S1.tag.a S1.tag.n S1.tag.c]) := KF9.out.keep (KQ.block _ KF9.out.lt (by have := L1.out; have := GA.out; have := L2.out; have := HP.out; have := L3.out; have := L4.out; have := Gge.out; have := L5.out; have := L6.out; have := L7.out; have := L8.out; have := Z9.out; have := L9.out; have := L10.out; omega))
      have OF10 : Hid (FrIn x10 pz qz S1 D1) := OF9.out.carry KQ (by have := L1.out; have := GA.out; have := L2.out; have := HP.out; have := L3.out; have := L4.out; have := Gge.out; have := L5.out; have := L6.out; have := L7.out; have := L8.out; have := Z9.out; have := L9.out; have := L10.out; omega)
      clear B9 KP9 KO9 R9 OE9 KE9 KF9 OF9 b
      clear KQ r
      cases o2 with
      | true =>
        have d0 := KF10.out.cell 0 rfl
        have d1 := KF10.out.cell 1 rfl
        have d2 := KF10.out.cell 2 rfl
        have d3 := KF10.out.cell 3 rfl
        have d4 := KF10.out.cell 4 rfl
        have d5 := KF10.out.cell 5 rfl
        have d6 := KF10.out.cell 6 rfl
        have d7 := KF10.out.cell 7 rfl
        have d8 := KF10.out.cell 8 rfl
        have d9 := KF10.out.cell 9 rfl
        have d10 := KF10.out.cell 10 rfl
        go_wp2_with fail
        refine (l9Bent R10.out S1 D1 OF10.out.rd HS1.out).mono ?_
        rintro e x11 ⟨D2, S2, rfl, oi, r, b⟩
        unfold frV
        clear d0 d1 d2 d3 d4 d5 d6 d7 d8 d9 d10
        have L11 : Hid (x10.heap.size ≤ x11.heap.size) := b.size
        have KQ : Kept p (p + 1) x10 x11 := Kept.of_grown b
        have B11 : Hid (Below w.heap.size w x11) := But.below b B10.out (by have := L1.out; have := GA.out; have := L2.out; have := HP.out; have := L3.out; have := L4.out; have := Gge.out; have := L5.out; have := L6.out; have := L7.out; have := L8.out; have := Z9.out; have := L9.out; have := L10.out; have := L11.out; omega)
        have KP11 : Hid (Blk x11 gp 41 [.int .i64 0, .slice none 0 0, .int .i64 0, .int .i64 0, .slice none 0 0]) := KP10.out.keep (KQ.block _ KP10.out.lt (by have := L1.out; have := GA.out; have := L2.out; have := HP.out; have := L3.out; have := L4.out; have := Gge.out; have := L5.out; have := L6.out; have := L7.out; have := L8.out; have := Z9.out; have := L9.out; have := L10.out; have := L11.out; omega))
        have KO11 : Hid (Blk x11 go 27 [.int .i64 0, .int .i64 0, .slice none 0 0, .slice none 0 0, .int .i64 0, .slice none 0 0, .slice none 0 0, .int .i64 0, .int .i64 0, .slice none 0 0, .slice none 0 0]) := KO10.out.keep (KQ.block _ KO10.out.lt (by have := L1.out; have := GA.out; have := L2.out; have := HP.out; have := L3.out; have := L4.out; have := Gge.out; have := L5.out; have := L6.out; have := L7.out; have := L8.out; have := Z9.out; have := L9.out; have := L10.out; have := L11.out; omega))
        have R11 : Hid (Ready x1 a len cap l p x11) := r
        have OE11 : Hid (EpOwn x11 x2.heap.size x3.heap.size S0 D0) := OE10.out.carry KQ (by have := L1.out; have := GA.out; have := L2.out; have := HP.out; have := L3.out; have := L4.out; have := Gge.out; have := L5.out; have := L6.out; have := L7.out; have := L8.out; have := Z9.out; have := L9.out; have := L10.out; have := L11.out; omega)
        have KE11 : Hid (Blk x11 ge 41 [.int .i64 D0.n, .slice S0.key.a S0.key.n S0.key.c, .int .i64 D0.seq, .int .i64 D0.win.top, .slice S0.win.bits.a S0.win.bits.n S0.win.bits.c]) := KE10.out.keep (KQ.block _ KE10.out.lt (by have := L1.out; have := GA.out; have := L2.out; have := HP.out; have := L3.out; have := L4.out; have := Gge.out; have := L5.out; have := L6.out; have := L7.out; have := L8.out; have := Z9.out; have := L9.out; have := L10.out; have := L11.out; omega))
        have KF11 : Hid (Blk x11 gf 27 [.int .i64 D1.kind, .int .i64 D1.id, .slice S1.cn.a S1.cn.n S1.cn.c, .slice S1.sn.a S1.sn.n S1.sn.c, .int .i64 D1.tick, .slice S1.cookie.a S1.cookie.n S1.cookie.c, .slice S1.proof.a S1.proof.n S1.proof.c, .int .i64 D1.epoch, .int .i64 D1.seq, .slice S1.body.a S1.body.n S1.body.c, .slice S1.tag.a S1.tag.n S1.tag.c]) := KF10.out.keep (KQ.block _ KF10.out.lt (by have := L1.out; have := GA.out; have := L2.out; have := HP.out; have := L3.out; have := L4.out; have := Gge.out; have := L5.out; have := L6.out; have := L7.out; have := L8.out; have := Z9.out; have := L9.out; have := L10.out; have := L11.out; omega))
        have OF11 : Hid (FrIn x11 pz qz S1 D1) := OF10.out.carry KQ (by have := L1.out; have := GA.out; have := L2.out; have := HP.out; have := L3.out; have := L4.out; have := Gge.out; have := L5.out; have := L6.out; have := L7.out; have := L8.out; have := Z9.out; have := L9.out; have := L10.out; have := L11.out; omega)
        clear B10 KP10 KO10 R10 OE10 KE10 KF10 OF10 b
        clear KQ r
        clear OF11
        have OF11 : Hid (FrIn x11 x10.heap.size x11.heap.size S2 D2) := oi
        clear oi
        have co0 := KF11.out.cell 0 rfl
        have fo0 := KF11.out.frozen 0
        have co1 := KF11.out.cell 1 rfl
        have fo1 := KF11.out.frozen 1
        have co2 := KF11.out.cell 2 rfl
        have fo2 := KF11.out.frozen 2
        have co3 := KF11.out.cell 3 rfl
        have fo3 := KF11.out.frozen 3
        have co4 := KF11.out.cell 4 rfl
        have fo4 := KF11.out.frozen 4
        have co5 := KF11.out.cell 5 rfl
        have fo5 := KF11.out.frozen 5
        have co6 := KF11.out.cell 6 rfl
        have fo6 := KF11.out.frozen 6
        have co7 := KF11.out.cell 7 rfl
        have fo7 := KF11.out.frozen 7
        have co8 := KF11.out.cell 8 rfl
        have fo8 := KF11.out.frozen 8
        have co9 := KF11.out.cell 9 rfl
        have fo9 := KF11.out.frozen 9
        have co10 := KF11.out.cell 10 rfl
        have fo10 := KF11.out.frozen 10
        obtain ⟨x12, hx12⟩ : ∃ y, (((((((((((x11.setCell ⟨gf, 0, none⟩ (.int .i64 D2.kind)).setCell ⟨gf, 1, none⟩ (.int .i64 D2.id)).setCell ⟨gf, 2, none⟩ (.slice S2.cn.a S2.cn.n S2.cn.c)).setCell ⟨gf, 3, none⟩ (.slice S2.sn.a S2.sn.n S2.sn.c)).setCell ⟨gf, 4, none⟩ (.int .i64 D2.tick)).setCell ⟨gf, 5, none⟩ (.slice S2.cookie.a S2.cookie.n S2.cookie.c)).setCell ⟨gf, 6, none⟩ (.slice S2.proof.a S2.proof.n S2.proof.c)).setCell ⟨gf, 7, none⟩ (.int .i64 D2.epoch)).setCell ⟨gf, 8, none⟩ (.int .i64 D2.seq)).setCell ⟨gf, 9, none⟩ (.slice S2.body.a S2.body.n S2.body.c)).setCell ⟨gf, 10, none⟩ (.slice S2.tag.a S2.tag.n S2.tag.c)) = y := ⟨_, rfl⟩
        have HW12 : Hid ((((((((((((x11.setCell ⟨gf, 0, none⟩ (.int .i64 D2.kind)).setCell ⟨gf, 1, none⟩ (.int .i64 D2.id)).setCell ⟨gf, 2, none⟩ (.slice S2.cn.a S2.cn.n S2.cn.c)).setCell ⟨gf, 3, none⟩ (.slice S2.sn.a S2.sn.n S2.sn.c)).setCell ⟨gf, 4, none⟩ (.int .i64 D2.tick)).setCell ⟨gf, 5, none⟩ (.slice S2.cookie.a S2.cookie.n S2.cookie.c)).setCell ⟨gf, 6, none⟩ (.slice S2.proof.a S2.proof.n S2.proof.c)).setCell ⟨gf, 7, none⟩ (.int .i64 D2.epoch)).setCell ⟨gf, 8, none⟩ (.int .i64 D2.seq)).setCell ⟨gf, 9, none⟩ (.slice S2.body.a S2.body.n S2.body.c)).setCell ⟨gf, 10, none⟩ (.slice S2.tag.a S2.tag.n S2.tag.c)) = x12) := hx12
        have L12 : Hid (x12.heap.size = x11.heap.size) := by rw [← hx12]; show _ = _; simp
        have KS : Blk x12 gf 27 [.int .i64 D2.kind, .int .i64 D2.id, .slice S2.cn.a S2.cn.n S2.cn.c, .slice S2.sn.a S2.sn.n S2.sn.c, .int .i64 D2.tick, .slice S2.cookie.a S2.cookie.n S2.cookie.c, .slice S2.proof.a S2.proof.n S2.proof.c, .int .i64 D2.epoch, .int .i64 D2.seq, .slice S2.body.a S2.body.n S2.body.c, .slice S2.tag.a S2.tag.n S2.tag.c] := by rw [← hx12]; exact (((((((((((KF11.out.set 0 _ (by simp [maxLen])).set 1 _ (by simp [maxLen])).set 2 _ (by simp [maxLen])).set 3 _ (by simp [maxLen])).set 4 _ (by simp [maxLen])).set 5 _ (by simp [maxLen])).set 6 _ (by simp [maxLen])).set 7 _ (by simp [maxLen])).set 8 _ (by simp [maxLen])).set 9 _ (by simp [maxLen])).set 10 _ (by simp [maxLen]))
        have KQ : Kept gf (gf + 1) x11 x12 := by rw [← hx12]; exact (((((((((((Kept.setCell _ _ _ _).trans (Kept.setCell _ _ _ _)).trans (Kept.setCell _ _ _ _)).trans (Kept.setCell _ _ _ _)).trans (Kept.setCell _ _ _ _)).trans (Kept.setCell _ _ _ _)).trans (Kept.setCell _ _ _ _)).trans (Kept.setCell _ _ _ _)).trans (Kept.setCell _ _ _ _)).trans (Kept.setCell _ _ _ _)).trans (Kept.setCell _ _ _ _))
        clear hx12
        have B12 : Hid (Below w.heap.size w x12) := B11.out.trans (KQ.below (by have := L1.out; have := GA.out; have := L2.out; have := HP.out; have := L3.out; have := L4.out; have := Gge.out; have := L5.out; have := L6.out; have := L7.out; have := L8.out; have := Z9.out; have := L9.out; have := L10.out; have := L11.out; have := L12.out; omega) B11.out.size)
        have KP12 : Hid (Blk x12 gp 41 [.int .i64 0, .slice none 0 0, .int .i64 0, .int .i64 0, .slice none 0 0]) := KP11.out.keep (KQ.block _ KP11.out.lt (by have := L1.out; have := GA.out; have := L2.out; have := HP.out; have := L3.out; have := L4.out; have := Gge.out; have := L5.out; have := L6.out; have := L7.out; have := L8.out; have := Z9.out; have := L9.out; have := L10.out; have := L11.out; have := L12.out; omega))
        have KO12 : Hid (Blk x12 go 27 [.int .i64 0, .int .i64 0, .slice none 0 0, .slice none 0 0, .int .i64 0, .slice none 0 0, .slice none 0 0, .int .i64 0, .int .i64 0, .slice none 0 0, .slice none 0 0]) := KO11.out.keep (KQ.block _ KO11.out.lt (by have := L1.out; have := GA.out; have := L2.out; have := HP.out; have := L3.out; have := L4.out; have := Gge.out; have := L5.out; have := L6.out; have := L7.out; have := L8.out; have := Z9.out; have := L9.out; have := L10.out; have := L11.out; have := L12.out; omega))
        have R12 : Hid (Ready x1 a len cap l p x12) := rdyK R11.out KQ (by have := L1.out; have := GA.out; have := L2.out; have := HP.out; have := L3.out; have := L4.out; have := Gge.out; have := L5.out; have := L6.out; have := L7.out; have := L8.out; have := Z9.out; have := L9.out; have := L10.out; have := L11.out; have := L12.out; omega)
        have OE12 : Hid (EpOwn x12 x2.heap.size x3.heap.size S0 D0) := OE11.out.carry KQ (by have := L1.out; have := GA.out; have := L2.out; have := HP.out; have := L3.out; have := L4.out; have := Gge.out; have := L5.out; have := L6.out; have := L7.out; have := L8.out; have := Z9.out; have := L9.out; have := L10.out; have := L11.out; have := L12.out; omega)
        have KE12 : Hid (Blk x12 ge 41 [.int .i64 D0.n, .slice S0.key.a S0.key.n S0.key.c, .int .i64 D0.seq, .int .i64 D0.win.top, .slice S0.win.bits.a S0.win.bits.n S0.win.bits.c]) := KE11.out.keep (KQ.block _ KE11.out.lt (by have := L1.out; have := GA.out; have := L2.out; have := HP.out; have := L3.out; have := L4.out; have := Gge.out; have := L5.out; have := L6.out; have := L7.out; have := L8.out; have := Z9.out; have := L9.out; have := L10.out; have := L11.out; have := L12.out; omega))
        have OF12 : Hid (FrIn x12 x10.heap.size x11.heap.size S2 D2) := OF11.out.carry KQ (by have := L1.out; have := GA.out; have := L2.out; have := HP.out; have := L3.out; have := L4.out; have := Gge.out; have := L5.out; have := L6.out; have := L7.out; have := L8.out; have := Z9.out; have := L9.out; have := L10.out; have := L11.out; have := L12.out; omega)
        clear B11 KP11 KO11 R11 OE11 KE11 OF11 KQ
        clear KF11
        have KF12 : Hid (Blk x12 gf 27 [.int .i64 D2.kind, .int .i64 D2.id, .slice S2.cn.a S2.cn.n S2.cn.c, .slice S2.sn.a S2.sn.n S2.sn.c, .int .i64 D2.tick, .slice S2.cookie.a S2.cookie.n S2.cookie.c, .slice S2.proof.a S2.proof.n S2.proof.c, .int .i64 D2.epoch, .int .i64 D2.seq, .slice S2.body.a S2.body.n S2.body.c, .slice S2.tag.a S2.tag.n S2.tag.c]) := KS
        clear KS
        go_upto_region 13 with fail
        rw [HW12.out]
        clear HW12 co0 fo0 co1 fo1 co2 fo2 co3 fo3 co4 fo4 co5 fo5 co6 fo6 co7 fo7 co8 fo8 co9 fo9 co10 fo10
        have N1 : ge ≠ gp := by have := L1.out; have := GA.out; have := L2.out; have := HP.out; have := L3.out; have := L4.out; have := Gge.out; have := L5.out; have := L6.out; have := L7.out; have := L8.out; have := Z9.out; have := L9.out; have := L10.out; have := L11.out; have := L12.out; omega
        have N2 : gf ≠ gp := by have := L1.out; have := GA.out; have := L2.out; have := HP.out; have := L3.out; have := L4.out; have := Gge.out; have := L5.out; have := L6.out; have := L7.out; have := L8.out; have := Z9.out; have := L9.out; have := L10.out; have := L11.out; have := L12.out; omega
        have N3 : ge ≠ go := by have := L1.out; have := GA.out; have := L2.out; have := HP.out; have := L3.out; have := L4.out; have := Gge.out; have := L5.out; have := L6.out; have := L7.out; have := L8.out; have := Z9.out; have := L9.out; have := L10.out; have := L11.out; have := L12.out; omega
        have N4 : gf ≠ go := by have := L1.out; have := GA.out; have := L2.out; have := HP.out; have := L3.out; have := L4.out; have := Gge.out; have := L5.out; have := L6.out; have := L7.out; have := L8.out; have := Z9.out; have := L9.out; have := L10.out; have := L11.out; have := L12.out; omega
        have N5 : go ≠ gp := by have := L1.out; have := GA.out; have := L2.out; have := HP.out; have := L3.out; have := L4.out; have := Gge.out; have := L5.out; have := L6.out; have := L7.out; have := L8.out; have := Z9.out; have := L9.out; have := L10.out; have := L11.out; have := L12.out; omega
        have xe0 := hide ((drewB KE12.out).cell 0 rfl)
        have xe1 := hide ((drewB KE12.out).cell 1 rfl)
        have xe2 := hide ((drewB KE12.out).cell 2 rfl)
        have xe3 := hide ((drewB KE12.out).cell 3 rfl)
        have xe4 := hide ((drewB KE12.out).cell 4 rfl)
        have xf0 := hide ((drewB KF12.out).cell 0 rfl)
        have xf1 := hide ((drewB KF12.out).cell 1 rfl)
        have xf2 := hide ((drewB KF12.out).cell 2 rfl)
        have xf3 := hide ((drewB KF12.out).cell 3 rfl)
        have xf4 := hide ((drewB KF12.out).cell 4 rfl)
        have xf5 := hide ((drewB KF12.out).cell 5 rfl)
        have xf6 := hide ((drewB KF12.out).cell 6 rfl)
        have xf7 := hide ((drewB KF12.out).cell 7 rfl)
        have xf8 := hide ((drewB KF12.out).cell 8 rfl)
        have xf9 := hide ((drewB KF12.out).cell 9 rfl)
        have xf10 := hide ((drewB KF12.out).cell 10 rfl)
        have vo0 := KP12.out.cell 0 rfl
        have vo1 := KP12.out.cell 1 rfl
        have vo2 := KP12.out.cell 2 rfl
        have vo3 := KP12.out.cell 3 rfl
        have vo4 := KP12.out.cell 4 rfl
        have vp0 := KP12.out.frozen 0
        have vp1 := KP12.out.frozen 1
        have vp2 := KP12.out.frozen 2
        have vp3 := KP12.out.frozen 3
        have vp4 := KP12.out.frozen 4
        have ze0 := KE12.out.cell 0 rfl
        have ze1 := KE12.out.cell 1 rfl
        have ze2 := KE12.out.cell 2 rfl
        have ze3 := KE12.out.cell 3 rfl
        have ze4 := KE12.out.cell 4 rfl
        have zf0 := KF12.out.cell 0 rfl
        have zf1 := KF12.out.cell 1 rfl
        have zf2 := KF12.out.cell 2 rfl
        have zf3 := KF12.out.cell 3 rfl
        have zf4 := KF12.out.cell 4 rfl
        have zf5 := KF12.out.cell 5 rfl
        have zf6 := KF12.out.cell 6 rfl
        have zf7 := KF12.out.cell 7 rfl
        have zf8 := KF12.out.cell 8 rfl
        have zf9 := KF12.out.cell 9 rfl
        have zf10 := KF12.out.cell 10 rfl
        have zH := ep_other KO12.out N5 (.int .i64 D0.n) (.slice S0.key.a S0.key.n S0.key.c) (.int .i64 D0.seq) (.int .i64 D0.win.top) (.slice S0.win.bits.a S0.win.bits.n S0.win.bits.c)
        have zN := ep_other KE12.out N1 (.int .i64 D0.n) (.slice S0.key.a S0.key.n S0.key.c) (.int .i64 D0.seq) (.int .i64 D0.win.top) (.slice S0.win.bits.a S0.win.bits.n S0.win.bits.c)
        have zG := ep_other KF12.out N2 (.int .i64 D0.n) (.slice S0.key.a S0.key.n S0.key.c) (.int .i64 D0.seq) (.int .i64 D0.win.top) (.slice S0.win.bits.a S0.win.bits.n S0.win.bits.c)
        have vh0 := KO12.out.cell 0 rfl
        have vh1 := KO12.out.cell 1 rfl
        have vh2 := KO12.out.cell 2 rfl
        have vh3 := KO12.out.cell 3 rfl
        have vh4 := KO12.out.cell 4 rfl
        have vh5 := KO12.out.cell 5 rfl
        have vh6 := KO12.out.cell 6 rfl
        have vh7 := KO12.out.cell 7 rfl
        have vh8 := KO12.out.cell 8 rfl
        have vh9 := KO12.out.cell 9 rfl
        have vh10 := KO12.out.cell 10 rfl
        have vg0 := KO12.out.frozen 0
        have vg1 := KO12.out.frozen 1
        have vg2 := KO12.out.frozen 2
        have vg3 := KO12.out.frozen 3
        have vg4 := KO12.out.frozen 4
        have vg5 := KO12.out.frozen 5
        have vg6 := KO12.out.frozen 6
        have vg7 := KO12.out.frozen 7
        have vg8 := KO12.out.frozen 8
        have vg9 := KO12.out.frozen 9
        have vg10 := KO12.out.frozen 10
        have zm0 := hide ((drewB zN).cell 0 rfl)
        have zm1 := hide ((drewB zN).cell 1 rfl)
        have zm2 := hide ((drewB zN).cell 2 rfl)
        have zm3 := hide ((drewB zN).cell 3 rfl)
        have zm4 := hide ((drewB zN).cell 4 rfl)
        have zn0 := hide ((drewB zG).cell 0 rfl)
        have zn1 := hide ((drewB zG).cell 1 rfl)
        have zn2 := hide ((drewB zG).cell 2 rfl)
        have zn3 := hide ((drewB zG).cell 3 rfl)
        have zn4 := hide ((drewB zG).cell 4 rfl)
        have zn5 := hide ((drewB zG).cell 5 rfl)
        have zn6 := hide ((drewB zG).cell 6 rfl)
        have zn7 := hide ((drewB zG).cell 7 rfl)
        have zn8 := hide ((drewB zG).cell 8 rfl)
        have zn9 := hide ((drewB zG).cell 9 rfl)
        have zn10 := hide ((drewB zG).cell 10 rfl)
        have zM := fr_other zN N3 (.int .i64 D2.kind) (.int .i64 D2.id) (.slice S2.cn.a S2.cn.n S2.cn.c) (.slice S2.sn.a S2.sn.n S2.sn.c) (.int .i64 D2.tick) (.slice S2.cookie.a S2.cookie.n S2.cookie.c) (.slice S2.proof.a S2.proof.n S2.proof.c) (.int .i64 D2.epoch) (.int .i64 D2.seq) (.slice S2.body.a S2.body.n S2.body.c) (.slice S2.tag.a S2.tag.n S2.tag.c)
        have zK := fr_other zG N4 (.int .i64 D2.kind) (.int .i64 D2.id) (.slice S2.cn.a S2.cn.n S2.cn.c) (.slice S2.sn.a S2.sn.n S2.sn.c) (.int .i64 D2.tick) (.slice S2.cookie.a S2.cookie.n S2.cookie.c) (.slice S2.proof.a S2.proof.n S2.proof.c) (.int .i64 D2.epoch) (.int .i64 D2.seq) (.slice S2.body.a S2.body.n S2.body.c) (.slice S2.tag.a S2.tag.n S2.tag.c)
        have zr0 := hide ((drewB zM).cell 0 rfl)
        have zr1 := hide ((drewB zM).cell 1 rfl)
        have zr2 := hide ((drewB zM).cell 2 rfl)
        have zr3 := hide ((drewB zM).cell 3 rfl)
        have zr4 := hide ((drewB zM).cell 4 rfl)
        have zs0 := hide ((drewB zK).cell 0 rfl)
        have zs1 := hide ((drewB zK).cell 1 rfl)
        have zs2 := hide ((drewB zK).cell 2 rfl)
        have zs3 := hide ((drewB zK).cell 3 rfl)
        have zs4 := hide ((drewB zK).cell 4 rfl)
        have zs5 := hide ((drewB zK).cell 5 rfl)
        have zs6 := hide ((drewB zK).cell 6 rfl)
        have zs7 := hide ((drewB zK).cell 7 rfl)
        have zs8 := hide ((drewB zK).cell 8 rfl)
        have zs9 := hide ((drewB zK).cell 9 rfl)
        have zs10 := hide ((drewB zK).cell 10 rfl)
        clear zH zN zG zM zK
        go_region_held3 (fun w' => w'.cell? ⟨ge, 0, none⟩ = some (.int .i64 D0.n) ∧ w'.cell? ⟨ge, 1, none⟩ = some (.slice S0.key.a S0.key.n S0.key.c) ∧ w'.cell? ⟨ge, 2, none⟩ = some (.int .i64 D0.seq) ∧ w'.cell? ⟨ge, 3, none⟩ = some (.int .i64 D0.win.top) ∧ w'.cell? ⟨ge, 4, none⟩ = some (.slice S0.win.bits.a S0.win.bits.n S0.win.bits.c) ∧ w'.cell? ⟨gf, 0, none⟩ = some (.int .i64 D2.kind) ∧ w'.cell? ⟨gf, 1, none⟩ = some (.int .i64 D2.id) ∧ w'.cell? ⟨gf, 2, none⟩ = some (.slice S2.cn.a S2.cn.n S2.cn.c) ∧ w'.cell? ⟨gf, 3, none⟩ = some (.slice S2.sn.a S2.sn.n S2.sn.c) ∧ w'.cell? ⟨gf, 4, none⟩ = some (.int .i64 D2.tick) ∧ w'.cell? ⟨gf, 5, none⟩ = some (.slice S2.cookie.a S2.cookie.n S2.cookie.c) ∧ w'.cell? ⟨gf, 6, none⟩ = some (.slice S2.proof.a S2.proof.n S2.proof.c) ∧ w'.cell? ⟨gf, 7, none⟩ = some (.int .i64 D2.epoch) ∧ w'.cell? ⟨gf, 8, none⟩ = some (.int .i64 D2.seq) ∧ w'.cell? ⟨gf, 9, none⟩ = some (.slice S2.body.a S2.body.n S2.body.c) ∧ w'.cell? ⟨gf, 10, none⟩ = some (.slice S2.tag.a S2.tag.n S2.tag.c)) (first | with_reducible exact ⟨zr0.out, zr1.out, zr2.out, zr3.out, zr4.out, zs0.out, zs1.out, zs2.out, zs3.out, zs4.out, zs5.out, zs6.out, zs7.out, zs8.out, zs9.out, zs10.out⟩ | with_reducible exact ⟨zm0.out, zm1.out, zm2.out, zm3.out, zm4.out, zn0.out, zn1.out, zn2.out, zn3.out, zn4.out, zn5.out, zn6.out, zn7.out, zn8.out, zn9.out, zn10.out⟩ | with_reducible exact ⟨ze0, ze1, ze2, ze3, ze4, zf0, zf1, zf2, zf3, zf4, zf5, zf6, zf7, zf8, zf9, zf10⟩ | with_reducible exact ⟨xe0.out, xe1.out, xe2.out, xe3.out, xe4.out, xf0.out, xf1.out, xf2.out, xf3.out, xf4.out, xf5.out, xf6.out, xf7.out, xf8.out, xf9.out, xf10.out⟩ | go_keep) (fail)
        clear ze0 zm0 zr0 vo0 vp0 xe0 ze1 zm1 zr1 vo1 vp1 xe1 ze2 zm2 zr2 vo2 vp2 xe2 ze3 zm3 zr3 vo3 vp3 xe3 ze4 zm4 zr4 vo4 vp4 xe4 zf0 zn0 zs0 vh0 vg0 xf0 zf1 zn1 zs1 vh1 vg1 xf1 zf2 zn2 zs2 vh2 vg2 xf2 zf3 zn3 zs3 vh3 vg3 xf3 zf4 zn4 zs4 vh4 vg4 xf4 zf5 zn5 zs5 vh5 vg5 xf5 zf6 zn6 zs6 vh6 vg6 xf6 zf7 zn7 zs7 vh7 vg7 xf7 zf8 zn8 zs8 vh8 vg8 xf8 zf9 zn9 zs9 vh9 vg9 xf9 zf10 zn10 zs10 vh10 vg10 xf10
        go_wp2
        have SZF : Hid (w.heap.size ≤ gp ∧ gp + 1 = go ∧ go + 1 ≤ x2.heap.size ∧ x2.heap.size ≤ x3.heap.size ∧ x3.heap.size ≤ x12.heap.size ∧ go + 1 ≤ x10.heap.size ∧ x11.heap.size ≤ x12.heap.size) := by have := L1.out; have := GA.out; have := L2.out; have := HP.out; have := L3.out; have := L4.out; have := Gge.out; have := L5.out; have := L6.out; have := L7.out; have := L8.out; have := Z9.out; have := L9.out; have := L10.out; have := L11.out; have := L12.out; show _ ∧ _; omega
        obtain ⟨k1, k2, k3⟩ := ep_stored (D := D0) (S := S0) (lo := x2.heap.size) (hi := x3.heap.size) KP12.out OE12.out (.inl (by have := SZF.out; omega))
        have kh := ep_other KO12.out N5 (.int .i64 D0.n) (.slice S0.key.a S0.key.n S0.key.c) (.int .i64 D0.seq) (.int .i64 D0.win.top) (.slice S0.win.bits.a S0.win.bits.n S0.win.bits.c)
        have f1 := fr_put kh (.int .i64 D2.kind) (.int .i64 D2.id) (.slice S2.cn.a S2.cn.n S2.cn.c) (.slice S2.sn.a S2.sn.n S2.sn.c) (.int .i64 D2.tick) (.slice S2.cookie.a S2.cookie.n S2.cookie.c) (.slice S2.proof.a S2.proof.n S2.proof.c) (.int .i64 D2.epoch) (.int .i64 D2.seq) (.slice S2.body.a S2.body.n S2.body.c) (.slice S2.tag.a S2.tag.n S2.tag.c)
        have k4 := fr_other k1 (Ne.symm N5) (.int .i64 D2.kind) (.int .i64 D2.id) (.slice S2.cn.a S2.cn.n S2.cn.c) (.slice S2.sn.a S2.sn.n S2.sn.c) (.int .i64 D2.tick) (.slice S2.cookie.a S2.cookie.n S2.cookie.c) (.slice S2.proof.a S2.proof.n S2.proof.c) (.int .i64 D2.epoch) (.int .i64 D2.seq) (.slice S2.body.a S2.body.n S2.body.c) (.slice S2.tag.a S2.tag.n S2.tag.c)
        have of := (OF12.out.carry (ep_kept _ gp (.int .i64 D0.n) (.slice S0.key.a S0.key.n S0.key.c) (.int .i64 D0.seq) (.int .i64 D0.win.top) (.slice S0.win.bits.a S0.win.bits.n S0.win.bits.c)) (.inr (by have := SZF.out; omega))).carry (fr_kept _ go (.int .i64 D2.kind) (.int .i64 D2.id) (.slice S2.cn.a S2.cn.n S2.cn.c) (.slice S2.sn.a S2.sn.n S2.sn.c) (.int .i64 D2.tick) (.slice S2.cookie.a S2.cookie.n S2.cookie.c) (.slice S2.proof.a S2.proof.n S2.proof.c) (.int .i64 D2.epoch) (.int .i64 D2.seq) (.slice S2.body.a S2.body.n S2.body.c) (.slice S2.tag.a S2.tag.n S2.tag.c)) (.inr (by have := SZF.out; omega))
        have oe := k2.carry (fr_kept _ go (.int .i64 D2.kind) (.int .i64 D2.id) (.slice S2.cn.a S2.cn.n S2.cn.c) (.slice S2.sn.a S2.sn.n S2.sn.c) (.int .i64 D2.tick) (.slice S2.cookie.a S2.cookie.n S2.cookie.c) (.slice S2.proof.a S2.proof.n S2.proof.c) (.int .i64 D2.epoch) (.int .i64 D2.seq) (.slice S2.body.a S2.body.n S2.body.c) (.slice S2.tag.a S2.tag.n S2.tag.c)) (.inr (by have := SZF.out; omega))
        have b9 := fr_low (k3 _ _ (show w.heap.size ≤ gp by have := SZF.out; omega) B12.out) (g := go) (by have := SZF.out; omega) (.int .i64 D2.kind) (.int .i64 D2.id) (.slice S2.cn.a S2.cn.n S2.cn.c) (.slice S2.sn.a S2.sn.n S2.sn.c) (.int .i64 D2.tick) (.slice S2.cookie.a S2.cookie.n S2.cookie.c) (.slice S2.proof.a S2.proof.n S2.proof.c) (.int .i64 D2.epoch) (.int .i64 D2.seq) (.slice S2.body.a S2.body.n S2.body.c) (.slice S2.tag.a S2.tag.n S2.tag.c)
        exact bodyPost_ret (v := .tuple #[epV D0 S0, .int .i64 ro, frV D2 S2]) (res3 rfl (is_cell rfl (drewB k4) aggEp) (is_tmp rfl) (is_cell rfl (drewB f1) aggFr)) rfl ⟨D0, S0, ro, D2, S2, rfl, HS0.out, (oe.later ((Below.refl _ _).drew)).rd, (of.later ((Below.refl _ _).drew)).rd, b9.drew⟩
      | false =>
        go_upto_region 13 with fail
        have N1 : ge ≠ gp := by have := L1.out; have := GA.out; have := L2.out; have := HP.out; have := L3.out; have := L4.out; have := Gge.out; have := L5.out; have := L6.out; have := L7.out; have := L8.out; have := Z9.out; have := L9.out; have := L10.out; omega
        have N2 : gf ≠ gp := by have := L1.out; have := GA.out; have := L2.out; have := HP.out; have := L3.out; have := L4.out; have := Gge.out; have := L5.out; have := L6.out; have := L7.out; have := L8.out; have := Z9.out; have := L9.out; have := L10.out; omega
        have N3 : ge ≠ go := by have := L1.out; have := GA.out; have := L2.out; have := HP.out; have := L3.out; have := L4.out; have := Gge.out; have := L5.out; have := L6.out; have := L7.out; have := L8.out; have := Z9.out; have := L9.out; have := L10.out; omega
        have N4 : gf ≠ go := by have := L1.out; have := GA.out; have := L2.out; have := HP.out; have := L3.out; have := L4.out; have := Gge.out; have := L5.out; have := L6.out; have := L7.out; have := L8.out; have := Z9.out; have := L9.out; have := L10.out; omega
        have N5 : go ≠ gp := by have := L1.out; have := GA.out; have := L2.out; have := HP.out; have := L3.out; have := L4.out; have := Gge.out; have := L5.out; have := L6.out; have := L7.out; have := L8.out; have := Z9.out; have := L9.out; have := L10.out; omega
        have xe0 := hide ((drewB KE10.out).cell 0 rfl)
        have xe1 := hide ((drewB KE10.out).cell 1 rfl)
        have xe2 := hide ((drewB KE10.out).cell 2 rfl)
        have xe3 := hide ((drewB KE10.out).cell 3 rfl)
        have xe4 := hide ((drewB KE10.out).cell 4 rfl)
        have xf0 := hide ((drewB KF10.out).cell 0 rfl)
        have xf1 := hide ((drewB KF10.out).cell 1 rfl)
        have xf2 := hide ((drewB KF10.out).cell 2 rfl)
        have xf3 := hide ((drewB KF10.out).cell 3 rfl)
        have xf4 := hide ((drewB KF10.out).cell 4 rfl)
        have xf5 := hide ((drewB KF10.out).cell 5 rfl)
        have xf6 := hide ((drewB KF10.out).cell 6 rfl)
        have xf7 := hide ((drewB KF10.out).cell 7 rfl)
        have xf8 := hide ((drewB KF10.out).cell 8 rfl)
        have xf9 := hide ((drewB KF10.out).cell 9 rfl)
        have xf10 := hide ((drewB KF10.out).cell 10 rfl)
        have vo0 := KP10.out.cell 0 rfl
        have vo1 := KP10.out.cell 1 rfl
        have vo2 := KP10.out.cell 2 rfl
        have vo3 := KP10.out.cell 3 rfl
        have vo4 := KP10.out.cell 4 rfl
        have vp0 := KP10.out.frozen 0
        have vp1 := KP10.out.frozen 1
        have vp2 := KP10.out.frozen 2
        have vp3 := KP10.out.frozen 3
        have vp4 := KP10.out.frozen 4
        have ze0 := KE10.out.cell 0 rfl
        have ze1 := KE10.out.cell 1 rfl
        have ze2 := KE10.out.cell 2 rfl
        have ze3 := KE10.out.cell 3 rfl
        have ze4 := KE10.out.cell 4 rfl
        have zf0 := KF10.out.cell 0 rfl
        have zf1 := KF10.out.cell 1 rfl
        have zf2 := KF10.out.cell 2 rfl
        have zf3 := KF10.out.cell 3 rfl
        have zf4 := KF10.out.cell 4 rfl
        have zf5 := KF10.out.cell 5 rfl
        have zf6 := KF10.out.cell 6 rfl
        have zf7 := KF10.out.cell 7 rfl
        have zf8 := KF10.out.cell 8 rfl
        have zf9 := KF10.out.cell 9 rfl
        have zf10 := KF10.out.cell 10 rfl
        have zH := ep_other KO10.out N5 (.int .i64 D0.n) (.slice S0.key.a S0.key.n S0.key.c) (.int .i64 D0.seq) (.int .i64 D0.win.top) (.slice S0.win.bits.a S0.win.bits.n S0.win.bits.c)
        have zN := ep_other KE10.out N1 (.int .i64 D0.n) (.slice S0.key.a S0.key.n S0.key.c) (.int .i64 D0.seq) (.int .i64 D0.win.top) (.slice S0.win.bits.a S0.win.bits.n S0.win.bits.c)
        have zG := ep_other KF10.out N2 (.int .i64 D0.n) (.slice S0.key.a S0.key.n S0.key.c) (.int .i64 D0.seq) (.int .i64 D0.win.top) (.slice S0.win.bits.a S0.win.bits.n S0.win.bits.c)
        have vh0 := KO10.out.cell 0 rfl
        have vh1 := KO10.out.cell 1 rfl
        have vh2 := KO10.out.cell 2 rfl
        have vh3 := KO10.out.cell 3 rfl
        have vh4 := KO10.out.cell 4 rfl
        have vh5 := KO10.out.cell 5 rfl
        have vh6 := KO10.out.cell 6 rfl
        have vh7 := KO10.out.cell 7 rfl
        have vh8 := KO10.out.cell 8 rfl
        have vh9 := KO10.out.cell 9 rfl
        have vh10 := KO10.out.cell 10 rfl
        have vg0 := KO10.out.frozen 0
        have vg1 := KO10.out.frozen 1
        have vg2 := KO10.out.frozen 2
        have vg3 := KO10.out.frozen 3
        have vg4 := KO10.out.frozen 4
        have vg5 := KO10.out.frozen 5
        have vg6 := KO10.out.frozen 6
        have vg7 := KO10.out.frozen 7
        have vg8 := KO10.out.frozen 8
        have vg9 := KO10.out.frozen 9
        have vg10 := KO10.out.frozen 10
        have zm0 := hide ((drewB zN).cell 0 rfl)
        have zm1 := hide ((drewB zN).cell 1 rfl)
        have zm2 := hide ((drewB zN).cell 2 rfl)
        have zm3 := hide ((drewB zN).cell 3 rfl)
        have zm4 := hide ((drewB zN).cell 4 rfl)
        have zn0 := hide ((drewB zG).cell 0 rfl)
        have zn1 := hide ((drewB zG).cell 1 rfl)
        have zn2 := hide ((drewB zG).cell 2 rfl)
        have zn3 := hide ((drewB zG).cell 3 rfl)
        have zn4 := hide ((drewB zG).cell 4 rfl)
        have zn5 := hide ((drewB zG).cell 5 rfl)
        have zn6 := hide ((drewB zG).cell 6 rfl)
        have zn7 := hide ((drewB zG).cell 7 rfl)
        have zn8 := hide ((drewB zG).cell 8 rfl)
        have zn9 := hide ((drewB zG).cell 9 rfl)
        have zn10 := hide ((drewB zG).cell 10 rfl)
        have zM := fr_other zN N3 (.int .i64 D1.kind) (.int .i64 D1.id) (.slice S1.cn.a S1.cn.n S1.cn.c) (.slice S1.sn.a S1.sn.n S1.sn.c) (.int .i64 D1.tick) (.slice S1.cookie.a S1.cookie.n S1.cookie.c) (.slice S1.proof.a S1.proof.n S1.proof.c) (.int .i64 D1.epoch) (.int .i64 D1.seq) (.slice S1.body.a S1.body.n S1.body.c) (.slice S1.tag.a S1.tag.n S1.tag.c)
        have zK := fr_other zG N4 (.int .i64 D1.kind) (.int .i64 D1.id) (.slice S1.cn.a S1.cn.n S1.cn.c) (.slice S1.sn.a S1.sn.n S1.sn.c) (.int .i64 D1.tick) (.slice S1.cookie.a S1.cookie.n S1.cookie.c) (.slice S1.proof.a S1.proof.n S1.proof.c) (.int .i64 D1.epoch) (.int .i64 D1.seq) (.slice S1.body.a S1.body.n S1.body.c) (.slice S1.tag.a S1.tag.n S1.tag.c)
        have zr0 := hide ((drewB zM).cell 0 rfl)
        have zr1 := hide ((drewB zM).cell 1 rfl)
        have zr2 := hide ((drewB zM).cell 2 rfl)
        have zr3 := hide ((drewB zM).cell 3 rfl)
        have zr4 := hide ((drewB zM).cell 4 rfl)
        have zs0 := hide ((drewB zK).cell 0 rfl)
        have zs1 := hide ((drewB zK).cell 1 rfl)
        have zs2 := hide ((drewB zK).cell 2 rfl)
        have zs3 := hide ((drewB zK).cell 3 rfl)
        have zs4 := hide ((drewB zK).cell 4 rfl)
        have zs5 := hide ((drewB zK).cell 5 rfl)
        have zs6 := hide ((drewB zK).cell 6 rfl)
        have zs7 := hide ((drewB zK).cell 7 rfl)
        have zs8 := hide ((drewB zK).cell 8 rfl)
        have zs9 := hide ((drewB zK).cell 9 rfl)
        have zs10 := hide ((drewB zK).cell 10 rfl)
        clear zH zN zG zM zK
        go_region_held3 (fun w' => w'.cell? ⟨ge, 0, none⟩ = some (.int .i64 D0.n) ∧ w'.cell? ⟨ge, 1, none⟩ = some (.slice S0.key.a S0.key.n S0.key.c) ∧ w'.cell? ⟨ge, 2, none⟩ = some (.int .i64 D0.seq) ∧ w'.cell? ⟨ge, 3, none⟩ = some (.int .i64 D0.win.top) ∧ w'.cell? ⟨ge, 4, none⟩ = some (.slice S0.win.bits.a S0.win.bits.n S0.win.bits.c) ∧ w'.cell? ⟨gf, 0, none⟩ = some (.int .i64 D1.kind) ∧ w'.cell? ⟨gf, 1, none⟩ = some (.int .i64 D1.id) ∧ w'.cell? ⟨gf, 2, none⟩ = some (.slice S1.cn.a S1.cn.n S1.cn.c) ∧ w'.cell? ⟨gf, 3, none⟩ = some (.slice S1.sn.a S1.sn.n S1.sn.c) ∧ w'.cell? ⟨gf, 4, none⟩ = some (.int .i64 D1.tick) ∧ w'.cell? ⟨gf, 5, none⟩ = some (.slice S1.cookie.a S1.cookie.n S1.cookie.c) ∧ w'.cell? ⟨gf, 6, none⟩ = some (.slice S1.proof.a S1.proof.n S1.proof.c) ∧ w'.cell? ⟨gf, 7, none⟩ = some (.int .i64 D1.epoch) ∧ w'.cell? ⟨gf, 8, none⟩ = some (.int .i64 D1.seq) ∧ w'.cell? ⟨gf, 9, none⟩ = some (.slice S1.body.a S1.body.n S1.body.c) ∧ w'.cell? ⟨gf, 10, none⟩ = some (.slice S1.tag.a S1.tag.n S1.tag.c)) (first | with_reducible exact ⟨zr0.out, zr1.out, zr2.out, zr3.out, zr4.out, zs0.out, zs1.out, zs2.out, zs3.out, zs4.out, zs5.out, zs6.out, zs7.out, zs8.out, zs9.out, zs10.out⟩ | with_reducible exact ⟨zm0.out, zm1.out, zm2.out, zm3.out, zm4.out, zn0.out, zn1.out, zn2.out, zn3.out, zn4.out, zn5.out, zn6.out, zn7.out, zn8.out, zn9.out, zn10.out⟩ | with_reducible exact ⟨ze0, ze1, ze2, ze3, ze4, zf0, zf1, zf2, zf3, zf4, zf5, zf6, zf7, zf8, zf9, zf10⟩ | with_reducible exact ⟨xe0.out, xe1.out, xe2.out, xe3.out, xe4.out, xf0.out, xf1.out, xf2.out, xf3.out, xf4.out, xf5.out, xf6.out, xf7.out, xf8.out, xf9.out, xf10.out⟩ | go_keep) (fail)
        clear ze0 zm0 zr0 vo0 vp0 xe0 ze1 zm1 zr1 vo1 vp1 xe1 ze2 zm2 zr2 vo2 vp2 xe2 ze3 zm3 zr3 vo3 vp3 xe3 ze4 zm4 zr4 vo4 vp4 xe4 zf0 zn0 zs0 vh0 vg0 xf0 zf1 zn1 zs1 vh1 vg1 xf1 zf2 zn2 zs2 vh2 vg2 xf2 zf3 zn3 zs3 vh3 vg3 xf3 zf4 zn4 zs4 vh4 vg4 xf4 zf5 zn5 zs5 vh5 vg5 xf5 zf6 zn6 zs6 vh6 vg6 xf6 zf7 zn7 zs7 vh7 vg7 xf7 zf8 zn8 zs8 vh8 vg8 xf8 zf9 zn9 zs9 vh9 vg9 xf9 zf10 zn10 zs10 vh10 vg10 xf10
        go_wp2
        have SZF : Hid (w.heap.size ≤ gp ∧ gp + 1 = go ∧ go + 1 ≤ x2.heap.size ∧ x2.heap.size ≤ x3.heap.size ∧ x3.heap.size ≤ x10.heap.size ∧ go + 1 ≤ pz ∧ qz ≤ x10.heap.size) := by have := L1.out; have := GA.out; have := L2.out; have := HP.out; have := L3.out; have := L4.out; have := Gge.out; have := L5.out; have := L6.out; have := L7.out; have := L8.out; have := Z9.out; have := L9.out; have := L10.out; show _ ∧ _; omega
        obtain ⟨k1, k2, k3⟩ := ep_stored (D := D0) (S := S0) (lo := x2.heap.size) (hi := x3.heap.size) KP10.out OE10.out (.inl (by have := SZF.out; omega))
        have kh := ep_other KO10.out N5 (.int .i64 D0.n) (.slice S0.key.a S0.key.n S0.key.c) (.int .i64 D0.seq) (.int .i64 D0.win.top) (.slice S0.win.bits.a S0.win.bits.n S0.win.bits.c)
        have f1 := fr_put kh (.int .i64 D1.kind) (.int .i64 D1.id) (.slice S1.cn.a S1.cn.n S1.cn.c) (.slice S1.sn.a S1.sn.n S1.sn.c) (.int .i64 D1.tick) (.slice S1.cookie.a S1.cookie.n S1.cookie.c) (.slice S1.proof.a S1.proof.n S1.proof.c) (.int .i64 D1.epoch) (.int .i64 D1.seq) (.slice S1.body.a S1.body.n S1.body.c) (.slice S1.tag.a S1.tag.n S1.tag.c)
        have k4 := fr_other k1 (Ne.symm N5) (.int .i64 D1.kind) (.int .i64 D1.id) (.slice S1.cn.a S1.cn.n S1.cn.c) (.slice S1.sn.a S1.sn.n S1.sn.c) (.int .i64 D1.tick) (.slice S1.cookie.a S1.cookie.n S1.cookie.c) (.slice S1.proof.a S1.proof.n S1.proof.c) (.int .i64 D1.epoch) (.int .i64 D1.seq) (.slice S1.body.a S1.body.n S1.body.c) (.slice S1.tag.a S1.tag.n S1.tag.c)
        have of := (OF10.out.carry (ep_kept _ gp (.int .i64 D0.n) (.slice S0.key.a S0.key.n S0.key.c) (.int .i64 D0.seq) (.int .i64 D0.win.top) (.slice S0.win.bits.a S0.win.bits.n S0.win.bits.c)) (.inr (by have := SZF.out; omega))).carry (fr_kept _ go (.int .i64 D1.kind) (.int .i64 D1.id) (.slice S1.cn.a S1.cn.n S1.cn.c) (.slice S1.sn.a S1.sn.n S1.sn.c) (.int .i64 D1.tick) (.slice S1.cookie.a S1.cookie.n S1.cookie.c) (.slice S1.proof.a S1.proof.n S1.proof.c) (.int .i64 D1.epoch) (.int .i64 D1.seq) (.slice S1.body.a S1.body.n S1.body.c) (.slice S1.tag.a S1.tag.n S1.tag.c)) (.inr (by have := SZF.out; omega))
        have oe := k2.carry (fr_kept _ go (.int .i64 D1.kind) (.int .i64 D1.id) (.slice S1.cn.a S1.cn.n S1.cn.c) (.slice S1.sn.a S1.sn.n S1.sn.c) (.int .i64 D1.tick) (.slice S1.cookie.a S1.cookie.n S1.cookie.c) (.slice S1.proof.a S1.proof.n S1.proof.c) (.int .i64 D1.epoch) (.int .i64 D1.seq) (.slice S1.body.a S1.body.n S1.body.c) (.slice S1.tag.a S1.tag.n S1.tag.c)) (.inr (by have := SZF.out; omega))
        have b9 := fr_low (k3 _ _ (show w.heap.size ≤ gp by have := SZF.out; omega) B10.out) (g := go) (by have := SZF.out; omega) (.int .i64 D1.kind) (.int .i64 D1.id) (.slice S1.cn.a S1.cn.n S1.cn.c) (.slice S1.sn.a S1.sn.n S1.sn.c) (.int .i64 D1.tick) (.slice S1.cookie.a S1.cookie.n S1.cookie.c) (.slice S1.proof.a S1.proof.n S1.proof.c) (.int .i64 D1.epoch) (.int .i64 D1.seq) (.slice S1.body.a S1.body.n S1.body.c) (.slice S1.tag.a S1.tag.n S1.tag.c)
        exact bodyPost_ret (v := .tuple #[epV D0 S0, .int .i64 ro, frV D1 S1]) (res3 rfl (is_cell rfl (drewB k4) aggEp) (is_tmp rfl) (is_cell rfl (drewB f1) aggFr)) rfl ⟨D0, S0, ro, D1, S1, rfl, HS0.out, (oe.later ((Below.refl _ _).drew)).rd, (of.later ((Below.refl _ _).drew)).rd, b9.drew⟩
end Go.Proofs.YtmcflfpckpjphaaGreatDoor.DrOp
