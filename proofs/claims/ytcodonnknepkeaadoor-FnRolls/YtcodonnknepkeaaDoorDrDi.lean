/-
  What spec.l10Draw, spec.l10Any and spec.DrawRoll give: dice, right or not.
-/
import Derived.Test.YtcodonnknepkeaaDoorDra1
import Derived.Test.YtcodonnknepkeaaDoorDig1
import Derived.Test.YtcodonnknepkeaaDoorShp
namespace Go.Proofs.YtcodonnknepkeaaDoor.DrDi
open Go.RowKit Go.Proofs.YtcodonnknepkeaaDoor.Mem Go.Proofs.YtcodonnknepkeaaDoor.App Go.Proofs.YtcodonnknepkeaaDoor.Blk Go.Proofs.YtcodonnknepkeaaDoor.Zone Go.Proofs.YtcodonnknepkeaaDoor.Draw Go.Proofs.YtcodonnknepkeaaDoor.Res Go.Proofs.YtcodonnknepkeaaDoor.DrN Go.Proofs.YtcodonnknepkeaaDoor.DiZ Go.Proofs.YtcodonnknepkeaaDoor.DiL Go.Proofs.YtcodonnknepkeaaDoor.Shp
set_option maxRecDepth 100000 in
theorem di_num {w : World} {lo hi : Nat} {S : DiS} {D : DiD} (z : Int) (h : DiOwn w lo hi S D) : DiOwn w lo hi S ⟨D.seed, z⟩ := ⟨h.seed, h.apart⟩
set_option maxRecDepth 100000 in
theorem di_made {w : World} {lo hi : Nat} {s : Sl} {l : List Int} (z : Int) (h : SOwn w lo hi s l) : DiOwn w lo hi ⟨s⟩ ⟨l, z⟩ := ⟨h, ⟨⟩⟩
/-- Dice were drawn. -/
def DrewD (W0 : World) (a : Option Addr) (len cap : Nat) (l : List Int) (p : Nat) (w : World) : Ending → World → Prop := fun e w' => ∃ (S : DiS) (D : DiD), e = .returned (diV D S) ∧ DiShort D 65536 ∧ DiOwn w' w.heap.size w'.heap.size S D ∧ Ready W0 a len cap l p w' ∧ But p w w'

set_option maxRecDepth 100000 in
set_option maxHeartbeats 8000000 in
theorem l10Draw {W0 : World} {a : Option Addr} {len cap : Nat} {l : List Int} {p : Nat} {w : World} (h : Ready W0 a len cap l p w) :
    Calls Tryd.prog 39 #[.pointer (some ⟨p, 0, none⟩)] w (DrewD W0 a len cap l p w) := by
  have HP : Hid (p < w.heap.size ∧ W0.heap.size ≤ p) := ⟨h.hc.lt, h.hp⟩
  have R0 : Hid (Ready W0 a len cap l p w) := h
  have B0 : Hid (But p w w) := But.refl p w
  clear h
  obtain ⟨x1, hx1⟩ : ∃ x1, (w.alloc (.cells #[.slice none 0 0, .int .i64 0] 25)) = x1 := ⟨_, rfl⟩
  have HWA : Hid ((w.alloc (.cells #[.slice none 0 0, .int .i64 0] 25)) = x1) := hx1
  have b1 : Below w.heap.size w x1 := by rw [← hx1]; exact ((Below.refl _ _).alloc (Nat.le_refl _) _)
  have KON : Blk x1 (w.heap.size) 25 [.slice none 0 0, .int .i64 0] := by
    have q := (Blk.new w 25 [.slice none 0 0, .int .i64 0])
    skip
    rw [← hx1]; exact q
  have SZA : x1.heap.size = w.heap.size + 1 := by rw [← hx1]; simp
  clear hx1
  have L1 : Hid (w.heap.size ≤ x1.heap.size) := b1.size
  have R1 : Hid (Ready W0 a len cap l p x1) := rdyL R0.out b1
  have B1 : Hid (But p w x1) := butL B0.out b1
  clear R0 B0 b1
  go_enter Tryd.func39, Tryd.ntmps39
  go_upto_region 1 with fail
  rw [HWA.out]
  obtain ⟨go, hgo⟩ : ∃ g, w.heap.size = g := ⟨_, rfl⟩
  have GA : Hid (w.heap.size = go ∧ x1.heap.size = go + 1) := ⟨hgo, by omega⟩
  rw [hgo] at KON
  rw [hgo]
  clear HWA SZA hgo
  have KO1 : Hid (Blk x1 go 25 [.slice none 0 0, .int .i64 0]) := KON
  clear KON
  go_wp2_with fail
  refine (Draw.below R1.out 32 (by omega) (by omega)).mono ?_
  rintro e x2 ⟨v, rfl, va, vb, r, b⟩
  have VBv : Hid (0 ≤ v ∧ v < 32) := ⟨va, vb⟩
  clear va vb
  have L2 : Hid (x1.heap.size ≤ x2.heap.size) := b.size
  have KQ : Kept p (p + 1) x1 x2 := Kept.of_grown b
  have R2 : Hid (Ready W0 a len cap l p x2) := r
  have B2 : Hid (But p w x2) := B1.out.trans b
  have KO2 : Hid (Blk x2 go 25 [.slice none 0 0, .int .i64 0]) := KO1.out.keep (KQ.block _ KO1.out.lt (by have := HP.out; have := L1.out; have := GA.out; have := L2.out; omega))
  clear R1 B1 KO1 b
  clear KQ r
  obtain ⟨V, hV⟩ : ∃ V : Nat, 1 + v = (V : Int) := Int.eq_ofNat_of_zero_le (by have := VBv.out; omega)
  have HV : Hid (V ≤ 32) := by have := VBv.out; show _ ≤ _; omega
  have hw : IntKind.i64.wrap (1 + v) = (V : Int) := by rw [IntKind.wrap_i64]; have := VBv.out; omega
  clear hV
  go_wp2_with fail
  refine (bytesOf R2.out V (by have := HV.out; omega)).mono ?_
  rintro e x3 ⟨gs, cs, ls, rfl, el, hb, kg, row, r, b⟩
  have oN : SOwn x3 x2.heap.size x3.heap.size ⟨some ⟨gs, 0, none⟩, V, cs⟩ ls := SOwn.row row el hb kg row.lt
  have ELs : Hid (V = ls.length) := el
  clear el hb kg row
  have L3 : Hid (x2.heap.size ≤ x3.heap.size) := b.size
  have KQ : Kept p (p + 1) x2 x3 := Kept.of_grown b
  have R3 : Hid (Ready W0 a len cap l p x3) := r
  have B3 : Hid (But p w x3) := B2.out.trans b
  have KO3 : Hid (Blk x3 go 25 [.slice none 0 0, .int .i64 0]) := KO2.out.keep (KQ.block _ KO2.out.lt (by have := HP.out; have := L1.out; have := GA.out; have := L2.out; have := L3.out; omega))
  clear R2 B2 KO2 b
  clear KQ r
  have Os_3 : Hid (SOwn x3 x2.heap.size x3.heap.size ⟨some ⟨gs, 0, none⟩, V, cs⟩ ls) := oN
  clear oN
  go_wp2_with fail
  refine (Draw.below R3.out 40 (by omega) (by omega)).mono ?_
  rintro e x4 ⟨z, rfl, va, vb, r, b⟩
  have VBz : Hid (0 ≤ z ∧ z < 40) := ⟨va, vb⟩
  clear va vb
  have L4 : Hid (x3.heap.size ≤ x4.heap.size) := b.size
  have KQ : Kept p (p + 1) x3 x4 := Kept.of_grown b
  have R4 : Hid (Ready W0 a len cap l p x4) := r
  have B4 : Hid (But p w x4) := B3.out.trans b
  have KO4 : Hid (Blk x4 go 25 [.slice none 0 0, .int .i64 0]) := KO3.out.keep (KQ.block _ KO3.out.lt (by have := HP.out; have := L1.out; have := GA.out; have := L2.out; have := L3.out; have := L4.out; omega))
  have Os_4 : Hid (SOwn x4 x2.heap.size x3.heap.size ⟨some ⟨gs, 0, none⟩, V, cs⟩ ls) := Os_3.out.carry KQ (by have := HP.out; have := L1.out; have := GA.out; have := L2.out; have := L3.out; have := L4.out; omega)
  clear R3 B3 KO3 Os_3 b
  clear KQ r
  have f0 := KO4.out.cell 0 rfl
  have f1 := KO4.out.cell 1 rfl
  have g0 := KO4.out.frozen 0
  have g1 := KO4.out.frozen 1
  go_wp2
  have SZF : Hid (w.heap.size ≤ go ∧ go + 1 ≤ x2.heap.size ∧ x2.heap.size ≤ x3.heap.size ∧ x3.heap.size ≤ x4.heap.size) := by have := HP.out; have := L1.out; have := GA.out; have := L2.out; have := L3.out; have := L4.out; show _ ∧ _; omega
  obtain ⟨k1, k2, k3⟩ := di_stored (D := ⟨ls, z⟩) (S := ⟨⟨some ⟨gs, 0, none⟩, V, cs⟩⟩) (lo := x2.heap.size) (hi := x3.heap.size) KO4.out (di_made z Os_4.out) (.inl (by have := SZF.out; omega))
  have KP := di_kept x4 go (.slice (some ⟨gs, 0, none⟩) V cs) (.int .i64 z)
  exact bodyPost_ret (v := diV ⟨ls, z⟩ ⟨⟨some ⟨gs, 0, none⟩, V, cs⟩⟩) (res1 rfl (is_cell rfl k1 aggDi)) rfl ⟨⟨⟨some ⟨gs, 0, none⟩, V, cs⟩⟩, ⟨ls, z⟩, rfl, ⟨by show ls.length ≤ _; have := ELs.out; have := HV.out; omega⟩, k2.mono (by have := SZF.out; omega) (by rw [di_size]; have := SZF.out; omega), rdyK R4.out KP (by have := HP.out; have := L1.out; have := GA.out; have := L2.out; have := L3.out; have := L4.out; omega), butK B4.out KP (by have := SZF.out; omega)⟩

set_option maxRecDepth 100000 in
set_option maxHeartbeats 8000000 in
theorem l10Any {W0 : World} {a : Option Addr} {len cap : Nat} {l : List Int} {p : Nat} {w : World} (h : Ready W0 a len cap l p w) :
    Calls Tryd.prog 26 #[.pointer (some ⟨p, 0, none⟩)] w (DrewD W0 a len cap l p w) := by
  have HP : Hid (p < w.heap.size ∧ W0.heap.size ≤ p) := ⟨h.hc.lt, h.hp⟩
  have R0 : Hid (Ready W0 a len cap l p w) := h
  have B0 : Hid (But p w w) := But.refl p w
  clear h
  obtain ⟨x1, hx1⟩ : ∃ x1, (w.alloc (.cells #[.slice none 0 0, .int .i64 0] 25)) = x1 := ⟨_, rfl⟩
  have HWA : Hid ((w.alloc (.cells #[.slice none 0 0, .int .i64 0] 25)) = x1) := hx1
  have b1 : Below w.heap.size w x1 := by rw [← hx1]; exact ((Below.refl _ _).alloc (Nat.le_refl _) _)
  have KON : Blk x1 (w.heap.size) 25 [.slice none 0 0, .int .i64 0] := by
    have q := (Blk.new w 25 [.slice none 0 0, .int .i64 0])
    skip
    rw [← hx1]; exact q
  have SZA : x1.heap.size = w.heap.size + 1 := by rw [← hx1]; simp
  clear hx1
  have L1 : Hid (w.heap.size ≤ x1.heap.size) := b1.size
  have R1 : Hid (Ready W0 a len cap l p x1) := rdyL R0.out b1
  have B1 : Hid (But p w x1) := butL B0.out b1
  clear R0 B0 b1
  go_enter Tryd.func26, Tryd.ntmps26
  go_upto_region 1 with fail
  rw [HWA.out]
  obtain ⟨go, hgo⟩ : ∃ g, w.heap.size = g := ⟨_, rfl⟩
  have GA : Hid (w.heap.size = go ∧ x1.heap.size = go + 1) := ⟨hgo, by omega⟩
  rw [hgo] at KON
  rw [hgo]
  clear HWA SZA hgo
  have KO1 : Hid (Blk x1 go 25 [.slice none 0 0, .int .i64 0]) := KON
  clear KON
  go_wp2_with fail
  refine (l10Draw R1.out).mono ?_
  rintro e x2 ⟨S0, D0, rfl, sh, o, r, b⟩
  have HS0 : Hid (DiShort D0 65536) := sh
  clear sh
  have L2 : Hid (x1.heap.size ≤ x2.heap.size) := b.size
  have KQ : Kept p (p + 1) x1 x2 := Kept.of_grown b
  have R2 : Hid (Ready W0 a len cap l p x2) := r
  have B2 : Hid (But p w x2) := B1.out.trans b
  have KO2 : Hid (Blk x2 go 25 [.slice none 0 0, .int .i64 0]) := KO1.out.keep (KQ.block _ KO1.out.lt (by have := HP.out; have := L1.out; have := GA.out; have := L2.out; omega))
  clear R1 B1 KO1 b
  clear KQ r
  have OE2 : Hid (DiOwn x2 x1.heap.size x2.heap.size S0 D0) := o
  clear o
  obtain ⟨x3, hx3⟩ : ∃ x3, x2.alloc (.cells #[.slice S0.seed.a S0.seed.n S0.seed.c, .int .i64 D0.num] 25) = x3 := ⟨_, rfl⟩
  have HW3 : Hid (x2.alloc (.cells #[.slice S0.seed.a S0.seed.n S0.seed.c, .int .i64 D0.num] 25) = x3) := hx3
  have b3 : Below x2.heap.size x2 x3 := by rw [← hx3]; exact (Below.refl _ _).alloc (Nat.le_refl _) _
  have KN : Blk x3 x2.heap.size 25 [.slice S0.seed.a S0.seed.n S0.seed.c, .int .i64 D0.num] := by rw [← hx3]; exact Blk.new x2 _ _
  have HSZ3 : Hid (x3.heap.size = x2.heap.size + 1) := by rw [← hx3]; show _ = _; simp
  clear hx3
  have L3 : Hid (x2.heap.size ≤ x3.heap.size) := b3.size
  have R3 : Hid (Ready W0 a len cap l p x3) := rdyL R2.out b3
  have B3 : Hid (But p w x3) := butL B2.out b3
  have KO3 : Hid (Blk x3 go 25 [.slice none 0 0, .int .i64 0]) := KO2.out.later b3
  have OE3 : Hid (DiOwn x3 x1.heap.size x2.heap.size S0 D0) := OE2.out.later b3
  clear R2 B2 KO2 OE2 b3
  unfold diV
  go_upto_region 2 with fail
  rw [HW3.out]
  obtain ⟨ge, hge⟩ : ∃ g, x2.heap.size = g := ⟨_, rfl⟩
  have Gge : Hid (x2.heap.size = ge ∧ x3.heap.size = ge + 1) := ⟨hge, by rw [← hge]; exact HSZ3.out⟩
  rw [hge] at KN ⊢
  clear HW3 HSZ3 hge
  have KE3 : Hid (Blk x3 ge 25 [.slice S0.seed.a S0.seed.n S0.seed.c, .int .i64 D0.num]) := KN
  clear KN
  go_wp2_with fail
  refine (Draw.below R3.out 5 (by omega) (by omega)).mono ?_
  rintro e x4 ⟨v, rfl, va, vb, r, b⟩
  have VBv : Hid (0 ≤ v ∧ v < 5) := ⟨va, vb⟩
  clear va vb
  have L4 : Hid (x3.heap.size ≤ x4.heap.size) := b.size
  have KQ : Kept p (p + 1) x3 x4 := Kept.of_grown b
  have R4 : Hid (Ready W0 a len cap l p x4) := r
  have B4 : Hid (But p w x4) := B3.out.trans b
  have KO4 : Hid (Blk x4 go 25 [.slice none 0 0, .int .i64 0]) := KO3.out.keep (KQ.block _ KO3.out.lt (by have := HP.out; have := L1.out; have := GA.out; have := L2.out; have := L3.out; have := Gge.out; have := L4.out; omega))
  have OE4 : Hid (DiOwn x4 x1.heap.size x2.heap.size S0 D0) := OE3.out.carry KQ (by have := HP.out; have := L1.out; have := GA.out; have := L2.out; have := L3.out; have := Gge.out; have := L4.out; omega)
  have KE4 : Hid (Blk x4 ge 25 [.slice S0.seed.a S0.seed.n S0.seed.c, .int .i64 D0.num]) := KE3.out.keep (KQ.block _ KE3.out.lt (by have := HP.out; have := L1.out; have := GA.out; have := L2.out; have := L3.out; have := Gge.out; have := L4.out; omega))
  clear R3 B3 KO3 OE3 KE3 b
  clear KQ r
  cases ev0 : (v == 0) with
  | true =>
    obtain rfl : v = 0 := by simpa using ev0
    go_wp2_with fail
    refine (intOfList (R4.out.alloc _) x4.heap.size 4 [-1, 9999, 10000, 10001] rfl (ints_new x4 _) (by have := R4.out.hc.lt; omega) (by omega) (by omega)).mono ?_
    rintro e x5 ⟨z, rfl, vm, r, b0⟩
    have VMz : Hid (z ∈ ([-1, 9999, 10000, 10001] : List Int)) := vm
    have b : But p x4 x5 := ((But.refl p x4).alloc _).trans b0
    clear vm b0
    have L5 : Hid (x4.heap.size ≤ x5.heap.size) := b.size
    have KQ : Kept p (p + 1) x4 x5 := Kept.of_grown b
    have R5 : Hid (Ready W0 a len cap l p x5) := r
    have B5 : Hid (But p w x5) := B4.out.trans b
    have KO5 : Hid (Blk x5 go 25 [.slice none 0 0, .int .i64 0]) := KO4.out.keep (KQ.block _ KO4.out.lt (by have := HP.out; have := L1.out; have := GA.out; have := L2.out; have := L3.out; have := Gge.out; have := L4.out; have := L5.out; omega))
    have OE5 : Hid (DiOwn x5 x1.heap.size x2.heap.size S0 D0) := OE4.out.carry KQ (by have := HP.out; have := L1.out; have := GA.out; have := L2.out; have := L3.out; have := Gge.out; have := L4.out; have := L5.out; omega)
    have KE5 : Hid (Blk x5 ge 25 [.slice S0.seed.a S0.seed.n S0.seed.c, .int .i64 D0.num]) := KE4.out.keep (KQ.block _ KE4.out.lt (by have := HP.out; have := L1.out; have := GA.out; have := L2.out; have := L3.out; have := Gge.out; have := L4.out; have := L5.out; omega))
    clear R4 B4 KO4 OE4 KE4 b
    clear KQ r
    have co1 := KE5.out.cell 1 rfl
    have fo1 := KE5.out.frozen 1
    obtain ⟨x6, hx6⟩ : ∃ y, (x5.setCell ⟨ge, 1, none⟩ (.int .i64 z)) = y := ⟨_, rfl⟩
    have HW6 : Hid ((x5.setCell ⟨ge, 1, none⟩ (.int .i64 z)) = x6) := hx6
    have L6 : Hid (x6.heap.size = x5.heap.size) := by rw [← hx6]; show _ = _; simp
    have KS : Blk x6 ge 25 [.slice S0.seed.a S0.seed.n S0.seed.c, .int .i64 z] := by rw [← hx6]; exact (KE5.out.set 1 _ (by simp [maxLen]))
    have KQ : Kept ge (ge + 1) x5 x6 := by rw [← hx6]; exact (Kept.setCell _ _ _ _)
    clear hx6
    have R6 : Hid (Ready W0 a len cap l p x6) := rdyK R5.out KQ (by have := HP.out; have := L1.out; have := GA.out; have := L2.out; have := L3.out; have := Gge.out; have := L4.out; have := L5.out; have := L6.out; omega)
    have B6 : Hid (But p w x6) := butK B5.out KQ (by have := HP.out; have := L1.out; have := GA.out; have := L2.out; have := L3.out; have := Gge.out; have := L4.out; have := L5.out; have := L6.out; omega)
    have KO6 : Hid (Blk x6 go 25 [.slice none 0 0, .int .i64 0]) := KO5.out.keep (KQ.block _ KO5.out.lt (by have := HP.out; have := L1.out; have := GA.out; have := L2.out; have := L3.out; have := Gge.out; have := L4.out; have := L5.out; have := L6.out; omega))
    have OE6 : Hid (DiOwn x6 x1.heap.size x2.heap.size S0 D0) := OE5.out.carry KQ (by have := HP.out; have := L1.out; have := GA.out; have := L2.out; have := L3.out; have := Gge.out; have := L4.out; have := L5.out; have := L6.out; omega)
    clear R5 B5 KO5 OE5 KQ
    clear KE5
    have KE6 : Hid (Blk x6 ge 25 [.slice S0.seed.a S0.seed.n S0.seed.c, .int .i64 z]) := KS
    clear KS
    go_upto_region 7 with fail
    rw [HW6.out]
    clear HW6 co1 fo1
    have d0 := KE6.out.cell 0 rfl
    have d1 := KE6.out.cell 1 rfl
    have f0 := KO6.out.cell 0 rfl
    have f1 := KO6.out.cell 1 rfl
    have g0 := KO6.out.frozen 0
    have g1 := KO6.out.frozen 1
    go_wp2
    have SZF : Hid (w.heap.size ≤ go ∧ go + 1 ≤ x1.heap.size ∧ x1.heap.size ≤ x2.heap.size ∧ x2.heap.size ≤ x6.heap.size) := by have := HP.out; have := L1.out; have := GA.out; have := L2.out; have := L3.out; have := Gge.out; have := L4.out; have := L5.out; have := L6.out; show _ ∧ _; omega
    obtain ⟨k1, k2, k3⟩ := di_stored (D := ⟨D0.seed, z⟩) (S := S0) (lo := x1.heap.size) (hi := x2.heap.size) KO6.out (di_num z OE6.out) (.inl (by have := SZF.out; omega))
    have KP := di_kept x6 go (.slice S0.seed.a S0.seed.n S0.seed.c) (.int .i64 z)
    exact bodyPost_ret (v := diV ⟨D0.seed, z⟩ S0) (res1 rfl (is_cell rfl k1 aggDi)) rfl ⟨S0, ⟨D0.seed, z⟩, rfl, ⟨HS0.out.seed⟩, k2.mono (by have := SZF.out; omega) (by rw [di_size]; have := SZF.out; omega), rdyK R6.out KP (by have := HP.out; have := L1.out; have := GA.out; have := L2.out; have := L3.out; have := Gge.out; have := L4.out; have := L5.out; have := L6.out; omega), butK B6.out KP (by have := SZF.out; omega)⟩
  | false =>
    cases ev1 : (v == 1) with
    | true =>
      obtain rfl : v = 1 := by simpa using ev1
      go_wp2_with fail
      refine (intOfList (R4.out.alloc _) x4.heap.size 3 [0, 33, 1] rfl (ints_new x4 _) (by have := R4.out.hc.lt; omega) (by omega) (by omega)).mono ?_
      rintro e x5 ⟨z, rfl, vm, r, b0⟩
      have VMz : Hid (z ∈ ([0, 33, 1] : List Int)) := vm
      have b : But p x4 x5 := ((But.refl p x4).alloc _).trans b0
      clear vm b0
      have L5 : Hid (x4.heap.size ≤ x5.heap.size) := b.size
      have KQ : Kept p (p + 1) x4 x5 := Kept.of_grown b
      have R5 : Hid (Ready W0 a len cap l p x5) := r
      have B5 : Hid (But p w x5) := B4.out.trans b
      have KO5 : Hid (Blk x5 go 25 [.slice none 0 0, .int .i64 0]) := KO4.out.keep (KQ.block _ KO4.out.lt (by have := HP.out; have := L1.out; have := GA.out; have := L2.out; have := L3.out; have := Gge.out; have := L4.out; have := L5.out; omega))
      have OE5 : Hid (DiOwn x5 x1.heap.size x2.heap.size S0 D0) := OE4.out.carry KQ (by have := HP.out; have := L1.out; have := GA.out; have := L2.out; have := L3.out; have := Gge.out; have := L4.out; have := L5.out; omega)
      have KE5 : Hid (Blk x5 ge 25 [.slice S0.seed.a S0.seed.n S0.seed.c, .int .i64 D0.num]) := KE4.out.keep (KQ.block _ KE4.out.lt (by have := HP.out; have := L1.out; have := GA.out; have := L2.out; have := L3.out; have := Gge.out; have := L4.out; have := L5.out; omega))
      clear R4 B4 KO4 OE4 KE4 b
      clear KQ r
      have hv : 0 ≤ z ∧ z ≤ 33 := by have q := VMz.out; simp only [List.mem_cons, List.mem_nil_iff, or_false] at q; omega
      obtain ⟨Z, rfl⟩ := Int.eq_ofNat_of_zero_le hv.1
      have HNZ : Hid (Z ≤ 33) := by have := hv.2; show _ ≤ _; omega
      clear hv
      go_wp2_with fail
      refine (bytesOf R5.out Z (by have := HNZ.out; omega)).mono ?_
      rintro e x6 ⟨gt, ct, lt, rfl, el, hb, kg, row, r, b⟩
      have oN : SOwn x6 x5.heap.size x6.heap.size ⟨some ⟨gt, 0, none⟩, Z, ct⟩ lt := SOwn.row row el hb kg row.lt
      have ELt : Hid (Z = lt.length) := el
      clear el hb kg row
      have L6 : Hid (x5.heap.size ≤ x6.heap.size) := b.size
      have KQ : Kept p (p + 1) x5 x6 := Kept.of_grown b
      have R6 : Hid (Ready W0 a len cap l p x6) := r
      have B6 : Hid (But p w x6) := B5.out.trans b
      have KO6 : Hid (Blk x6 go 25 [.slice none 0 0, .int .i64 0]) := KO5.out.keep (KQ.block _ KO5.out.lt (by have := HP.out; have := L1.out; have := GA.out; have := L2.out; have := L3.out; have := Gge.out; have := L4.out; have := L5.out; have := L6.out; omega))
      have OE6 : Hid (DiOwn x6 x1.heap.size x2.heap.size S0 D0) := OE5.out.carry KQ (by have := HP.out; have := L1.out; have := GA.out; have := L2.out; have := L3.out; have := Gge.out; have := L4.out; have := L5.out; have := L6.out; omega)
      have KE6 : Hid (Blk x6 ge 25 [.slice S0.seed.a S0.seed.n S0.seed.c, .int .i64 D0.num]) := KE5.out.keep (KQ.block _ KE5.out.lt (by have := HP.out; have := L1.out; have := GA.out; have := L2.out; have := L3.out; have := Gge.out; have := L4.out; have := L5.out; have := L6.out; omega))
      clear R5 B5 KO5 OE5 KE5 b
      clear KQ r
      have Ot_6 : Hid (SOwn x6 x5.heap.size x6.heap.size ⟨some ⟨gt, 0, none⟩, Z, ct⟩ lt) := oN
      clear oN
      have co0 := KE6.out.cell 0 rfl
      have fo0 := KE6.out.frozen 0
      obtain ⟨x7, hx7⟩ : ∃ y, (x6.setCell ⟨ge, 0, none⟩ (.slice (some ⟨gt, 0, none⟩) Z ct)) = y := ⟨_, rfl⟩
      have HW7 : Hid ((x6.setCell ⟨ge, 0, none⟩ (.slice (some ⟨gt, 0, none⟩) Z ct)) = x7) := hx7
      have L7 : Hid (x7.heap.size = x6.heap.size) := by rw [← hx7]; show _ = _; simp
      have KS : Blk x7 ge 25 [.slice (some ⟨gt, 0, none⟩) Z ct, .int .i64 D0.num] := by rw [← hx7]; exact (KE6.out.set 0 _ (by simp [maxLen]))
      have KQ : Kept ge (ge + 1) x6 x7 := by rw [← hx7]; exact (Kept.setCell _ _ _ _)
      clear hx7
      have R7 : Hid (Ready W0 a len cap l p x7) := rdyK R6.out KQ (by have := HP.out; have := L1.out; have := GA.out; have := L2.out; have := L3.out; have := Gge.out; have := L4.out; have := L5.out; have := L6.out; have := L7.out; omega)
      have B7 : Hid (But p w x7) := butK B6.out KQ (by have := HP.out; have := L1.out; have := GA.out; have := L2.out; have := L3.out; have := Gge.out; have := L4.out; have := L5.out; have := L6.out; have := L7.out; omega)
      have KO7 : Hid (Blk x7 go 25 [.slice none 0 0, .int .i64 0]) := KO6.out.keep (KQ.block _ KO6.out.lt (by have := HP.out; have := L1.out; have := GA.out; have := L2.out; have := L3.out; have := Gge.out; have := L4.out; have := L5.out; have := L6.out; have := L7.out; omega))
      have OE7 : Hid (DiOwn x7 x1.heap.size x2.heap.size S0 D0) := OE6.out.carry KQ (by have := HP.out; have := L1.out; have := GA.out; have := L2.out; have := L3.out; have := Gge.out; have := L4.out; have := L5.out; have := L6.out; have := L7.out; omega)
      have Ot_7 : Hid (SOwn x7 x5.heap.size x6.heap.size ⟨some ⟨gt, 0, none⟩, Z, ct⟩ lt) := Ot_6.out.carry KQ (by have := HP.out; have := L1.out; have := GA.out; have := L2.out; have := L3.out; have := Gge.out; have := L4.out; have := L5.out; have := L6.out; have := L7.out; omega)
      clear R6 B6 KO6 OE6 Ot_6 KQ
      clear KE6
      have KE7 : Hid (Blk x7 ge 25 [.slice (some ⟨gt, 0, none⟩) Z ct, .int .i64 D0.num]) := KS
      clear KS
      go_upto_region 7 with fail
      rw [HW7.out]
      clear HW7 co0 fo0
      have d0 := KE7.out.cell 0 rfl
      have d1 := KE7.out.cell 1 rfl
      have f0 := KO7.out.cell 0 rfl
      have f1 := KO7.out.cell 1 rfl
      have g0 := KO7.out.frozen 0
      have g1 := KO7.out.frozen 1
      go_wp2
      have SZF : Hid (w.heap.size ≤ go ∧ go + 1 ≤ x5.heap.size ∧ x5.heap.size ≤ x6.heap.size ∧ x6.heap.size ≤ x7.heap.size) := by have := HP.out; have := L1.out; have := GA.out; have := L2.out; have := L3.out; have := Gge.out; have := L4.out; have := L5.out; have := L6.out; have := L7.out; show _ ∧ _; omega
      obtain ⟨k1, k2, k3⟩ := di_stored (D := ⟨lt, D0.num⟩) (S := ⟨⟨some ⟨gt, 0, none⟩, Z, ct⟩⟩) (lo := x5.heap.size) (hi := x6.heap.size) KO7.out (di_made D0.num Ot_7.out) (.inl (by have := SZF.out; omega))
      have KP := di_kept x7 go (.slice (some ⟨gt, 0, none⟩) Z ct) (.int .i64 D0.num)
      exact bodyPost_ret (v := diV ⟨lt, D0.num⟩ ⟨⟨some ⟨gt, 0, none⟩, Z, ct⟩⟩) (res1 rfl (is_cell rfl k1 aggDi)) rfl ⟨⟨⟨some ⟨gt, 0, none⟩, Z, ct⟩⟩, ⟨lt, D0.num⟩, rfl, ⟨by show lt.length ≤ _; have := ELt.out; have := HNZ.out; omega⟩, k2.mono (by have := SZF.out; omega) (by rw [di_size]; have := SZF.out; omega), rdyK R7.out KP (by have := HP.out; have := L1.out; have := GA.out; have := L2.out; have := L3.out; have := Gge.out; have := L4.out; have := L5.out; have := L6.out; have := L7.out; omega), butK B7.out KP (by have := SZF.out; omega)⟩
    | false =>
      go_upto_region 7 with fail
      have d0 := KE4.out.cell 0 rfl
      have d1 := KE4.out.cell 1 rfl
      have f0 := KO4.out.cell 0 rfl
      have f1 := KO4.out.cell 1 rfl
      have g0 := KO4.out.frozen 0
      have g1 := KO4.out.frozen 1
      go_wp2
      have SZF : Hid (w.heap.size ≤ go ∧ go + 1 ≤ x1.heap.size ∧ x1.heap.size ≤ x2.heap.size ∧ x2.heap.size ≤ x4.heap.size) := by have := HP.out; have := L1.out; have := GA.out; have := L2.out; have := L3.out; have := Gge.out; have := L4.out; show _ ∧ _; omega
      obtain ⟨k1, k2, k3⟩ := di_stored (D := D0) (S := S0) (lo := x1.heap.size) (hi := x2.heap.size) KO4.out (OE4.out) (.inl (by have := SZF.out; omega))
      have KP := di_kept x4 go (.slice S0.seed.a S0.seed.n S0.seed.c) (.int .i64 D0.num)
      exact bodyPost_ret (v := diV D0 S0) (res1 rfl (is_cell rfl k1 aggDi)) rfl ⟨S0, D0, rfl, HS0.out, k2.mono (by have := SZF.out; omega) (by rw [di_size]; have := SZF.out; omega), rdyK R4.out KP (by have := HP.out; have := L1.out; have := GA.out; have := L2.out; have := L3.out; have := Gge.out; have := L4.out; omega), butK B4.out KP (by have := SZF.out; omega)⟩

set_option maxRecDepth 100000 in
set_option maxHeartbeats 8000000 in
theorem drawRoll (a : Option Addr) (len cap : Nat) (l : List Int) (w : World) (hl : len = l.length) (hr : Rd w a l) (hb : Bytes l) (hlen : len ≤ 1048576) :
    Calls Tryd.prog 7 #[.slice a len cap] w fun e w' => ∃ (D : DiD) (S : DiS), e = .returned (diV D S) ∧ DiShort D 65536 ∧ DiRd w' S D ∧ Below w.heap.size w w' := by
  have HR : Hid (Rd w a l) := hr
  have HL : Hid (len = l.length) := hl
  have HB : Hid (Bytes l) := hb
  clear hr hl hb
  have B0 : Hid (Below w.heap.size w w) := Below.refl _ _
  obtain ⟨x1, hx1⟩ : ∃ x1, (w.alloc (.cells #[.slice none 0 0, .int .i64 0] 25)) = x1 := ⟨_, rfl⟩
  have HWA : Hid ((w.alloc (.cells #[.slice none 0 0, .int .i64 0] 25)) = x1) := hx1
  have b1 : Below w.heap.size w x1 := by rw [← hx1]; exact ((Below.refl _ _).alloc (Nat.le_refl _) _)
  have KON : Blk x1 (w.heap.size) 25 [.slice none 0 0, .int .i64 0] := by
    have q := (Blk.new w 25 [.slice none 0 0, .int .i64 0])
    skip
    rw [← hx1]; exact q
  have SZA : x1.heap.size = w.heap.size + 1 := by rw [← hx1]; simp
  clear hx1
  have L1 : Hid (w.heap.size ≤ x1.heap.size) := b1.size
  have B1 : Hid (Below w.heap.size w x1) := B0.out.trans (b1.mono B0.out.size)
  clear B0 b1
  go_enter Tryd.func7, Tryd.ntmps7
  go_upto_region 1 with fail
  rw [HWA.out]
  obtain ⟨go, hgo⟩ : ∃ g, w.heap.size = g := ⟨_, rfl⟩
  have GA : Hid (w.heap.size = go ∧ x1.heap.size = go + 1) := ⟨hgo, by omega⟩
  rw [hgo] at KON
  rw [hgo]
  clear HWA SZA hgo
  have KO1 : Hid (Blk x1 go 25 [.slice none 0 0, .int .i64 0]) := KON
  clear KON
  go_wp2_with fail
  refine (newCur a len cap l x1 HL.out (HR.out.later B1.out (Nat.le_refl _)) HB.out hlen).mono ?_
  rintro e x2 ⟨p, rfl, r⟩
  have b := r.hB
  have HP : Hid (x1.heap.size ≤ p ∧ p < x2.heap.size) := ⟨r.hp, r.hc.lt⟩
  have L2 : Hid (x1.heap.size ≤ x2.heap.size) := b.size
  have B2 : Hid (Below w.heap.size w x2) := B1.out.trans (b.mono B1.out.size)
  have KO2 : Hid (Blk x2 go 25 [.slice none 0 0, .int .i64 0]) := KO1.out.later b
  clear B1 KO1 b
  have R2 : Hid (Ready x1 a len cap l p x2) := r
  clear r
  go_wp2_with fail
  refine (l10Any R2.out).mono ?_
  rintro e x3 ⟨S0, D0, rfl, sh, o, r, b⟩
  have HS0 : Hid (DiShort D0 65536) := sh
  clear sh
  have L3 : Hid (x2.heap.size ≤ x3.heap.size) := b.size
  have KQ : Kept p (p + 1) x2 x3 := Kept.of_grown b
  have B3 : Hid (Below w.heap.size w x3) := But.below b B2.out (by have := L1.out; have := GA.out; have := L2.out; have := HP.out; have := L3.out; omega)
  have KO3 : Hid (Blk x3 go 25 [.slice none 0 0, .int .i64 0]) := KO2.out.keep (KQ.block _ KO2.out.lt (by have := L1.out; have := GA.out; have := L2.out; have := HP.out; have := L3.out; omega))
  have R3 : Hid (Ready x1 a len cap l p x3) := r
  clear B2 KO2 R2 b
  clear KQ r
  have OE3 : Hid (DiOwn x3 x2.heap.size x3.heap.size S0 D0) := o
  clear o
  unfold diV
  have f0 := KO3.out.cell 0 rfl
  have f1 := KO3.out.cell 1 rfl
  have g0 := KO3.out.frozen 0
  have g1 := KO3.out.frozen 1
  go_wp2
  have SZF : Hid (w.heap.size ≤ go ∧ go + 1 ≤ x2.heap.size ∧ x2.heap.size ≤ x3.heap.size ∧ x3.heap.size ≤ x3.heap.size) := by have := L1.out; have := GA.out; have := L2.out; have := HP.out; have := L3.out; show _ ∧ _; omega
  obtain ⟨k1, k2, k3⟩ := di_stored (D := D0) (S := S0) (lo := x2.heap.size) (hi := x3.heap.size) KO3.out (OE3.out) (.inl (by have := SZF.out; omega))
  exact bodyPost_ret (v := diV D0 S0) (res1 rfl (is_cell rfl k1 aggDi)) rfl ⟨D0, S0, rfl, HS0.out, k2.rd, k3 _ _ (by have := SZF.out; omega) B3.out⟩

end Go.Proofs.YtcodonnknepkeaaDoor.DrDi
