/-
  What spec.l11Jar, spec.DrawJarNew, spec.DrawMint and spec.DrawFresh give.
-/
import Derived.Test.YtpgapjdejelajaaGreatDoorDrawB
import Derived.Test.YtpgapjdejelajaaGreatDoorDrawA
import Derived.Test.YtpgapjdejelajaaGreatDoorDrawD
import Derived.Test.YtpgapjdejelajaaGreatDoorDrN
import Derived.Test.YtpgapjdejelajaaGreatDoorGr9
import Derived.Test.YtpgapjdejelajaaGreatDoorGr5
import Derived.Test.YtpgapjdejelajaaGreatDoorGr8
import Derived.Deep.RegionHeld3
namespace Go.Proofs.YtpgapjdejelajaaGreatDoor.DrCk
open Go.RowKit Go.Proofs.YtpgapjdejelajaaGreatDoor.Mem Go.Proofs.YtpgapjdejelajaaGreatDoor.App Go.Proofs.YtpgapjdejelajaaGreatDoor.Blk Go.Proofs.YtpgapjdejelajaaGreatDoor.Zone Go.Proofs.YtpgapjdejelajaaGreatDoor.Draw Go.Proofs.YtpgapjdejelajaaGreatDoor.DrawA Go.Proofs.YtpgapjdejelajaaGreatDoor.DrawD Go.Proofs.YtpgapjdejelajaaGreatDoor.Res Go.Proofs.YtpgapjdejelajaaGreatDoor.DrN Go.Proofs.YtpgapjdejelajaaGreatDoor.AddrS Go.Proofs.YtpgapjdejelajaaGreatDoor.JaZ Go.Proofs.YtpgapjdejelajaaGreatDoor.JaL Go.Proofs.YtpgapjdejelajaaGreatDoor.CkP Go.Proofs.YtpgapjdejelajaaGreatDoor.CkQ Go.Proofs.YtpgapjdejelajaaGreatDoor.Shp
set_option maxRecDepth 100000 in
theorem hide {p : Prop} (h : p) : Hid p := h
set_option maxRecDepth 100000 in
theorem ints_at (w : World) (L : List Int) (g : Nat) (h : g = w.heap.size) : IntsAt (w.alloc (.cells (L.map (Value.int .i64)).toArray 3)) g L := h ▸ ints_new w L
set_option maxRecDepth 100000 in
theorem ja_made {w : World} {lo hi : Nat} {s : Sl} {l : List Int} (h : SOwn w lo hi s l) : JaOwn w lo hi ⟨s⟩ ⟨l⟩ := ⟨h, ⟨⟩⟩
/-- A jar was drawn. -/
def DrewJ (W0 : World) (a : Option Addr) (len cap : Nat) (l : List Int) (p : Nat) (w : World) : Ending → World → Prop := fun e w' => ∃ (S : JaS) (D : JaD), e = .returned (jaV D S) ∧ JaShort D 32 ∧ JaOwn w' w.heap.size w'.heap.size S D ∧ Ready W0 a len cap l p w' ∧ But p w w'
set_option maxRecDepth 100000 in
theorem res6 {P : Program} {fn : Func} {tmps : Array Value} {w : World} {r0 r1 r2 r3 r4 r5 : ResultVar} {v0 v1 v2 v3 v4 v5 : Value} (h : fn.results = #[r0, r1, r2, r3, r4, r5]) (h0 : Is P tmps w r0 v0) (h1 : Is P tmps w r1 v1) (h2 : Is P tmps w r2 v2) (h3 : Is P tmps w r3 v3) (h4 : Is P tmps w r4 v4) (h5 : Is P tmps w r5 v5) : (results fn tmps).run P w = .ok (.tuple #[v0, v1, v2, v3, v4, v5]) w := by
  have e : results fn tmps = (do let vs ← fn.results.mapM (one tmps); pure (if h : vs.size = 1 then vs[0] else .tuple vs)) := rfl
  unfold Is at h0 h1 h2 h3 h4 h5
  simp [e, h, h0, h1, h2, h3, h4, h5]

set_option maxRecDepth 100000 in
set_option maxHeartbeats 8000000 in
theorem l11Jar {W0 : World} {a : Option Addr} {len cap : Nat} {l : List Int} {p : Nat} {w : World} (h : Ready W0 a len cap l p w) :
    Calls Tryz.prog 31 #[.pointer (some ⟨p, 0, none⟩)] w (DrewJ W0 a len cap l p w) := by
  have HP : Hid (p < w.heap.size ∧ W0.heap.size ≤ p) := ⟨h.hc.lt, h.hp⟩
  have R0 : Hid (Ready W0 a len cap l p w) := h
  have B0 : Hid (But p w w) := But.refl p w
  clear h
  obtain ⟨x1, hx1⟩ : ∃ x1, (w.alloc (.cells #[.slice none 0 0] 25)) = x1 := ⟨_, rfl⟩
  have HWA : Hid ((w.alloc (.cells #[.slice none 0 0] 25)) = x1) := hx1
  have b1 : Below w.heap.size w x1 := by rw [← hx1]; exact ((Below.refl _ _).alloc (Nat.le_refl _) _)
  have KON : Blk x1 (w.heap.size) 25 [.slice none 0 0] := by
    have q := (Blk.new w 25 [.slice none 0 0])
    skip
    rw [← hx1]; exact q
  have SZA : x1.heap.size = w.heap.size + 1 := by rw [← hx1]; simp
  clear hx1
  have L1 : Hid (w.heap.size ≤ x1.heap.size) := b1.size
  have R1 : Hid (Ready W0 a len cap l p x1) := rdyL R0.out b1
  have B1 : Hid (But p w x1) := butL B0.out b1
  clear R0 B0 b1
  go_enter Tryz.func31, Tryz.ntmps31
  go_upto_region 1 with fail
  rw [HWA.out]
  obtain ⟨go, hgo⟩ : ∃ g, w.heap.size = g := ⟨_, rfl⟩
  have GA : Hid (w.heap.size = go ∧ x1.heap.size = go + 1) := ⟨hgo, by omega⟩
  rw [hgo] at KON
  rw [hgo]
  clear HWA SZA hgo
  have KO1 : Hid (Blk x1 go 25 [.slice none 0 0]) := KON
  clear KON
  go_wp2_with fail
  refine (bytesOf R1.out 12 (by omega)).mono ?_
  rintro e x2 ⟨gs, cs, ls, rfl, el, hb, kg, row, r, b⟩
  have oN : SOwn x2 x1.heap.size x2.heap.size ⟨some ⟨gs, 0, none⟩, 12, cs⟩ ls := SOwn.row row el hb kg row.lt
  have ELs : Hid (12 = ls.length) := el
  clear el hb kg row
  have L2 : Hid (x1.heap.size ≤ x2.heap.size) := b.size
  have KQ : Kept p (p + 1) x1 x2 := Kept.of_grown b
  have R2 : Hid (Ready W0 a len cap l p x2) := r
  have B2 : Hid (But p w x2) := B1.out.trans b
  have KO2 : Hid (Blk x2 go 25 [.slice none 0 0]) := KO1.out.keep (KQ.block _ KO1.out.lt (by have := HP.out; have := L1.out; have := GA.out; have := L2.out; omega))
  clear R1 B1 KO1 b
  clear KQ r
  have Os_2 : Hid (SOwn x2 x1.heap.size x2.heap.size ⟨some ⟨gs, 0, none⟩, 12, cs⟩ ls) := oN
  clear oN
  go_wp2_with fail
  refine (CkT.specJarNew ⟨some ⟨gs, 0, none⟩, 12, cs⟩ ls x2 Os_2.out.rd).mono ?_
  unfold CkT.AnsJ
  rintro e x3 ⟨S0, rfl, o, b⟩
  have L3 : Hid (x2.heap.size ≤ x3.heap.size) := b.size
  have R3 : Hid (Ready W0 a len cap l p x3) := rdyL R2.out b
  have B3 : Hid (But p w x3) := butL B2.out b
  have KO3 : Hid (Blk x3 go 25 [.slice none 0 0]) := KO2.out.later b
  have Os_3 : Hid (SOwn x3 x1.heap.size x2.heap.size ⟨some ⟨gs, 0, none⟩, 12, cs⟩ ls) := Os_2.out.later b
  clear R2 B2 KO2 Os_2 b
  have OE3 : Hid (JaOwn x3 x2.heap.size x3.heap.size S0 (newJ ls)) := o
  clear o
  have hsh : JaShort (newJ ls) 32 := newJ_short _
  have OEg := OE3.out
  generalize newJ ls = D0 at OEg hsh
  have HS0 : Hid (JaShort D0 32) := hsh
  clear hsh
  clear OE3
  have OE3 : Hid (JaOwn x3 x2.heap.size x3.heap.size S0 D0) := OEg
  clear OEg
  clear Os_3
  obtain ⟨x4, hx4⟩ : ∃ x4, x3.alloc (.cells #[.slice S0.secret.a S0.secret.n S0.secret.c] 25) = x4 := ⟨_, rfl⟩
  have HW4 : Hid (x3.alloc (.cells #[.slice S0.secret.a S0.secret.n S0.secret.c] 25) = x4) := hx4
  have b4 : Below x3.heap.size x3 x4 := by rw [← hx4]; exact (Below.refl _ _).alloc (Nat.le_refl _) _
  have KN : Blk x4 x3.heap.size 25 [.slice S0.secret.a S0.secret.n S0.secret.c] := by rw [← hx4]; exact Blk.new x3 _ _
  have HSZ4 : Hid (x4.heap.size = x3.heap.size + 1) := by rw [← hx4]; show _ = _; simp
  clear hx4
  have L4 : Hid (x3.heap.size ≤ x4.heap.size) := b4.size
  have R4 : Hid (Ready W0 a len cap l p x4) := rdyL R3.out b4
  have B4 : Hid (But p w x4) := butL B3.out b4
  have KO4 : Hid (Blk x4 go 25 [.slice none 0 0]) := KO3.out.later b4
  have OE4 : Hid (JaOwn x4 x2.heap.size x3.heap.size S0 D0) := OE3.out.later b4
  clear R3 B3 KO3 OE3 b4
  unfold jaV
  go_upto_region 2 with fail
  rw [HW4.out]
  obtain ⟨ge, hge⟩ : ∃ g, x3.heap.size = g := ⟨_, rfl⟩
  have Gge : Hid (x3.heap.size = ge ∧ x4.heap.size = ge + 1) := ⟨hge, by rw [← hge]; exact HSZ4.out⟩
  rw [hge] at KN ⊢
  clear HW4 HSZ4 hge
  have KE4 : Hid (Blk x4 ge 25 [.slice S0.secret.a S0.secret.n S0.secret.c]) := KN
  clear KN
  go_wp2_with fail
  refine (Draw.once R4.out 10 (by omega) (by omega)).mono ?_
  rintro e x5 ⟨o1, rfl, r, b⟩
  have L5 : Hid (x4.heap.size ≤ x5.heap.size) := b.size
  have KQ : Kept p (p + 1) x4 x5 := Kept.of_grown b
  have R5 : Hid (Ready W0 a len cap l p x5) := r
  have B5 : Hid (But p w x5) := B4.out.trans b
  have KO5 : Hid (Blk x5 go 25 [.slice none 0 0]) := KO4.out.keep (KQ.block _ KO4.out.lt (by have := HP.out; have := L1.out; have := GA.out; have := L2.out; have := L3.out; have := L4.out; have := Gge.out; have := L5.out; omega))
  have OE5 : Hid (JaOwn x5 x2.heap.size x3.heap.size S0 D0) := OE4.out.carry KQ (by have := HP.out; have := L1.out; have := GA.out; have := L2.out; have := L3.out; have := L4.out; have := Gge.out; have := L5.out; omega)
  have KE5 : Hid (Blk x5 ge 25 [.slice S0.secret.a S0.secret.n S0.secret.c]) := KE4.out.keep (KQ.block _ KE4.out.lt (by have := HP.out; have := L1.out; have := GA.out; have := L2.out; have := L3.out; have := L4.out; have := Gge.out; have := L5.out; omega))
  clear R4 B4 KO4 OE4 KE4 b
  clear KQ r
  cases o1 with
  | true =>
    go_wp2_with fail
    refine (intOfList (R5.out.alloc _) x5.heap.size 3 [0, 31, 32] rfl (ints_new x5 _) (by have := R5.out.hc.lt; omega) (by omega) (by omega)).mono ?_
    rintro e x6 ⟨z, rfl, vm, r, b0⟩
    have VMz : Hid (z ∈ ([0, 31, 32] : List Int)) := vm
    have b : But p x5 x6 := ((But.refl p x5).alloc _).trans b0
    clear vm b0
    have L6 : Hid (x5.heap.size ≤ x6.heap.size) := b.size
    have KQ : Kept p (p + 1) x5 x6 := Kept.of_grown b
    have R6 : Hid (Ready W0 a len cap l p x6) := r
    have B6 : Hid (But p w x6) := B5.out.trans b
    have KO6 : Hid (Blk x6 go 25 [.slice none 0 0]) := KO5.out.keep (KQ.block _ KO5.out.lt (by have := HP.out; have := L1.out; have := GA.out; have := L2.out; have := L3.out; have := L4.out; have := Gge.out; have := L5.out; have := L6.out; omega))
    have OE6 : Hid (JaOwn x6 x2.heap.size x3.heap.size S0 D0) := OE5.out.carry KQ (by have := HP.out; have := L1.out; have := GA.out; have := L2.out; have := L3.out; have := L4.out; have := Gge.out; have := L5.out; have := L6.out; omega)
    have KE6 : Hid (Blk x6 ge 25 [.slice S0.secret.a S0.secret.n S0.secret.c]) := KE5.out.keep (KQ.block _ KE5.out.lt (by have := HP.out; have := L1.out; have := GA.out; have := L2.out; have := L3.out; have := L4.out; have := Gge.out; have := L5.out; have := L6.out; omega))
    clear R5 B5 KO5 OE5 KE5 b
    clear KQ r
    have hv : 0 ≤ z ∧ z ≤ 32 := by have q := VMz.out; simp only [List.mem_cons, List.mem_nil_iff, or_false] at q; omega
    obtain ⟨Z, rfl⟩ := Int.eq_ofNat_of_zero_le hv.1
    have HNZ : Hid (Z ≤ 32) := by have := hv.2; show _ ≤ _; omega
    clear hv
    go_wp2_with fail
    refine (bytesOf R6.out Z (by have := HNZ.out; omega)).mono ?_
    rintro e x7 ⟨gt, ct, lt, rfl, el, hb, kg, row, r, b⟩
    have oN : SOwn x7 x6.heap.size x7.heap.size ⟨some ⟨gt, 0, none⟩, Z, ct⟩ lt := SOwn.row row el hb kg row.lt
    have ELt : Hid (Z = lt.length) := el
    clear el hb kg row
    have L7 : Hid (x6.heap.size ≤ x7.heap.size) := b.size
    have KQ : Kept p (p + 1) x6 x7 := Kept.of_grown b
    have R7 : Hid (Ready W0 a len cap l p x7) := r
    have B7 : Hid (But p w x7) := B6.out.trans b
    have KO7 : Hid (Blk x7 go 25 [.slice none 0 0]) := KO6.out.keep (KQ.block _ KO6.out.lt (by have := HP.out; have := L1.out; have := GA.out; have := L2.out; have := L3.out; have := L4.out; have := Gge.out; have := L5.out; have := L6.out; have := L7.out; omega))
    have OE7 : Hid (JaOwn x7 x2.heap.size x3.heap.size S0 D0) := OE6.out.carry KQ (by have := HP.out; have := L1.out; have := GA.out; have := L2.out; have := L3.out; have := L4.out; have := Gge.out; have := L5.out; have := L6.out; have := L7.out; omega)
    have KE7 : Hid (Blk x7 ge 25 [.slice S0.secret.a S0.secret.n S0.secret.c]) := KE6.out.keep (KQ.block _ KE6.out.lt (by have := HP.out; have := L1.out; have := GA.out; have := L2.out; have := L3.out; have := L4.out; have := Gge.out; have := L5.out; have := L6.out; have := L7.out; omega))
    clear R6 B6 KO6 OE6 KE6 b
    clear KQ r
    have Ot_7 : Hid (SOwn x7 x6.heap.size x7.heap.size ⟨some ⟨gt, 0, none⟩, Z, ct⟩ lt) := oN
    clear oN
    have co0 := KE7.out.cell 0 rfl
    have fo0 := KE7.out.frozen 0
    obtain ⟨x8, hx8⟩ : ∃ y, (x7.setCell ⟨ge, 0, none⟩ (.slice (some ⟨gt, 0, none⟩) Z ct)) = y := ⟨_, rfl⟩
    have HW8 : Hid ((x7.setCell ⟨ge, 0, none⟩ (.slice (some ⟨gt, 0, none⟩) Z ct)) = x8) := hx8
    have L8 : Hid (x8.heap.size = x7.heap.size) := by rw [← hx8]; show _ = _; simp
    have KS : Blk x8 ge 25 [.slice (some ⟨gt, 0, none⟩) Z ct] := by rw [← hx8]; exact (KE7.out.set 0 _ (by simp [maxLen]))
    have KQ : Kept ge (ge + 1) x7 x8 := by rw [← hx8]; exact (Kept.setCell _ _ _ _)
    clear hx8
    have R8 : Hid (Ready W0 a len cap l p x8) := rdyK R7.out KQ (by have := HP.out; have := L1.out; have := GA.out; have := L2.out; have := L3.out; have := L4.out; have := Gge.out; have := L5.out; have := L6.out; have := L7.out; have := L8.out; omega)
    have B8 : Hid (But p w x8) := butK B7.out KQ (by have := HP.out; have := L1.out; have := GA.out; have := L2.out; have := L3.out; have := L4.out; have := Gge.out; have := L5.out; have := L6.out; have := L7.out; have := L8.out; omega)
    have KO8 : Hid (Blk x8 go 25 [.slice none 0 0]) := KO7.out.keep (KQ.block _ KO7.out.lt (by have := HP.out; have := L1.out; have := GA.out; have := L2.out; have := L3.out; have := L4.out; have := Gge.out; have := L5.out; have := L6.out; have := L7.out; have := L8.out; omega))
    have OE8 : Hid (JaOwn x8 x2.heap.size x3.heap.size S0 D0) := OE7.out.carry KQ (by have := HP.out; have := L1.out; have := GA.out; have := L2.out; have := L3.out; have := L4.out; have := Gge.out; have := L5.out; have := L6.out; have := L7.out; have := L8.out; omega)
    have Ot_8 : Hid (SOwn x8 x6.heap.size x7.heap.size ⟨some ⟨gt, 0, none⟩, Z, ct⟩ lt) := Ot_7.out.carry KQ (by have := HP.out; have := L1.out; have := GA.out; have := L2.out; have := L3.out; have := L4.out; have := Gge.out; have := L5.out; have := L6.out; have := L7.out; have := L8.out; omega)
    clear R7 B7 KO7 OE7 Ot_7 KQ
    clear KE7
    have KE8 : Hid (Blk x8 ge 25 [.slice (some ⟨gt, 0, none⟩) Z ct]) := KS
    clear KS
    go_upto_region 4 with fail
    rw [HW8.out]
    clear HW8 co0 fo0
    have d0 := KE8.out.cell 0 rfl
    have f0 := KO8.out.cell 0 rfl
    have g0 := KO8.out.frozen 0
    go_wp2
    have SZF : Hid (w.heap.size ≤ go ∧ go + 1 ≤ x6.heap.size ∧ x6.heap.size ≤ x7.heap.size ∧ x7.heap.size ≤ x8.heap.size) := by have := HP.out; have := L1.out; have := GA.out; have := L2.out; have := L3.out; have := L4.out; have := Gge.out; have := L5.out; have := L6.out; have := L7.out; have := L8.out; show _ ∧ _; omega
    obtain ⟨k1, k2, k3⟩ := ja_stored (D := ⟨lt⟩) (S := ⟨⟨some ⟨gt, 0, none⟩, Z, ct⟩⟩) (lo := x6.heap.size) (hi := x7.heap.size) KO8.out (ja_made Ot_8.out) (.inl (by have := SZF.out; omega))
    have KP := ja_kept x8 go (.slice (some ⟨gt, 0, none⟩) Z ct)
    exact bodyPost_ret (v := jaV ⟨lt⟩ ⟨⟨some ⟨gt, 0, none⟩, Z, ct⟩⟩) (res1 rfl (is_cell rfl k1 aggJa)) rfl ⟨⟨⟨some ⟨gt, 0, none⟩, Z, ct⟩⟩, ⟨lt⟩, rfl, ⟨by show lt.length ≤ _; have := ELt.out; have := HNZ.out; omega⟩, k2.mono (by have := SZF.out; omega) (by rw [ja_size]; have := SZF.out; omega), rdyK R8.out KP (by have := HP.out; have := L1.out; have := GA.out; have := L2.out; have := L3.out; have := L4.out; have := Gge.out; have := L5.out; have := L6.out; have := L7.out; have := L8.out; omega), butK B8.out KP (by have := SZF.out; omega)⟩
  | false =>
    go_upto_region 4 with fail
    have d0 := KE5.out.cell 0 rfl
    have f0 := KO5.out.cell 0 rfl
    have g0 := KO5.out.frozen 0
    go_wp2
    have SZF : Hid (w.heap.size ≤ go ∧ go + 1 ≤ x2.heap.size ∧ x2.heap.size ≤ x3.heap.size ∧ x3.heap.size ≤ x5.heap.size) := by have := HP.out; have := L1.out; have := GA.out; have := L2.out; have := L3.out; have := L4.out; have := Gge.out; have := L5.out; show _ ∧ _; omega
    obtain ⟨k1, k2, k3⟩ := ja_stored (D := D0) (S := S0) (lo := x2.heap.size) (hi := x3.heap.size) KO5.out (OE5.out) (.inl (by have := SZF.out; omega))
    have KP := ja_kept x5 go (.slice S0.secret.a S0.secret.n S0.secret.c)
    exact bodyPost_ret (v := jaV D0 S0) (res1 rfl (is_cell rfl k1 aggJa)) rfl ⟨S0, D0, rfl, HS0.out, k2.mono (by have := SZF.out; omega) (by rw [ja_size]; have := SZF.out; omega), rdyK R5.out KP (by have := HP.out; have := L1.out; have := GA.out; have := L2.out; have := L3.out; have := L4.out; have := Gge.out; have := L5.out; omega), butK B5.out KP (by have := SZF.out; omega)⟩

set_option maxRecDepth 100000 in
set_option maxHeartbeats 4000000 in
theorem drawJarNew (a : Option Addr) (len cap : Nat) (l : List Int) (w : World) (hl : len = l.length) (hr : Rd w a l) (hb : Bytes l) (hlen : len ≤ 1048576) :
    Calls Tryz.prog 19 #[.slice a len cap] w fun e w' => ∃ (S : Sl) (x : List Int), e = .returned (.slice S.a S.n S.c) ∧ x.length ≤ 13 ∧ SRd w' S x ∧ Below w.heap.size w w' := by
  have HR : Hid (Rd w a l) := hr
  have HL : Hid (len = l.length) := hl
  have HB : Hid (Bytes l) := hb
  clear hr hl hb
  have B0 : Hid (Below w.heap.size w w) := Below.refl _ _
  go_enter Tryz.func19, Tryz.ntmps19
  go_wp2_with fail
  refine (newCur a len cap l w HL.out (HR.out.later B0.out (Nat.le_refl _)) HB.out hlen).mono ?_
  rintro e x1 ⟨p, rfl, r⟩
  have b := r.hB
  have HP : Hid (w.heap.size ≤ p ∧ p < x1.heap.size) := ⟨r.hp, r.hc.lt⟩
  have L1 : Hid (w.heap.size ≤ x1.heap.size) := b.size
  have B1 : Hid (Below w.heap.size w x1) := B0.out.trans (b.mono B0.out.size)
  clear B0 b
  have R1 : Hid (Ready w a len cap l p x1) := r
  clear r
  go_wp2_with fail
  refine (intOfList (R1.out.alloc _) x1.heap.size 6 [12, 12, 12, 11, 0, 13] rfl (ints_new x1 _) (by have := R1.out.hc.lt; omega) (by omega) (by omega)).mono ?_
  rintro e x2 ⟨z, rfl, vm, r, b0⟩
  have VMz : Hid (z ∈ ([12, 12, 12, 11, 0, 13] : List Int)) := vm
  have b : But p x1 x2 := ((But.refl p x1).alloc _).trans b0
  clear vm b0
  have L2 : Hid (x1.heap.size ≤ x2.heap.size) := b.size
  have KQ : Kept p (p + 1) x1 x2 := Kept.of_grown b
  have B2 : Hid (Below w.heap.size w x2) := But.below b B1.out (by have := L1.out; have := HP.out; have := L2.out; omega)
  have R2 : Hid (Ready w a len cap l p x2) := r
  clear B1 R1 b
  clear KQ r
  have hv : 0 ≤ z ∧ z ≤ 13 := by have q := VMz.out; simp only [List.mem_cons, List.mem_nil_iff, or_false] at q; omega
  obtain ⟨Z, rfl⟩ := Int.eq_ofNat_of_zero_le hv.1
  have HNZ : Hid (Z ≤ 13) := by have := hv.2; show _ ≤ _; omega
  clear hv
  go_wp2_with fail
  refine (bytesOf R2.out Z (by have := HNZ.out; omega)).mono ?_
  rintro e x3 ⟨gt, ct, lt, rfl, el, hb, kg, row, r, b⟩
  have oN : SOwn x3 x2.heap.size x3.heap.size ⟨some ⟨gt, 0, none⟩, Z, ct⟩ lt := SOwn.row row el hb kg row.lt
  have ELt : Hid (Z = lt.length) := el
  clear el hb kg row
  have L3 : Hid (x2.heap.size ≤ x3.heap.size) := b.size
  have KQ : Kept p (p + 1) x2 x3 := Kept.of_grown b
  have B3 : Hid (Below w.heap.size w x3) := But.below b B2.out (by have := L1.out; have := HP.out; have := L2.out; have := L3.out; omega)
  have R3 : Hid (Ready w a len cap l p x3) := r
  clear B2 R2 b
  clear KQ r
  have Ot_3 : Hid (SOwn x3 x2.heap.size x3.heap.size ⟨some ⟨gt, 0, none⟩, Z, ct⟩ lt) := oN
  clear oN
  go_wp2
  exact bodyPost_ret (v := .slice (some ⟨gt, 0, none⟩) Z ct) (res1 rfl (is_tmp rfl)) rfl ⟨⟨some ⟨gt, 0, none⟩, Z, ct⟩, lt, rfl, by rw [← ELt.out]; exact HNZ.out, Ot_3.out.rd, B3.out⟩

set_option maxRecDepth 100000 in
set_option maxHeartbeats 4000000 in
theorem drawFresh (a : Option Addr) (len cap : Nat) (l : List Int) (w : World) (hl : len = l.length) (hr : Rd w a l) (hb : Bytes l) (hlen : len ≤ 1048576) :
    Calls Tryz.prog 18 #[.slice a len cap] w fun e w' => ∃ (x y : Int), e = .returned (.tuple #[.int .i64 x, .int .i64 y]) ∧ Below w.heap.size w w' := by
  have HR : Hid (Rd w a l) := hr
  have HL : Hid (len = l.length) := hl
  have HB : Hid (Bytes l) := hb
  clear hr hl hb
  have B0 : Hid (Below w.heap.size w w) := Below.refl _ _
  go_enter Tryz.func18, Tryz.ntmps18
  go_wp2_with fail
  refine (newCur a len cap l w HL.out (HR.out.later B0.out (Nat.le_refl _)) HB.out hlen).mono ?_
  rintro e x1 ⟨p, rfl, r⟩
  have b := r.hB
  have HP : Hid (w.heap.size ≤ p ∧ p < x1.heap.size) := ⟨r.hp, r.hc.lt⟩
  have L1 : Hid (w.heap.size ≤ x1.heap.size) := b.size
  have B1 : Hid (Below w.heap.size w x1) := B0.out.trans (b.mono B0.out.size)
  clear B0 b
  have R1 : Hid (Ready w a len cap l p x1) := r
  clear r
  go_wp2_with fail
  refine (intOfList (R1.out.alloc _) x1.heap.size 4 [0, 5, 100, 1000000] rfl (ints_new x1 _) (by have := R1.out.hc.lt; omega) (by omega) (by omega)).mono ?_
  rintro e x2 ⟨z, rfl, vm, r, b0⟩
  have VMz : Hid (z ∈ ([0, 5, 100, 1000000] : List Int)) := vm
  have b : But p x1 x2 := ((But.refl p x1).alloc _).trans b0
  clear vm b0
  have L2 : Hid (x1.heap.size ≤ x2.heap.size) := b.size
  have KQ : Kept p (p + 1) x1 x2 := Kept.of_grown b
  have B2 : Hid (Below w.heap.size w x2) := But.below b B1.out (by have := L1.out; have := HP.out; have := L2.out; omega)
  have R2 : Hid (Ready w a len cap l p x2) := r
  clear B1 R1 b
  clear KQ r
  go_wp2_with fail
  refine (Draw.once R2.out 5 (by omega) (by omega)).mono ?_
  rintro e x3 ⟨o1, rfl, r, b⟩
  have L3 : Hid (x2.heap.size ≤ x3.heap.size) := b.size
  have KQ : Kept p (p + 1) x2 x3 := Kept.of_grown b
  have B3 : Hid (Below w.heap.size w x3) := But.below b B2.out (by have := L1.out; have := HP.out; have := L2.out; have := L3.out; omega)
  have R3 : Hid (Ready w a len cap l p x3) := r
  clear B2 R2 b
  clear KQ r
  cases o1 with
  | true =>
    go_wp2_with fail
    refine (Draw.odd R3.out).mono ?_
    rintro e x4 ⟨u, rfl, _, _, r, b⟩
    have L4 : Hid (x3.heap.size ≤ x4.heap.size) := b.size
    have KQ : Kept p (p + 1) x3 x4 := Kept.of_grown b
    have B4 : Hid (Below w.heap.size w x4) := But.below b B3.out (by have := L1.out; have := HP.out; have := L2.out; have := L3.out; have := L4.out; omega)
    have R4 : Hid (Ready w a len cap l p x4) := r
    clear B3 R3 b
    clear KQ r
    go_wp2_with fail
    refine (Draw.odd R4.out).mono ?_
    rintro e x5 ⟨v, rfl, _, _, r, b⟩
    have L5 : Hid (x4.heap.size ≤ x5.heap.size) := b.size
    have KQ : Kept p (p + 1) x4 x5 := Kept.of_grown b
    have B5 : Hid (Below w.heap.size w x5) := But.below b B4.out (by have := L1.out; have := HP.out; have := L2.out; have := L3.out; have := L4.out; have := L5.out; omega)
    have R5 : Hid (Ready w a len cap l p x5) := r
    clear B4 R4 b
    clear KQ r
    go_wp2
    exact bodyPost_ret (v := .tuple #[.int .i64 u, .int .i64 v]) (res2 rfl (is_tmp rfl) (is_tmp rfl)) rfl ⟨u, v, rfl, B5.out⟩
  | false =>
    go_wp2_with fail
    refine (intOfList (R3.out.alloc _) x3.heap.size 6 [0, 1, 9, 10, 11, -1] rfl (ints_new x3 _) (by have := R3.out.hc.lt; omega) (by omega) (by omega)).mono ?_
    rintro e x4 ⟨y, rfl, vm, r, b0⟩
    have VMy : Hid (y ∈ ([0, 1, 9, 10, 11, -1] : List Int)) := vm
    have b : But p x3 x4 := ((But.refl p x3).alloc _).trans b0
    clear vm b0
    have L4 : Hid (x3.heap.size ≤ x4.heap.size) := b.size
    have KQ : Kept p (p + 1) x3 x4 := Kept.of_grown b
    have B4 : Hid (Below w.heap.size w x4) := But.below b B3.out (by have := L1.out; have := HP.out; have := L2.out; have := L3.out; have := L4.out; omega)
    have R4 : Hid (Ready w a len cap l p x4) := r
    clear B3 R3 b
    clear KQ r
    have hw : IntKind.i64.wrap (z + y) = z + y := by have q := VMz.out; have q2 := VMy.out; simp only [List.mem_cons, List.mem_nil_iff, or_false] at q q2; rw [IntKind.wrap_i64]; omega
    go_wp2
    exact bodyPost_ret (v := .tuple #[.int .i64 (z + y), .int .i64 z]) (res2 rfl (is_tmp rfl) (is_tmp rfl)) rfl ⟨(z + y), z, rfl, B4.out⟩

set_option maxRecDepth 100000 in
set_option maxHeartbeats 16000000 in
theorem drawMint (a : Option Addr) (len cap : Nat) (l : List Int) (w : World) (hl : len = l.length) (hr : Rd w a l) (hb : Bytes l) (hlen : len ≤ 1048576) :
    Calls Tryz.prog 7 #[.slice a len cap] w fun e w' => ∃ (D : JaD) (S : JaS) (ah ap id : Int) (C : Sl) (cn : List Int) (N : Sl) (sn : List Int) (tick : Int), e = .returned (.tuple #[jaV D S, addrV ah ap, .int .i64 id, .slice C.a C.n C.c, .slice N.a N.n N.c, .int .i64 tick]) ∧ JaShort D 32 ∧ JaRd w' S D ∧ SRd w' C cn ∧ SRd w' N sn ∧ (-1 ≤ tick ∧ tick ≤ 1000000) ∧ Below w.heap.size w w' := by
  have HR : Hid (Rd w a l) := hr
  have HL : Hid (len = l.length) := hl
  have HB : Hid (Bytes l) := hb
  clear hr hl hb
  have B0 : Hid (Below w.heap.size w w) := Below.refl _ _
  obtain ⟨x1, hx1⟩ : ∃ x1, ((w.alloc (.cells #[.slice none 0 0] 25)).alloc (.cells #[.int .i64 0, .int .i64 0] 27)) = x1 := ⟨_, rfl⟩
  have HWA : Hid (((w.alloc (.cells #[.slice none 0 0] 25)).alloc (.cells #[.int .i64 0, .int .i64 0] 27)) = x1) := hx1
  have b1 : Below w.heap.size w x1 := by rw [← hx1]; exact (((Below.refl _ _).alloc (Nat.le_refl _) _).alloc (by simp) _)
  have KON : Blk x1 (w.heap.size) 25 [.slice none 0 0] := by
    have q := (Blk.new w 25 [.slice none 0 0])
    skip
    rw [← hx1]; exact q.alloc _
  have KPN : Blk x1 (w.heap.size + 1) 27 [.int .i64 0, .int .i64 0] := by
    have q := (Blk.new (w.alloc (.cells #[.slice none 0 0] 25)) 27 [.int .i64 0, .int .i64 0])
    rw [World.size_alloc] at q
    rw [← hx1]; exact q
  have SZA : x1.heap.size = w.heap.size + 2 := by rw [← hx1]; simp
  clear hx1
  have L1 : Hid (w.heap.size ≤ x1.heap.size) := b1.size
  have B1 : Hid (Below w.heap.size w x1) := B0.out.trans (b1.mono B0.out.size)
  clear B0 b1
  go_enter Tryz.func7, Tryz.ntmps7
  go_upto_region 1 with fail
  rw [HWA.out]
  obtain ⟨go, hgo⟩ : ∃ g, w.heap.size = g := ⟨_, rfl⟩
  obtain ⟨gp, hgp⟩ : ∃ g, w.heap.size + 1 = g := ⟨_, rfl⟩
  have GA : Hid (w.heap.size = go ∧ go + 1 = gp ∧ x1.heap.size = go + 2) := ⟨hgo, by omega, by omega⟩
  rw [hgo] at KON
  rw [hgp] at KPN
  rw [hgp, hgo]
  clear HWA SZA hgo hgp
  have KO1 : Hid (Blk x1 go 25 [.slice none 0 0]) := KON
  have KP1 : Hid (Blk x1 gp 27 [.int .i64 0, .int .i64 0]) := KPN
  clear KON KPN
  go_wp2_with fail
  refine (newCur a len cap l x1 HL.out (HR.out.later B1.out (Nat.le_refl _)) HB.out hlen).mono ?_
  rintro e x2 ⟨p, rfl, r⟩
  have b := r.hB
  have HP : Hid (x1.heap.size ≤ p ∧ p < x2.heap.size) := ⟨r.hp, r.hc.lt⟩
  have L2 : Hid (x1.heap.size ≤ x2.heap.size) := b.size
  have B2 : Hid (Below w.heap.size w x2) := B1.out.trans (b.mono B1.out.size)
  have KO2 : Hid (Blk x2 go 25 [.slice none 0 0]) := KO1.out.later b
  have KP2 : Hid (Blk x2 gp 27 [.int .i64 0, .int .i64 0]) := KP1.out.later b
  clear B1 KO1 KP1 b
  have R2 : Hid (Ready x1 a len cap l p x2) := r
  clear r
  go_wp2_with fail
  refine (l11Jar R2.out).mono ?_
  rintro e x3 ⟨S0, D0, rfl, sh, o, r, b⟩
  have HS0 : Hid (JaShort D0 32) := sh
  clear sh
  have L3 : Hid (x2.heap.size ≤ x3.heap.size) := b.size
  have KQ : Kept p (p + 1) x2 x3 := Kept.of_grown b
  have B3 : Hid (Below w.heap.size w x3) := But.below b B2.out (by have := L1.out; have := GA.out; have := L2.out; have := HP.out; have := L3.out; omega)
  have KO3 : Hid (Blk x3 go 25 [.slice none 0 0]) := KO2.out.keep (KQ.block _ KO2.out.lt (by have := L1.out; have := GA.out; have := L2.out; have := HP.out; have := L3.out; omega))
  have KP3 : Hid (Blk x3 gp 27 [.int .i64 0, .int .i64 0]) := KP2.out.keep (KQ.block _ KP2.out.lt (by have := L1.out; have := GA.out; have := L2.out; have := HP.out; have := L3.out; omega))
  have R3 : Hid (Ready x1 a len cap l p x3) := r
  clear B2 KO2 KP2 R2 b
  clear KQ r
  have OE3 : Hid (JaOwn x3 x2.heap.size x3.heap.size S0 D0) := o
  clear o
  obtain ⟨x4, hx4⟩ : ∃ x4, x3.alloc (.cells #[.slice S0.secret.a S0.secret.n S0.secret.c] 25) = x4 := ⟨_, rfl⟩
  have HW4 : Hid (x3.alloc (.cells #[.slice S0.secret.a S0.secret.n S0.secret.c] 25) = x4) := hx4
  have b4 : Below x3.heap.size x3 x4 := by rw [← hx4]; exact (Below.refl _ _).alloc (Nat.le_refl _) _
  have KN : Blk x4 x3.heap.size 25 [.slice S0.secret.a S0.secret.n S0.secret.c] := by rw [← hx4]; exact Blk.new x3 _ _
  have HSZ4 : Hid (x4.heap.size = x3.heap.size + 1) := by rw [← hx4]; show _ = _; simp
  clear hx4
  have L4 : Hid (x3.heap.size ≤ x4.heap.size) := b4.size
  have B4 : Hid (Below w.heap.size w x4) := B3.out.trans (b4.mono B3.out.size)
  have KO4 : Hid (Blk x4 go 25 [.slice none 0 0]) := KO3.out.later b4
  have KP4 : Hid (Blk x4 gp 27 [.int .i64 0, .int .i64 0]) := KP3.out.later b4
  have R4 : Hid (Ready x1 a len cap l p x4) := rdyL R3.out b4
  have OE4 : Hid (JaOwn x4 x2.heap.size x3.heap.size S0 D0) := OE3.out.later b4
  clear B3 KO3 KP3 R3 OE3 b4
  unfold jaV
  go_upto_region 3 with fail
  rw [HW4.out]
  obtain ⟨gj, hgj⟩ : ∃ g, x3.heap.size = g := ⟨_, rfl⟩
  have Ggj : Hid (x3.heap.size = gj ∧ x4.heap.size = gj + 1) := ⟨hgj, by rw [← hgj]; exact HSZ4.out⟩
  rw [hgj] at KN ⊢
  clear HW4 HSZ4 hgj
  have KJ4 : Hid (Blk x4 gj 25 [.slice S0.secret.a S0.secret.n S0.secret.c]) := KN
  clear KN
  go_wp2_with fail
  refine (DrawA.l6Any R4.out).mono ?_
  rintro e x5 ⟨ah, ap, rfl, r, b⟩
  have L5 : Hid (x4.heap.size ≤ x5.heap.size) := b.size
  have KQ : Kept p (p + 1) x4 x5 := Kept.of_grown b
  have B5 : Hid (Below w.heap.size w x5) := But.below b B4.out (by have := L1.out; have := GA.out; have := L2.out; have := HP.out; have := L3.out; have := L4.out; have := Ggj.out; have := L5.out; omega)
  have KO5 : Hid (Blk x5 go 25 [.slice none 0 0]) := KO4.out.keep (KQ.block _ KO4.out.lt (by have := L1.out; have := GA.out; have := L2.out; have := HP.out; have := L3.out; have := L4.out; have := Ggj.out; have := L5.out; omega))
  have KP5 : Hid (Blk x5 gp 27 [.int .i64 0, .int .i64 0]) := KP4.out.keep (KQ.block _ KP4.out.lt (by have := L1.out; have := GA.out; have := L2.out; have := HP.out; have := L3.out; have := L4.out; have := Ggj.out; have := L5.out; omega))
  have R5 : Hid (Ready x1 a len cap l p x5) := r
  have OE5 : Hid (JaOwn x5 x2.heap.size x3.heap.size S0 D0) := OE4.out.carry KQ (by have := L1.out; have := GA.out; have := L2.out; have := HP.out; have := L3.out; have := L4.out; have := Ggj.out; have := L5.out; omega)
  have KJ5 : Hid (Blk x5 gj 25 [.slice S0.secret.a S0.secret.n S0.secret.c]) := KJ4.out.keep (KQ.block _ KJ4.out.lt (by have := L1.out; have := GA.out; have := L2.out; have := HP.out; have := L3.out; have := L4.out; have := Ggj.out; have := L5.out; omega))
  clear B4 KO4 KP4 R4 OE4 KJ4 b
  clear KQ r
  obtain ⟨x6, hx6⟩ : ∃ x6, x5.alloc (.cells #[.int .i64 ah, .int .i64 ap] 27) = x6 := ⟨_, rfl⟩
  have HW6 : Hid (x5.alloc (.cells #[.int .i64 ah, .int .i64 ap] 27) = x6) := hx6
  have b6 : Below x5.heap.size x5 x6 := by rw [← hx6]; exact (Below.refl _ _).alloc (Nat.le_refl _) _
  have KN : Blk x6 x5.heap.size 27 [.int .i64 ah, .int .i64 ap] := by rw [← hx6]; exact Blk.new x5 _ _
  have HSZ6 : Hid (x6.heap.size = x5.heap.size + 1) := by rw [← hx6]; show _ = _; simp
  clear hx6
  have L6 : Hid (x5.heap.size ≤ x6.heap.size) := b6.size
  have B6 : Hid (Below w.heap.size w x6) := B5.out.trans (b6.mono B5.out.size)
  have KO6 : Hid (Blk x6 go 25 [.slice none 0 0]) := KO5.out.later b6
  have KP6 : Hid (Blk x6 gp 27 [.int .i64 0, .int .i64 0]) := KP5.out.later b6
  have R6 : Hid (Ready x1 a len cap l p x6) := rdyL R5.out b6
  have OE6 : Hid (JaOwn x6 x2.heap.size x3.heap.size S0 D0) := OE5.out.later b6
  have KJ6 : Hid (Blk x6 gj 25 [.slice S0.secret.a S0.secret.n S0.secret.c]) := KJ5.out.later b6
  clear B5 KO5 KP5 R5 OE5 KJ5 b6
  unfold addrV
  go_upto_region 4 with fail
  rw [HW6.out]
  obtain ⟨ga, hga⟩ : ∃ g, x5.heap.size = g := ⟨_, rfl⟩
  have Gga : Hid (x5.heap.size = ga ∧ x6.heap.size = ga + 1) := ⟨hga, by rw [← hga]; exact HSZ6.out⟩
  rw [hga] at KN ⊢
  clear HW6 HSZ6 hga
  have KA6 : Hid (Blk x6 ga 27 [.int .i64 ah, .int .i64 ap]) := KN
  clear KN
  go_wp2_with fail
  refine (bytesOf R6.out 12 (by omega)).mono ?_
  rintro e x7 ⟨gn, cn, ln, rfl, el, hb, kg, row, r, b⟩
  have oN : SOwn x7 x6.heap.size x7.heap.size ⟨some ⟨gn, 0, none⟩, 12, cn⟩ ln := SOwn.row row el hb kg row.lt
  have ELn : Hid (12 = ln.length) := el
  clear el hb kg row
  have L7 : Hid (x6.heap.size ≤ x7.heap.size) := b.size
  have KQ : Kept p (p + 1) x6 x7 := Kept.of_grown b
  have B7 : Hid (Below w.heap.size w x7) := But.below b B6.out (by have := L1.out; have := GA.out; have := L2.out; have := HP.out; have := L3.out; have := L4.out; have := Ggj.out; have := L5.out; have := L6.out; have := Gga.out; have := L7.out; omega)
  have KO7 : Hid (Blk x7 go 25 [.slice none 0 0]) := KO6.out.keep (KQ.block _ KO6.out.lt (by have := L1.out; have := GA.out; have := L2.out; have := HP.out; have := L3.out; have := L4.out; have := Ggj.out; have := L5.out; have := L6.out; have := Gga.out; have := L7.out; omega))
  have KP7 : Hid (Blk x7 gp 27 [.int .i64 0, .int .i64 0]) := KP6.out.keep (KQ.block _ KP6.out.lt (by have := L1.out; have := GA.out; have := L2.out; have := HP.out; have := L3.out; have := L4.out; have := Ggj.out; have := L5.out; have := L6.out; have := Gga.out; have := L7.out; omega))
  have R7 : Hid (Ready x1 a len cap l p x7) := r
  have OE7 : Hid (JaOwn x7 x2.heap.size x3.heap.size S0 D0) := OE6.out.carry KQ (by have := L1.out; have := GA.out; have := L2.out; have := HP.out; have := L3.out; have := L4.out; have := Ggj.out; have := L5.out; have := L6.out; have := Gga.out; have := L7.out; omega)
  have KJ7 : Hid (Blk x7 gj 25 [.slice S0.secret.a S0.secret.n S0.secret.c]) := KJ6.out.keep (KQ.block _ KJ6.out.lt (by have := L1.out; have := GA.out; have := L2.out; have := HP.out; have := L3.out; have := L4.out; have := Ggj.out; have := L5.out; have := L6.out; have := Gga.out; have := L7.out; omega))
  have KA7 : Hid (Blk x7 ga 27 [.int .i64 ah, .int .i64 ap]) := KA6.out.keep (KQ.block _ KA6.out.lt (by have := L1.out; have := GA.out; have := L2.out; have := HP.out; have := L3.out; have := L4.out; have := Ggj.out; have := L5.out; have := L6.out; have := Gga.out; have := L7.out; omega))
  clear B6 KO6 KP6 R6 OE6 KJ6 KA6 b
  clear KQ r
  have On_7 : Hid (SOwn x7 x6.heap.size x7.heap.size ⟨some ⟨gn, 0, none⟩, 12, cn⟩ ln) := oN
  clear oN
  have RDX : Hid (Ready x1 a len cap l p x7) := R7.out
  have BTX : Hid (But p x7 x7) := But.refl p x7
  have PX : Hid (p < x7.heap.size) := R7.out.hc.lt
  have NPgj : Hid (gj ≠ p) := by have := L1.out; have := GA.out; have := L2.out; have := HP.out; have := L3.out; have := L4.out; have := Ggj.out; have := L5.out; have := L6.out; have := Gga.out; have := L7.out; show _ ≠ _; omega
  have NPga : Hid (ga ≠ p) := by have := L1.out; have := GA.out; have := L2.out; have := HP.out; have := L3.out; have := L4.out; have := Ggj.out; have := L5.out; have := L6.out; have := Gga.out; have := L7.out; show _ ≠ _; omega
  have NPgo : Hid (go ≠ p) := by have := L1.out; have := GA.out; have := L2.out; have := HP.out; have := L3.out; have := L4.out; have := Ggj.out; have := L5.out; have := L6.out; have := Gga.out; have := L7.out; show _ ≠ _; omega
  have NPgp : Hid (gp ≠ p) := by have := L1.out; have := GA.out; have := L2.out; have := HP.out; have := L3.out; have := L4.out; have := Ggj.out; have := L5.out; have := L6.out; have := Gga.out; have := L7.out; show _ ≠ _; omega
  have NEgj_go : gj ≠ go := by have := L1.out; have := GA.out; have := L2.out; have := HP.out; have := L3.out; have := L4.out; have := Ggj.out; have := L5.out; have := L6.out; have := Gga.out; have := L7.out; omega
  have NEgj_gp : gj ≠ gp := by have := L1.out; have := GA.out; have := L2.out; have := HP.out; have := L3.out; have := L4.out; have := Ggj.out; have := L5.out; have := L6.out; have := Gga.out; have := L7.out; omega
  have NEga_go : ga ≠ go := by have := L1.out; have := GA.out; have := L2.out; have := HP.out; have := L3.out; have := L4.out; have := Ggj.out; have := L5.out; have := L6.out; have := Gga.out; have := L7.out; omega
  have NEga_gp : ga ≠ gp := by have := L1.out; have := GA.out; have := L2.out; have := HP.out; have := L3.out; have := L4.out; have := Ggj.out; have := L5.out; have := L6.out; have := Gga.out; have := L7.out; omega
  have NOgo_gp : go ≠ gp := by have := L1.out; have := GA.out; have := L2.out; have := HP.out; have := L3.out; have := L4.out; have := Ggj.out; have := L5.out; have := L6.out; have := Gga.out; have := L7.out; omega
  have NOgp_go : gp ≠ go := by have := L1.out; have := GA.out; have := L2.out; have := HP.out; have := L3.out; have := L4.out; have := Ggj.out; have := L5.out; have := L6.out; have := Gga.out; have := L7.out; omega
  have z_gj_0 := (KJ7.out).cell 0 rfl
  have z_ga_0 := (KA7.out).cell 0 rfl
  have z_ga_1 := (KA7.out).cell 1 rfl
  have zd_gj_0 := hide ((KJ7.out.later ((Below.refl _ _).drew)).cell 0 rfl)
  have zd_ga_0 := hide ((KA7.out.later ((Below.refl _ _).drew)).cell 0 rfl)
  have zd_ga_1 := hide ((KA7.out.later ((Below.refl _ _).drew)).cell 1 rfl)
  have za0_gj_0 := hide ((((KJ7.out).alloc (.cells #[.int .i64 1, .int .i64 2, .int .i64 9, .int .i64 1, .int .i64 2, .int .i64 0] 3))).cell 0 rfl)
  have za0_ga_0 := hide ((((KA7.out).alloc (.cells #[.int .i64 1, .int .i64 2, .int .i64 9, .int .i64 1, .int .i64 2, .int .i64 0] 3))).cell 0 rfl)
  have za0_ga_1 := hide ((((KA7.out).alloc (.cells #[.int .i64 1, .int .i64 2, .int .i64 9, .int .i64 1, .int .i64 2, .int .i64 0] 3))).cell 1 rfl)
  have za0d_gj_0 := hide (((((KJ7.out).alloc (.cells #[.int .i64 1, .int .i64 2, .int .i64 9, .int .i64 1, .int .i64 2, .int .i64 0] 3))).later ((Below.refl _ _).drew)).cell 0 rfl)
  have za0d_ga_0 := hide (((((KA7.out).alloc (.cells #[.int .i64 1, .int .i64 2, .int .i64 9, .int .i64 1, .int .i64 2, .int .i64 0] 3))).later ((Below.refl _ _).drew)).cell 0 rfl)
  have za0d_ga_1 := hide (((((KA7.out).alloc (.cells #[.int .i64 1, .int .i64 2, .int .i64 9, .int .i64 1, .int .i64 2, .int .i64 0] 3))).later ((Below.refl _ _).drew)).cell 1 rfl)
  have za2_gj_0 := hide ((((KJ7.out).alloc (.cells #[.int .i64 0, .int .i64 7, .int .i64 1000000, .int .i64 300, .int .i64 5, .int .i64 (-1)] 3))).cell 0 rfl)
  have za2_ga_0 := hide ((((KA7.out).alloc (.cells #[.int .i64 0, .int .i64 7, .int .i64 1000000, .int .i64 300, .int .i64 5, .int .i64 (-1)] 3))).cell 0 rfl)
  have za2_ga_1 := hide ((((KA7.out).alloc (.cells #[.int .i64 0, .int .i64 7, .int .i64 1000000, .int .i64 300, .int .i64 5, .int .i64 (-1)] 3))).cell 1 rfl)
  have za2d_gj_0 := hide (((((KJ7.out).alloc (.cells #[.int .i64 0, .int .i64 7, .int .i64 1000000, .int .i64 300, .int .i64 5, .int .i64 (-1)] 3))).later ((Below.refl _ _).drew)).cell 0 rfl)
  have za2d_ga_0 := hide (((((KA7.out).alloc (.cells #[.int .i64 0, .int .i64 7, .int .i64 1000000, .int .i64 300, .int .i64 5, .int .i64 (-1)] 3))).later ((Below.refl _ _).drew)).cell 0 rfl)
  have za2d_ga_1 := hide (((((KA7.out).alloc (.cells #[.int .i64 0, .int .i64 7, .int .i64 1000000, .int .i64 300, .int .i64 5, .int .i64 (-1)] 3))).later ((Below.refl _ _).drew)).cell 1 rfl)
  have za02_gj_0 := hide (((((KJ7.out).alloc (.cells #[.int .i64 1, .int .i64 2, .int .i64 9, .int .i64 1, .int .i64 2, .int .i64 0] 3)).alloc (.cells #[.int .i64 0, .int .i64 7, .int .i64 1000000, .int .i64 300, .int .i64 5, .int .i64 (-1)] 3))).cell 0 rfl)
  have za02_ga_0 := hide (((((KA7.out).alloc (.cells #[.int .i64 1, .int .i64 2, .int .i64 9, .int .i64 1, .int .i64 2, .int .i64 0] 3)).alloc (.cells #[.int .i64 0, .int .i64 7, .int .i64 1000000, .int .i64 300, .int .i64 5, .int .i64 (-1)] 3))).cell 0 rfl)
  have za02_ga_1 := hide (((((KA7.out).alloc (.cells #[.int .i64 1, .int .i64 2, .int .i64 9, .int .i64 1, .int .i64 2, .int .i64 0] 3)).alloc (.cells #[.int .i64 0, .int .i64 7, .int .i64 1000000, .int .i64 300, .int .i64 5, .int .i64 (-1)] 3))).cell 1 rfl)
  have za02d_gj_0 := hide ((((((KJ7.out).alloc (.cells #[.int .i64 1, .int .i64 2, .int .i64 9, .int .i64 1, .int .i64 2, .int .i64 0] 3)).alloc (.cells #[.int .i64 0, .int .i64 7, .int .i64 1000000, .int .i64 300, .int .i64 5, .int .i64 (-1)] 3))).later ((Below.refl _ _).drew)).cell 0 rfl)
  have za02d_ga_0 := hide ((((((KA7.out).alloc (.cells #[.int .i64 1, .int .i64 2, .int .i64 9, .int .i64 1, .int .i64 2, .int .i64 0] 3)).alloc (.cells #[.int .i64 0, .int .i64 7, .int .i64 1000000, .int .i64 300, .int .i64 5, .int .i64 (-1)] 3))).later ((Below.refl _ _).drew)).cell 0 rfl)
  have za02d_ga_1 := hide ((((((KA7.out).alloc (.cells #[.int .i64 1, .int .i64 2, .int .i64 9, .int .i64 1, .int .i64 2, .int .i64 0] 3)).alloc (.cells #[.int .i64 0, .int .i64 7, .int .i64 1000000, .int .i64 300, .int .i64 5, .int .i64 (-1)] 3))).later ((Below.refl _ _).drew)).cell 1 rfl)
  have za20_gj_0 := hide (((((KJ7.out).alloc (.cells #[.int .i64 0, .int .i64 7, .int .i64 1000000, .int .i64 300, .int .i64 5, .int .i64 (-1)] 3)).alloc (.cells #[.int .i64 1, .int .i64 2, .int .i64 9, .int .i64 1, .int .i64 2, .int .i64 0] 3))).cell 0 rfl)
  have za20_ga_0 := hide (((((KA7.out).alloc (.cells #[.int .i64 0, .int .i64 7, .int .i64 1000000, .int .i64 300, .int .i64 5, .int .i64 (-1)] 3)).alloc (.cells #[.int .i64 1, .int .i64 2, .int .i64 9, .int .i64 1, .int .i64 2, .int .i64 0] 3))).cell 0 rfl)
  have za20_ga_1 := hide (((((KA7.out).alloc (.cells #[.int .i64 0, .int .i64 7, .int .i64 1000000, .int .i64 300, .int .i64 5, .int .i64 (-1)] 3)).alloc (.cells #[.int .i64 1, .int .i64 2, .int .i64 9, .int .i64 1, .int .i64 2, .int .i64 0] 3))).cell 1 rfl)
  have za20d_gj_0 := hide ((((((KJ7.out).alloc (.cells #[.int .i64 0, .int .i64 7, .int .i64 1000000, .int .i64 300, .int .i64 5, .int .i64 (-1)] 3)).alloc (.cells #[.int .i64 1, .int .i64 2, .int .i64 9, .int .i64 1, .int .i64 2, .int .i64 0] 3))).later ((Below.refl _ _).drew)).cell 0 rfl)
  have za20d_ga_0 := hide ((((((KA7.out).alloc (.cells #[.int .i64 0, .int .i64 7, .int .i64 1000000, .int .i64 300, .int .i64 5, .int .i64 (-1)] 3)).alloc (.cells #[.int .i64 1, .int .i64 2, .int .i64 9, .int .i64 1, .int .i64 2, .int .i64 0] 3))).later ((Below.refl _ _).drew)).cell 0 rfl)
  have za20d_ga_1 := hide ((((((KA7.out).alloc (.cells #[.int .i64 0, .int .i64 7, .int .i64 1000000, .int .i64 300, .int .i64 5, .int .i64 (-1)] 3)).alloc (.cells #[.int .i64 1, .int .i64 2, .int .i64 9, .int .i64 1, .int .i64 2, .int .i64 0] 3))).later ((Below.refl _ _).drew)).cell 1 rfl)
  go_upto_region 5 with fail
  go_region_held3 (fun w' => w'.cell? ⟨gj, 0, none⟩ = some (.slice S0.secret.a S0.secret.n S0.secret.c) ∧ w'.cell? ⟨ga, 0, none⟩ = some (.int .i64 ah) ∧ w'.cell? ⟨ga, 1, none⟩ = some (.int .i64 ap)) (first | with_reducible exact ⟨s1a2a0c0c1c2_gj_0.out, s1a2a0c0c1c2_ga_0.out, s1a2a0c0c1c2_ga_1.out⟩ | with_reducible exact ⟨s0a2a0c0c1c2_gj_0.out, s0a2a0c0c1c2_ga_0.out, s0a2a0c0c1c2_ga_1.out⟩ | with_reducible exact ⟨ka2a0c0c1c2_gj_0, ka2a0c0c1c2_ga_0, ka2a0c0c1c2_ga_1⟩ | with_reducible exact ⟨ka2a0c0c1_gj_0, ka2a0c0c1_ga_0, ka2a0c0c1_ga_1⟩ | with_reducible exact ⟨ka2a0c0_gj_0, ka2a0c0_ga_0, ka2a0c0_ga_1⟩ | with_reducible exact ⟨s1a0a2c0c1c2_gj_0.out, s1a0a2c0c1c2_ga_0.out, s1a0a2c0c1c2_ga_1.out⟩ | with_reducible exact ⟨s0a0a2c0c1c2_gj_0.out, s0a0a2c0c1c2_ga_0.out, s0a0a2c0c1c2_ga_1.out⟩ | with_reducible exact ⟨ka0a2c0c1c2_gj_0, ka0a2c0c1c2_ga_0, ka0a2c0c1c2_ga_1⟩ | with_reducible exact ⟨ka0a2c0c1_gj_0, ka0a2c0c1_ga_0, ka0a2c0c1_ga_1⟩ | with_reducible exact ⟨ka0a2c0_gj_0, ka0a2c0_ga_0, ka0a2c0_ga_1⟩ | with_reducible exact ⟨s1a0c0a2c1c2_gj_0.out, s1a0c0a2c1c2_ga_0.out, s1a0c0a2c1c2_ga_1.out⟩ | with_reducible exact ⟨s0a0c0a2c1c2_gj_0.out, s0a0c0a2c1c2_ga_0.out, s0a0c0a2c1c2_ga_1.out⟩ | with_reducible exact ⟨ka0c0a2c1c2_gj_0, ka0c0a2c1c2_ga_0, ka0c0a2c1c2_ga_1⟩ | with_reducible exact ⟨ka0c0a2c1_gj_0, ka0c0a2c1_ga_0, ka0c0a2c1_ga_1⟩ | with_reducible exact ⟨s1a0c0c1a2c2_gj_0.out, s1a0c0c1a2c2_ga_0.out, s1a0c0c1a2c2_ga_1.out⟩ | with_reducible exact ⟨s0a0c0c1a2c2_gj_0.out, s0a0c0c1a2c2_ga_0.out, s0a0c0c1a2c2_ga_1.out⟩ | with_reducible exact ⟨ka0c0c1a2c2_gj_0, ka0c0c1a2c2_ga_0, ka0c0c1a2c2_ga_1⟩ | with_reducible exact ⟨ka0c0c1_2_gj_0.out, ka0c0c1_2_ga_0.out, ka0c0c1_2_ga_1.out⟩ | with_reducible exact ⟨ka0c0c1_gj_0, ka0c0c1_ga_0, ka0c0c1_ga_1⟩ | with_reducible exact ⟨ka0c0_2_gj_0.out, ka0c0_2_ga_0.out, ka0c0_2_ga_1.out⟩ | with_reducible exact ⟨ka0c0_gj_0, ka0c0_ga_0, ka0c0_ga_1⟩ | with_reducible exact ⟨za20d_gj_0.out, za20d_ga_0.out, za20d_ga_1.out⟩ | with_reducible exact ⟨za20_gj_0.out, za20_ga_0.out, za20_ga_1.out⟩ | with_reducible exact ⟨za02d_gj_0.out, za02d_ga_0.out, za02d_ga_1.out⟩ | with_reducible exact ⟨za02_gj_0.out, za02_ga_0.out, za02_ga_1.out⟩ | with_reducible exact ⟨za2d_gj_0.out, za2d_ga_0.out, za2d_ga_1.out⟩ | with_reducible exact ⟨za2_gj_0.out, za2_ga_0.out, za2_ga_1.out⟩ | with_reducible exact ⟨za0d_gj_0.out, za0d_ga_0.out, za0d_ga_1.out⟩ | with_reducible exact ⟨za0_gj_0.out, za0_ga_0.out, za0_ga_1.out⟩ | with_reducible exact ⟨zd_gj_0.out, zd_ga_0.out, zd_ga_1.out⟩ | with_reducible exact ⟨z_gj_0, z_ga_0, z_ga_1⟩ | go_keep)
    (first
      | (go_at_call 34; (with_reducible (show Calls _ _ _ (ya0c0c1.alloc (.cells #[.int .i64 0, .int .i64 7, .int .i64 1000000, .int .i64 300, .int .i64 5, .int .i64 (-1)] 3)) _)); have hRd : Ready x1 a len cap l p (ya0c0c1.alloc (.cells #[.int .i64 0, .int .i64 7, .int .i64 1000000, .int .i64 300, .int .i64 5, .int .i64 (-1)] 3)) := (RDa0c0c1.out.alloc _); have hIn : IntsAt (ya0c0c1.alloc (.cells #[.int .i64 0, .int .i64 7, .int .i64 1000000, .int .i64 300, .int .i64 5, .int .i64 (-1)] 3)) (ya0c0c1.heap.size) [0, 7, 1000000, 300, 5, -1] := (ints_at ya0c0c1 [0, 7, 1000000, 300, 5, -1] (ya0c0c1.heap.size) (by rfl)); have hI2 : IntsAt (ya0c0c1.alloc (.cells #[.int .i64 0, .int .i64 7, .int .i64 1000000, .int .i64 300, .int .i64 5, .int .i64 (-1)] 3)) (ya0c0c1.heap.size) [0, 7, 1000000, 300, 5, -1] := hIn; have hNe : (ya0c0c1.heap.size) ≠ p := (by have := PX.out; have := BTa0c0c1.out.size; have := World.size_alloc ya0c0c1 (.cells #[.int .i64 0, .int .i64 7, .int .i64 1000000, .int .i64 300, .int .i64 5, .int .i64 (-1)] 3); show _ ≠ _; omega); refine (intOfList hRd (ya0c0c1.heap.size) 6 [0, 7, 1000000, 300, 5, -1] rfl hI2 hNe (by omega) (by omega)).mono ?_; rintro e ya0c0c1a2c2 ⟨tk, rfl, vm, r, b0⟩; have VMtk : Hid (tk ∈ ([0, 7, 1000000, 300, 5, -1] : List Int)) := vm; have RDa0c0c1a2c2 : Hid (Ready x1 a len cap l p ya0c0c1a2c2) := r; have BTa0c0c1a2c2 : Hid (But p x7 ya0c0c1a2c2) := (BTa0c0c1.out.alloc _).trans b0; have KQa0c0c1a2c2 : Hid (Kept p (p + 1) x7 ya0c0c1a2c2) := Kept.of_grown BTa0c0c1a2c2.out; have KS : Kept p (p + 1) (ya0c0c1.alloc (.cells #[.int .i64 0, .int .i64 7, .int .i64 1000000, .int .i64 300, .int .i64 5, .int .i64 (-1)] 3)) ya0c0c1a2c2 := Kept.of_grown b0; have Os_a0c0c1a2c2 : Hid (SOwn ya0c0c1a2c2 ya0c0.heap.size ya0c0c1.heap.size ⟨some ⟨gs, 0, none⟩, 12, cs⟩ ls) := (Os_a0c0c1.out.later ((Below.refl _ _).alloc (Nat.le_refl _) _)).carry KS (.inr LOs.out.1); have ka0c0c1a2c2_gj_0 := (KJ7.out.keep (KQa0c0c1a2c2.out.block gj KJ7.out.lt (by have := NPgj.out; omega))).cell 0 rfl; have ka0c0c1a2c2_ga_0 := (KA7.out.keep (KQa0c0c1a2c2.out.block ga KA7.out.lt (by have := NPga.out; omega))).cell 0 rfl; have ka0c0c1a2c2_ga_1 := (KA7.out.keep (KQa0c0c1a2c2.out.block ga KA7.out.lt (by have := NPga.out; omega))).cell 1 rfl; have KYKO := KO7.out.keep (KQa0c0c1a2c2.out.block go KO7.out.lt (by have := NPgo.out; omega)); have qKO0 := KYKO.cell 0 rfl; have rKO0 := KYKO.frozen 0; have KYKP := KP7.out.keep (KQa0c0c1a2c2.out.block gp KP7.out.lt (by have := NPgp.out; omega)); have qKP0 := KYKP.cell 0 rfl; have rKP0 := KYKP.frozen 0; have qKP1 := KYKP.cell 1 rfl; have rKP1 := KYKP.frozen 1; have s0a0c0c1a2c2_gj_0 := hide (((Blk.other (a := ⟨go, 0, none⟩) (KJ7.out.keep (KQa0c0c1a2c2.out.block gj KJ7.out.lt (by have := NPgj.out; omega))) NEgj_go (.slice S0.secret.a S0.secret.n S0.secret.c))).cell 0 rfl); have s0a0c0c1a2c2_ga_0 := hide (((Blk.other (a := ⟨go, 0, none⟩) (KA7.out.keep (KQa0c0c1a2c2.out.block ga KA7.out.lt (by have := NPga.out; omega))) NEga_go (.slice S0.secret.a S0.secret.n S0.secret.c))).cell 0 rfl); have s0a0c0c1a2c2_ga_1 := hide (((Blk.other (a := ⟨go, 0, none⟩) (KA7.out.keep (KQa0c0c1a2c2.out.block ga KA7.out.lt (by have := NPga.out; omega))) NEga_go (.slice S0.secret.a S0.secret.n S0.secret.c))).cell 1 rfl); have KZKP := (Blk.other (a := ⟨go, 0, none⟩) KYKP NOgp_go (.slice S0.secret.a S0.secret.n S0.secret.c)); have uKP0 := KZKP.cell 0 rfl; have vKP0 := KZKP.frozen 0; have uKP1 := KZKP.cell 1 rfl; have vKP1 := KZKP.frozen 1; have s1a0c0c1a2c2_gj_0 := hide (((Blk.other (a := ⟨gp, 1, none⟩) (Blk.other (a := ⟨gp, 0, none⟩) (Blk.other (a := ⟨go, 0, none⟩) (KJ7.out.keep (KQa0c0c1a2c2.out.block gj KJ7.out.lt (by have := NPgj.out; omega))) NEgj_go (.slice S0.secret.a S0.secret.n S0.secret.c)) NEgj_gp (.int .i64 ah)) NEgj_gp (.int .i64 ap))).cell 0 rfl); have s1a0c0c1a2c2_ga_0 := hide (((Blk.other (a := ⟨gp, 1, none⟩) (Blk.other (a := ⟨gp, 0, none⟩) (Blk.other (a := ⟨go, 0, none⟩) (KA7.out.keep (KQa0c0c1a2c2.out.block ga KA7.out.lt (by have := NPga.out; omega))) NEga_go (.slice S0.secret.a S0.secret.n S0.secret.c)) NEga_gp (.int .i64 ah)) NEga_gp (.int .i64 ap))).cell 0 rfl); have s1a0c0c1a2c2_ga_1 := hide (((Blk.other (a := ⟨gp, 1, none⟩) (Blk.other (a := ⟨gp, 0, none⟩) (Blk.other (a := ⟨go, 0, none⟩) (KA7.out.keep (KQa0c0c1a2c2.out.block ga KA7.out.lt (by have := NPga.out; omega))) NEga_go (.slice S0.secret.a S0.secret.n S0.secret.c)) NEga_gp (.int .i64 ah)) NEga_gp (.int .i64 ap))).cell 1 rfl); clear b0 KS vm r hRd hIn hI2 hNe)
      | (go_at_call 34; (with_reducible (show Calls _ _ _ ya0c0a2c1 _)); have hRd : Ready x1 a len cap l p ya0c0a2c1 := RDa0c0a2c1.out; have hIn : IntsAt ya0c0a2c1 (ya0c0.heap.size) [0, 7, 1000000, 300, 5, -1] := IN2_a0c0a2c1.out; have hI2 : IntsAt ya0c0a2c1 (ya0c0.heap.size) [0, 7, 1000000, 300, 5, -1] := hIn; have hNe : (ya0c0.heap.size) ≠ p := IQ2_a0c0a2c1.out; refine (intOfList hRd (ya0c0.heap.size) 6 [0, 7, 1000000, 300, 5, -1] rfl hI2 hNe (by omega) (by omega)).mono ?_; rintro e ya0c0a2c1c2 ⟨tk, rfl, vm, r, b0⟩; have VMtk : Hid (tk ∈ ([0, 7, 1000000, 300, 5, -1] : List Int)) := vm; have RDa0c0a2c1c2 : Hid (Ready x1 a len cap l p ya0c0a2c1c2) := r; have BTa0c0a2c1c2 : Hid (But p x7 ya0c0a2c1c2) := BTa0c0a2c1.out.trans b0; have KQa0c0a2c1c2 : Hid (Kept p (p + 1) x7 ya0c0a2c1c2) := Kept.of_grown BTa0c0a2c1c2.out; have KS : Kept p (p + 1) ya0c0a2c1 ya0c0a2c1c2 := Kept.of_grown b0; have Os_a0c0a2c1c2 : Hid (SOwn ya0c0a2c1c2 (ya0c0.alloc (.cells #[.int .i64 0, .int .i64 7, .int .i64 1000000, .int .i64 300, .int .i64 5, .int .i64 (-1)] 3)).heap.size ya0c0a2c1.heap.size ⟨some ⟨gs, 0, none⟩, 12, cs⟩ ls) := Os_a0c0a2c1.out.carry KS (.inr LOs.out.1); have ka0c0a2c1c2_gj_0 := (KJ7.out.keep (KQa0c0a2c1c2.out.block gj KJ7.out.lt (by have := NPgj.out; omega))).cell 0 rfl; have ka0c0a2c1c2_ga_0 := (KA7.out.keep (KQa0c0a2c1c2.out.block ga KA7.out.lt (by have := NPga.out; omega))).cell 0 rfl; have ka0c0a2c1c2_ga_1 := (KA7.out.keep (KQa0c0a2c1c2.out.block ga KA7.out.lt (by have := NPga.out; omega))).cell 1 rfl; have KYKO := KO7.out.keep (KQa0c0a2c1c2.out.block go KO7.out.lt (by have := NPgo.out; omega)); have qKO0 := KYKO.cell 0 rfl; have rKO0 := KYKO.frozen 0; have KYKP := KP7.out.keep (KQa0c0a2c1c2.out.block gp KP7.out.lt (by have := NPgp.out; omega)); have qKP0 := KYKP.cell 0 rfl; have rKP0 := KYKP.frozen 0; have qKP1 := KYKP.cell 1 rfl; have rKP1 := KYKP.frozen 1; have s0a0c0a2c1c2_gj_0 := hide (((Blk.other (a := ⟨go, 0, none⟩) (KJ7.out.keep (KQa0c0a2c1c2.out.block gj KJ7.out.lt (by have := NPgj.out; omega))) NEgj_go (.slice S0.secret.a S0.secret.n S0.secret.c))).cell 0 rfl); have s0a0c0a2c1c2_ga_0 := hide (((Blk.other (a := ⟨go, 0, none⟩) (KA7.out.keep (KQa0c0a2c1c2.out.block ga KA7.out.lt (by have := NPga.out; omega))) NEga_go (.slice S0.secret.a S0.secret.n S0.secret.c))).cell 0 rfl); have s0a0c0a2c1c2_ga_1 := hide (((Blk.other (a := ⟨go, 0, none⟩) (KA7.out.keep (KQa0c0a2c1c2.out.block ga KA7.out.lt (by have := NPga.out; omega))) NEga_go (.slice S0.secret.a S0.secret.n S0.secret.c))).cell 1 rfl); have KZKP := (Blk.other (a := ⟨go, 0, none⟩) KYKP NOgp_go (.slice S0.secret.a S0.secret.n S0.secret.c)); have uKP0 := KZKP.cell 0 rfl; have vKP0 := KZKP.frozen 0; have uKP1 := KZKP.cell 1 rfl; have vKP1 := KZKP.frozen 1; have s1a0c0a2c1c2_gj_0 := hide (((Blk.other (a := ⟨gp, 1, none⟩) (Blk.other (a := ⟨gp, 0, none⟩) (Blk.other (a := ⟨go, 0, none⟩) (KJ7.out.keep (KQa0c0a2c1c2.out.block gj KJ7.out.lt (by have := NPgj.out; omega))) NEgj_go (.slice S0.secret.a S0.secret.n S0.secret.c)) NEgj_gp (.int .i64 ah)) NEgj_gp (.int .i64 ap))).cell 0 rfl); have s1a0c0a2c1c2_ga_0 := hide (((Blk.other (a := ⟨gp, 1, none⟩) (Blk.other (a := ⟨gp, 0, none⟩) (Blk.other (a := ⟨go, 0, none⟩) (KA7.out.keep (KQa0c0a2c1c2.out.block ga KA7.out.lt (by have := NPga.out; omega))) NEga_go (.slice S0.secret.a S0.secret.n S0.secret.c)) NEga_gp (.int .i64 ah)) NEga_gp (.int .i64 ap))).cell 0 rfl); have s1a0c0a2c1c2_ga_1 := hide (((Blk.other (a := ⟨gp, 1, none⟩) (Blk.other (a := ⟨gp, 0, none⟩) (Blk.other (a := ⟨go, 0, none⟩) (KA7.out.keep (KQa0c0a2c1c2.out.block ga KA7.out.lt (by have := NPga.out; omega))) NEga_go (.slice S0.secret.a S0.secret.n S0.secret.c)) NEga_gp (.int .i64 ah)) NEga_gp (.int .i64 ap))).cell 1 rfl); clear b0 KS vm r hRd hIn hI2 hNe)
      | (go_at_call 34; (with_reducible (show Calls _ _ _ ya0a2c0c1 _)); have hRd : Ready x1 a len cap l p ya0a2c0c1 := RDa0a2c0c1.out; have hIn : IntsAt ya0a2c0c1 (x7.heap.size + 1) [0, 7, 1000000, 300, 5, -1] := IN2_a0a2c0c1.out; have hI2 : IntsAt ya0a2c0c1 (x7.heap.size + 1) [0, 7, 1000000, 300, 5, -1] := hIn; have hNe : (x7.heap.size + 1) ≠ p := IQ2_a0a2c0c1.out; refine (intOfList hRd (x7.heap.size + 1) 6 [0, 7, 1000000, 300, 5, -1] rfl hI2 hNe (by omega) (by omega)).mono ?_; rintro e ya0a2c0c1c2 ⟨tk, rfl, vm, r, b0⟩; have VMtk : Hid (tk ∈ ([0, 7, 1000000, 300, 5, -1] : List Int)) := vm; have RDa0a2c0c1c2 : Hid (Ready x1 a len cap l p ya0a2c0c1c2) := r; have BTa0a2c0c1c2 : Hid (But p x7 ya0a2c0c1c2) := BTa0a2c0c1.out.trans b0; have KQa0a2c0c1c2 : Hid (Kept p (p + 1) x7 ya0a2c0c1c2) := Kept.of_grown BTa0a2c0c1c2.out; have KS : Kept p (p + 1) ya0a2c0c1 ya0a2c0c1c2 := Kept.of_grown b0; have Os_a0a2c0c1c2 : Hid (SOwn ya0a2c0c1c2 ya0a2c0.heap.size ya0a2c0c1.heap.size ⟨some ⟨gs, 0, none⟩, 12, cs⟩ ls) := Os_a0a2c0c1.out.carry KS (.inr LOs.out.1); have ka0a2c0c1c2_gj_0 := (KJ7.out.keep (KQa0a2c0c1c2.out.block gj KJ7.out.lt (by have := NPgj.out; omega))).cell 0 rfl; have ka0a2c0c1c2_ga_0 := (KA7.out.keep (KQa0a2c0c1c2.out.block ga KA7.out.lt (by have := NPga.out; omega))).cell 0 rfl; have ka0a2c0c1c2_ga_1 := (KA7.out.keep (KQa0a2c0c1c2.out.block ga KA7.out.lt (by have := NPga.out; omega))).cell 1 rfl; have KYKO := KO7.out.keep (KQa0a2c0c1c2.out.block go KO7.out.lt (by have := NPgo.out; omega)); have qKO0 := KYKO.cell 0 rfl; have rKO0 := KYKO.frozen 0; have KYKP := KP7.out.keep (KQa0a2c0c1c2.out.block gp KP7.out.lt (by have := NPgp.out; omega)); have qKP0 := KYKP.cell 0 rfl; have rKP0 := KYKP.frozen 0; have qKP1 := KYKP.cell 1 rfl; have rKP1 := KYKP.frozen 1; have s0a0a2c0c1c2_gj_0 := hide (((Blk.other (a := ⟨go, 0, none⟩) (KJ7.out.keep (KQa0a2c0c1c2.out.block gj KJ7.out.lt (by have := NPgj.out; omega))) NEgj_go (.slice S0.secret.a S0.secret.n S0.secret.c))).cell 0 rfl); have s0a0a2c0c1c2_ga_0 := hide (((Blk.other (a := ⟨go, 0, none⟩) (KA7.out.keep (KQa0a2c0c1c2.out.block ga KA7.out.lt (by have := NPga.out; omega))) NEga_go (.slice S0.secret.a S0.secret.n S0.secret.c))).cell 0 rfl); have s0a0a2c0c1c2_ga_1 := hide (((Blk.other (a := ⟨go, 0, none⟩) (KA7.out.keep (KQa0a2c0c1c2.out.block ga KA7.out.lt (by have := NPga.out; omega))) NEga_go (.slice S0.secret.a S0.secret.n S0.secret.c))).cell 1 rfl); have KZKP := (Blk.other (a := ⟨go, 0, none⟩) KYKP NOgp_go (.slice S0.secret.a S0.secret.n S0.secret.c)); have uKP0 := KZKP.cell 0 rfl; have vKP0 := KZKP.frozen 0; have uKP1 := KZKP.cell 1 rfl; have vKP1 := KZKP.frozen 1; have s1a0a2c0c1c2_gj_0 := hide (((Blk.other (a := ⟨gp, 1, none⟩) (Blk.other (a := ⟨gp, 0, none⟩) (Blk.other (a := ⟨go, 0, none⟩) (KJ7.out.keep (KQa0a2c0c1c2.out.block gj KJ7.out.lt (by have := NPgj.out; omega))) NEgj_go (.slice S0.secret.a S0.secret.n S0.secret.c)) NEgj_gp (.int .i64 ah)) NEgj_gp (.int .i64 ap))).cell 0 rfl); have s1a0a2c0c1c2_ga_0 := hide (((Blk.other (a := ⟨gp, 1, none⟩) (Blk.other (a := ⟨gp, 0, none⟩) (Blk.other (a := ⟨go, 0, none⟩) (KA7.out.keep (KQa0a2c0c1c2.out.block ga KA7.out.lt (by have := NPga.out; omega))) NEga_go (.slice S0.secret.a S0.secret.n S0.secret.c)) NEga_gp (.int .i64 ah)) NEga_gp (.int .i64 ap))).cell 0 rfl); have s1a0a2c0c1c2_ga_1 := hide (((Blk.other (a := ⟨gp, 1, none⟩) (Blk.other (a := ⟨gp, 0, none⟩) (Blk.other (a := ⟨go, 0, none⟩) (KA7.out.keep (KQa0a2c0c1c2.out.block ga KA7.out.lt (by have := NPga.out; omega))) NEga_go (.slice S0.secret.a S0.secret.n S0.secret.c)) NEga_gp (.int .i64 ah)) NEga_gp (.int .i64 ap))).cell 1 rfl); clear b0 KS vm r hRd hIn hI2 hNe)
      | (go_at_call 34; (with_reducible (show Calls _ _ _ ya2a0c0c1 _)); have hRd : Ready x1 a len cap l p ya2a0c0c1 := RDa2a0c0c1.out; have hIn : IntsAt ya2a0c0c1 (x7.heap.size) [0, 7, 1000000, 300, 5, -1] := IN2_a2a0c0c1.out; have hI2 : IntsAt ya2a0c0c1 (x7.heap.size) [0, 7, 1000000, 300, 5, -1] := hIn; have hNe : (x7.heap.size) ≠ p := IQ2_a2a0c0c1.out; refine (intOfList hRd (x7.heap.size) 6 [0, 7, 1000000, 300, 5, -1] rfl hI2 hNe (by omega) (by omega)).mono ?_; rintro e ya2a0c0c1c2 ⟨tk, rfl, vm, r, b0⟩; have VMtk : Hid (tk ∈ ([0, 7, 1000000, 300, 5, -1] : List Int)) := vm; have RDa2a0c0c1c2 : Hid (Ready x1 a len cap l p ya2a0c0c1c2) := r; have BTa2a0c0c1c2 : Hid (But p x7 ya2a0c0c1c2) := BTa2a0c0c1.out.trans b0; have KQa2a0c0c1c2 : Hid (Kept p (p + 1) x7 ya2a0c0c1c2) := Kept.of_grown BTa2a0c0c1c2.out; have KS : Kept p (p + 1) ya2a0c0c1 ya2a0c0c1c2 := Kept.of_grown b0; have Os_a2a0c0c1c2 : Hid (SOwn ya2a0c0c1c2 ya2a0c0.heap.size ya2a0c0c1.heap.size ⟨some ⟨gs, 0, none⟩, 12, cs⟩ ls) := Os_a2a0c0c1.out.carry KS (.inr LOs.out.1); have ka2a0c0c1c2_gj_0 := (KJ7.out.keep (KQa2a0c0c1c2.out.block gj KJ7.out.lt (by have := NPgj.out; omega))).cell 0 rfl; have ka2a0c0c1c2_ga_0 := (KA7.out.keep (KQa2a0c0c1c2.out.block ga KA7.out.lt (by have := NPga.out; omega))).cell 0 rfl; have ka2a0c0c1c2_ga_1 := (KA7.out.keep (KQa2a0c0c1c2.out.block ga KA7.out.lt (by have := NPga.out; omega))).cell 1 rfl; have KYKO := KO7.out.keep (KQa2a0c0c1c2.out.block go KO7.out.lt (by have := NPgo.out; omega)); have qKO0 := KYKO.cell 0 rfl; have rKO0 := KYKO.frozen 0; have KYKP := KP7.out.keep (KQa2a0c0c1c2.out.block gp KP7.out.lt (by have := NPgp.out; omega)); have qKP0 := KYKP.cell 0 rfl; have rKP0 := KYKP.frozen 0; have qKP1 := KYKP.cell 1 rfl; have rKP1 := KYKP.frozen 1; have s0a2a0c0c1c2_gj_0 := hide (((Blk.other (a := ⟨go, 0, none⟩) (KJ7.out.keep (KQa2a0c0c1c2.out.block gj KJ7.out.lt (by have := NPgj.out; omega))) NEgj_go (.slice S0.secret.a S0.secret.n S0.secret.c))).cell 0 rfl); have s0a2a0c0c1c2_ga_0 := hide (((Blk.other (a := ⟨go, 0, none⟩) (KA7.out.keep (KQa2a0c0c1c2.out.block ga KA7.out.lt (by have := NPga.out; omega))) NEga_go (.slice S0.secret.a S0.secret.n S0.secret.c))).cell 0 rfl); have s0a2a0c0c1c2_ga_1 := hide (((Blk.other (a := ⟨go, 0, none⟩) (KA7.out.keep (KQa2a0c0c1c2.out.block ga KA7.out.lt (by have := NPga.out; omega))) NEga_go (.slice S0.secret.a S0.secret.n S0.secret.c))).cell 1 rfl); have KZKP := (Blk.other (a := ⟨go, 0, none⟩) KYKP NOgp_go (.slice S0.secret.a S0.secret.n S0.secret.c)); have uKP0 := KZKP.cell 0 rfl; have vKP0 := KZKP.frozen 0; have uKP1 := KZKP.cell 1 rfl; have vKP1 := KZKP.frozen 1; have s1a2a0c0c1c2_gj_0 := hide (((Blk.other (a := ⟨gp, 1, none⟩) (Blk.other (a := ⟨gp, 0, none⟩) (Blk.other (a := ⟨go, 0, none⟩) (KJ7.out.keep (KQa2a0c0c1c2.out.block gj KJ7.out.lt (by have := NPgj.out; omega))) NEgj_go (.slice S0.secret.a S0.secret.n S0.secret.c)) NEgj_gp (.int .i64 ah)) NEgj_gp (.int .i64 ap))).cell 0 rfl); have s1a2a0c0c1c2_ga_0 := hide (((Blk.other (a := ⟨gp, 1, none⟩) (Blk.other (a := ⟨gp, 0, none⟩) (Blk.other (a := ⟨go, 0, none⟩) (KA7.out.keep (KQa2a0c0c1c2.out.block ga KA7.out.lt (by have := NPga.out; omega))) NEga_go (.slice S0.secret.a S0.secret.n S0.secret.c)) NEga_gp (.int .i64 ah)) NEga_gp (.int .i64 ap))).cell 0 rfl); have s1a2a0c0c1c2_ga_1 := hide (((Blk.other (a := ⟨gp, 1, none⟩) (Blk.other (a := ⟨gp, 0, none⟩) (Blk.other (a := ⟨go, 0, none⟩) (KA7.out.keep (KQa2a0c0c1c2.out.block ga KA7.out.lt (by have := NPga.out; omega))) NEga_go (.slice S0.secret.a S0.secret.n S0.secret.c)) NEga_gp (.int .i64 ah)) NEga_gp (.int .i64 ap))).cell 1 rfl); clear b0 KS vm r hRd hIn hI2 hNe)
      | (go_at_call 33; (with_reducible (show Calls _ _ _ ya0c0 _)); refine (bytesOf RDa0c0.out 12 (by omega)).mono ?_; rintro e ya0c0c1 ⟨gs, cs, ls, rfl, el, hb, kg, row, r, b0⟩; have ELs : Hid (12 = ls.length) := el; have LOs : Hid (p + 1 ≤ ya0c0.heap.size ∧ x7.heap.size ≤ ya0c0.heap.size) := (by have := PX.out; have := BTa0c0.out.size; show _ ∧ _; omega); have RDa0c0c1 : Hid (Ready x1 a len cap l p ya0c0c1) := r; have BTa0c0c1 : Hid (But p x7 ya0c0c1) := BTa0c0.out.trans b0; have KQa0c0c1 : Hid (Kept p (p + 1) x7 ya0c0c1) := Kept.of_grown BTa0c0c1.out; have KS : Kept p (p + 1) ya0c0 ya0c0c1 := Kept.of_grown b0; have Os_a0c0c1 : Hid (SOwn ya0c0c1 ya0c0.heap.size ya0c0c1.heap.size ⟨some ⟨gs, 0, none⟩, 12, cs⟩ ls) := SOwn.row row el hb kg row.lt; have ka0c0c1_gj_0 := (KJ7.out.keep (KQa0c0c1.out.block gj KJ7.out.lt (by have := NPgj.out; omega))).cell 0 rfl; have ka0c0c1_ga_0 := (KA7.out.keep (KQa0c0c1.out.block ga KA7.out.lt (by have := NPga.out; omega))).cell 0 rfl; have ka0c0c1_ga_1 := (KA7.out.keep (KQa0c0c1.out.block ga KA7.out.lt (by have := NPga.out; omega))).cell 1 rfl; have ka0c0c1_2_gj_0 := hide ((((KJ7.out.keep (KQa0c0c1.out.block gj KJ7.out.lt (by have := NPgj.out; omega))).alloc (.cells #[.int .i64 0, .int .i64 7, .int .i64 1000000, .int .i64 300, .int .i64 5, .int .i64 (-1)] 3))).cell 0 rfl); have ka0c0c1_2_ga_0 := hide ((((KA7.out.keep (KQa0c0c1.out.block ga KA7.out.lt (by have := NPga.out; omega))).alloc (.cells #[.int .i64 0, .int .i64 7, .int .i64 1000000, .int .i64 300, .int .i64 5, .int .i64 (-1)] 3))).cell 0 rfl); have ka0c0c1_2_ga_1 := hide ((((KA7.out.keep (KQa0c0c1.out.block ga KA7.out.lt (by have := NPga.out; omega))).alloc (.cells #[.int .i64 0, .int .i64 7, .int .i64 1000000, .int .i64 300, .int .i64 5, .int .i64 (-1)] 3))).cell 1 rfl); clear b0 KS el hb kg row r)
      | (go_at_call 33; (with_reducible (show Calls _ _ _ (ya0c0.alloc (.cells #[.int .i64 0, .int .i64 7, .int .i64 1000000, .int .i64 300, .int .i64 5, .int .i64 (-1)] 3)) _)); refine (bytesOf (RDa0c0.out.alloc _) 12 (by omega)).mono ?_; rintro e ya0c0a2c1 ⟨gs, cs, ls, rfl, el, hb, kg, row, r, b0⟩; have ELs : Hid (12 = ls.length) := el; have LOs : Hid (p + 1 ≤ (ya0c0.alloc (.cells #[.int .i64 0, .int .i64 7, .int .i64 1000000, .int .i64 300, .int .i64 5, .int .i64 (-1)] 3)).heap.size ∧ x7.heap.size ≤ (ya0c0.alloc (.cells #[.int .i64 0, .int .i64 7, .int .i64 1000000, .int .i64 300, .int .i64 5, .int .i64 (-1)] 3)).heap.size) := (by have := PX.out; have := BTa0c0.out.size; have := World.size_alloc ya0c0 (.cells #[.int .i64 0, .int .i64 7, .int .i64 1000000, .int .i64 300, .int .i64 5, .int .i64 (-1)] 3); show _ ∧ _; omega); have RDa0c0a2c1 : Hid (Ready x1 a len cap l p ya0c0a2c1) := r; have BTa0c0a2c1 : Hid (But p x7 ya0c0a2c1) := (BTa0c0.out.alloc _).trans b0; have KQa0c0a2c1 : Hid (Kept p (p + 1) x7 ya0c0a2c1) := Kept.of_grown BTa0c0a2c1.out; have KS : Kept p (p + 1) (ya0c0.alloc (.cells #[.int .i64 0, .int .i64 7, .int .i64 1000000, .int .i64 300, .int .i64 5, .int .i64 (-1)] 3)) ya0c0a2c1 := Kept.of_grown b0; have Os_a0c0a2c1 : Hid (SOwn ya0c0a2c1 (ya0c0.alloc (.cells #[.int .i64 0, .int .i64 7, .int .i64 1000000, .int .i64 300, .int .i64 5, .int .i64 (-1)] 3)).heap.size ya0c0a2c1.heap.size ⟨some ⟨gs, 0, none⟩, 12, cs⟩ ls) := SOwn.row row el hb kg row.lt; have ka0c0a2c1_gj_0 := (KJ7.out.keep (KQa0c0a2c1.out.block gj KJ7.out.lt (by have := NPgj.out; omega))).cell 0 rfl; have ka0c0a2c1_ga_0 := (KA7.out.keep (KQa0c0a2c1.out.block ga KA7.out.lt (by have := NPga.out; omega))).cell 0 rfl; have ka0c0a2c1_ga_1 := (KA7.out.keep (KQa0c0a2c1.out.block ga KA7.out.lt (by have := NPga.out; omega))).cell 1 rfl; have IQ2_a0c0a2c1 : Hid ((ya0c0.heap.size) ≠ p) := (by have := PX.out; have := BTa0c0.out.size; have := World.size_alloc ya0c0 (.cells #[.int .i64 0, .int .i64 7, .int .i64 1000000, .int .i64 300, .int .i64 5, .int .i64 (-1)] 3); show _ ≠ _; omega); have hIo : IntsAt (ya0c0.alloc (.cells #[.int .i64 0, .int .i64 7, .int .i64 1000000, .int .i64 300, .int .i64 5, .int .i64 (-1)] 3)) (ya0c0.heap.size) [0, 7, 1000000, 300, 5, -1] := (ints_at ya0c0 [0, 7, 1000000, 300, 5, -1] (ya0c0.heap.size) (by rfl)); have hIp : IntsAt (ya0c0.alloc (.cells #[.int .i64 0, .int .i64 7, .int .i64 1000000, .int .i64 300, .int .i64 5, .int .i64 (-1)] 3)) (ya0c0.heap.size) [0, 7, 1000000, 300, 5, -1] := hIo; have IN2_a0c0a2c1 : Hid (IntsAt ya0c0a2c1 (ya0c0.heap.size) [0, 7, 1000000, 300, 5, -1]) := IntsAt.but hIp b0 IQ2_a0c0a2c1.out; clear hIo hIp; clear b0 KS el hb kg row r)
      | (go_at_call 33; (with_reducible (show Calls _ _ _ ya0a2c0 _)); refine (bytesOf RDa0a2c0.out 12 (by omega)).mono ?_; rintro e ya0a2c0c1 ⟨gs, cs, ls, rfl, el, hb, kg, row, r, b0⟩; have ELs : Hid (12 = ls.length) := el; have LOs : Hid (p + 1 ≤ ya0a2c0.heap.size ∧ x7.heap.size ≤ ya0a2c0.heap.size) := (by have := PX.out; have := BTa0a2c0.out.size; show _ ∧ _; omega); have RDa0a2c0c1 : Hid (Ready x1 a len cap l p ya0a2c0c1) := r; have BTa0a2c0c1 : Hid (But p x7 ya0a2c0c1) := BTa0a2c0.out.trans b0; have KQa0a2c0c1 : Hid (Kept p (p + 1) x7 ya0a2c0c1) := Kept.of_grown BTa0a2c0c1.out; have KS : Kept p (p + 1) ya0a2c0 ya0a2c0c1 := Kept.of_grown b0; have Os_a0a2c0c1 : Hid (SOwn ya0a2c0c1 ya0a2c0.heap.size ya0a2c0c1.heap.size ⟨some ⟨gs, 0, none⟩, 12, cs⟩ ls) := SOwn.row row el hb kg row.lt; have ka0a2c0c1_gj_0 := (KJ7.out.keep (KQa0a2c0c1.out.block gj KJ7.out.lt (by have := NPgj.out; omega))).cell 0 rfl; have ka0a2c0c1_ga_0 := (KA7.out.keep (KQa0a2c0c1.out.block ga KA7.out.lt (by have := NPga.out; omega))).cell 0 rfl; have ka0a2c0c1_ga_1 := (KA7.out.keep (KQa0a2c0c1.out.block ga KA7.out.lt (by have := NPga.out; omega))).cell 1 rfl; have IQ2_a0a2c0c1 : Hid ((x7.heap.size + 1) ≠ p) := IQ2_a0a2c0.out; have hIo : IntsAt ya0a2c0 (x7.heap.size + 1) [0, 7, 1000000, 300, 5, -1] := IN2_a0a2c0.out; have hIp : IntsAt ya0a2c0 (x7.heap.size + 1) [0, 7, 1000000, 300, 5, -1] := hIo; have IN2_a0a2c0c1 : Hid (IntsAt ya0a2c0c1 (x7.heap.size + 1) [0, 7, 1000000, 300, 5, -1]) := IntsAt.but hIp b0 IQ2_a0a2c0c1.out; clear hIo hIp; clear b0 KS el hb kg row r)
      | (go_at_call 33; (with_reducible (show Calls _ _ _ ya2a0c0 _)); refine (bytesOf RDa2a0c0.out 12 (by omega)).mono ?_; rintro e ya2a0c0c1 ⟨gs, cs, ls, rfl, el, hb, kg, row, r, b0⟩; have ELs : Hid (12 = ls.length) := el; have LOs : Hid (p + 1 ≤ ya2a0c0.heap.size ∧ x7.heap.size ≤ ya2a0c0.heap.size) := (by have := PX.out; have := BTa2a0c0.out.size; show _ ∧ _; omega); have RDa2a0c0c1 : Hid (Ready x1 a len cap l p ya2a0c0c1) := r; have BTa2a0c0c1 : Hid (But p x7 ya2a0c0c1) := BTa2a0c0.out.trans b0; have KQa2a0c0c1 : Hid (Kept p (p + 1) x7 ya2a0c0c1) := Kept.of_grown BTa2a0c0c1.out; have KS : Kept p (p + 1) ya2a0c0 ya2a0c0c1 := Kept.of_grown b0; have Os_a2a0c0c1 : Hid (SOwn ya2a0c0c1 ya2a0c0.heap.size ya2a0c0c1.heap.size ⟨some ⟨gs, 0, none⟩, 12, cs⟩ ls) := SOwn.row row el hb kg row.lt; have ka2a0c0c1_gj_0 := (KJ7.out.keep (KQa2a0c0c1.out.block gj KJ7.out.lt (by have := NPgj.out; omega))).cell 0 rfl; have ka2a0c0c1_ga_0 := (KA7.out.keep (KQa2a0c0c1.out.block ga KA7.out.lt (by have := NPga.out; omega))).cell 0 rfl; have ka2a0c0c1_ga_1 := (KA7.out.keep (KQa2a0c0c1.out.block ga KA7.out.lt (by have := NPga.out; omega))).cell 1 rfl; have IQ2_a2a0c0c1 : Hid ((x7.heap.size) ≠ p) := IQ2_a2a0c0.out; have hIo : IntsAt ya2a0c0 (x7.heap.size) [0, 7, 1000000, 300, 5, -1] := IN2_a2a0c0.out; have hIp : IntsAt ya2a0c0 (x7.heap.size) [0, 7, 1000000, 300, 5, -1] := hIo; have IN2_a2a0c0c1 : Hid (IntsAt ya2a0c0c1 (x7.heap.size) [0, 7, 1000000, 300, 5, -1]) := IntsAt.but hIp b0 IQ2_a2a0c0c1.out; clear hIo hIp; clear b0 KS el hb kg row r)
      | (go_at_call 34; (with_reducible (show Calls _ _ _ (x7.alloc (.cells #[.int .i64 1, .int .i64 2, .int .i64 9, .int .i64 1, .int .i64 2, .int .i64 0] 3)).drew _)); have hRd : Ready x1 a len cap l p (x7.alloc (.cells #[.int .i64 1, .int .i64 2, .int .i64 9, .int .i64 1, .int .i64 2, .int .i64 0] 3)).drew := (rdyL (RDX.out.alloc _) ((Below.refl _ _).drew)); have hIn : IntsAt (x7.alloc (.cells #[.int .i64 1, .int .i64 2, .int .i64 9, .int .i64 1, .int .i64 2, .int .i64 0] 3)) (x7.heap.size) [1, 2, 9, 1, 2, 0] := (ints_at x7 [1, 2, 9, 1, 2, 0] (x7.heap.size) (by rfl)); have hI2 : IntsAt (x7.alloc (.cells #[.int .i64 1, .int .i64 2, .int .i64 9, .int .i64 1, .int .i64 2, .int .i64 0] 3)).drew (x7.heap.size) [1, 2, 9, 1, 2, 0] := hIn; have hNe : (x7.heap.size) ≠ p := (by have := PX.out; have := World.size_alloc x7 (.cells #[.int .i64 1, .int .i64 2, .int .i64 9, .int .i64 1, .int .i64 2, .int .i64 0] 3); show _ ≠ _; omega); refine (intOfList hRd (x7.heap.size) 6 [1, 2, 9, 1, 2, 0] rfl hI2 hNe (by omega) (by omega)).mono ?_; rintro e ya0c0 ⟨id, rfl, vm, r, b0⟩; have VMid : Hid (id ∈ ([1, 2, 9, 1, 2, 0] : List Int)) := vm; have RDa0c0 : Hid (Ready x1 a len cap l p ya0c0) := r; have BTa0c0 : Hid (But p x7 ya0c0) := (But.drew (BTX.out.alloc _)).trans b0; have KQa0c0 : Hid (Kept p (p + 1) x7 ya0c0) := Kept.of_grown BTa0c0.out; have KS : Kept p (p + 1) (x7.alloc (.cells #[.int .i64 1, .int .i64 2, .int .i64 9, .int .i64 1, .int .i64 2, .int .i64 0] 3)).drew ya0c0 := Kept.of_grown b0; have ka0c0_gj_0 := (KJ7.out.keep (KQa0c0.out.block gj KJ7.out.lt (by have := NPgj.out; omega))).cell 0 rfl; have ka0c0_ga_0 := (KA7.out.keep (KQa0c0.out.block ga KA7.out.lt (by have := NPga.out; omega))).cell 0 rfl; have ka0c0_ga_1 := (KA7.out.keep (KQa0c0.out.block ga KA7.out.lt (by have := NPga.out; omega))).cell 1 rfl; have ka0c0_2_gj_0 := hide ((((KJ7.out.keep (KQa0c0.out.block gj KJ7.out.lt (by have := NPgj.out; omega))).alloc (.cells #[.int .i64 0, .int .i64 7, .int .i64 1000000, .int .i64 300, .int .i64 5, .int .i64 (-1)] 3))).cell 0 rfl); have ka0c0_2_ga_0 := hide ((((KA7.out.keep (KQa0c0.out.block ga KA7.out.lt (by have := NPga.out; omega))).alloc (.cells #[.int .i64 0, .int .i64 7, .int .i64 1000000, .int .i64 300, .int .i64 5, .int .i64 (-1)] 3))).cell 0 rfl); have ka0c0_2_ga_1 := hide ((((KA7.out.keep (KQa0c0.out.block ga KA7.out.lt (by have := NPga.out; omega))).alloc (.cells #[.int .i64 0, .int .i64 7, .int .i64 1000000, .int .i64 300, .int .i64 5, .int .i64 (-1)] 3))).cell 1 rfl); clear b0 KS vm r hRd hIn hI2 hNe)
      | (go_at_call 34; (with_reducible (show Calls _ _ _ ((x7.alloc (.cells #[.int .i64 1, .int .i64 2, .int .i64 9, .int .i64 1, .int .i64 2, .int .i64 0] 3)).alloc (.cells #[.int .i64 0, .int .i64 7, .int .i64 1000000, .int .i64 300, .int .i64 5, .int .i64 (-1)] 3)).drew _)); have hRd : Ready x1 a len cap l p ((x7.alloc (.cells #[.int .i64 1, .int .i64 2, .int .i64 9, .int .i64 1, .int .i64 2, .int .i64 0] 3)).alloc (.cells #[.int .i64 0, .int .i64 7, .int .i64 1000000, .int .i64 300, .int .i64 5, .int .i64 (-1)] 3)).drew := (rdyL ((RDX.out.alloc _).alloc _) ((Below.refl _ _).drew)); have hIn : IntsAt ((x7.alloc (.cells #[.int .i64 1, .int .i64 2, .int .i64 9, .int .i64 1, .int .i64 2, .int .i64 0] 3)).alloc (.cells #[.int .i64 0, .int .i64 7, .int .i64 1000000, .int .i64 300, .int .i64 5, .int .i64 (-1)] 3)) (x7.heap.size) [1, 2, 9, 1, 2, 0] := (IntsAt.but (ints_at x7 [1, 2, 9, 1, 2, 0] (x7.heap.size) (by rfl)) ((But.refl p (x7.alloc (.cells #[.int .i64 1, .int .i64 2, .int .i64 9, .int .i64 1, .int .i64 2, .int .i64 0] 3))).alloc (.cells #[.int .i64 0, .int .i64 7, .int .i64 1000000, .int .i64 300, .int .i64 5, .int .i64 (-1)] 3)) (by have := PX.out; have := World.size_alloc x7 (.cells #[.int .i64 1, .int .i64 2, .int .i64 9, .int .i64 1, .int .i64 2, .int .i64 0] 3); have := World.size_alloc (x7.alloc (.cells #[.int .i64 1, .int .i64 2, .int .i64 9, .int .i64 1, .int .i64 2, .int .i64 0] 3)) (.cells #[.int .i64 0, .int .i64 7, .int .i64 1000000, .int .i64 300, .int .i64 5, .int .i64 (-1)] 3); show _ ≠ _; omega)); have hI2 : IntsAt ((x7.alloc (.cells #[.int .i64 1, .int .i64 2, .int .i64 9, .int .i64 1, .int .i64 2, .int .i64 0] 3)).alloc (.cells #[.int .i64 0, .int .i64 7, .int .i64 1000000, .int .i64 300, .int .i64 5, .int .i64 (-1)] 3)).drew (x7.heap.size) [1, 2, 9, 1, 2, 0] := hIn; have hNe : (x7.heap.size) ≠ p := (by have := PX.out; have := World.size_alloc x7 (.cells #[.int .i64 1, .int .i64 2, .int .i64 9, .int .i64 1, .int .i64 2, .int .i64 0] 3); have := World.size_alloc (x7.alloc (.cells #[.int .i64 1, .int .i64 2, .int .i64 9, .int .i64 1, .int .i64 2, .int .i64 0] 3)) (.cells #[.int .i64 0, .int .i64 7, .int .i64 1000000, .int .i64 300, .int .i64 5, .int .i64 (-1)] 3); show _ ≠ _; omega); refine (intOfList hRd (x7.heap.size) 6 [1, 2, 9, 1, 2, 0] rfl hI2 hNe (by omega) (by omega)).mono ?_; rintro e ya0a2c0 ⟨id, rfl, vm, r, b0⟩; have VMid : Hid (id ∈ ([1, 2, 9, 1, 2, 0] : List Int)) := vm; have RDa0a2c0 : Hid (Ready x1 a len cap l p ya0a2c0) := r; have BTa0a2c0 : Hid (But p x7 ya0a2c0) := (But.drew ((BTX.out.alloc _).alloc _)).trans b0; have KQa0a2c0 : Hid (Kept p (p + 1) x7 ya0a2c0) := Kept.of_grown BTa0a2c0.out; have KS : Kept p (p + 1) ((x7.alloc (.cells #[.int .i64 1, .int .i64 2, .int .i64 9, .int .i64 1, .int .i64 2, .int .i64 0] 3)).alloc (.cells #[.int .i64 0, .int .i64 7, .int .i64 1000000, .int .i64 300, .int .i64 5, .int .i64 (-1)] 3)).drew ya0a2c0 := Kept.of_grown b0; have ka0a2c0_gj_0 := (KJ7.out.keep (KQa0a2c0.out.block gj KJ7.out.lt (by have := NPgj.out; omega))).cell 0 rfl; have ka0a2c0_ga_0 := (KA7.out.keep (KQa0a2c0.out.block ga KA7.out.lt (by have := NPga.out; omega))).cell 0 rfl; have ka0a2c0_ga_1 := (KA7.out.keep (KQa0a2c0.out.block ga KA7.out.lt (by have := NPga.out; omega))).cell 1 rfl; have IQ2_a0a2c0 : Hid ((x7.heap.size + 1) ≠ p) := (by have := PX.out; have := World.size_alloc x7 (.cells #[.int .i64 1, .int .i64 2, .int .i64 9, .int .i64 1, .int .i64 2, .int .i64 0] 3); have := World.size_alloc (x7.alloc (.cells #[.int .i64 1, .int .i64 2, .int .i64 9, .int .i64 1, .int .i64 2, .int .i64 0] 3)) (.cells #[.int .i64 0, .int .i64 7, .int .i64 1000000, .int .i64 300, .int .i64 5, .int .i64 (-1)] 3); show _ ≠ _; omega); have hIo : IntsAt ((x7.alloc (.cells #[.int .i64 1, .int .i64 2, .int .i64 9, .int .i64 1, .int .i64 2, .int .i64 0] 3)).alloc (.cells #[.int .i64 0, .int .i64 7, .int .i64 1000000, .int .i64 300, .int .i64 5, .int .i64 (-1)] 3)) (x7.heap.size + 1) [0, 7, 1000000, 300, 5, -1] := (ints_at (x7.alloc (.cells #[.int .i64 1, .int .i64 2, .int .i64 9, .int .i64 1, .int .i64 2, .int .i64 0] 3)) [0, 7, 1000000, 300, 5, -1] (x7.heap.size + 1) (by simp [World.size_alloc])); have hIp : IntsAt ((x7.alloc (.cells #[.int .i64 1, .int .i64 2, .int .i64 9, .int .i64 1, .int .i64 2, .int .i64 0] 3)).alloc (.cells #[.int .i64 0, .int .i64 7, .int .i64 1000000, .int .i64 300, .int .i64 5, .int .i64 (-1)] 3)).drew (x7.heap.size + 1) [0, 7, 1000000, 300, 5, -1] := hIo; have IN2_a0a2c0 : Hid (IntsAt ya0a2c0 (x7.heap.size + 1) [0, 7, 1000000, 300, 5, -1]) := IntsAt.but hIp b0 IQ2_a0a2c0.out; clear hIo hIp; clear b0 KS vm r hRd hIn hI2 hNe)
      | (go_at_call 34; (with_reducible (show Calls _ _ _ ((x7.alloc (.cells #[.int .i64 0, .int .i64 7, .int .i64 1000000, .int .i64 300, .int .i64 5, .int .i64 (-1)] 3)).alloc (.cells #[.int .i64 1, .int .i64 2, .int .i64 9, .int .i64 1, .int .i64 2, .int .i64 0] 3)).drew _)); have hRd : Ready x1 a len cap l p ((x7.alloc (.cells #[.int .i64 0, .int .i64 7, .int .i64 1000000, .int .i64 300, .int .i64 5, .int .i64 (-1)] 3)).alloc (.cells #[.int .i64 1, .int .i64 2, .int .i64 9, .int .i64 1, .int .i64 2, .int .i64 0] 3)).drew := (rdyL ((RDX.out.alloc _).alloc _) ((Below.refl _ _).drew)); have hIn : IntsAt ((x7.alloc (.cells #[.int .i64 0, .int .i64 7, .int .i64 1000000, .int .i64 300, .int .i64 5, .int .i64 (-1)] 3)).alloc (.cells #[.int .i64 1, .int .i64 2, .int .i64 9, .int .i64 1, .int .i64 2, .int .i64 0] 3)) (x7.heap.size + 1) [1, 2, 9, 1, 2, 0] := (ints_at (x7.alloc (.cells #[.int .i64 0, .int .i64 7, .int .i64 1000000, .int .i64 300, .int .i64 5, .int .i64 (-1)] 3)) [1, 2, 9, 1, 2, 0] (x7.heap.size + 1) (by simp [World.size_alloc])); have hI2 : IntsAt ((x7.alloc (.cells #[.int .i64 0, .int .i64 7, .int .i64 1000000, .int .i64 300, .int .i64 5, .int .i64 (-1)] 3)).alloc (.cells #[.int .i64 1, .int .i64 2, .int .i64 9, .int .i64 1, .int .i64 2, .int .i64 0] 3)).drew (x7.heap.size + 1) [1, 2, 9, 1, 2, 0] := hIn; have hNe : (x7.heap.size + 1) ≠ p := (by have := PX.out; have := World.size_alloc x7 (.cells #[.int .i64 0, .int .i64 7, .int .i64 1000000, .int .i64 300, .int .i64 5, .int .i64 (-1)] 3); have := World.size_alloc (x7.alloc (.cells #[.int .i64 0, .int .i64 7, .int .i64 1000000, .int .i64 300, .int .i64 5, .int .i64 (-1)] 3)) (.cells #[.int .i64 1, .int .i64 2, .int .i64 9, .int .i64 1, .int .i64 2, .int .i64 0] 3); show _ ≠ _; omega); refine (intOfList hRd (x7.heap.size + 1) 6 [1, 2, 9, 1, 2, 0] rfl hI2 hNe (by omega) (by omega)).mono ?_; rintro e ya2a0c0 ⟨id, rfl, vm, r, b0⟩; have VMid : Hid (id ∈ ([1, 2, 9, 1, 2, 0] : List Int)) := vm; have RDa2a0c0 : Hid (Ready x1 a len cap l p ya2a0c0) := r; have BTa2a0c0 : Hid (But p x7 ya2a0c0) := (But.drew ((BTX.out.alloc _).alloc _)).trans b0; have KQa2a0c0 : Hid (Kept p (p + 1) x7 ya2a0c0) := Kept.of_grown BTa2a0c0.out; have KS : Kept p (p + 1) ((x7.alloc (.cells #[.int .i64 0, .int .i64 7, .int .i64 1000000, .int .i64 300, .int .i64 5, .int .i64 (-1)] 3)).alloc (.cells #[.int .i64 1, .int .i64 2, .int .i64 9, .int .i64 1, .int .i64 2, .int .i64 0] 3)).drew ya2a0c0 := Kept.of_grown b0; have ka2a0c0_gj_0 := (KJ7.out.keep (KQa2a0c0.out.block gj KJ7.out.lt (by have := NPgj.out; omega))).cell 0 rfl; have ka2a0c0_ga_0 := (KA7.out.keep (KQa2a0c0.out.block ga KA7.out.lt (by have := NPga.out; omega))).cell 0 rfl; have ka2a0c0_ga_1 := (KA7.out.keep (KQa2a0c0.out.block ga KA7.out.lt (by have := NPga.out; omega))).cell 1 rfl; have IQ2_a2a0c0 : Hid ((x7.heap.size) ≠ p) := (by have := PX.out; have := World.size_alloc x7 (.cells #[.int .i64 0, .int .i64 7, .int .i64 1000000, .int .i64 300, .int .i64 5, .int .i64 (-1)] 3); have := World.size_alloc (x7.alloc (.cells #[.int .i64 0, .int .i64 7, .int .i64 1000000, .int .i64 300, .int .i64 5, .int .i64 (-1)] 3)) (.cells #[.int .i64 1, .int .i64 2, .int .i64 9, .int .i64 1, .int .i64 2, .int .i64 0] 3); show _ ≠ _; omega); have hIo : IntsAt ((x7.alloc (.cells #[.int .i64 0, .int .i64 7, .int .i64 1000000, .int .i64 300, .int .i64 5, .int .i64 (-1)] 3)).alloc (.cells #[.int .i64 1, .int .i64 2, .int .i64 9, .int .i64 1, .int .i64 2, .int .i64 0] 3)) (x7.heap.size) [0, 7, 1000000, 300, 5, -1] := (IntsAt.but (ints_at x7 [0, 7, 1000000, 300, 5, -1] (x7.heap.size) (by rfl)) ((But.refl p (x7.alloc (.cells #[.int .i64 0, .int .i64 7, .int .i64 1000000, .int .i64 300, .int .i64 5, .int .i64 (-1)] 3))).alloc (.cells #[.int .i64 1, .int .i64 2, .int .i64 9, .int .i64 1, .int .i64 2, .int .i64 0] 3)) (by have := PX.out; have := World.size_alloc x7 (.cells #[.int .i64 0, .int .i64 7, .int .i64 1000000, .int .i64 300, .int .i64 5, .int .i64 (-1)] 3); have := World.size_alloc (x7.alloc (.cells #[.int .i64 0, .int .i64 7, .int .i64 1000000, .int .i64 300, .int .i64 5, .int .i64 (-1)] 3)) (.cells #[.int .i64 1, .int .i64 2, .int .i64 9, .int .i64 1, .int .i64 2, .int .i64 0] 3); show _ ≠ _; omega)); have hIp : IntsAt ((x7.alloc (.cells #[.int .i64 0, .int .i64 7, .int .i64 1000000, .int .i64 300, .int .i64 5, .int .i64 (-1)] 3)).alloc (.cells #[.int .i64 1, .int .i64 2, .int .i64 9, .int .i64 1, .int .i64 2, .int .i64 0] 3)).drew (x7.heap.size) [0, 7, 1000000, 300, 5, -1] := hIo; have IN2_a2a0c0 : Hid (IntsAt ya2a0c0 (x7.heap.size) [0, 7, 1000000, 300, 5, -1]) := IntsAt.but hIp b0 IQ2_a2a0c0.out; clear hIo hIp; clear b0 KS vm r hRd hIn hI2 hNe))
  · skip
    have bQ := BTa0c0c1a2c2.out
    have rQ := RDa0c0c1a2c2.out
    have L8 : Hid (x7.heap.size ≤ ya0c0c1a2c2.heap.size) := bQ.size
    have KQ : Kept p (p + 1) x7 ya0c0c1a2c2 := Kept.of_grown bQ
    have B8 : Hid (Below w.heap.size w ya0c0c1a2c2) := But.below bQ B7.out (by have := L1.out; have := GA.out; have := L2.out; have := HP.out; have := L3.out; have := L4.out; have := Ggj.out; have := L5.out; have := L6.out; have := Gga.out; have := L7.out; have := L8.out; omega)
    have KO8 : Hid (Blk ya0c0c1a2c2 go 25 [.slice none 0 0]) := KO7.out.keep (KQ.block _ KO7.out.lt (by have := L1.out; have := GA.out; have := L2.out; have := HP.out; have := L3.out; have := L4.out; have := Ggj.out; have := L5.out; have := L6.out; have := Gga.out; have := L7.out; have := L8.out; omega))
    have KP8 : Hid (Blk ya0c0c1a2c2 gp 27 [.int .i64 0, .int .i64 0]) := KP7.out.keep (KQ.block _ KP7.out.lt (by have := L1.out; have := GA.out; have := L2.out; have := HP.out; have := L3.out; have := L4.out; have := Ggj.out; have := L5.out; have := L6.out; have := Gga.out; have := L7.out; have := L8.out; omega))
    have R8 : Hid (Ready x1 a len cap l p ya0c0c1a2c2) := rQ
    have OE8 : Hid (JaOwn ya0c0c1a2c2 x2.heap.size x3.heap.size S0 D0) := OE7.out.carry KQ (by have := L1.out; have := GA.out; have := L2.out; have := HP.out; have := L3.out; have := L4.out; have := Ggj.out; have := L5.out; have := L6.out; have := Gga.out; have := L7.out; have := L8.out; omega)
    have KJ8 : Hid (Blk ya0c0c1a2c2 gj 25 [.slice S0.secret.a S0.secret.n S0.secret.c]) := KJ7.out.keep (KQ.block _ KJ7.out.lt (by have := L1.out; have := GA.out; have := L2.out; have := HP.out; have := L3.out; have := L4.out; have := Ggj.out; have := L5.out; have := L6.out; have := Gga.out; have := L7.out; have := L8.out; omega))
    have KA8 : Hid (Blk ya0c0c1a2c2 ga 27 [.int .i64 ah, .int .i64 ap]) := KA7.out.keep (KQ.block _ KA7.out.lt (by have := L1.out; have := GA.out; have := L2.out; have := HP.out; have := L3.out; have := L4.out; have := Ggj.out; have := L5.out; have := L6.out; have := Gga.out; have := L7.out; have := L8.out; omega))
    have On_8 : Hid (SOwn ya0c0c1a2c2 x6.heap.size x7.heap.size ⟨some ⟨gn, 0, none⟩, 12, cn⟩ ln) := On_7.out.carry KQ (by have := L1.out; have := GA.out; have := L2.out; have := HP.out; have := L3.out; have := L4.out; have := Ggj.out; have := L5.out; have := L6.out; have := Gga.out; have := L7.out; have := L8.out; omega)
    clear B7 KO7 KP7 R7 OE7 KJ7 KA7 On_7 bQ
    clear KQ rQ
    have Os_8 : Hid (SOwn ya0c0c1a2c2 ya0c0.heap.size ya0c0c1.heap.size ⟨some ⟨gs, 0, none⟩, 12, cs⟩ ls) := Os_a0c0c1a2c2.out
    go_wp2
    have NEo : go ≠ gp := by have := L1.out; have := GA.out; have := L2.out; have := HP.out; have := L3.out; have := L4.out; have := Ggj.out; have := L5.out; have := L6.out; have := Gga.out; have := L7.out; have := L8.out; have := LOs.out; omega
    have NEp : gp ≠ go := by have := L1.out; have := GA.out; have := L2.out; have := HP.out; have := L3.out; have := L4.out; have := Ggj.out; have := L5.out; have := L6.out; have := Gga.out; have := L7.out; have := L8.out; have := LOs.out; omega
    have k1 := Blk.other (a := ⟨gp, 1, none⟩) (Blk.other (a := ⟨gp, 0, none⟩) (KO8.out.set 0 (.slice S0.secret.a S0.secret.n S0.secret.c) (by simp [maxLen])) NEo (.int .i64 ah)) NEo (.int .i64 ap)
    have k2 := ((Blk.other (a := ⟨go, 0, none⟩) KP8.out NEp (.slice S0.secret.a S0.secret.n S0.secret.c)).set 0 (.int .i64 ah) (by simp [maxLen])).set 1 (.int .i64 ap) (by simp [maxLen])
    have KZ : Kept go (gp + 1) ya0c0c1a2c2 (((ya0c0c1a2c2.setCell ⟨go, 0, none⟩ (.slice S0.secret.a S0.secret.n S0.secret.c)).setCell ⟨gp, 0, none⟩ (.int .i64 ah)).setCell ⟨gp, 1, none⟩ (.int .i64 ap)) := (((Kept.setCell _ go 0 _).mono (Nat.le_refl _) (by have := L1.out; have := GA.out; have := L2.out; have := HP.out; have := L3.out; have := L4.out; have := Ggj.out; have := L5.out; have := L6.out; have := Gga.out; have := L7.out; have := L8.out; have := LOs.out; omega)).trans ((Kept.setCell _ gp 0 _).mono (by have := L1.out; have := GA.out; have := L2.out; have := HP.out; have := L3.out; have := L4.out; have := Ggj.out; have := L5.out; have := L6.out; have := Gga.out; have := L7.out; have := L8.out; have := LOs.out; omega) (Nat.le_refl _))).trans ((Kept.setCell _ gp 1 _).mono (by have := L1.out; have := GA.out; have := L2.out; have := HP.out; have := L3.out; have := L4.out; have := Ggj.out; have := L5.out; have := L6.out; have := Gga.out; have := L7.out; have := L8.out; have := LOs.out; omega) (Nat.le_refl _))
    exact bodyPost_ret (v := .tuple #[jaV D0 S0, addrV ah ap, .int .i64 id, .slice (some ⟨gn, 0, none⟩) 12 cn, .slice (some ⟨gs, 0, none⟩) 12 cs, .int .i64 tk]) (res6 rfl (is_cell rfl k1 aggJa) (is_cell rfl k2 aggA) (is_tmp rfl) (is_tmp rfl) (is_tmp rfl) (is_tmp rfl)) rfl ⟨D0, S0, ah, ap, id, ⟨some ⟨gn, 0, none⟩, 12, cn⟩, ln, ⟨some ⟨gs, 0, none⟩, 12, cs⟩, ls, tk, rfl, HS0.out, (OE8.out.carry KZ (.inr (by have := L1.out; have := GA.out; have := L2.out; have := HP.out; have := L3.out; have := L4.out; have := Ggj.out; have := L5.out; have := L6.out; have := Gga.out; have := L7.out; have := L8.out; have := LOs.out; omega))).rd, (On_8.out.carry KZ (.inr (by have := L1.out; have := GA.out; have := L2.out; have := HP.out; have := L3.out; have := L4.out; have := Ggj.out; have := L5.out; have := L6.out; have := Gga.out; have := L7.out; have := L8.out; have := LOs.out; omega))).rd, (Os_8.out.carry KZ (.inr (by have := L1.out; have := GA.out; have := L2.out; have := HP.out; have := L3.out; have := L4.out; have := Ggj.out; have := L5.out; have := L6.out; have := Gga.out; have := L7.out; have := L8.out; have := LOs.out; omega))).rd, by have q := VMtk.out; simp only [List.mem_cons, List.mem_nil_iff, or_false] at q; omega, B8.out.trans (KZ.below (by have := L1.out; have := GA.out; have := L2.out; have := HP.out; have := L3.out; have := L4.out; have := Ggj.out; have := L5.out; have := L6.out; have := Gga.out; have := L7.out; have := L8.out; have := LOs.out; omega) B8.out.size)⟩
  · skip
    have bQ := BTa0c0a2c1c2.out
    have rQ := RDa0c0a2c1c2.out
    have L8 : Hid (x7.heap.size ≤ ya0c0a2c1c2.heap.size) := bQ.size
    have KQ : Kept p (p + 1) x7 ya0c0a2c1c2 := Kept.of_grown bQ
    have B8 : Hid (Below w.heap.size w ya0c0a2c1c2) := But.below bQ B7.out (by have := L1.out; have := GA.out; have := L2.out; have := HP.out; have := L3.out; have := L4.out; have := Ggj.out; have := L5.out; have := L6.out; have := Gga.out; have := L7.out; have := L8.out; omega)
    have KO8 : Hid (Blk ya0c0a2c1c2 go 25 [.slice none 0 0]) := KO7.out.keep (KQ.block _ KO7.out.lt (by have := L1.out; have := GA.out; have := L2.out; have := HP.out; have := L3.out; have := L4.out; have := Ggj.out; have := L5.out; have := L6.out; have := Gga.out; have := L7.out; have := L8.out; omega))
    have KP8 : Hid (Blk ya0c0a2c1c2 gp 27 [.int .i64 0, .int .i64 0]) := KP7.out.keep (KQ.block _ KP7.out.lt (by have := L1.out; have := GA.out; have := L2.out; have := HP.out; have := L3.out; have := L4.out; have := Ggj.out; have := L5.out; have := L6.out; have := Gga.out; have := L7.out; have := L8.out; omega))
    have R8 : Hid (Ready x1 a len cap l p ya0c0a2c1c2) := rQ
    have OE8 : Hid (JaOwn ya0c0a2c1c2 x2.heap.size x3.heap.size S0 D0) := OE7.out.carry KQ (by have := L1.out; have := GA.out; have := L2.out; have := HP.out; have := L3.out; have := L4.out; have := Ggj.out; have := L5.out; have := L6.out; have := Gga.out; have := L7.out; have := L8.out; omega)
    have KJ8 : Hid (Blk ya0c0a2c1c2 gj 25 [.slice S0.secret.a S0.secret.n S0.secret.c]) := KJ7.out.keep (KQ.block _ KJ7.out.lt (by have := L1.out; have := GA.out; have := L2.out; have := HP.out; have := L3.out; have := L4.out; have := Ggj.out; have := L5.out; have := L6.out; have := Gga.out; have := L7.out; have := L8.out; omega))
    have KA8 : Hid (Blk ya0c0a2c1c2 ga 27 [.int .i64 ah, .int .i64 ap]) := KA7.out.keep (KQ.block _ KA7.out.lt (by have := L1.out; have := GA.out; have := L2.out; have := HP.out; have := L3.out; have := L4.out; have := Ggj.out; have := L5.out; have := L6.out; have := Gga.out; have := L7.out; have := L8.out; omega))
    have On_8 : Hid (SOwn ya0c0a2c1c2 x6.heap.size x7.heap.size ⟨some ⟨gn, 0, none⟩, 12, cn⟩ ln) := On_7.out.carry KQ (by have := L1.out; have := GA.out; have := L2.out; have := HP.out; have := L3.out; have := L4.out; have := Ggj.out; have := L5.out; have := L6.out; have := Gga.out; have := L7.out; have := L8.out; omega)
    clear B7 KO7 KP7 R7 OE7 KJ7 KA7 On_7 bQ
    clear KQ rQ
    have Os_8 : Hid (SOwn ya0c0a2c1c2 (ya0c0.alloc (.cells #[.int .i64 0, .int .i64 7, .int .i64 1000000, .int .i64 300, .int .i64 5, .int .i64 (-1)] 3)).heap.size ya0c0a2c1.heap.size ⟨some ⟨gs, 0, none⟩, 12, cs⟩ ls) := Os_a0c0a2c1c2.out
    go_wp2
    have NEo : go ≠ gp := by have := L1.out; have := GA.out; have := L2.out; have := HP.out; have := L3.out; have := L4.out; have := Ggj.out; have := L5.out; have := L6.out; have := Gga.out; have := L7.out; have := L8.out; have := LOs.out; omega
    have NEp : gp ≠ go := by have := L1.out; have := GA.out; have := L2.out; have := HP.out; have := L3.out; have := L4.out; have := Ggj.out; have := L5.out; have := L6.out; have := Gga.out; have := L7.out; have := L8.out; have := LOs.out; omega
    have k1 := Blk.other (a := ⟨gp, 1, none⟩) (Blk.other (a := ⟨gp, 0, none⟩) (KO8.out.set 0 (.slice S0.secret.a S0.secret.n S0.secret.c) (by simp [maxLen])) NEo (.int .i64 ah)) NEo (.int .i64 ap)
    have k2 := ((Blk.other (a := ⟨go, 0, none⟩) KP8.out NEp (.slice S0.secret.a S0.secret.n S0.secret.c)).set 0 (.int .i64 ah) (by simp [maxLen])).set 1 (.int .i64 ap) (by simp [maxLen])
    have KZ : Kept go (gp + 1) ya0c0a2c1c2 (((ya0c0a2c1c2.setCell ⟨go, 0, none⟩ (.slice S0.secret.a S0.secret.n S0.secret.c)).setCell ⟨gp, 0, none⟩ (.int .i64 ah)).setCell ⟨gp, 1, none⟩ (.int .i64 ap)) := (((Kept.setCell _ go 0 _).mono (Nat.le_refl _) (by have := L1.out; have := GA.out; have := L2.out; have := HP.out; have := L3.out; have := L4.out; have := Ggj.out; have := L5.out; have := L6.out; have := Gga.out; have := L7.out; have := L8.out; have := LOs.out; omega)).trans ((Kept.setCell _ gp 0 _).mono (by have := L1.out; have := GA.out; have := L2.out; have := HP.out; have := L3.out; have := L4.out; have := Ggj.out; have := L5.out; have := L6.out; have := Gga.out; have := L7.out; have := L8.out; have := LOs.out; omega) (Nat.le_refl _))).trans ((Kept.setCell _ gp 1 _).mono (by have := L1.out; have := GA.out; have := L2.out; have := HP.out; have := L3.out; have := L4.out; have := Ggj.out; have := L5.out; have := L6.out; have := Gga.out; have := L7.out; have := L8.out; have := LOs.out; omega) (Nat.le_refl _))
    exact bodyPost_ret (v := .tuple #[jaV D0 S0, addrV ah ap, .int .i64 id, .slice (some ⟨gn, 0, none⟩) 12 cn, .slice (some ⟨gs, 0, none⟩) 12 cs, .int .i64 tk]) (res6 rfl (is_cell rfl k1 aggJa) (is_cell rfl k2 aggA) (is_tmp rfl) (is_tmp rfl) (is_tmp rfl) (is_tmp rfl)) rfl ⟨D0, S0, ah, ap, id, ⟨some ⟨gn, 0, none⟩, 12, cn⟩, ln, ⟨some ⟨gs, 0, none⟩, 12, cs⟩, ls, tk, rfl, HS0.out, (OE8.out.carry KZ (.inr (by have := L1.out; have := GA.out; have := L2.out; have := HP.out; have := L3.out; have := L4.out; have := Ggj.out; have := L5.out; have := L6.out; have := Gga.out; have := L7.out; have := L8.out; have := LOs.out; omega))).rd, (On_8.out.carry KZ (.inr (by have := L1.out; have := GA.out; have := L2.out; have := HP.out; have := L3.out; have := L4.out; have := Ggj.out; have := L5.out; have := L6.out; have := Gga.out; have := L7.out; have := L8.out; have := LOs.out; omega))).rd, (Os_8.out.carry KZ (.inr (by have := L1.out; have := GA.out; have := L2.out; have := HP.out; have := L3.out; have := L4.out; have := Ggj.out; have := L5.out; have := L6.out; have := Gga.out; have := L7.out; have := L8.out; have := LOs.out; omega))).rd, by have q := VMtk.out; simp only [List.mem_cons, List.mem_nil_iff, or_false] at q; omega, B8.out.trans (KZ.below (by have := L1.out; have := GA.out; have := L2.out; have := HP.out; have := L3.out; have := L4.out; have := Ggj.out; have := L5.out; have := L6.out; have := Gga.out; have := L7.out; have := L8.out; have := LOs.out; omega) B8.out.size)⟩
  · skip
    have bQ := BTa0a2c0c1c2.out
    have rQ := RDa0a2c0c1c2.out
    have L8 : Hid (x7.heap.size ≤ ya0a2c0c1c2.heap.size) := bQ.size
    have KQ : Kept p (p + 1) x7 ya0a2c0c1c2 := Kept.of_grown bQ
    have B8 : Hid (Below w.heap.size w ya0a2c0c1c2) := But.below bQ B7.out (by have := L1.out; have := GA.out; have := L2.out; have := HP.out; have := L3.out; have := L4.out; have := Ggj.out; have := L5.out; have := L6.out; have := Gga.out; have := L7.out; have := L8.out; omega)
    have KO8 : Hid (Blk ya0a2c0c1c2 go 25 [.slice none 0 0]) := KO7.out.keep (KQ.block _ KO7.out.lt (by have := L1.out; have := GA.out; have := L2.out; have := HP.out; have := L3.out; have := L4.out; have := Ggj.out; have := L5.out; have := L6.out; have := Gga.out; have := L7.out; have := L8.out; omega))
    have KP8 : Hid (Blk ya0a2c0c1c2 gp 27 [.int .i64 0, .int .i64 0]) := KP7.out.keep (KQ.block _ KP7.out.lt (by have := L1.out; have := GA.out; have := L2.out; have := HP.out; have := L3.out; have := L4.out; have := Ggj.out; have := L5.out; have := L6.out; have := Gga.out; have := L7.out; have := L8.out; omega))
    have R8 : Hid (Ready x1 a len cap l p ya0a2c0c1c2) := rQ
    have OE8 : Hid (JaOwn ya0a2c0c1c2 x2.heap.size x3.heap.size S0 D0) := OE7.out.carry KQ (by have := L1.out; have := GA.out; have := L2.out; have := HP.out; have := L3.out; have := L4.out; have := Ggj.out; have := L5.out; have := L6.out; have := Gga.out; have := L7.out; have := L8.out; omega)
    have KJ8 : Hid (Blk ya0a2c0c1c2 gj 25 [.slice S0.secret.a S0.secret.n S0.secret.c]) := KJ7.out.keep (KQ.block _ KJ7.out.lt (by have := L1.out; have := GA.out; have := L2.out; have := HP.out; have := L3.out; have := L4.out; have := Ggj.out; have := L5.out; have := L6.out; have := Gga.out; have := L7.out; have := L8.out; omega))
    have KA8 : Hid (Blk ya0a2c0c1c2 ga 27 [.int .i64 ah, .int .i64 ap]) := KA7.out.keep (KQ.block _ KA7.out.lt (by have := L1.out; have := GA.out; have := L2.out; have := HP.out; have := L3.out; have := L4.out; have := Ggj.out; have := L5.out; have := L6.out; have := Gga.out; have := L7.out; have := L8.out; omega))
    have On_8 : Hid (SOwn ya0a2c0c1c2 x6.heap.size x7.heap.size ⟨some ⟨gn, 0, none⟩, 12, cn⟩ ln) := On_7.out.carry KQ (by have := L1.out; have := GA.out; have := L2.out; have := HP.out; have := L3.out; have := L4.out; have := Ggj.out; have := L5.out; have := L6.out; have := Gga.out; have := L7.out; have := L8.out; omega)
    clear B7 KO7 KP7 R7 OE7 KJ7 KA7 On_7 bQ
    clear KQ rQ
    have Os_8 : Hid (SOwn ya0a2c0c1c2 ya0a2c0.heap.size ya0a2c0c1.heap.size ⟨some ⟨gs, 0, none⟩, 12, cs⟩ ls) := Os_a0a2c0c1c2.out
    go_wp2
    have NEo : go ≠ gp := by have := L1.out; have := GA.out; have := L2.out; have := HP.out; have := L3.out; have := L4.out; have := Ggj.out; have := L5.out; have := L6.out; have := Gga.out; have := L7.out; have := L8.out; have := LOs.out; omega
    have NEp : gp ≠ go := by have := L1.out; have := GA.out; have := L2.out; have := HP.out; have := L3.out; have := L4.out; have := Ggj.out; have := L5.out; have := L6.out; have := Gga.out; have := L7.out; have := L8.out; have := LOs.out; omega
    have k1 := Blk.other (a := ⟨gp, 1, none⟩) (Blk.other (a := ⟨gp, 0, none⟩) (KO8.out.set 0 (.slice S0.secret.a S0.secret.n S0.secret.c) (by simp [maxLen])) NEo (.int .i64 ah)) NEo (.int .i64 ap)
    have k2 := ((Blk.other (a := ⟨go, 0, none⟩) KP8.out NEp (.slice S0.secret.a S0.secret.n S0.secret.c)).set 0 (.int .i64 ah) (by simp [maxLen])).set 1 (.int .i64 ap) (by simp [maxLen])
    have KZ : Kept go (gp + 1) ya0a2c0c1c2 (((ya0a2c0c1c2.setCell ⟨go, 0, none⟩ (.slice S0.secret.a S0.secret.n S0.secret.c)).setCell ⟨gp, 0, none⟩ (.int .i64 ah)).setCell ⟨gp, 1, none⟩ (.int .i64 ap)) := (((Kept.setCell _ go 0 _).mono (Nat.le_refl _) (by have := L1.out; have := GA.out; have := L2.out; have := HP.out; have := L3.out; have := L4.out; have := Ggj.out; have := L5.out; have := L6.out; have := Gga.out; have := L7.out; have := L8.out; have := LOs.out; omega)).trans ((Kept.setCell _ gp 0 _).mono (by have := L1.out; have := GA.out; have := L2.out; have := HP.out; have := L3.out; have := L4.out; have := Ggj.out; have := L5.out; have := L6.out; have := Gga.out; have := L7.out; have := L8.out; have := LOs.out; omega) (Nat.le_refl _))).trans ((Kept.setCell _ gp 1 _).mono (by have := L1.out; have := GA.out; have := L2.out; have := HP.out; have := L3.out; have := L4.out; have := Ggj.out; have := L5.out; have := L6.out; have := Gga.out; have := L7.out; have := L8.out; have := LOs.out; omega) (Nat.le_refl _))
    exact bodyPost_ret (v := .tuple #[jaV D0 S0, addrV ah ap, .int .i64 id, .slice (some ⟨gn, 0, none⟩) 12 cn, .slice (some ⟨gs, 0, none⟩) 12 cs, .int .i64 tk]) (res6 rfl (is_cell rfl k1 aggJa) (is_cell rfl k2 aggA) (is_tmp rfl) (is_tmp rfl) (is_tmp rfl) (is_tmp rfl)) rfl ⟨D0, S0, ah, ap, id, ⟨some ⟨gn, 0, none⟩, 12, cn⟩, ln, ⟨some ⟨gs, 0, none⟩, 12, cs⟩, ls, tk, rfl, HS0.out, (OE8.out.carry KZ (.inr (by have := L1.out; have := GA.out; have := L2.out; have := HP.out; have := L3.out; have := L4.out; have := Ggj.out; have := L5.out; have := L6.out; have := Gga.out; have := L7.out; have := L8.out; have := LOs.out; omega))).rd, (On_8.out.carry KZ (.inr (by have := L1.out; have := GA.out; have := L2.out; have := HP.out; have := L3.out; have := L4.out; have := Ggj.out; have := L5.out; have := L6.out; have := Gga.out; have := L7.out; have := L8.out; have := LOs.out; omega))).rd, (Os_8.out.carry KZ (.inr (by have := L1.out; have := GA.out; have := L2.out; have := HP.out; have := L3.out; have := L4.out; have := Ggj.out; have := L5.out; have := L6.out; have := Gga.out; have := L7.out; have := L8.out; have := LOs.out; omega))).rd, by have q := VMtk.out; simp only [List.mem_cons, List.mem_nil_iff, or_false] at q; omega, B8.out.trans (KZ.below (by have := L1.out; have := GA.out; have := L2.out; have := HP.out; have := L3.out; have := L4.out; have := Ggj.out; have := L5.out; have := L6.out; have := Gga.out; have := L7.out; have := L8.out; have := LOs.out; omega) B8.out.size)⟩
  · skip
    have bQ := BTa2a0c0c1c2.out
    have rQ := RDa2a0c0c1c2.out
    have L8 : Hid (x7.heap.size ≤ ya2a0c0c1c2.heap.size) := bQ.size
    have KQ : Kept p (p + 1) x7 ya2a0c0c1c2 := Kept.of_grown bQ
    have B8 : Hid (Below w.heap.size w ya2a0c0c1c2) := But.below bQ B7.out (by have := L1.out; have := GA.out; have := L2.out; have := HP.out; have := L3.out; have := L4.out; have := Ggj.out; have := L5.out; have := L6.out; have := Gga.out; have := L7.out; have := L8.out; omega)
    have KO8 : Hid (Blk ya2a0c0c1c2 go 25 [.slice none 0 0]) := KO7.out.keep (KQ.block _ KO7.out.lt (by have := L1.out; have := GA.out; have := L2.out; have := HP.out; have := L3.out; have := L4.out; have := Ggj.out; have := L5.out; have := L6.out; have := Gga.out; have := L7.out; have := L8.out; omega))
    have KP8 : Hid (Blk ya2a0c0c1c2 gp 27 [.int .i64 0, .int .i64 0]) := KP7.out.keep (KQ.block _ KP7.out.lt (by have := L1.out; have := GA.out; have := L2.out; have := HP.out; have := L3.out; have := L4.out; have := Ggj.out; have := L5.out; have := L6.out; have := Gga.out; have := L7.out; have := L8.out; omega))
    have R8 : Hid (Ready x1 a len cap l p ya2a0c0c1c2) := rQ
    have OE8 : Hid (JaOwn ya2a0c0c1c2 x2.heap.size x3.heap.size S0 D0) := OE7.out.carry KQ (by have := L1.out; have := GA.out; have := L2.out; have := HP.out; have := L3.out; have := L4.out; have := Ggj.out; have := L5.out; have := L6.out; have := Gga.out; have := L7.out; have := L8.out; omega)
    have KJ8 : Hid (Blk ya2a0c0c1c2 gj 25 [.slice S0.secret.a S0.secret.n S0.secret.c]) := KJ7.out.keep (KQ.block _ KJ7.out.lt (by have := L1.out; have := GA.out; have := L2.out; have := HP.out; have := L3.out; have := L4.out; have := Ggj.out; have := L5.out; have := L6.out; have := Gga.out; have := L7.out; have := L8.out; omega))
    have KA8 : Hid (Blk ya2a0c0c1c2 ga 27 [.int .i64 ah, .int .i64 ap]) := KA7.out.keep (KQ.block _ KA7.out.lt (by have := L1.out; have := GA.out; have := L2.out; have := HP.out; have := L3.out; have := L4.out; have := Ggj.out; have := L5.out; have := L6.out; have := Gga.out; have := L7.out; have := L8.out; omega))
    have On_8 : Hid (SOwn ya2a0c0c1c2 x6.heap.size x7.heap.size ⟨some ⟨gn, 0, none⟩, 12, cn⟩ ln) := On_7.out.carry KQ (by have := L1.out; have := GA.out; have := L2.out; have := HP.out; have := L3.out; have := L4.out; have := Ggj.out; have := L5.out; have := L6.out; have := Gga.out; have := L7.out; have := L8.out; omega)
    clear B7 KO7 KP7 R7 OE7 KJ7 KA7 On_7 bQ
    clear KQ rQ
    have Os_8 : Hid (SOwn ya2a0c0c1c2 ya2a0c0.heap.size ya2a0c0c1.heap.size ⟨some ⟨gs, 0, none⟩, 12, cs⟩ ls) := Os_a2a0c0c1c2.out
    go_wp2
    have NEo : go ≠ gp := by have := L1.out; have := GA.out; have := L2.out; have := HP.out; have := L3.out; have := L4.out; have := Ggj.out; have := L5.out; have := L6.out; have := Gga.out; have := L7.out; have := L8.out; have := LOs.out; omega
    have NEp : gp ≠ go := by have := L1.out; have := GA.out; have := L2.out; have := HP.out; have := L3.out; have := L4.out; have := Ggj.out; have := L5.out; have := L6.out; have := Gga.out; have := L7.out; have := L8.out; have := LOs.out; omega
    have k1 := Blk.other (a := ⟨gp, 1, none⟩) (Blk.other (a := ⟨gp, 0, none⟩) (KO8.out.set 0 (.slice S0.secret.a S0.secret.n S0.secret.c) (by simp [maxLen])) NEo (.int .i64 ah)) NEo (.int .i64 ap)
    have k2 := ((Blk.other (a := ⟨go, 0, none⟩) KP8.out NEp (.slice S0.secret.a S0.secret.n S0.secret.c)).set 0 (.int .i64 ah) (by simp [maxLen])).set 1 (.int .i64 ap) (by simp [maxLen])
    have KZ : Kept go (gp + 1) ya2a0c0c1c2 (((ya2a0c0c1c2.setCell ⟨go, 0, none⟩ (.slice S0.secret.a S0.secret.n S0.secret.c)).setCell ⟨gp, 0, none⟩ (.int .i64 ah)).setCell ⟨gp, 1, none⟩ (.int .i64 ap)) := (((Kept.setCell _ go 0 _).mono (Nat.le_refl _) (by have := L1.out; have := GA.out; have := L2.out; have := HP.out; have := L3.out; have := L4.out; have := Ggj.out; have := L5.out; have := L6.out; have := Gga.out; have := L7.out; have := L8.out; have := LOs.out; omega)).trans ((Kept.setCell _ gp 0 _).mono (by have := L1.out; have := GA.out; have := L2.out; have := HP.out; have := L3.out; have := L4.out; have := Ggj.out; have := L5.out; have := L6.out; have := Gga.out; have := L7.out; have := L8.out; have := LOs.out; omega) (Nat.le_refl _))).trans ((Kept.setCell _ gp 1 _).mono (by have := L1.out; have := GA.out; have := L2.out; have := HP.out; have := L3.out; have := L4.out; have := Ggj.out; have := L5.out; have := L6.out; have := Gga.out; have := L7.out; have := L8.out; have := LOs.out; omega) (Nat.le_refl _))
    exact bodyPost_ret (v := .tuple #[jaV D0 S0, addrV ah ap, .int .i64 id, .slice (some ⟨gn, 0, none⟩) 12 cn, .slice (some ⟨gs, 0, none⟩) 12 cs, .int .i64 tk]) (res6 rfl (is_cell rfl k1 aggJa) (is_cell rfl k2 aggA) (is_tmp rfl) (is_tmp rfl) (is_tmp rfl) (is_tmp rfl)) rfl ⟨D0, S0, ah, ap, id, ⟨some ⟨gn, 0, none⟩, 12, cn⟩, ln, ⟨some ⟨gs, 0, none⟩, 12, cs⟩, ls, tk, rfl, HS0.out, (OE8.out.carry KZ (.inr (by have := L1.out; have := GA.out; have := L2.out; have := HP.out; have := L3.out; have := L4.out; have := Ggj.out; have := L5.out; have := L6.out; have := Gga.out; have := L7.out; have := L8.out; have := LOs.out; omega))).rd, (On_8.out.carry KZ (.inr (by have := L1.out; have := GA.out; have := L2.out; have := HP.out; have := L3.out; have := L4.out; have := Ggj.out; have := L5.out; have := L6.out; have := Gga.out; have := L7.out; have := L8.out; have := LOs.out; omega))).rd, (Os_8.out.carry KZ (.inr (by have := L1.out; have := GA.out; have := L2.out; have := HP.out; have := L3.out; have := L4.out; have := Ggj.out; have := L5.out; have := L6.out; have := Gga.out; have := L7.out; have := L8.out; have := LOs.out; omega))).rd, by have q := VMtk.out; simp only [List.mem_cons, List.mem_nil_iff, or_false] at q; omega, B8.out.trans (KZ.below (by have := L1.out; have := GA.out; have := L2.out; have := HP.out; have := L3.out; have := L4.out; have := Ggj.out; have := L5.out; have := L6.out; have := Gga.out; have := L7.out; have := L8.out; have := LOs.out; omega) B8.out.size)⟩

end Go.Proofs.YtpgapjdejelajaaGreatDoor.DrCk
