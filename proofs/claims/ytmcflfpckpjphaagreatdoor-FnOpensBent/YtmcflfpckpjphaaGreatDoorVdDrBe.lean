/-
  What spec.l9Bent gives: the frame as it was, or with a part of it turned, in memory of its own.
-/
import Derived.Test.YtmcflfpckpjphaaGreatDoorVdDrCp
import Derived.Test.YtmcflfpckpjphaaGreatDoorVdDrawD
import Derived.Test.YtmcflfpckpjphaaGreatDoorVdDra1
import Derived.Deep.RegionWith
set_option maxRecDepth 100000
namespace Go.Proofs.YtmcflfpckpjphaaGreatDoor.DrBe
open Go.RowKit Mem App Blk Zone Draw DrawD Res FrZ FrL DrN DrCp
def DrewF (W0 : World) (a : Option Addr) (len cap : Nat) (l : List Int) (p : Nat) (w : World) : Ending → World → Prop := fun e w' => ∃ (D : FrD) (S : FrS), e = .returned (frV D S) ∧ FrIn w' w.heap.size w'.heap.size S D ∧ Ready W0 a len cap l p w' ∧ But p w w'
set_option maxHeartbeats 16000000 in
theorem l9Bent {W0 : World} {a : Option Addr} {len cap : Nat} {l : List Int} {p : Nat} {w : World} (h : Ready W0 a len cap l p w) (S : FrS) (D : FrD) (hf : FrRd w S D) (hl : FrShort D 1000) :
  Calls Tryz.prog 87 #[.pointer (some ⟨p, 0, none⟩), frV D S] w (DrewF W0 a len cap l p w) := by
 have HF := hid (hf)
 have HL := hid (hl)
 clear hf hl
 have HP : Hid (p < w.heap.size ∧ W0.heap.size ≤ p) := ⟨h.hc.lt, h.hp⟩
 have R0 := hid (h)
 have B0 : Hid (But p w w) := But.refl p w
 clear h
 have BL0 : Hid (Below w.heap.size w w) := Below.refl _ _
 unfold frV
 obtain ⟨x1, hx1⟩ : ∃ x1, ((w.alloc (.cells #[.int .i64 D.kind, .int .i64 D.id, .slice S.cn.a S.cn.n S.cn.c, .slice S.sn.a S.sn.n S.sn.c, .int .i64 D.tick, .slice S.cookie.a S.cookie.n S.cookie.c, .slice S.proof.a S.proof.n S.proof.c, .int .i64 D.epoch, .int .i64 D.seq, .slice S.body.a S.body.n S.body.c, .slice S.tag.a S.tag.n S.tag.c] 27)).alloc (.cells #[.int .i64 0, .int .i64 0, .slice none 0 0, .slice none 0 0, .int .i64 0, .slice none 0 0, .slice none 0 0, .int .i64 0, .int .i64 0, .slice none 0 0, .slice none 0 0] 27)) = x1 := ⟨_, rfl⟩
 have HWA := hid (hx1)
 have b1 : Below w.heap.size w x1 := by rw [← hx1]; exact (((Below.refl _ _).alloc (Nat.le_refl _) _).alloc (by simp) _)
 have KBN : Blk x1 (w.heap.size) 27 [.int .i64 D.kind, .int .i64 D.id, .slice S.cn.a S.cn.n S.cn.c, .slice S.sn.a S.sn.n S.sn.c, .int .i64 D.tick, .slice S.cookie.a S.cookie.n S.cookie.c, .slice S.proof.a S.proof.n S.proof.c, .int .i64 D.epoch, .int .i64 D.seq, .slice S.body.a S.body.n S.body.c, .slice S.tag.a S.tag.n S.tag.c] := by
  have q := (Blk.new w 27 [.int .i64 D.kind, .int .i64 D.id, .slice S.cn.a S.cn.n S.cn.c, .slice S.sn.a S.sn.n S.sn.c, .int .i64 D.tick, .slice S.cookie.a S.cookie.n S.cookie.c, .slice S.proof.a S.proof.n S.proof.c, .int .i64 D.epoch, .int .i64 D.seq, .slice S.body.a S.body.n S.body.c, .slice S.tag.a S.tag.n S.tag.c])
  skip
  rw [← hx1]; exact q.alloc _
 have KON : Blk x1 (w.heap.size + 1) 27 [.int .i64 0, .int .i64 0, .slice none 0 0, .slice none 0 0, .int .i64 0, .slice none 0 0, .slice none 0 0, .int .i64 0, .int .i64 0, .slice none 0 0, .slice none 0 0] := by
  have q := (Blk.new (w.alloc (.cells #[.int .i64 D.kind, .int .i64 D.id, .slice S.cn.a S.cn.n S.cn.c, .slice S.sn.a S.sn.n S.sn.c, .int .i64 D.tick, .slice S.cookie.a S.cookie.n S.cookie.c, .slice S.proof.a S.proof.n S.proof.c, .int .i64 D.epoch, .int .i64 D.seq, .slice S.body.a S.body.n S.body.c, .slice S.tag.a S.tag.n S.tag.c] 27)) 27 [.int .i64 0, .int .i64 0, .slice none 0 0, .slice none 0 0, .int .i64 0, .slice none 0 0, .slice none 0 0, .int .i64 0, .int .i64 0, .slice none 0 0, .slice none 0 0])
  rw [World.size_alloc] at q
  rw [← hx1]; exact q
 have SZA : x1.heap.size = w.heap.size + 2 := by rw [← hx1]; simp
 clear hx1
 have L1 := hid (b1.size)
 have R1 : Hid (Ready W0 a len cap l p x1) := rdyL R0.out b1
 have B1 : Hid (But p w x1) := butL B0.out b1
 have BL1 := hid (BL0.out.trans (b1.mono BL0.out.size))
 clear R0 B0 BL0 b1
 go_enter Tryz.func87, Tryz.ntmps87
 go_upto_region 1 with fail
 rw [HWA.out]
 obtain ⟨gb, hgb⟩ : ∃ g, w.heap.size = g := ⟨_, rfl⟩
 obtain ⟨go, hgo⟩ : ∃ g, w.heap.size + 1 = g := ⟨_, rfl⟩
 have GA : Hid (w.heap.size = gb ∧ gb + 1 = go ∧ x1.heap.size = gb + 2) := ⟨hgb, by omega, by omega⟩
 rw [hgb] at KBN
 rw [hgo] at KON
 rw [hgo, hgb]
 clear HWA SZA hgb hgo
 have KB1 := hid (KBN)
 have KO1 := hid (KON)
 clear KBN KON
 obtain ⟨d0, d1, d2, d3, d4, d5, d6, d7, d8, d9, d10⟩ := cells11 KB1.out
 go_wp2_with fail
 refine (l7Copy S D x1 (HF.out.later BL1.out) HL.out).mono ?_
 rintro e x2 ⟨S0, rfl, oi, b⟩
 clear d0 d1 d2 d3 d4 d5 d6 d7 d8 d9 d10
 have L2 := hid (b.size)
 have R2 : Hid (Ready W0 a len cap l p x2) := rdyL R1.out b
 have B2 : Hid (But p w x2) := butL B1.out b
 have BL2 := hid (BL1.out.trans (b.mono BL1.out.size))
 have KB2 := hid (KB1.out.later b)
 have KO2 := hid (KO1.out.later b)
 clear R1 B1 BL1 KB1 KO1 b
 have OG2 := hid (oi)
 clear oi
 clear BL2 KB2
 obtain ⟨x3, hx3⟩ : ∃ x3, x2.alloc (.cells #[.int .i64 D.kind, .int .i64 D.id, .slice S0.cn.a S0.cn.n S0.cn.c, .slice S0.sn.a S0.sn.n S0.sn.c, .int .i64 D.tick, .slice S0.cookie.a S0.cookie.n S0.cookie.c, .slice S0.proof.a S0.proof.n S0.proof.c, .int .i64 D.epoch, .int .i64 D.seq, .slice S0.body.a S0.body.n S0.body.c, .slice S0.tag.a S0.tag.n S0.tag.c] 27) = x3 := ⟨_, rfl⟩
 have HW3 := hid (hx3)
 have b3 : Below x2.heap.size x2 x3 := by rw [← hx3]; exact (Below.refl _ _).alloc (Nat.le_refl _) _
 have KN : Blk x3 x2.heap.size 27 [.int .i64 D.kind, .int .i64 D.id, .slice S0.cn.a S0.cn.n S0.cn.c, .slice S0.sn.a S0.sn.n S0.sn.c, .int .i64 D.tick, .slice S0.cookie.a S0.cookie.n S0.cookie.c, .slice S0.proof.a S0.proof.n S0.proof.c, .int .i64 D.epoch, .int .i64 D.seq, .slice S0.body.a S0.body.n S0.body.c, .slice S0.tag.a S0.tag.n S0.tag.c] := by rw [← hx3]; exact Blk.new x2 _ _
 have HSZ3 : Hid (x3.heap.size = x2.heap.size + 1) := by rw [← hx3]; show _ = _; simp
 clear hx3
 have L3 := hid (b3.size)
 have R3 : Hid (Ready W0 a len cap l p x3) := rdyL R2.out b3
 have B3 : Hid (But p w x3) := butL B2.out b3
 have KO3 := hid (KO2.out.later b3)
 have OG3 := hid (OG2.out.later b3)
 clear R2 B2 KO2 OG2 b3
 unfold frV
 go_upto_region 2 with fail
 rw [HW3.out]
 obtain ⟨gg, hgg⟩ : ∃ g, x2.heap.size = g := ⟨_, rfl⟩
 have Ggg : Hid (x2.heap.size = gg ∧ x3.heap.size = gg + 1) := ⟨hgg, by rw [← hgg]; exact HSZ3.out⟩
 rw [hgg] at KN ⊢
 clear HW3 HSZ3 hgg
 have KG3 := hid (KN)
 clear KN
 go_wp2_with fail
 refine (Draw.below R3.out 14 (by omega) (by omega)).mono ?_
 rintro e x4 ⟨v, rfl, va, vb, r, b⟩
 have VBv : Hid (0 ≤ v ∧ v < 14) := ⟨va, vb⟩
 clear va vb
 have L4 := hid (b.size)
 have KQ : Kept p (p + 1) x3 x4 := Kept.of_grown b
 have R4 := hid (r)
 have B4 := hid (B3.out.trans b)
 have KO4 := hid (KO3.out.keep (KQ.block _ KO3.out.lt (by have := hid7 HP L1 GA L2 L3 Ggg L4; omega)))
 have OG4 := hid (OG3.out.carry KQ (by have := hid7 HP L1 GA L2 L3 Ggg L4; omega))
 have KG4 := hid (KG3.out.keep (KQ.block _ KG3.out.lt (by have := hid7 HP L1 GA L2 L3 Ggg L4; omega)))
 clear R3 B3 KO3 OG3 KG3 b
 clear KQ r
 cases ev0 : (v == 0) with
 | true =>
  obtain rfl : v = 0 := by simpa using ev0
  have TA : Hid (Below x4.heap.size x4 (x4.drew.alloc (.cells #[.int .i64 1, .int .i64 (-1), .int .i64 7] 3))) := ((Below.refl _ _).drew).alloc (Nat.le_refl _) _
  have TB : Hid (Below x4.heap.size x4 (x4.alloc (.cells #[.int .i64 1, .int .i64 (-1), .int .i64 7] 3)).drew) := ((Below.refl _ _).alloc (Nat.le_refl _) _).drew
  have LIA : Hid (IntsAt (x4.drew.alloc (.cells #[.int .i64 1, .int .i64 (-1), .int .i64 7] 3)) x4.heap.size [1, -1, 7]) := ints_new x4.drew [1, -1, 7]
  have LIB : Hid (IntsAt (x4.alloc (.cells #[.int .i64 1, .int .i64 (-1), .int .i64 7] 3)).drew x4.heap.size [1, -1, 7]) := ints_new x4 [1, -1, 7]
  have NI : Hid (x4.heap.size ≠ p ∧ gg ≠ p ∧ go ≠ p) := by have := R4.out.hc.lt; have := hid7 HP L1 GA L2 L3 Ggg L4; show _ ∧ _; omega
  have c1 := KG4.out.cell 8 rfl
  have cD := (KG4.out.later (Below.refl _ _).drew).cell 8 rfl
  have cA := (KG4.out.later TA.out).cell 8 rfl
  have cB := (KG4.out.later TB.out).cell 8 rfl
  have cC := (KG4.out.alloc (.cells #[.int .i64 1, .int .i64 (-1), .int .i64 7] 3)).cell 8 rfl
  go_upto_region 4 with fail
  go_region_with (first | (go_at_call 52; refine (intOfList (rdyL R4.out TA.out) x4.heap.size 3 [1, -1, 7] rfl LIA.out NI.out.1 (by omega) (by omega)).mono ?_; rintro e y1 ⟨u, rfl, _, r, b⟩; have R1 := hid (r); have T1 : Hid (But p x4 y1) := (butL (But.refl p x4) TA.out).trans b; have K1 := hid (KG4.out.keep (T1.out.block gg KG4.out.lt (by simp only [ne_eq, Option.some.injEq]; exact NI.out.2.1))); have co := K1.out.cell 8 rfl; have fo := K1.out.frozen 8; clear r b) | (go_at_call 52; refine (intOfList (rdyL R4.out TB.out) x4.heap.size 3 [1, -1, 7] rfl LIB.out NI.out.1 (by omega) (by omega)).mono ?_; rintro e y1 ⟨u, rfl, _, r, b⟩; have R1 := hid (r); have T1 : Hid (But p x4 y1) := (butL (But.refl p x4) TB.out).trans b; have K1 := hid (KG4.out.keep (T1.out.block gg KG4.out.lt (by simp only [ne_eq, Option.some.injEq]; exact NI.out.2.1))); have co := K1.out.cell 8 rfl; have fo := K1.out.frozen 8; clear r b))
  all_goals (
   obtain ⟨x5, hx⟩ : ∃ zz, (y1.setCell ⟨gg, 8, none⟩ (.int .i64 (IntKind.i64.wrap (D.seq + u)))) = zz := ⟨_, rfl⟩
   have HX := hid (hx)
   have KP : Kept gg (gg + 1) y1 x5 := by rw [← hx]; exact Kept.setCell _ _ _ _
   have L5 : Hid (x4.heap.size ≤ x5.heap.size) := by rw [← hx]; show _ ≤ _; rw [World.size_setCell]; exact T1.out.size
   have k2 : Blk x5 gg 27 [.int .i64 D.kind, .int .i64 D.id, .slice S0.cn.a S0.cn.n S0.cn.c, .slice S0.sn.a S0.sn.n S0.sn.c, .int .i64 D.tick, .slice S0.cookie.a S0.cookie.n S0.cookie.c, .slice S0.proof.a S0.proof.n S0.proof.c, .int .i64 D.epoch, .int .i64 (IntKind.i64.wrap (D.seq + u)), .slice S0.body.a S0.body.n S0.body.c, .slice S0.tag.a S0.tag.n S0.tag.c] := by rw [← hx]; exact K1.out.set 8 _ (by simp [maxLen])
   have o2 : FrIn x5 x1.heap.size x2.heap.size S0 D := (OG4.out.carry (Kept.of_grown T1.out) (by have := hid7 HP L1 GA L2 L3 Ggg L4; omega)).carry KP (by have := hid7 HP L1 GA L2 L3 Ggg L4; omega)
   have r2 : Ready W0 a len cap l p x5 := rdyK R1.out KP (by have := hid7 HP L1 GA L2 L3 Ggg L4; omega)
   have b2 : But p w x5 := butK (B4.out.trans T1.out) KP (by have := hid7 HP L1 GA L2 L3 Ggg L4; omega)
   have ko2 : Blk x5 go 27 [.int .i64 0, .int .i64 0, .slice none 0 0, .slice none 0 0, .int .i64 0, .slice none 0 0, .slice none 0 0, .int .i64 0, .int .i64 0, .slice none 0 0, .slice none 0 0] := (KO4.out.keep (T1.out.block go KO4.out.lt (by simp only [ne_eq, Option.some.injEq]; exact NI.out.2.2))).keep (KP.block go (Nat.lt_of_lt_of_le KO4.out.lt T1.out.size) (by have := hid7 HP L1 GA L2 L3 Ggg L4; omega))
   clear hx c1 cA cB cC cD co fo R4 B4 KO4 OG4 KG4
   have R5 := hid (r2)
   have B5 := hid (b2)
   have KG5 := hid (k2)
   have KO5 := hid (ko2)
   have OG5 := hid (o2)
   clear r2 b2 k2 ko2 o2
   go_upto_region 17 with fail
   rw [HX.out]
   clear HX
   obtain ⟨D1, hD⟩ : ∃ X : FrD, X = { D with seq := IntKind.i64.wrap (D.seq + u) } := ⟨_, rfl⟩
   obtain ⟨S1, hS⟩ : ∃ X : FrS, X = S0 := ⟨_, rfl⟩
   have KN : Blk x5 gg 27 [.int .i64 D1.kind, .int .i64 D1.id, .slice S1.cn.a S1.cn.n S1.cn.c, .slice S1.sn.a S1.sn.n S1.sn.c, .int .i64 D1.tick, .slice S1.cookie.a S1.cookie.n S1.cookie.c, .slice S1.proof.a S1.proof.n S1.proof.c, .int .i64 D1.epoch, .int .i64 D1.seq, .slice S1.body.a S1.body.n S1.body.c, .slice S1.tag.a S1.tag.n S1.tag.c] := by rw [hD, hS]; exact KG5.out
   have ON : FrIn x5 x1.heap.size x2.heap.size S1 D1 := by rw [hD, hS]; exact ⟨OG5.out.cn, OG5.out.sn, OG5.out.cookie, OG5.out.proof, OG5.out.body, OG5.out.tag⟩
   clear hD hS KG5 OG5
   have KG5 := hid (KN)
   have OG5 := hid (ON)
   clear KN ON
   obtain ⟨d0, d1, d2, d3, d4, d5, d6, d7, d8, d9, d10⟩ := cells11 KG5.out
   obtain ⟨f0, f1, f2, f3, f4, f5, f6, f7, f8, f9, f10⟩ := cells11 KO5.out
   obtain ⟨g0, g1, g2, g3, g4, g5, g6, g7, g8, g9, g10⟩ := froz11 KO5.out
   go_wp2
   have SZF : Hid (w.heap.size ≤ go ∧ go + 1 ≤ x1.heap.size ∧ x1.heap.size ≤ x2.heap.size ∧ x2.heap.size ≤ x5.heap.size ∧ p < go) := by have := hid8 HP L1 GA L2 L3 Ggg L4 L5; show _ ∧ _; omega
   have k1 := fr_put KO5.out (.int .i64 D1.kind) (.int .i64 D1.id) (.slice S1.cn.a S1.cn.n S1.cn.c) (.slice S1.sn.a S1.sn.n S1.sn.c) (.int .i64 D1.tick) (.slice S1.cookie.a S1.cookie.n S1.cookie.c) (.slice S1.proof.a S1.proof.n S1.proof.c) (.int .i64 D1.epoch) (.int .i64 D1.seq) (.slice S1.body.a S1.body.n S1.body.c) (.slice S1.tag.a S1.tag.n S1.tag.c)
   have KP := fr_kept x5 go (.int .i64 D1.kind) (.int .i64 D1.id) (.slice S1.cn.a S1.cn.n S1.cn.c) (.slice S1.sn.a S1.sn.n S1.sn.c) (.int .i64 D1.tick) (.slice S1.cookie.a S1.cookie.n S1.cookie.c) (.slice S1.proof.a S1.proof.n S1.proof.c) (.int .i64 D1.epoch) (.int .i64 D1.seq) (.slice S1.body.a S1.body.n S1.body.c) (.slice S1.tag.a S1.tag.n S1.tag.c)
   exact bodyPost_ret (v := frV D1 S1) (res1 rfl (is_cell rfl k1 aggFr)) rfl ⟨D1, S1, rfl, (OG5.out.carry KP (.inr (by have := SZF.out; omega))).mono (by have := SZF.out; omega) (by rw [fr_size]; have := SZF.out; omega), rdyK R5.out KP (by have := SZF.out; omega), butK B5.out KP (by have := SZF.out; omega)⟩)
 | false =>
  cases ev1 : (v == 1) with
  | true =>
   obtain rfl : v = 1 := by simpa using ev1
   have TA : Hid (Below x4.heap.size x4 (x4.drew.alloc (.cells #[.int .i64 1, .int .i64 (-1)] 3))) := ((Below.refl _ _).drew).alloc (Nat.le_refl _) _
   have TB : Hid (Below x4.heap.size x4 (x4.alloc (.cells #[.int .i64 1, .int .i64 (-1)] 3)).drew) := ((Below.refl _ _).alloc (Nat.le_refl _) _).drew
   have LIA : Hid (IntsAt (x4.drew.alloc (.cells #[.int .i64 1, .int .i64 (-1)] 3)) x4.heap.size [1, -1]) := ints_new x4.drew [1, -1]
   have LIB : Hid (IntsAt (x4.alloc (.cells #[.int .i64 1, .int .i64 (-1)] 3)).drew x4.heap.size [1, -1]) := ints_new x4 [1, -1]
   have NI : Hid (x4.heap.size ≠ p ∧ gg ≠ p ∧ go ≠ p) := by have := R4.out.hc.lt; have := hid7 HP L1 GA L2 L3 Ggg L4; show _ ∧ _; omega
   have c1 := KG4.out.cell 7 rfl
   have cD := (KG4.out.later (Below.refl _ _).drew).cell 7 rfl
   have cA := (KG4.out.later TA.out).cell 7 rfl
   have cB := (KG4.out.later TB.out).cell 7 rfl
   have cC := (KG4.out.alloc (.cells #[.int .i64 1, .int .i64 (-1)] 3)).cell 7 rfl
   go_upto_region 6 with fail
   go_region_with (first | (go_at_call 52; refine (intOfList (rdyL R4.out TA.out) x4.heap.size 2 [1, -1] rfl LIA.out NI.out.1 (by omega) (by omega)).mono ?_; rintro e y1 ⟨u, rfl, _, r, b⟩; have R1 := hid (r); have T1 : Hid (But p x4 y1) := (butL (But.refl p x4) TA.out).trans b; have K1 := hid (KG4.out.keep (T1.out.block gg KG4.out.lt (by simp only [ne_eq, Option.some.injEq]; exact NI.out.2.1))); have co := K1.out.cell 7 rfl; have fo := K1.out.frozen 7; clear r b) | (go_at_call 52; refine (intOfList (rdyL R4.out TB.out) x4.heap.size 2 [1, -1] rfl LIB.out NI.out.1 (by omega) (by omega)).mono ?_; rintro e y1 ⟨u, rfl, _, r, b⟩; have R1 := hid (r); have T1 : Hid (But p x4 y1) := (butL (But.refl p x4) TB.out).trans b; have K1 := hid (KG4.out.keep (T1.out.block gg KG4.out.lt (by simp only [ne_eq, Option.some.injEq]; exact NI.out.2.1))); have co := K1.out.cell 7 rfl; have fo := K1.out.frozen 7; clear r b))
   all_goals (
    obtain ⟨x5, hx⟩ : ∃ zz, (y1.setCell ⟨gg, 7, none⟩ (.int .i64 (IntKind.i64.wrap (D.epoch + u)))) = zz := ⟨_, rfl⟩
    have HX := hid (hx)
    have KP : Kept gg (gg + 1) y1 x5 := by rw [← hx]; exact Kept.setCell _ _ _ _
    have L5 : Hid (x4.heap.size ≤ x5.heap.size) := by rw [← hx]; show _ ≤ _; rw [World.size_setCell]; exact T1.out.size
    have k2 : Blk x5 gg 27 [.int .i64 D.kind, .int .i64 D.id, .slice S0.cn.a S0.cn.n S0.cn.c, .slice S0.sn.a S0.sn.n S0.sn.c, .int .i64 D.tick, .slice S0.cookie.a S0.cookie.n S0.cookie.c, .slice S0.proof.a S0.proof.n S0.proof.c, .int .i64 (IntKind.i64.wrap (D.epoch + u)), .int .i64 D.seq, .slice S0.body.a S0.body.n S0.body.c, .slice S0.tag.a S0.tag.n S0.tag.c] := by rw [← hx]; exact K1.out.set 7 _ (by simp [maxLen])
    have o2 : FrIn x5 x1.heap.size x2.heap.size S0 D := (OG4.out.carry (Kept.of_grown T1.out) (by have := hid7 HP L1 GA L2 L3 Ggg L4; omega)).carry KP (by have := hid7 HP L1 GA L2 L3 Ggg L4; omega)
    have r2 : Ready W0 a len cap l p x5 := rdyK R1.out KP (by have := hid7 HP L1 GA L2 L3 Ggg L4; omega)
    have b2 : But p w x5 := butK (B4.out.trans T1.out) KP (by have := hid7 HP L1 GA L2 L3 Ggg L4; omega)
    have ko2 : Blk x5 go 27 [.int .i64 0, .int .i64 0, .slice none 0 0, .slice none 0 0, .int .i64 0, .slice none 0 0, .slice none 0 0, .int .i64 0, .int .i64 0, .slice none 0 0, .slice none 0 0] := (KO4.out.keep (T1.out.block go KO4.out.lt (by simp only [ne_eq, Option.some.injEq]; exact NI.out.2.2))).keep (KP.block go (Nat.lt_of_lt_of_le KO4.out.lt T1.out.size) (by have := hid7 HP L1 GA L2 L3 Ggg L4; omega))
    clear hx c1 cA cB cC cD co fo R4 B4 KO4 OG4 KG4
    have R5 := hid (r2)
    have B5 := hid (b2)
    have KG5 := hid (k2)
    have KO5 := hid (ko2)
    have OG5 := hid (o2)
    clear r2 b2 k2 ko2 o2
    go_upto_region 17 with fail
    rw [HX.out]
    clear HX
    obtain ⟨D1, hD⟩ : ∃ X : FrD, X = { D with epoch := IntKind.i64.wrap (D.epoch + u) } := ⟨_, rfl⟩
    obtain ⟨S1, hS⟩ : ∃ X : FrS, X = S0 := ⟨_, rfl⟩
    have KN : Blk x5 gg 27 [.int .i64 D1.kind, .int .i64 D1.id, .slice S1.cn.a S1.cn.n S1.cn.c, .slice S1.sn.a S1.sn.n S1.sn.c, .int .i64 D1.tick, .slice S1.cookie.a S1.cookie.n S1.cookie.c, .slice S1.proof.a S1.proof.n S1.proof.c, .int .i64 D1.epoch, .int .i64 D1.seq, .slice S1.body.a S1.body.n S1.body.c, .slice S1.tag.a S1.tag.n S1.tag.c] := by rw [hD, hS]; exact KG5.out
    have ON : FrIn x5 x1.heap.size x2.heap.size S1 D1 := by rw [hD, hS]; exact ⟨OG5.out.cn, OG5.out.sn, OG5.out.cookie, OG5.out.proof, OG5.out.body, OG5.out.tag⟩
    clear hD hS KG5 OG5
    have KG5 := hid (KN)
    have OG5 := hid (ON)
    clear KN ON
    obtain ⟨d0, d1, d2, d3, d4, d5, d6, d7, d8, d9, d10⟩ := cells11 KG5.out
    obtain ⟨f0, f1, f2, f3, f4, f5, f6, f7, f8, f9, f10⟩ := cells11 KO5.out
    obtain ⟨g0, g1, g2, g3, g4, g5, g6, g7, g8, g9, g10⟩ := froz11 KO5.out
    go_wp2
    have SZF : Hid (w.heap.size ≤ go ∧ go + 1 ≤ x1.heap.size ∧ x1.heap.size ≤ x2.heap.size ∧ x2.heap.size ≤ x5.heap.size ∧ p < go) := by have := hid8 HP L1 GA L2 L3 Ggg L4 L5; show _ ∧ _; omega
    have k1 := fr_put KO5.out (.int .i64 D1.kind) (.int .i64 D1.id) (.slice S1.cn.a S1.cn.n S1.cn.c) (.slice S1.sn.a S1.sn.n S1.sn.c) (.int .i64 D1.tick) (.slice S1.cookie.a S1.cookie.n S1.cookie.c) (.slice S1.proof.a S1.proof.n S1.proof.c) (.int .i64 D1.epoch) (.int .i64 D1.seq) (.slice S1.body.a S1.body.n S1.body.c) (.slice S1.tag.a S1.tag.n S1.tag.c)
    have KP := fr_kept x5 go (.int .i64 D1.kind) (.int .i64 D1.id) (.slice S1.cn.a S1.cn.n S1.cn.c) (.slice S1.sn.a S1.sn.n S1.sn.c) (.int .i64 D1.tick) (.slice S1.cookie.a S1.cookie.n S1.cookie.c) (.slice S1.proof.a S1.proof.n S1.proof.c) (.int .i64 D1.epoch) (.int .i64 D1.seq) (.slice S1.body.a S1.body.n S1.body.c) (.slice S1.tag.a S1.tag.n S1.tag.c)
    exact bodyPost_ret (v := frV D1 S1) (res1 rfl (is_cell rfl k1 aggFr)) rfl ⟨D1, S1, rfl, (OG5.out.carry KP (.inr (by have := SZF.out; omega))).mono (by have := SZF.out; omega) (by rw [fr_size]; have := SZF.out; omega), rdyK R5.out KP (by have := SZF.out; omega), butK B5.out KP (by have := SZF.out; omega)⟩)
  | false =>
   cases ev2 : (v == 2) with
   | true =>
    obtain rfl : v = 2 := by simpa using ev2
    have cz := KG4.out.cell 3 rfl
    go_wp2_with fail
    refine (l1Bend R4.out S0.sn.a S0.sn.n S0.sn.c D.sn OG4.out.rd.sn.len OG4.out.rd.sn.rd OG4.out.rd.sn.nil OG4.out.rd.sn.bytes (by have := OG4.out.rd.sn.len; have := HL.out.sn; omega)).mono ?_
    rintro e x5 ⟨gz, mz, cz1, lz, rfl, ez, _, hz, kz, rz, r, b⟩
    have oz : SOwn x5 x4.heap.size x5.heap.size ⟨some ⟨gz, 0, none⟩, mz, cz1⟩ lz := SOwn.row rz ez hz kz rz.lt
    clear ez hz kz rz cz
    have L5 := hid (b.size)
    have KQ : Kept p (p + 1) x4 x5 := Kept.of_grown b
    have R5 := hid (r)
    have B5 := hid (B4.out.trans b)
    have KO5 := hid (KO4.out.keep (KQ.block _ KO4.out.lt (by have := hid8 HP L1 GA L2 L3 Ggg L4 L5; omega)))
    have OG5 := hid (OG4.out.carry KQ (by have := hid8 HP L1 GA L2 L3 Ggg L4 L5; omega))
    have KG5 := hid (KG4.out.keep (KQ.block _ KG4.out.lt (by have := hid8 HP L1 GA L2 L3 Ggg L4 L5; omega)))
    clear R4 B4 KO4 OG4 KG4 b
    clear KQ r
    have OZ5 := hid (oz)
    clear oz
    have co3 := KG5.out.cell 3 rfl
    have fo3 := KG5.out.frozen 3
    obtain ⟨x6, hx6⟩ : ∃ y, (x5.setCell ⟨gg, 3, none⟩ (.slice (some ⟨gz, 0, none⟩) mz cz1)) = y := ⟨_, rfl⟩
    have HW6 := hid (hx6)
    have L6 : Hid (x6.heap.size = x5.heap.size) := by rw [← hx6]; show _ = _; simp
    have KS : Blk x6 gg 27 [.int .i64 D.kind, .int .i64 D.id, .slice S0.cn.a S0.cn.n S0.cn.c, .slice (some ⟨gz, 0, none⟩) mz cz1, .int .i64 D.tick, .slice S0.cookie.a S0.cookie.n S0.cookie.c, .slice S0.proof.a S0.proof.n S0.proof.c, .int .i64 D.epoch, .int .i64 D.seq, .slice S0.body.a S0.body.n S0.body.c, .slice S0.tag.a S0.tag.n S0.tag.c] := by rw [← hx6]; exact (KG5.out.set 3 _ (by simp [maxLen]))
    have KQ : Kept gg (gg + 1) x5 x6 := by rw [← hx6]; exact (Kept.setCell _ _ _ _)
    clear hx6
    have R6 : Hid (Ready W0 a len cap l p x6) := rdyK R5.out KQ (by have := hid8 HP L1 GA L2 L3 Ggg L4 L5; have := L6.out; omega)
    have B6 : Hid (But p w x6) := butK B5.out KQ (by have := hid8 HP L1 GA L2 L3 Ggg L4 L5; have := L6.out; omega)
    have KO6 := hid (KO5.out.keep (KQ.block _ KO5.out.lt (by have := hid8 HP L1 GA L2 L3 Ggg L4 L5; have := L6.out; omega)))
    have OG6 := hid (OG5.out.carry KQ (by have := hid8 HP L1 GA L2 L3 Ggg L4 L5; have := L6.out; omega))
    have OZ6 := hid (OZ5.out.carry KQ (by have := hid8 HP L1 GA L2 L3 Ggg L4 L5; have := L6.out; omega))
    clear R5 B5 KO5 OG5 OZ5 KQ
    clear KG5
    have KG6 := hid (KS)
    clear KS
    go_upto_region 17 with fail
    rw [HW6.out]
    clear HW6 co3 fo3
    obtain ⟨D1, hD⟩ : ∃ X : FrD, X = { D with sn := lz } := ⟨_, rfl⟩
    obtain ⟨S1, hS⟩ : ∃ X : FrS, X = { S0 with sn := ⟨some ⟨gz, 0, none⟩, mz, cz1⟩ } := ⟨_, rfl⟩
    have KN : Blk x6 gg 27 [.int .i64 D1.kind, .int .i64 D1.id, .slice S1.cn.a S1.cn.n S1.cn.c, .slice S1.sn.a S1.sn.n S1.sn.c, .int .i64 D1.tick, .slice S1.cookie.a S1.cookie.n S1.cookie.c, .slice S1.proof.a S1.proof.n S1.proof.c, .int .i64 D1.epoch, .int .i64 D1.seq, .slice S1.body.a S1.body.n S1.body.c, .slice S1.tag.a S1.tag.n S1.tag.c] := by rw [hD, hS]; exact KG6.out
    have ON : FrIn x6 x1.heap.size x5.heap.size S1 D1 := by rw [hD, hS]; exact ⟨OG6.out.cn.mono (Nat.le_refl _) (by have := hid8 HP L1 GA L2 L3 Ggg L4 L5; have := L6.out; omega), OZ6.out.mono (by have := hid8 HP L1 GA L2 L3 Ggg L4 L5; have := L6.out; omega) (by have := hid8 HP L1 GA L2 L3 Ggg L4 L5; have := L6.out; omega), OG6.out.cookie.mono (Nat.le_refl _) (by have := hid8 HP L1 GA L2 L3 Ggg L4 L5; have := L6.out; omega), OG6.out.proof.mono (Nat.le_refl _) (by have := hid8 HP L1 GA L2 L3 Ggg L4 L5; have := L6.out; omega), OG6.out.body.mono (Nat.le_refl _) (by have := hid8 HP L1 GA L2 L3 Ggg L4 L5; have := L6.out; omega), OG6.out.tag.mono (Nat.le_refl _) (by have := hid8 HP L1 GA L2 L3 Ggg L4 L5; have := L6.out; omega)⟩
    clear hD hS KG6 OG6
    have KG6 := hid (KN)
    have OG6 := hid (ON)
    clear KN ON
    obtain ⟨d0, d1, d2, d3, d4, d5, d6, d7, d8, d9, d10⟩ := cells11 KG6.out
    obtain ⟨f0, f1, f2, f3, f4, f5, f6, f7, f8, f9, f10⟩ := cells11 KO6.out
    obtain ⟨g0, g1, g2, g3, g4, g5, g6, g7, g8, g9, g10⟩ := froz11 KO6.out
    go_wp2
    have SZF : Hid (w.heap.size ≤ go ∧ go + 1 ≤ x1.heap.size ∧ x1.heap.size ≤ x5.heap.size ∧ x5.heap.size ≤ x6.heap.size ∧ p < go) := by have := hid8 HP L1 GA L2 L3 Ggg L4 L5; have := L6.out; show _ ∧ _; omega
    have k1 := fr_put KO6.out (.int .i64 D1.kind) (.int .i64 D1.id) (.slice S1.cn.a S1.cn.n S1.cn.c) (.slice S1.sn.a S1.sn.n S1.sn.c) (.int .i64 D1.tick) (.slice S1.cookie.a S1.cookie.n S1.cookie.c) (.slice S1.proof.a S1.proof.n S1.proof.c) (.int .i64 D1.epoch) (.int .i64 D1.seq) (.slice S1.body.a S1.body.n S1.body.c) (.slice S1.tag.a S1.tag.n S1.tag.c)
    have KP := fr_kept x6 go (.int .i64 D1.kind) (.int .i64 D1.id) (.slice S1.cn.a S1.cn.n S1.cn.c) (.slice S1.sn.a S1.sn.n S1.sn.c) (.int .i64 D1.tick) (.slice S1.cookie.a S1.cookie.n S1.cookie.c) (.slice S1.proof.a S1.proof.n S1.proof.c) (.int .i64 D1.epoch) (.int .i64 D1.seq) (.slice S1.body.a S1.body.n S1.body.c) (.slice S1.tag.a S1.tag.n S1.tag.c)
    exact bodyPost_ret (v := frV D1 S1) (res1 rfl (is_cell rfl k1 aggFr)) rfl ⟨D1, S1, rfl, (OG6.out.carry KP (.inr (by have := SZF.out; omega))).mono (by have := SZF.out; omega) (by rw [fr_size]; have := SZF.out; omega), rdyK R6.out KP (by have := SZF.out; omega), butK B6.out KP (by have := SZF.out; omega)⟩
   | false =>
    cases ev3 : (v == 3) with
    | true =>
     obtain rfl : v = 3 := by simpa using ev3
     have cz := KG4.out.cell 9 rfl
     go_wp2_with fail
     refine (l1Bend R4.out S0.body.a S0.body.n S0.body.c D.body OG4.out.rd.body.len OG4.out.rd.body.rd OG4.out.rd.body.nil OG4.out.rd.body.bytes (by have := OG4.out.rd.body.len; have := HL.out.body; omega)).mono ?_
     rintro e x5 ⟨gz, mz, cz1, lz, rfl, ez, _, hz, kz, rz, r, b⟩
     have oz : SOwn x5 x4.heap.size x5.heap.size ⟨some ⟨gz, 0, none⟩, mz, cz1⟩ lz := SOwn.row rz ez hz kz rz.lt
     clear ez hz kz rz cz
     have L5 := hid (b.size)
     have KQ : Kept p (p + 1) x4 x5 := Kept.of_grown b
     have R5 := hid (r)
     have B5 := hid (B4.out.trans b)
     have KO5 := hid (KO4.out.keep (KQ.block _ KO4.out.lt (by have := hid8 HP L1 GA L2 L3 Ggg L4 L5; omega)))
     have OG5 := hid (OG4.out.carry KQ (by have := hid8 HP L1 GA L2 L3 Ggg L4 L5; omega))
     have KG5 := hid (KG4.out.keep (KQ.block _ KG4.out.lt (by have := hid8 HP L1 GA L2 L3 Ggg L4 L5; omega)))
     clear R4 B4 KO4 OG4 KG4 b
     clear KQ r
     have OZ5 := hid (oz)
     clear oz
     have co9 := KG5.out.cell 9 rfl
     have fo9 := KG5.out.frozen 9
     obtain ⟨x6, hx6⟩ : ∃ y, (x5.setCell ⟨gg, 9, none⟩ (.slice (some ⟨gz, 0, none⟩) mz cz1)) = y := ⟨_, rfl⟩
     have HW6 := hid (hx6)
     have L6 : Hid (x6.heap.size = x5.heap.size) := by rw [← hx6]; show _ = _; simp
     have KS : Blk x6 gg 27 [.int .i64 D.kind, .int .i64 D.id, .slice S0.cn.a S0.cn.n S0.cn.c, .slice S0.sn.a S0.sn.n S0.sn.c, .int .i64 D.tick, .slice S0.cookie.a S0.cookie.n S0.cookie.c, .slice S0.proof.a S0.proof.n S0.proof.c, .int .i64 D.epoch, .int .i64 D.seq, .slice (some ⟨gz, 0, none⟩) mz cz1, .slice S0.tag.a S0.tag.n S0.tag.c] := by rw [← hx6]; exact (KG5.out.set 9 _ (by simp [maxLen]))
     have KQ : Kept gg (gg + 1) x5 x6 := by rw [← hx6]; exact (Kept.setCell _ _ _ _)
     clear hx6
     have R6 : Hid (Ready W0 a len cap l p x6) := rdyK R5.out KQ (by have := hid8 HP L1 GA L2 L3 Ggg L4 L5; have := L6.out; omega)
     have B6 : Hid (But p w x6) := butK B5.out KQ (by have := hid8 HP L1 GA L2 L3 Ggg L4 L5; have := L6.out; omega)
     have KO6 := hid (KO5.out.keep (KQ.block _ KO5.out.lt (by have := hid8 HP L1 GA L2 L3 Ggg L4 L5; have := L6.out; omega)))
     have OG6 := hid (OG5.out.carry KQ (by have := hid8 HP L1 GA L2 L3 Ggg L4 L5; have := L6.out; omega))
     have OZ6 := hid (OZ5.out.carry KQ (by have := hid8 HP L1 GA L2 L3 Ggg L4 L5; have := L6.out; omega))
     clear R5 B5 KO5 OG5 OZ5 KQ
     clear KG5
     have KG6 := hid (KS)
     clear KS
     go_upto_region 17 with fail
     rw [HW6.out]
     clear HW6 co9 fo9
     obtain ⟨D1, hD⟩ : ∃ X : FrD, X = { D with body := lz } := ⟨_, rfl⟩
     obtain ⟨S1, hS⟩ : ∃ X : FrS, X = { S0 with body := ⟨some ⟨gz, 0, none⟩, mz, cz1⟩ } := ⟨_, rfl⟩
     have KN : Blk x6 gg 27 [.int .i64 D1.kind, .int .i64 D1.id, .slice S1.cn.a S1.cn.n S1.cn.c, .slice S1.sn.a S1.sn.n S1.sn.c, .int .i64 D1.tick, .slice S1.cookie.a S1.cookie.n S1.cookie.c, .slice S1.proof.a S1.proof.n S1.proof.c, .int .i64 D1.epoch, .int .i64 D1.seq, .slice S1.body.a S1.body.n S1.body.c, .slice S1.tag.a S1.tag.n S1.tag.c] := by rw [hD, hS]; exact KG6.out
     have ON : FrIn x6 x1.heap.size x5.heap.size S1 D1 := by rw [hD, hS]; exact ⟨OG6.out.cn.mono (Nat.le_refl _) (by have := hid8 HP L1 GA L2 L3 Ggg L4 L5; have := L6.out; omega), OG6.out.sn.mono (Nat.le_refl _) (by have := hid8 HP L1 GA L2 L3 Ggg L4 L5; have := L6.out; omega), OG6.out.cookie.mono (Nat.le_refl _) (by have := hid8 HP L1 GA L2 L3 Ggg L4 L5; have := L6.out; omega), OG6.out.proof.mono (Nat.le_refl _) (by have := hid8 HP L1 GA L2 L3 Ggg L4 L5; have := L6.out; omega), OZ6.out.mono (by have := hid8 HP L1 GA L2 L3 Ggg L4 L5; have := L6.out; omega) (by have := hid8 HP L1 GA L2 L3 Ggg L4 L5; have := L6.out; omega), OG6.out.tag.mono (Nat.le_refl _) (by have := hid8 HP L1 GA L2 L3 Ggg L4 L5; have := L6.out; omega)⟩
     clear hD hS KG6 OG6
     have KG6 := hid (KN)
     have OG6 := hid (ON)
     clear KN ON
     obtain ⟨d0, d1, d2, d3, d4, d5, d6, d7, d8, d9, d10⟩ := cells11 KG6.out
     obtain ⟨f0, f1, f2, f3, f4, f5, f6, f7, f8, f9, f10⟩ := cells11 KO6.out
     obtain ⟨g0, g1, g2, g3, g4, g5, g6, g7, g8, g9, g10⟩ := froz11 KO6.out
     go_wp2
     have SZF : Hid (w.heap.size ≤ go ∧ go + 1 ≤ x1.heap.size ∧ x1.heap.size ≤ x5.heap.size ∧ x5.heap.size ≤ x6.heap.size ∧ p < go) := by have := hid8 HP L1 GA L2 L3 Ggg L4 L5; have := L6.out; show _ ∧ _; omega
     have k1 := fr_put KO6.out (.int .i64 D1.kind) (.int .i64 D1.id) (.slice S1.cn.a S1.cn.n S1.cn.c) (.slice S1.sn.a S1.sn.n S1.sn.c) (.int .i64 D1.tick) (.slice S1.cookie.a S1.cookie.n S1.cookie.c) (.slice S1.proof.a S1.proof.n S1.proof.c) (.int .i64 D1.epoch) (.int .i64 D1.seq) (.slice S1.body.a S1.body.n S1.body.c) (.slice S1.tag.a S1.tag.n S1.tag.c)
     have KP := fr_kept x6 go (.int .i64 D1.kind) (.int .i64 D1.id) (.slice S1.cn.a S1.cn.n S1.cn.c) (.slice S1.sn.a S1.sn.n S1.sn.c) (.int .i64 D1.tick) (.slice S1.cookie.a S1.cookie.n S1.cookie.c) (.slice S1.proof.a S1.proof.n S1.proof.c) (.int .i64 D1.epoch) (.int .i64 D1.seq) (.slice S1.body.a S1.body.n S1.body.c) (.slice S1.tag.a S1.tag.n S1.tag.c)
     exact bodyPost_ret (v := frV D1 S1) (res1 rfl (is_cell rfl k1 aggFr)) rfl ⟨D1, S1, rfl, (OG6.out.carry KP (.inr (by have := SZF.out; omega))).mono (by have := SZF.out; omega) (by rw [fr_size]; have := SZF.out; omega), rdyK R6.out KP (by have := SZF.out; omega), butK B6.out KP (by have := SZF.out; omega)⟩
    | false =>
     cases ev4 : (v == 4) with
     | true =>
      obtain rfl : v = 4 := by simpa using ev4
      have cz := KG4.out.cell 9 rfl
      go_wp2_with fail
      refine (l1Bend R4.out S0.body.a S0.body.n S0.body.c D.body OG4.out.rd.body.len OG4.out.rd.body.rd OG4.out.rd.body.nil OG4.out.rd.body.bytes (by have := OG4.out.rd.body.len; have := HL.out.body; omega)).mono ?_
      rintro e x5 ⟨gz, mz, cz1, lz, rfl, ez, _, hz, kz, rz, r, b⟩
      have oz : SOwn x5 x4.heap.size x5.heap.size ⟨some ⟨gz, 0, none⟩, mz, cz1⟩ lz := SOwn.row rz ez hz kz rz.lt
      clear ez hz kz rz cz
      have L5 := hid (b.size)
      have KQ : Kept p (p + 1) x4 x5 := Kept.of_grown b
      have R5 := hid (r)
      have B5 := hid (B4.out.trans b)
      have KO5 := hid (KO4.out.keep (KQ.block _ KO4.out.lt (by have := hid8 HP L1 GA L2 L3 Ggg L4 L5; omega)))
      have OG5 := hid (OG4.out.carry KQ (by have := hid8 HP L1 GA L2 L3 Ggg L4 L5; omega))
      have KG5 := hid (KG4.out.keep (KQ.block _ KG4.out.lt (by have := hid8 HP L1 GA L2 L3 Ggg L4 L5; omega)))
      clear R4 B4 KO4 OG4 KG4 b
      clear KQ r
      have OZ5 := hid (oz)
      clear oz
      have co9 := KG5.out.cell 9 rfl
      have fo9 := KG5.out.frozen 9
      obtain ⟨x6, hx6⟩ : ∃ y, (x5.setCell ⟨gg, 9, none⟩ (.slice (some ⟨gz, 0, none⟩) mz cz1)) = y := ⟨_, rfl⟩
      have HW6 := hid (hx6)
      have L6 : Hid (x6.heap.size = x5.heap.size) := by rw [← hx6]; show _ = _; simp
      have KS : Blk x6 gg 27 [.int .i64 D.kind, .int .i64 D.id, .slice S0.cn.a S0.cn.n S0.cn.c, .slice S0.sn.a S0.sn.n S0.sn.c, .int .i64 D.tick, .slice S0.cookie.a S0.cookie.n S0.cookie.c, .slice S0.proof.a S0.proof.n S0.proof.c, .int .i64 D.epoch, .int .i64 D.seq, .slice (some ⟨gz, 0, none⟩) mz cz1, .slice S0.tag.a S0.tag.n S0.tag.c] := by rw [← hx6]; exact (KG5.out.set 9 _ (by simp [maxLen]))
      have KQ : Kept gg (gg + 1) x5 x6 := by rw [← hx6]; exact (Kept.setCell _ _ _ _)
      clear hx6
      have R6 : Hid (Ready W0 a len cap l p x6) := rdyK R5.out KQ (by have := hid8 HP L1 GA L2 L3 Ggg L4 L5; have := L6.out; omega)
      have B6 : Hid (But p w x6) := butK B5.out KQ (by have := hid8 HP L1 GA L2 L3 Ggg L4 L5; have := L6.out; omega)
      have KO6 := hid (KO5.out.keep (KQ.block _ KO5.out.lt (by have := hid8 HP L1 GA L2 L3 Ggg L4 L5; have := L6.out; omega)))
      have OG6 := hid (OG5.out.carry KQ (by have := hid8 HP L1 GA L2 L3 Ggg L4 L5; have := L6.out; omega))
      have OZ6 := hid (OZ5.out.carry KQ (by have := hid8 HP L1 GA L2 L3 Ggg L4 L5; have := L6.out; omega))
      clear R5 B5 KO5 OG5 OZ5 KQ
      clear KG5
      have KG6 := hid (KS)
      clear KS
      go_upto_region 17 with fail
      rw [HW6.out]
      clear HW6 co9 fo9
      obtain ⟨D1, hD⟩ : ∃ X : FrD, X = { D with body := lz } := ⟨_, rfl⟩
      obtain ⟨S1, hS⟩ : ∃ X : FrS, X = { S0 with body := ⟨some ⟨gz, 0, none⟩, mz, cz1⟩ } := ⟨_, rfl⟩
      have KN : Blk x6 gg 27 [.int .i64 D1.kind, .int .i64 D1.id, .slice S1.cn.a S1.cn.n S1.cn.c, .slice S1.sn.a S1.sn.n S1.sn.c, .int .i64 D1.tick, .slice S1.cookie.a S1.cookie.n S1.cookie.c, .slice S1.proof.a S1.proof.n S1.proof.c, .int .i64 D1.epoch, .int .i64 D1.seq, .slice S1.body.a S1.body.n S1.body.c, .slice S1.tag.a S1.tag.n S1.tag.c] := by rw [hD, hS]; exact KG6.out
      have ON : FrIn x6 x1.heap.size x5.heap.size S1 D1 := by rw [hD, hS]; exact ⟨OG6.out.cn.mono (Nat.le_refl _) (by have := hid8 HP L1 GA L2 L3 Ggg L4 L5; have := L6.out; omega), OG6.out.sn.mono (Nat.le_refl _) (by have := hid8 HP L1 GA L2 L3 Ggg L4 L5; have := L6.out; omega), OG6.out.cookie.mono (Nat.le_refl _) (by have := hid8 HP L1 GA L2 L3 Ggg L4 L5; have := L6.out; omega), OG6.out.proof.mono (Nat.le_refl _) (by have := hid8 HP L1 GA L2 L3 Ggg L4 L5; have := L6.out; omega), OZ6.out.mono (by have := hid8 HP L1 GA L2 L3 Ggg L4 L5; have := L6.out; omega) (by have := hid8 HP L1 GA L2 L3 Ggg L4 L5; have := L6.out; omega), OG6.out.tag.mono (Nat.le_refl _) (by have := hid8 HP L1 GA L2 L3 Ggg L4 L5; have := L6.out; omega)⟩
      clear hD hS KG6 OG6
      have KG6 := hid (KN)
      have OG6 := hid (ON)
      clear KN ON
      obtain ⟨d0, d1, d2, d3, d4, d5, d6, d7, d8, d9, d10⟩ := cells11 KG6.out
      obtain ⟨f0, f1, f2, f3, f4, f5, f6, f7, f8, f9, f10⟩ := cells11 KO6.out
      obtain ⟨g0, g1, g2, g3, g4, g5, g6, g7, g8, g9, g10⟩ := froz11 KO6.out
      go_wp2
      have SZF : Hid (w.heap.size ≤ go ∧ go + 1 ≤ x1.heap.size ∧ x1.heap.size ≤ x5.heap.size ∧ x5.heap.size ≤ x6.heap.size ∧ p < go) := by have := hid8 HP L1 GA L2 L3 Ggg L4 L5; have := L6.out; show _ ∧ _; omega
      have k1 := fr_put KO6.out (.int .i64 D1.kind) (.int .i64 D1.id) (.slice S1.cn.a S1.cn.n S1.cn.c) (.slice S1.sn.a S1.sn.n S1.sn.c) (.int .i64 D1.tick) (.slice S1.cookie.a S1.cookie.n S1.cookie.c) (.slice S1.proof.a S1.proof.n S1.proof.c) (.int .i64 D1.epoch) (.int .i64 D1.seq) (.slice S1.body.a S1.body.n S1.body.c) (.slice S1.tag.a S1.tag.n S1.tag.c)
      have KP := fr_kept x6 go (.int .i64 D1.kind) (.int .i64 D1.id) (.slice S1.cn.a S1.cn.n S1.cn.c) (.slice S1.sn.a S1.sn.n S1.sn.c) (.int .i64 D1.tick) (.slice S1.cookie.a S1.cookie.n S1.cookie.c) (.slice S1.proof.a S1.proof.n S1.proof.c) (.int .i64 D1.epoch) (.int .i64 D1.seq) (.slice S1.body.a S1.body.n S1.body.c) (.slice S1.tag.a S1.tag.n S1.tag.c)
      exact bodyPost_ret (v := frV D1 S1) (res1 rfl (is_cell rfl k1 aggFr)) rfl ⟨D1, S1, rfl, (OG6.out.carry KP (.inr (by have := SZF.out; omega))).mono (by have := SZF.out; omega) (by rw [fr_size]; have := SZF.out; omega), rdyK R6.out KP (by have := SZF.out; omega), butK B6.out KP (by have := SZF.out; omega)⟩
     | false =>
      cases ev5 : (v == 5) with
      | true =>
       obtain rfl : v = 5 := by simpa using ev5
       have cz := KG4.out.cell 10 rfl
       go_wp2_with fail
       refine (l1Bend R4.out S0.tag.a S0.tag.n S0.tag.c D.tag OG4.out.rd.tag.len OG4.out.rd.tag.rd OG4.out.rd.tag.nil OG4.out.rd.tag.bytes (by have := OG4.out.rd.tag.len; have := HL.out.tag; omega)).mono ?_
       rintro e x5 ⟨gz, mz, cz1, lz, rfl, ez, _, hz, kz, rz, r, b⟩
       have oz : SOwn x5 x4.heap.size x5.heap.size ⟨some ⟨gz, 0, none⟩, mz, cz1⟩ lz := SOwn.row rz ez hz kz rz.lt
       clear ez hz kz rz cz
       have L5 := hid (b.size)
       have KQ : Kept p (p + 1) x4 x5 := Kept.of_grown b
       have R5 := hid (r)
       have B5 := hid (B4.out.trans b)
       have KO5 := hid (KO4.out.keep (KQ.block _ KO4.out.lt (by have := hid8 HP L1 GA L2 L3 Ggg L4 L5; omega)))
       have OG5 := hid (OG4.out.carry KQ (by have := hid8 HP L1 GA L2 L3 Ggg L4 L5; omega))
       have KG5 := hid (KG4.out.keep (KQ.block _ KG4.out.lt (by have := hid8 HP L1 GA L2 L3 Ggg L4 L5; omega)))
       clear R4 B4 KO4 OG4 KG4 b
       clear KQ r
       have OZ5 := hid (oz)
       clear oz
       have co10 := KG5.out.cell 10 rfl
       have fo10 := KG5.out.frozen 10
       obtain ⟨x6, hx6⟩ : ∃ y, (x5.setCell ⟨gg, 10, none⟩ (.slice (some ⟨gz, 0, none⟩) mz cz1)) = y := ⟨_, rfl⟩
       have HW6 := hid (hx6)
       have L6 : Hid (x6.heap.size = x5.heap.size) := by rw [← hx6]; show _ = _; simp
       have KS : Blk x6 gg 27 [.int .i64 D.kind, .int .i64 D.id, .slice S0.cn.a S0.cn.n S0.cn.c, .slice S0.sn.a S0.sn.n S0.sn.c, .int .i64 D.tick, .slice S0.cookie.a S0.cookie.n S0.cookie.c, .slice S0.proof.a S0.proof.n S0.proof.c, .int .i64 D.epoch, .int .i64 D.seq, .slice S0.body.a S0.body.n S0.body.c, .slice (some ⟨gz, 0, none⟩) mz cz1] := by rw [← hx6]; exact (KG5.out.set 10 _ (by simp [maxLen]))
       have KQ : Kept gg (gg + 1) x5 x6 := by rw [← hx6]; exact (Kept.setCell _ _ _ _)
       clear hx6
       have R6 : Hid (Ready W0 a len cap l p x6) := rdyK R5.out KQ (by have := hid8 HP L1 GA L2 L3 Ggg L4 L5; have := L6.out; omega)
       have B6 : Hid (But p w x6) := butK B5.out KQ (by have := hid8 HP L1 GA L2 L3 Ggg L4 L5; have := L6.out; omega)
       have KO6 := hid (KO5.out.keep (KQ.block _ KO5.out.lt (by have := hid8 HP L1 GA L2 L3 Ggg L4 L5; have := L6.out; omega)))
       have OG6 := hid (OG5.out.carry KQ (by have := hid8 HP L1 GA L2 L3 Ggg L4 L5; have := L6.out; omega))
       have OZ6 := hid (OZ5.out.carry KQ (by have := hid8 HP L1 GA L2 L3 Ggg L4 L5; have := L6.out; omega))
       clear R5 B5 KO5 OG5 OZ5 KQ
       clear KG5
       have KG6 := hid (KS)
       clear KS
       go_upto_region 17 with fail
       rw [HW6.out]
       clear HW6 co10 fo10
       obtain ⟨D1, hD⟩ : ∃ X : FrD, X = { D with tag := lz } := ⟨_, rfl⟩
       obtain ⟨S1, hS⟩ : ∃ X : FrS, X = { S0 with tag := ⟨some ⟨gz, 0, none⟩, mz, cz1⟩ } := ⟨_, rfl⟩
       have KN : Blk x6 gg 27 [.int .i64 D1.kind, .int .i64 D1.id, .slice S1.cn.a S1.cn.n S1.cn.c, .slice S1.sn.a S1.sn.n S1.sn.c, .int .i64 D1.tick, .slice S1.cookie.a S1.cookie.n S1.cookie.c, .slice S1.proof.a S1.proof.n S1.proof.c, .int .i64 D1.epoch, .int .i64 D1.seq, .slice S1.body.a S1.body.n S1.body.c, .slice S1.tag.a S1.tag.n S1.tag.c] := by rw [hD, hS]; exact KG6.out
       have ON : FrIn x6 x1.heap.size x5.heap.size S1 D1 := by rw [hD, hS]; exact ⟨OG6.out.cn.mono (Nat.le_refl _) (by have := hid8 HP L1 GA L2 L3 Ggg L4 L5; have := L6.out; omega), OG6.out.sn.mono (Nat.le_refl _) (by have := hid8 HP L1 GA L2 L3 Ggg L4 L5; have := L6.out; omega), OG6.out.cookie.mono (Nat.le_refl _) (by have := hid8 HP L1 GA L2 L3 Ggg L4 L5; have := L6.out; omega), OG6.out.proof.mono (Nat.le_refl _) (by have := hid8 HP L1 GA L2 L3 Ggg L4 L5; have := L6.out; omega), OG6.out.body.mono (Nat.le_refl _) (by have := hid8 HP L1 GA L2 L3 Ggg L4 L5; have := L6.out; omega), OZ6.out.mono (by have := hid8 HP L1 GA L2 L3 Ggg L4 L5; have := L6.out; omega) (by have := hid8 HP L1 GA L2 L3 Ggg L4 L5; have := L6.out; omega)⟩
       clear hD hS KG6 OG6
       have KG6 := hid (KN)
       have OG6 := hid (ON)
       clear KN ON
       obtain ⟨d0, d1, d2, d3, d4, d5, d6, d7, d8, d9, d10⟩ := cells11 KG6.out
       obtain ⟨f0, f1, f2, f3, f4, f5, f6, f7, f8, f9, f10⟩ := cells11 KO6.out
       obtain ⟨g0, g1, g2, g3, g4, g5, g6, g7, g8, g9, g10⟩ := froz11 KO6.out
       go_wp2
       have SZF : Hid (w.heap.size ≤ go ∧ go + 1 ≤ x1.heap.size ∧ x1.heap.size ≤ x5.heap.size ∧ x5.heap.size ≤ x6.heap.size ∧ p < go) := by have := hid8 HP L1 GA L2 L3 Ggg L4 L5; have := L6.out; show _ ∧ _; omega
       have k1 := fr_put KO6.out (.int .i64 D1.kind) (.int .i64 D1.id) (.slice S1.cn.a S1.cn.n S1.cn.c) (.slice S1.sn.a S1.sn.n S1.sn.c) (.int .i64 D1.tick) (.slice S1.cookie.a S1.cookie.n S1.cookie.c) (.slice S1.proof.a S1.proof.n S1.proof.c) (.int .i64 D1.epoch) (.int .i64 D1.seq) (.slice S1.body.a S1.body.n S1.body.c) (.slice S1.tag.a S1.tag.n S1.tag.c)
       have KP := fr_kept x6 go (.int .i64 D1.kind) (.int .i64 D1.id) (.slice S1.cn.a S1.cn.n S1.cn.c) (.slice S1.sn.a S1.sn.n S1.sn.c) (.int .i64 D1.tick) (.slice S1.cookie.a S1.cookie.n S1.cookie.c) (.slice S1.proof.a S1.proof.n S1.proof.c) (.int .i64 D1.epoch) (.int .i64 D1.seq) (.slice S1.body.a S1.body.n S1.body.c) (.slice S1.tag.a S1.tag.n S1.tag.c)
       exact bodyPost_ret (v := frV D1 S1) (res1 rfl (is_cell rfl k1 aggFr)) rfl ⟨D1, S1, rfl, (OG6.out.carry KP (.inr (by have := SZF.out; omega))).mono (by have := SZF.out; omega) (by rw [fr_size]; have := SZF.out; omega), rdyK R6.out KP (by have := SZF.out; omega), butK B6.out KP (by have := SZF.out; omega)⟩
      | false =>
       cases ev6 : (v == 6) with
       | true =>
        obtain rfl : v = 6 := by simpa using ev6
        have cz := KG4.out.cell 10 rfl
        go_wp2_with fail
        refine (l1Bend R4.out S0.tag.a S0.tag.n S0.tag.c D.tag OG4.out.rd.tag.len OG4.out.rd.tag.rd OG4.out.rd.tag.nil OG4.out.rd.tag.bytes (by have := OG4.out.rd.tag.len; have := HL.out.tag; omega)).mono ?_
        rintro e x5 ⟨gz, mz, cz1, lz, rfl, ez, _, hz, kz, rz, r, b⟩
        have oz : SOwn x5 x4.heap.size x5.heap.size ⟨some ⟨gz, 0, none⟩, mz, cz1⟩ lz := SOwn.row rz ez hz kz rz.lt
        clear ez hz kz rz cz
        have L5 := hid (b.size)
        have KQ : Kept p (p + 1) x4 x5 := Kept.of_grown b
        have R5 := hid (r)
        have B5 := hid (B4.out.trans b)
        have KO5 := hid (KO4.out.keep (KQ.block _ KO4.out.lt (by have := hid8 HP L1 GA L2 L3 Ggg L4 L5; omega)))
        have OG5 := hid (OG4.out.carry KQ (by have := hid8 HP L1 GA L2 L3 Ggg L4 L5; omega))
        have KG5 := hid (KG4.out.keep (KQ.block _ KG4.out.lt (by have := hid8 HP L1 GA L2 L3 Ggg L4 L5; omega)))
        clear R4 B4 KO4 OG4 KG4 b
        clear KQ r
        have OZ5 := hid (oz)
        clear oz
        have co10 := KG5.out.cell 10 rfl
        have fo10 := KG5.out.frozen 10
        obtain ⟨x6, hx6⟩ : ∃ y, (x5.setCell ⟨gg, 10, none⟩ (.slice (some ⟨gz, 0, none⟩) mz cz1)) = y := ⟨_, rfl⟩
        have HW6 := hid (hx6)
        have L6 : Hid (x6.heap.size = x5.heap.size) := by rw [← hx6]; show _ = _; simp
        have KS : Blk x6 gg 27 [.int .i64 D.kind, .int .i64 D.id, .slice S0.cn.a S0.cn.n S0.cn.c, .slice S0.sn.a S0.sn.n S0.sn.c, .int .i64 D.tick, .slice S0.cookie.a S0.cookie.n S0.cookie.c, .slice S0.proof.a S0.proof.n S0.proof.c, .int .i64 D.epoch, .int .i64 D.seq, .slice S0.body.a S0.body.n S0.body.c, .slice (some ⟨gz, 0, none⟩) mz cz1] := by rw [← hx6]; exact (KG5.out.set 10 _ (by simp [maxLen]))
        have KQ : Kept gg (gg + 1) x5 x6 := by rw [← hx6]; exact (Kept.setCell _ _ _ _)
        clear hx6
        have R6 : Hid (Ready W0 a len cap l p x6) := rdyK R5.out KQ (by have := hid8 HP L1 GA L2 L3 Ggg L4 L5; have := L6.out; omega)
        have B6 : Hid (But p w x6) := butK B5.out KQ (by have := hid8 HP L1 GA L2 L3 Ggg L4 L5; have := L6.out; omega)
        have KO6 := hid (KO5.out.keep (KQ.block _ KO5.out.lt (by have := hid8 HP L1 GA L2 L3 Ggg L4 L5; have := L6.out; omega)))
        have OG6 := hid (OG5.out.carry KQ (by have := hid8 HP L1 GA L2 L3 Ggg L4 L5; have := L6.out; omega))
        have OZ6 := hid (OZ5.out.carry KQ (by have := hid8 HP L1 GA L2 L3 Ggg L4 L5; have := L6.out; omega))
        clear R5 B5 KO5 OG5 OZ5 KQ
        clear KG5
        have KG6 := hid (KS)
        clear KS
        go_upto_region 17 with fail
        rw [HW6.out]
        clear HW6 co10 fo10
        obtain ⟨D1, hD⟩ : ∃ X : FrD, X = { D with tag := lz } := ⟨_, rfl⟩
        obtain ⟨S1, hS⟩ : ∃ X : FrS, X = { S0 with tag := ⟨some ⟨gz, 0, none⟩, mz, cz1⟩ } := ⟨_, rfl⟩
        have KN : Blk x6 gg 27 [.int .i64 D1.kind, .int .i64 D1.id, .slice S1.cn.a S1.cn.n S1.cn.c, .slice S1.sn.a S1.sn.n S1.sn.c, .int .i64 D1.tick, .slice S1.cookie.a S1.cookie.n S1.cookie.c, .slice S1.proof.a S1.proof.n S1.proof.c, .int .i64 D1.epoch, .int .i64 D1.seq, .slice S1.body.a S1.body.n S1.body.c, .slice S1.tag.a S1.tag.n S1.tag.c] := by rw [hD, hS]; exact KG6.out
        have ON : FrIn x6 x1.heap.size x5.heap.size S1 D1 := by rw [hD, hS]; exact ⟨OG6.out.cn.mono (Nat.le_refl _) (by have := hid8 HP L1 GA L2 L3 Ggg L4 L5; have := L6.out; omega), OG6.out.sn.mono (Nat.le_refl _) (by have := hid8 HP L1 GA L2 L3 Ggg L4 L5; have := L6.out; omega), OG6.out.cookie.mono (Nat.le_refl _) (by have := hid8 HP L1 GA L2 L3 Ggg L4 L5; have := L6.out; omega), OG6.out.proof.mono (Nat.le_refl _) (by have := hid8 HP L1 GA L2 L3 Ggg L4 L5; have := L6.out; omega), OG6.out.body.mono (Nat.le_refl _) (by have := hid8 HP L1 GA L2 L3 Ggg L4 L5; have := L6.out; omega), OZ6.out.mono (by have := hid8 HP L1 GA L2 L3 Ggg L4 L5; have := L6.out; omega) (by have := hid8 HP L1 GA L2 L3 Ggg L4 L5; have := L6.out; omega)⟩
        clear hD hS KG6 OG6
        have KG6 := hid (KN)
        have OG6 := hid (ON)
        clear KN ON
        obtain ⟨d0, d1, d2, d3, d4, d5, d6, d7, d8, d9, d10⟩ := cells11 KG6.out
        obtain ⟨f0, f1, f2, f3, f4, f5, f6, f7, f8, f9, f10⟩ := cells11 KO6.out
        obtain ⟨g0, g1, g2, g3, g4, g5, g6, g7, g8, g9, g10⟩ := froz11 KO6.out
        go_wp2
        have SZF : Hid (w.heap.size ≤ go ∧ go + 1 ≤ x1.heap.size ∧ x1.heap.size ≤ x5.heap.size ∧ x5.heap.size ≤ x6.heap.size ∧ p < go) := by have := hid8 HP L1 GA L2 L3 Ggg L4 L5; have := L6.out; show _ ∧ _; omega
        have k1 := fr_put KO6.out (.int .i64 D1.kind) (.int .i64 D1.id) (.slice S1.cn.a S1.cn.n S1.cn.c) (.slice S1.sn.a S1.sn.n S1.sn.c) (.int .i64 D1.tick) (.slice S1.cookie.a S1.cookie.n S1.cookie.c) (.slice S1.proof.a S1.proof.n S1.proof.c) (.int .i64 D1.epoch) (.int .i64 D1.seq) (.slice S1.body.a S1.body.n S1.body.c) (.slice S1.tag.a S1.tag.n S1.tag.c)
        have KP := fr_kept x6 go (.int .i64 D1.kind) (.int .i64 D1.id) (.slice S1.cn.a S1.cn.n S1.cn.c) (.slice S1.sn.a S1.sn.n S1.sn.c) (.int .i64 D1.tick) (.slice S1.cookie.a S1.cookie.n S1.cookie.c) (.slice S1.proof.a S1.proof.n S1.proof.c) (.int .i64 D1.epoch) (.int .i64 D1.seq) (.slice S1.body.a S1.body.n S1.body.c) (.slice S1.tag.a S1.tag.n S1.tag.c)
        exact bodyPost_ret (v := frV D1 S1) (res1 rfl (is_cell rfl k1 aggFr)) rfl ⟨D1, S1, rfl, (OG6.out.carry KP (.inr (by have := SZF.out; omega))).mono (by have := SZF.out; omega) (by rw [fr_size]; have := SZF.out; omega), rdyK R6.out KP (by have := SZF.out; omega), butK B6.out KP (by have := SZF.out; omega)⟩
       | false =>
        cases ev7 : (v == 7) with
        | true =>
         obtain rfl : v = 7 := by simpa using ev7
         go_wp2_with fail
         refine (Draw.below R4.out 10 (by omega) (by omega)).mono ?_
         rintro e x5 ⟨u, rfl, va, vb, r, b⟩
         have VBu : Hid (0 ≤ u ∧ u < 10) := ⟨va, vb⟩
         clear va vb
         have L5 := hid (b.size)
         have KQ : Kept p (p + 1) x4 x5 := Kept.of_grown b
         have R5 := hid (r)
         have B5 := hid (B4.out.trans b)
         have KO5 := hid (KO4.out.keep (KQ.block _ KO4.out.lt (by have := hid8 HP L1 GA L2 L3 Ggg L4 L5; omega)))
         have OG5 := hid (OG4.out.carry KQ (by have := hid8 HP L1 GA L2 L3 Ggg L4 L5; omega))
         have KG5 := hid (KG4.out.keep (KQ.block _ KG4.out.lt (by have := hid8 HP L1 GA L2 L3 Ggg L4 L5; omega)))
         clear R4 B4 KO4 OG4 KG4 b
         clear KQ r
         have co0 := KG5.out.cell 0 rfl
         have fo0 := KG5.out.frozen 0
         obtain ⟨x6, hx6⟩ : ∃ y, (x5.setCell ⟨gg, 0, none⟩ (.int .i64 u)) = y := ⟨_, rfl⟩
         have HW6 := hid (hx6)
         have L6 : Hid (x6.heap.size = x5.heap.size) := by rw [← hx6]; show _ = _; simp
         have KS : Blk x6 gg 27 [.int .i64 u, .int .i64 D.id, .slice S0.cn.a S0.cn.n S0.cn.c, .slice S0.sn.a S0.sn.n S0.sn.c, .int .i64 D.tick, .slice S0.cookie.a S0.cookie.n S0.cookie.c, .slice S0.proof.a S0.proof.n S0.proof.c, .int .i64 D.epoch, .int .i64 D.seq, .slice S0.body.a S0.body.n S0.body.c, .slice S0.tag.a S0.tag.n S0.tag.c] := by rw [← hx6]; exact (KG5.out.set 0 _ (by simp [maxLen]))
         have KQ : Kept gg (gg + 1) x5 x6 := by rw [← hx6]; exact (Kept.setCell _ _ _ _)
         clear hx6
         have R6 : Hid (Ready W0 a len cap l p x6) := rdyK R5.out KQ (by have := hid8 HP L1 GA L2 L3 Ggg L4 L5; have := L6.out; omega)
         have B6 : Hid (But p w x6) := butK B5.out KQ (by have := hid8 HP L1 GA L2 L3 Ggg L4 L5; have := L6.out; omega)
         have KO6 := hid (KO5.out.keep (KQ.block _ KO5.out.lt (by have := hid8 HP L1 GA L2 L3 Ggg L4 L5; have := L6.out; omega)))
         have OG6 := hid (OG5.out.carry KQ (by have := hid8 HP L1 GA L2 L3 Ggg L4 L5; have := L6.out; omega))
         clear R5 B5 KO5 OG5 KQ
         clear KG5
         have KG6 := hid (KS)
         clear KS
         go_upto_region 17 with fail
         rw [HW6.out]
         clear HW6 co0 fo0
         obtain ⟨D1, hD⟩ : ∃ X : FrD, X = { D with kind := u } := ⟨_, rfl⟩
         obtain ⟨S1, hS⟩ : ∃ X : FrS, X = S0 := ⟨_, rfl⟩
         have KN : Blk x6 gg 27 [.int .i64 D1.kind, .int .i64 D1.id, .slice S1.cn.a S1.cn.n S1.cn.c, .slice S1.sn.a S1.sn.n S1.sn.c, .int .i64 D1.tick, .slice S1.cookie.a S1.cookie.n S1.cookie.c, .slice S1.proof.a S1.proof.n S1.proof.c, .int .i64 D1.epoch, .int .i64 D1.seq, .slice S1.body.a S1.body.n S1.body.c, .slice S1.tag.a S1.tag.n S1.tag.c] := by rw [hD, hS]; exact KG6.out
         have ON : FrIn x6 x1.heap.size x2.heap.size S1 D1 := by rw [hD, hS]; exact ⟨OG6.out.cn, OG6.out.sn, OG6.out.cookie, OG6.out.proof, OG6.out.body, OG6.out.tag⟩
         clear hD hS KG6 OG6
         have KG6 := hid (KN)
         have OG6 := hid (ON)
         clear KN ON
         obtain ⟨d0, d1, d2, d3, d4, d5, d6, d7, d8, d9, d10⟩ := cells11 KG6.out
         obtain ⟨f0, f1, f2, f3, f4, f5, f6, f7, f8, f9, f10⟩ := cells11 KO6.out
         obtain ⟨g0, g1, g2, g3, g4, g5, g6, g7, g8, g9, g10⟩ := froz11 KO6.out
         go_wp2
         have SZF : Hid (w.heap.size ≤ go ∧ go + 1 ≤ x1.heap.size ∧ x1.heap.size ≤ x2.heap.size ∧ x2.heap.size ≤ x6.heap.size ∧ p < go) := by have := hid8 HP L1 GA L2 L3 Ggg L4 L5; have := L6.out; show _ ∧ _; omega
         have k1 := fr_put KO6.out (.int .i64 D1.kind) (.int .i64 D1.id) (.slice S1.cn.a S1.cn.n S1.cn.c) (.slice S1.sn.a S1.sn.n S1.sn.c) (.int .i64 D1.tick) (.slice S1.cookie.a S1.cookie.n S1.cookie.c) (.slice S1.proof.a S1.proof.n S1.proof.c) (.int .i64 D1.epoch) (.int .i64 D1.seq) (.slice S1.body.a S1.body.n S1.body.c) (.slice S1.tag.a S1.tag.n S1.tag.c)
         have KP := fr_kept x6 go (.int .i64 D1.kind) (.int .i64 D1.id) (.slice S1.cn.a S1.cn.n S1.cn.c) (.slice S1.sn.a S1.sn.n S1.sn.c) (.int .i64 D1.tick) (.slice S1.cookie.a S1.cookie.n S1.cookie.c) (.slice S1.proof.a S1.proof.n S1.proof.c) (.int .i64 D1.epoch) (.int .i64 D1.seq) (.slice S1.body.a S1.body.n S1.body.c) (.slice S1.tag.a S1.tag.n S1.tag.c)
         exact bodyPost_ret (v := frV D1 S1) (res1 rfl (is_cell rfl k1 aggFr)) rfl ⟨D1, S1, rfl, (OG6.out.carry KP (.inr (by have := SZF.out; omega))).mono (by have := SZF.out; omega) (by rw [fr_size]; have := SZF.out; omega), rdyK R6.out KP (by have := SZF.out; omega), butK B6.out KP (by have := SZF.out; omega)⟩
        | false =>
         go_upto_region 17 with fail
         obtain ⟨d0, d1, d2, d3, d4, d5, d6, d7, d8, d9, d10⟩ := cells11 KG4.out
         obtain ⟨f0, f1, f2, f3, f4, f5, f6, f7, f8, f9, f10⟩ := cells11 KO4.out
         obtain ⟨g0, g1, g2, g3, g4, g5, g6, g7, g8, g9, g10⟩ := froz11 KO4.out
         go_wp2
         have SZF : Hid (w.heap.size ≤ go ∧ go + 1 ≤ x1.heap.size ∧ x1.heap.size ≤ x2.heap.size ∧ x2.heap.size ≤ x4.heap.size ∧ p < go) := by have := hid7 HP L1 GA L2 L3 Ggg L4; show _ ∧ _; omega
         have k1 := fr_put KO4.out (.int .i64 D.kind) (.int .i64 D.id) (.slice S0.cn.a S0.cn.n S0.cn.c) (.slice S0.sn.a S0.sn.n S0.sn.c) (.int .i64 D.tick) (.slice S0.cookie.a S0.cookie.n S0.cookie.c) (.slice S0.proof.a S0.proof.n S0.proof.c) (.int .i64 D.epoch) (.int .i64 D.seq) (.slice S0.body.a S0.body.n S0.body.c) (.slice S0.tag.a S0.tag.n S0.tag.c)
         have KP := fr_kept x4 go (.int .i64 D.kind) (.int .i64 D.id) (.slice S0.cn.a S0.cn.n S0.cn.c) (.slice S0.sn.a S0.sn.n S0.sn.c) (.int .i64 D.tick) (.slice S0.cookie.a S0.cookie.n S0.cookie.c) (.slice S0.proof.a S0.proof.n S0.proof.c) (.int .i64 D.epoch) (.int .i64 D.seq) (.slice S0.body.a S0.body.n S0.body.c) (.slice S0.tag.a S0.tag.n S0.tag.c)
         exact bodyPost_ret (v := frV D S0) (res1 rfl (is_cell rfl k1 aggFr)) rfl ⟨D, S0, rfl, (OG4.out.carry KP (.inr (by have := SZF.out; omega))).mono (by have := SZF.out; omega) (by rw [fr_size]; have := SZF.out; omega), rdyK R4.out KP (by have := SZF.out; omega), butK B4.out KP (by have := SZF.out; omega)⟩
end Go.Proofs.YtmcflfpckpjphaaGreatDoor.DrBe
