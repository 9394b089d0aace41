/-
  What l1Bend, DrawDiff and DrawSameTag give: bytes in new memory.
-/
import Derived.Test.YtpenhliaelhnoaaGreatDoorVaDrawB
import Derived.Test.YtpenhliaelhnoaaGreatDoorVaGz15
import Derived.Deep.RegionWith
set_option maxRecDepth 100000
namespace Go.Proofs.YtpenhliaelhnoaaGreatDoor.DrawD
open Go.RowKit Mem App AppAt Draw DiffP Bent

theorem Ready.drew {W0 : World} {a : Option Addr} {len cap : Nat} {l : List Int} {p : Nat} {w : World} (h : Ready W0 a len cap l p w) : Ready W0 a len cap l p w.drew :=
 ⟨h.hl, h.hr, h.hb, h.hlen, h.hB.drew, h.hp, h.hc.keep rfl⟩
theorem Ready.grown {W0 : World} {a : Option Addr} {len cap : Nat} {l : List Int} {p g : Nat} {w w' : World} (h : Ready W0 a len cap l p w) (gr : w.grownBy w' (some g)) (hg : g ≠ p) (h0 : W0.heap.size ≤ g) : Ready W0 a len cap l p w' :=
 ⟨h.hl, h.hr, h.hb, h.hlen, h.hB.grown gr h.hB.size (fun k e => by cases e; exact h0), h.hp, h.hc.keep (gr.block p h.hc.lt (by simpa using Ne.symm hg))⟩
theorem But.drew {p : Nat} {w w' : World} (h : But p w w') : But p w w'.drew := h.alike rfl rfl rfl rfl
theorem but_below {p : Nat} {w w' : World} (h : Below w.heap.size w w') : But p w w' :=
 ⟨h.os, h.tape, h.output, h.size, fun i hi _ => h.block i hi⟩
theorem row_take {w : World} {g c : Nat} {l : List Int} (h : Row w g c l) (k : Nat) : Row w g c (l.take k) := by
 obtain ⟨h1, h2, cur, h3, h4, h5⟩ := h
 refine ⟨by rw [List.length_take]; omega, h2, cur, h3, h4, ?_⟩
 rw [List.length_take, List.map_take, ← h5, List.take_take]
theorem take_bytes {l : List Int} (h : Bytes l) (k : Nat) : Bytes (l.take k) := fun z hz => h z (List.mem_of_mem_take hz)

set_option maxHeartbeats 4000000 in
theorem l1Bend {W0 : World} {a : Option Addr} {len cap : Nat} {l : List Int} {p : Nat} {w : World} (h : Ready W0 a len cap l p w) (ab : Option Addr) (nb cb : Nat) (b : List Int) (eb : nb = b.length) (rb : Rd w ab b) (nab : ab = none → cb = 0) (hbb : Bytes b) (lb : nb ≤ 1000) :
  Calls Tryz.prog 38 #[.pointer (some ⟨p, 0, none⟩), .slice ab nb cb] w fun e w' =>
   ∃ (g m c : Nat) (y : List Int), e = .returned (.slice (some ⟨g, 0, none⟩) m c) ∧ m = y.length ∧ m ≤ nb + 1 ∧ Bytes y ∧ w.heap.size ≤ g ∧ Row w' g c y ∧ Ready W0 a len cap l p w' ∧ But p w w' := by
 have HRd := hid (h)
 have EB : Hid (nb = b.length) := eb
 have RB := hid (rb)
 have HBB := hid (hbb)
 have A0 : Hid (Below w.heap.size w (w.alloc (.cells #[] 5))) := (Below.refl _ _).alloc (Nat.le_refl _) _
 have R0 : Hid (Row (w.alloc (.cells #[] 5)) w.heap.size 0 []) := row_new w [] (by simp)
 have HPW : Hid (p < w.heap.size) := h.hc.lt
 have HSW := hid (h.hB.size)
 clear eb rb hbb h
 go_enter Tryz.func38, Tryz.ntmps38
 go_wp2_with (at_builtin; refine wpList_app _ rfl (.tmp 7) (.tmp 8) rfl w.heap.size w.heap.size 0 0 [] b rfl rfl R0.out (Nat.le_refl _) ab nb cb rfl EB.out (RB.out.later A0.out (Nat.le_refl _)) nab (by rw [← EB.out, List.length_nil]; omega) ?_; intro g1 c1 w1 r1 b1 l1 gr1; have R1 : Hid (Row w1 g1 c1 b) := (List.nil_append b) ▸ r1; have G1 : Hid (w.heap.size ≤ g1) := b1; have B1 : Hid (Below w.heap.size w w1) := A0.out.grown gr1 A0.out.size (fun k h => by cases h; exact Nat.le_refl _); clear r1 b1 l1 gr1)
 have NG : Hid (g1 ≠ p) := Nat.ne_of_gt (Nat.lt_of_lt_of_le HPW.out G1.out)
 have GW : Hid (W0.heap.size ≤ g1) := Nat.le_trans HSW.out G1.out
 have D1 : Hid (Ready W0 a len cap l p w1) := ⟨HRd.out.hl, HRd.out.hr, HRd.out.hb, HRd.out.hlen, HRd.out.hB.trans (B1.out.mono HRd.out.hB.size), HRd.out.hp, HRd.out.hc.keep (B1.out.block p HRd.out.hc.lt)⟩
 have U1 : Hid (But p w w1) := but_below B1.out
 have hbc : nb ≤ c1 := by have := R1.out.1; rw [← EB.out] at this; exact this
 clear HRd RB A0 R0 B1
 refine (below D1.out 8 (by omega) (by omega)).mono ?_
 rintro e w2 ⟨y, rfl, y0, y1, d2, u2⟩
 have D2 := hid (d2)
 have R2 : Hid (Row w2 g1 c1 b) := Row.but R1.out u2 NG.out
 have U2 := hid (U1.out.trans u2)
 clear d2 u2 D1 R1 U1
 by_cases k0 : y = 0
 ·
  subst k0
  by_cases hn : nb = 0
  ·
   subst hn
   go_wp2
   go_ret
   exact ⟨g1, 0, c1, b, rfl, EB.out, by omega, HBB.out, G1.out, R2.out, D2.out, U2.out⟩
  ·
   have hnI : (nb : Int) > 0 := by omega
   go_wp2_with fail
   refine (below D2.out (nb : Int) (by omega) (by omega)).mono ?_
   rintro e w3 ⟨i, rfl, i0, i1, d3, u3⟩
   obtain ⟨q, rfl⟩ := Int.eq_ofNat_of_zero_le i0
   have hq : q < nb := by omega
   have D3 := hid (d3)
   have R3 : Hid (Row w3 g1 c1 b) := Row.but R2.out u3 NG.out
   have U3 := hid (U2.out.trans u3)
   clear d3 u3 D2 R2 U2
   obtain ⟨z, hz⟩ : ∃ z, b.getD q 0 = z := ⟨_, rfl⟩
   have zb := HBB.out.at q
   rw [hz] at zb
   obtain ⟨z0, z1⟩ := zb
   have HC : Hid (∀ wx, Row wx g1 c1 b → wx.cell? ⟨g1, q, none⟩ = some (.int .u8 z) ∧ wx.frozen? ⟨g1, q, none⟩ = false) := fun wx hx => ⟨by rw [← hz]; exact hx.cell q (by rw [← EB.out]; exact hq), (hx.owns (Nat.le_refl _)).frozenAt q⟩
   have hc : w3.drew.cell? ⟨g1, q, none⟩ = some (.int .u8 z) := (HC.out w3.drew R3.out).1
   clear hz
   go_upto_region 6 with fail
   go_region_with (go_at_call 37; refine (below (Ready.drew D3.out) 255 (by omega) (by omega)).mono ?_; rintro e w4 ⟨j, rfl, j0, j1, d4, u4⟩; have D4 := hid (d4); have R4 : Hid (Row w4 g1 c1 b) := Row.but (w := w3.drew) R3.out u4 NG.out; have U4 : Hid (But p w w4) := (But.drew U3.out).trans u4; have hc4 := (HC.out w4 R4.out).1; have hf4 := (HC.out w4 R4.out).2; clear d4 u4)
   all_goals
    obtain ⟨d, hd⟩ : ∃ d, IntKind.u8.wrap (IntKind.i64.wrap (1 + j)) = d := ⟨_, rfl⟩
    have hdb : 0 ≤ d ∧ d ≤ 255 := by rw [← hd, IntKind.wrap_u8']; omega
    rw [hd]
    obtain ⟨w5, hw5⟩ : ∃ w5, w4.setCell ⟨g1, q, none⟩ (.int .u8 (bits .xor .u8 z d)) = w5 := ⟨_, rfl⟩
    have hs := row_set R4.out q (bits .xor .u8 z d)
    have R5 : Hid (Row w5 g1 c1 (b.set q (bits .xor .u8 z d))) := by rw [← hw5]; exact hs.1
    have D5 : Hid (Ready W0 a len cap l p w5) := by rw [← hw5]; exact Ready.grown D4.out hs.2 NG.out GW.out
    have U5 : Hid (But p w w5) := by rw [← hw5]; exact but_grown U4.out hs.2 G1.out
    have hxb := xor_byte z d z0 z1 hdb.1 hdb.2
    have Y5 : Hid (Bytes (b.set q (bits .xor .u8 z d))) := set_bytes HBB.out q _ hxb.1 hxb.2
    have L5 : Hid (nb = (b.set q (bits .xor .u8 z d)).length) := by show _ = _; rw [List.length_set]; exact EB.out
    rw [hw5]
    clear hw5 hs hxb hdb hd hc4 hf4 hc
    go_wp2
    go_ret
    exact ⟨g1, nb, c1, _, rfl, L5.out, by omega, Y5.out, G1.out, R5.out, D5.out, U5.out⟩
 ·
  have e0 : (y == 0) = false := by simpa using k0
  by_cases k1 : y = 1
  ·
   subst k1
   clear e0 k0
   by_cases hn : nb = 0
   ·
    subst hn
    go_wp2
    go_ret
    exact ⟨g1, 0, c1, b, rfl, EB.out, by omega, HBB.out, G1.out, R2.out, D2.out, U2.out⟩
   ·
    have hnI : (nb : Int) > 0 := by omega
    go_wp2_with fail
    refine (below D2.out (nb : Int) (by omega) (by omega)).mono ?_
    rintro e w3 ⟨i, rfl, i0, i1, d3, u3⟩
    obtain ⟨q, rfl⟩ := Int.eq_ofNat_of_zero_le i0
    have hq : q < nb := by omega
    have hqc : (q : Int) ≤ (c1 : Int) := by omega
    have D3 := hid (d3)
    have R3 : Hid (Row w3 g1 c1 (b.take q)) := row_take (Row.but R2.out u3 NG.out) q
    have U3 := hid (U2.out.trans u3)
    have L3 : Hid (q = (b.take q).length) := by show _ = _; rw [List.length_take, ← EB.out]; omega
    clear d3 u3 D2 R2 U2
    go_wp2
    go_ret
    exact ⟨g1, q, c1, _, rfl, L3.out, by omega, take_bytes HBB.out q, G1.out, R3.out, D3.out, U3.out⟩
  ·
   have e1 : (y == 1) = false := by simpa using k1
   by_cases k2 : y = 2
   ·
    subst k2
    clear e0 e1 k0 k1
    go_wp2_with fail
    refine (Go.Proofs.YtpenhliaelhnoaaGreatDoor.Draw.byteOf D2.out).mono ?_
    rintro e w3 ⟨i, rfl, i0, i1, d3, u3⟩
    have hwi : IntKind.u8.wrap i = i := by rw [IntKind.wrap_u8']; omega
    have D3 := hid (d3)
    have R3 : Hid (Row w3 g1 c1 b) := Row.but R2.out u3 NG.out
    have U3 := hid (U2.out.trans u3)
    clear d3 u3 D2 R2 U2
    have DA : Hid (Ready W0 a len cap l p (w3.alloc (.cells #[.int .u8 i] 5))) := D3.out.alloc _
    have UA : Hid (But p w (w3.alloc (.cells #[.int .u8 i] 5))) := U3.out.alloc _
    have Y3 : Hid (Bytes (b ++ [i])) := fun z hz => (List.mem_append.1 hz).elim (HBB.out z) (fun h => by simp at h; omega)
    have L3 : Hid (nb + 1 = (b ++ [i]).length) := by show _ = _; rw [List.length_append, ← EB.out]; rfl
    go_wp2_with (at_builtin; refine wpList_app _ rfl (.tmp 46) (.tmp 50) rfl w.heap.size g1 nb c1 b [i] rfl EB.out (row_alloc R3.out _) G1.out (some ⟨w3.heap.size, 0, none⟩) 1 1 rfl rfl (rd_one w3 i) (by intro e; cases e) (by rw [← EB.out, List.length_singleton]; omega) ?_; intro g4 c4 w4 r4 k4 l4 gr4; have R4 := hid (r4); have G4 : Hid (w.heap.size ≤ g4) := k4; have D4 : Hid (Ready W0 a len cap l p w4) := Ready.grown DA.out gr4 NG.out GW.out; have U4 : Hid (But p w w4) := but_grown UA.out gr4 G1.out; clear r4 k4 l4 gr4)
    go_ret
    exact ⟨g4, nb + 1, c4, _, rfl, L3.out, by omega, Y3.out, G4.out, R4.out, D4.out, U4.out⟩
   ·
    have e2 : (y == 2) = false := by simpa using k2
    go_wp2
    go_ret
    exact ⟨g1, nb, c1, b, rfl, EB.out, by omega, HBB.out, G1.out, R2.out, D2.out, U2.out⟩

end Go.Proofs.YtpenhliaelhnoaaGreatDoor.DrawD
