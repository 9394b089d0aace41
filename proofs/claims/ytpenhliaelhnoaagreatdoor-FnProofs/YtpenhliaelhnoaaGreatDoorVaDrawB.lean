/-
  Further draws: a number out of a list, an odd number, bytes, and a new cursor. No value of a draw is told but its bounds.
-/
import Derived.Test.YtpenhliaelhnoaaGreatDoorVaDraw
set_option maxRecDepth 100000
namespace Go.Proofs.YtpenhliaelhnoaaGreatDoor.Draw
open Go.RowKit Mem App

def IntsAt (w : World) (q : Nat) (L : List Int) : Prop := ∀ j, j < L.length → w.cell? ⟨q, j, none⟩ = some (.int .i64 (L.getD j 0))
theorem ints_new (w : World) (L : List Int) : IntsAt (w.alloc (.cells (L.map (Value.int .i64)).toArray 3)) w.heap.size L := by
 intro j hj
 rw [cell_of_row _ w.heap.size j _ _ (0, 0) (heap_alloc_new w _)]
 simp [List.getD, hj]
theorem IntsAt.but {w w' : World} {p q : Nat} {L : List Int} (h : IntsAt w q L) (b : But p w w') (hq : q ≠ p) : IntsAt w' q L := by
 intro j hj
 have := h j hj
 rw [World.cell?_of_block (w := w) (b.block q (World.block_lt_of_cell? w _ this) (by simp only [ne_eq, Option.some.injEq]; exact hq))]
 exact this

set_option maxHeartbeats 800000 in
theorem intOfList {W0 : World} {a : Option Addr} {len cap : Nat} {l : List Int} {p : Nat} {w : World} (h : Ready W0 a len cap l p w) (q n : Nat) (L : List Int) (hn : n = L.length) (hL : IntsAt w q L) (hq : q ≠ p) (h0 : 0 < n) (h1 : n ≤ 256) :
  Calls Tryz.prog 30 #[.pointer (some ⟨p, 0, none⟩), .slice (some ⟨q, 0, none⟩) n n] w fun e w' => ∃ x : Int, e = .returned (.int .i64 x) ∧ x ∈ L ∧ Ready W0 a len cap l p w' ∧ But p w w' := by
 have HR := hid (h)
 have HL : Hid (IntsAt w q L) := hL
 have HN : Hid (n = L.length) := hn
 clear h hL hn
 go_enter Tryz.func30, Tryz.ntmps30
 go_wp2_with fail
 refine (below HR.out n (by omega) (by omega)).mono ?_
 rintro e w1 ⟨x, rfl, x0, x1, r1, b1⟩
 have R1 := hid (r1)
 have B1 := hid (b1)
 obtain ⟨X, rfl⟩ := Int.eq_ofNat_of_zero_le x0
 have hX : X < L.length := by have := HN.out; omega
 have hc := (HL.out.but b1 hq) X hX
 have HM : Hid (L.getD X 0 ∈ L) := by
  show _ ∈ _
  simp [List.getD, hX]
 clear r1 b1 hX
 generalize L.getD X 0 = z at *
 go_wp2
 go_ret
 exact ⟨z, rfl, HM.out, R1.out, B1.out⟩

theorem but_grown {p g : Nat} {a b c : World} (h : But p a b) (k : b.grownBy c (some g)) (hg : a.heap.size ≤ g) : But p a c :=
 ⟨k.os.trans h.os, k.tape.trans h.tape, k.output.trans h.output, Nat.le_trans h.size k.size, fun i hi hne => (k.block i (Nat.lt_of_lt_of_le hi h.size) (by simp only [ne_eq, Option.some.injEq]; omega)).trans (h.block i hi hne)⟩

set_option maxHeartbeats 1600000 in
theorem bytesOf {W0 : World} {a : Option Addr} {len cap : Nat} {l : List Int} {p : Nat} {w : World} (h : Ready W0 a len cap l p w) (N : Nat) (hN : N ≤ 1000) :
  Calls Tryz.prog 46 #[.pointer (some ⟨p, 0, none⟩), .int .i64 N] w fun e w' => ∃ (g c : Nat) (r : List Int), e = .returned (.slice (some ⟨g, 0, none⟩) N c) ∧ N = r.length ∧ Bytes r ∧ w.heap.size ≤ g ∧ Row w' g c r ∧ Ready W0 a len cap l p w' ∧ But p w w' := by
 have HR := hid (h)
 have hlt := h.hc.lt
 clear h
 go_enter Tryz.func46, Tryz.ntmps46
 go_wp2
 go_loopw [5, 6] (fun v i wr => ∃ (k g c : Nat) (r : List Int), k ≤ N ∧ i = .int .i64 k ∧ v = .slice (some ⟨g, 0, none⟩) k c ∧ k = r.length ∧ Bytes r ∧ w.heap.size ≤ g ∧ Row wr g c r ∧ Ready W0 a len cap l p wr ∧ But p w wr)
  (fun _ i _ => N - (intOf i).toNat)
 case atStart => exact ⟨0, w.heap.size, 0, [], Nat.zero_le _, rfl, rfl, rfl, (fun z hz => by cases hz), Nat.le_refl _, row_new w [] (by simp), HR.out.alloc _, (But.refl p w).alloc _⟩
 case round =>
  obtain ⟨k, g, c, r, hk, rfl, rfl, hkr, hby, hg, hrow, hrd, hbu⟩ := hrel
  have HRow := hid (hrow)
  have HRd := hid (hrd)
  have HBu := hid (hbu)
  have HKR : Hid (k = r.length) := hkr
  have HBy := hid (hby)
  clear hrow hrd hbu hkr hby HR
  by_cases hkN : k < N
  ·
   go_wp2_with fail
   refine (byteOf HRd.out).mono ?_
   rintro e w1 ⟨x, rfl, x0, x1, r1, b1⟩
   have R1 := hid (r1)
   have RW : Hid (Row w1 g c r) := Row.but HRow.out b1 (by omega)
   have B1 := hid (HBu.out.trans b1)
   clear r1 b1 HRow HRd HBu
   go_wp2_with (at_builtin; refine wpList_app _ rfl (.tmp 13) (.tmp 17) rfl w.heap.size g k c r [x] rfl HKR.out (row_alloc RW.out _) hg (some ⟨w1.heap.size, 0, none⟩) 1 1 rfl rfl (rd_one _ _) (by intro h; cases h) (by rw [← HKR.out]; simp; omega) ?_; intro g2 c2 w2 r2 b2 l2 gr2)
   have R2 := hid (r2)
   have C2 : Hid (Cur w2 p a len cap) := (R1.out.hc.alloc (.cells #[.int .u8 x] 5)).keep (gr2.block p (by have := R1.out.hc.lt; simp; omega) (by simp only [ne_eq, Option.some.injEq]; omega))
   have B2 : Hid (But p w w2) := but_grown (B1.out.alloc _) gr2 hg
   have Q2 : Hid (Ready W0 a len cap l p w2) := ⟨R1.out.hl, R1.out.hr, R1.out.hb, R1.out.hlen, Below.grown (R1.out.hB.alloc R1.out.hB.size _) gr2 (Nat.le_trans R1.out.hB.size (by simp)) (fun k h => by cases h; have := R1.out.hp; omega), R1.out.hp, C2.out⟩
   clear r2 gr2 l2
   go_roundw
   case rel => exact ⟨k + 1, g2, c2, r ++ [x], by omega, by go_num, rfl, by have := HKR.out; simp; omega, (fun z hz => by rcases List.mem_append.1 hz with h | h; exact HBy.out z h; simp at h; omega), b2, R2.out, Q2.out, B2.out⟩
   case measure => simp [intOf]; omega
  ·
   obtain rfl : k = N := by omega
   go_wp2
   go_ret
   exact ⟨g, c, r, rfl, HKR.out, HBy.out, hg, HRow.out, HRd.out, HBu.out⟩

set_option maxHeartbeats 1600000 in
theorem newCur (a : Option Addr) (len cap : Nat) (l : List Int) (w : World) (hl : len = l.length) (hr : Rd w a l) (hb : Bytes l) (hlen : len ≤ 1048576) :
  Calls Tryz.prog 25 #[.slice a len cap] w fun e w' => ∃ p, e = .returned (.pointer (some ⟨p, 0, none⟩)) ∧ Ready w a len cap l p w' := by
 have HR := hid (hr)
 have HB := hid (hb)
 have HL : Hid (len = l.length) := hl
 have hm := Bits.mask30
 clear hr hb hl
 go_enter Tryz.func25, Tryz.ntmps25
 go_wp2
 go_loop [3, 4] (fun v i => ∃ (k : Nat) (h : Int), k ≤ len ∧ k ≤ 4000 ∧ i = .int .i64 k ∧ v = .int .i64 h) (fun _ i => len - (intOf i).toNat)
 case atStart => exact ⟨0, _, Nat.zero_le _, Nat.zero_le _, rfl, rfl⟩
 case round =>
  obtain ⟨k, h, hk, hk4, rfl, rfl⟩ := hrel
  by_cases hlt : k < len
  ·
   by_cases h4 : k < 4000
   ·
    obtain ⟨b, off, rfl, hbl, hc⟩ := HR.out k (by have := HL.out; omega)
    generalize l.getD k 0 = z at *
    have hkI : (k : Int) < (len : Int) := by omega
    have h4I : (k : Int) < 4000 := by omega
    go_wp2
    go_round
    case rel => exact ⟨k + 1, _, by omega, by omega, by go_num, rfl⟩
    case measure => simp [intOf]; omega
   ·
    have hkI : (k : Int) < (len : Int) := by omega
    have h4I : ¬ ((k : Int) < 4000) := by omega
    go_wp2
    go_ret
    exact ⟨w.heap.size, rfl, HL.out, HR.out, HB.out, hlen, (Below.refl _ _).alloc (Nat.le_refl _) _, Nat.le_refl _, ⟨0, h, by omega, by omega, heap_alloc_new w _⟩⟩
  ·
   have hkI : ¬ ((k : Int) < (len : Int)) := by omega
   go_wp2
   go_ret
   exact ⟨w.heap.size, rfl, HL.out, HR.out, HB.out, hlen, (Below.refl _ _).alloc (Nat.le_refl _) _, Nat.le_refl _, ⟨0, h, by omega, by omega, heap_alloc_new w _⟩⟩
end Go.Proofs.YtpenhliaelhnoaaGreatDoor.Draw
