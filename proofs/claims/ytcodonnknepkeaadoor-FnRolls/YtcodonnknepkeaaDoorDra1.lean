/-
  What the draws of the laws are good for: the cursor stays a cursor, what it gives lies in its bounds, and nothing but the cursor is written. No value of a draw is told.
  Further draws: a number out of a list, an odd number, bytes, and a new cursor. No value of a draw is told but its bounds.
  How what stands ahead of a draw is carried on.
-/
import Derived.Test.YtcodonnknepkeaaDoorApp
import Derived.Test.YtcodonnknepkeaaDoorZone
set_option linter.unusedVariables false
namespace Go.Proofs.YtcodonnknepkeaaDoor.Draw
open Go.RowKit Go.Proofs.YtcodonnknepkeaaDoor.Mem Go.Proofs.YtcodonnknepkeaaDoor.App

/-- A cursor over a slice, in block p. -/
def Cur (w : World) (p : Nat) (a : Option Addr) (len cap : Nat) : Prop :=
  ∃ i h : Int, 0 ≤ i ∧ i ≤ len ∧ w.heap[p]? = some (.cells #[.slice a len cap, .int .i64 i, .int .i64 h] 55 (0, 0))

/-- The world is as it was but for new blocks and block p. -/
def But (p : Nat) (w w' : World) : Prop := w.grownBy w' (some p)

set_option maxRecDepth 100000 in
theorem But.alike {p : Nat} {w a b : World} (h : But p w a) (e1 : b.heap = a.heap) (e2 : b.os = a.os) (e3 : b.tape = a.tape) (e4 : b.output = a.output) : But p w b :=
  ⟨e2.trans h.os, e3.trans h.tape, e4.trans h.output, by rw [e1]; exact h.size, fun k hk hne => by rw [e1]; exact h.block k hk hne⟩
set_option maxRecDepth 100000 in
theorem But.trans {p : Nat} {a b c : World} (h : But p a b) (k : But p b c) : But p a c := grown_trans h k
set_option maxRecDepth 100000 in
theorem But.refl (p : Nat) (w : World) : But p w w := World.grownBy.refl w _
set_option maxRecDepth 100000 in
theorem But.alloc {p : Nat} {a w : World} (h : But p a w) (o : Obj) : But p a (w.alloc o) := h.trans (World.grownBy_alloc w o _)
set_option maxRecDepth 100000 in
theorem But.below {p : Nat} {W0 w w' : World} (h : But p w w') (b : Below W0.heap.size W0 w) (hp : W0.heap.size ≤ p) : Below W0.heap.size W0 w' :=
  b.grown h b.size (fun k e => by cases e; exact hp)
set_option maxRecDepth 100000 in
theorem Cur.keep {w w' : World} {p : Nat} {a : Option Addr} {len cap : Nat} (h : Cur w p a len cap) (e : w'.heap[p]? = w.heap[p]?) : Cur w' p a len cap := by
  obtain ⟨i, x, h0, h1, h2⟩ := h
  exact ⟨i, x, h0, h1, e.trans h2⟩
set_option maxRecDepth 100000 in
theorem Cur.lt {w : World} {p : Nat} {a : Option Addr} {len cap : Nat} (h : Cur w p a len cap) : p < w.heap.size := by
  obtain ⟨i, x, h0, h1, h2⟩ := h
  exact (Array.getElem?_eq_some_iff.1 h2).1
set_option maxRecDepth 100000 in
theorem Cur.alloc {w : World} {p : Nat} {a : Option Addr} {len cap : Nat} (h : Cur w p a len cap) (o : Obj) : Cur (w.alloc o) p a len cap := h.keep (Below.heap_alloc w o p h.lt)
set_option maxRecDepth 100000 in
theorem Row.but {w w' : World} {p g c : Nat} {l : List Int} (h : Row w g c l) (b : But p w w') (hg : g ≠ p) : Row w' g c l :=
  h.keep (b.block g h.lt (by simp only [ne_eq, Option.some.injEq]; exact hg))

set_option maxRecDepth 100000 in
theorem cur_cell {w : World} {p : Nat} {c : Array Value} {t : TypeId} (h : w.heap[p]? = some (.cells c t (0, 0))) (j : Nat) : w.cell? ⟨p, j, none⟩ = c[j]? := by
  rw [cell_of_row w p j c t (0, 0) h]

set_option maxRecDepth 100000 in
theorem cur_set2 {w : World} {p : Nat} {a : Option Addr} {len cap : Nat} {i h : Int} (hp : w.heap[p]? = some (.cells #[.slice a len cap, .int .i64 i, .int .i64 h] 55 (0, 0))) (h' : Int) (hi : 0 ≤ i ∧ i ≤ len) :
    Cur (w.setCell ⟨p, 2, none⟩ (.int .i64 h')) p a len cap ∧ But p w (w.setCell ⟨p, 2, none⟩ (.int .i64 h')) := by
  refine ⟨⟨i, h', hi.1, hi.2, ?_⟩, ⟨rfl, rfl, rfl, by simp [World.setCell], fun k _ hk => Below.heap_setCell w _ _ k (fun e => hk (by rw [e]))⟩⟩
  rw [heap_setCell_same w p 2 _ _ _ hp]
  rfl
set_option maxRecDepth 100000 in
theorem cur_set21 {w : World} {p : Nat} {a : Option Addr} {len cap : Nat} {i h : Int} (hp : w.heap[p]? = some (.cells #[.slice a len cap, .int .i64 i, .int .i64 h] 55 (0, 0))) (h' : Int) (h0 : 0 ≤ i + 1) (h1 : i + 1 ≤ len) :
    Cur ((w.setCell ⟨p, 2, none⟩ (.int .i64 h')).setCell ⟨p, 1, none⟩ (.int .i64 (i + 1))) p a len cap ∧ But p w ((w.setCell ⟨p, 2, none⟩ (.int .i64 h')).setCell ⟨p, 1, none⟩ (.int .i64 (i + 1))) := by
  have e1 := heap_setCell_same w p 2 _ _ (.int .i64 h') hp
  have e2 := heap_setCell_same (w.setCell ⟨p, 2, none⟩ (.int .i64 h')) p 1 _ _ (.int .i64 (i + 1)) e1
  refine ⟨⟨i + 1, h', h0, h1, ?_⟩, ⟨rfl, rfl, rfl, by simp [World.setCell], fun k _ hk => ?_⟩⟩
  · rw [e2]; rfl
  · rw [Below.heap_setCell _ _ _ k (fun e => hk (by rw [e])), Below.heap_setCell w _ _ k (fun e => hk (by rw [e]))]

set_option maxRecDepth 100000 in
set_option maxHeartbeats 1600000 in
theorem l1Byte (W0 : World) (a : Option Addr) (len cap p : Nat) (l : List Int) (w : World) (hl : len = l.length) (hr : Rd W0 a l) (hb : Bytes l) (hlen : len ≤ 1048576) (hB : Below W0.heap.size W0 w) (hp : W0.heap.size ≤ p) (hc : Cur w p a len cap) :
    Calls Tryd.prog 54 #[.pointer (some ⟨p, 0, none⟩)] w fun e w' => ∃ x : Int, e = .returned (.int .i64 x) ∧ 0 ≤ x ∧ x ≤ 255 ∧ Cur w' p a len cap ∧ But p w w' := by
  obtain ⟨i, h, i0, i1, hp0⟩ := hc
  obtain ⟨I, rfl⟩ := Int.eq_ofNat_of_zero_le i0
  have c0 : w.cell? ⟨p, 0, none⟩ = some (.slice a len cap) := by rw [cur_cell hp0]; rfl
  have c1 : w.cell? ⟨p, 1, none⟩ = some (.int .i64 I) := by rw [cur_cell hp0]; rfl
  have c2 : w.cell? ⟨p, 2, none⟩ = some (.int .i64 h) := by rw [cur_cell hp0]; rfl
  have f1 : w.frozen? ⟨p, 1, none⟩ = false := frozen_of_row w p 1 _ _ hp0
  have f2 : w.frozen? ⟨p, 2, none⟩ = false := frozen_of_row w p 2 _ _ hp0
  have HP : Hid (w.heap[p]? = some (.cells #[.slice a len cap, .int .i64 I, .int .i64 h] 55 (0, 0))) := hp0
  have HQ : Hid (∀ h' : Int, Cur (w.setCell ⟨p, 2, none⟩ (.int .i64 h')) p a len cap ∧ But p w (w.setCell ⟨p, 2, none⟩ (.int .i64 h'))) := fun h' => cur_set2 HP.out h' (by omega)
  have hm := Bits.mask8
  clear hp0
  by_cases hI : I < len
  · obtain ⟨b, off, rfl, hbl, hc0⟩ := hr I (by omega)
    have hcell : ∀ v, (w.setCell ⟨p, 2, none⟩ v).cell? ⟨b, off + I, none⟩ = some (.int .u8 (l.getD I 0)) := by
      intro v
      rw [World.cell?_of_block (w := w) (Below.heap_setCell w _ _ _ (show b ≠ p by omega)), hB.cell hbl]
      exact hc0
    have hz := hb.at I
    have HR : Hid (∀ h' : Int, Cur ((w.setCell ⟨p, 2, none⟩ (.int .i64 h')).setCell ⟨p, 1, none⟩ (.int .i64 ((I : Int) + 1))) p (some ⟨b, off, none⟩) len cap ∧ But p w ((w.setCell ⟨p, 2, none⟩ (.int .i64 h')).setCell ⟨p, 1, none⟩ (.int .i64 ((I : Int) + 1)))) := fun h' => cur_set21 HP.out h' (by omega) (by omega)
    clear hr hb hB hc0 HP
    generalize l.getD I 0 = z at *
    obtain ⟨z0, z1⟩ := hz
    go_enter Tryd.func54, Tryd.ntmps54
    go_wp2
    go_quiet (fail)
    go_wp2
    go_quiet (fail)
    go_wp2
    go_quiet (fail)
    go_wp2
    go_ret
    refine ⟨_, rfl, by omega, by omega, ?_, ?_⟩
    · exact (HR.out _).1
    · exact But.alike (HR.out _).2 rfl rfl rfl rfl
  · clear hr hb hB HP
    have hI' : ¬ ((I : Int) < (len : Int)) := by omega
    go_enter Tryd.func54, Tryd.ntmps54
    go_wp2
    go_quiet (fail)
    go_wp2
    go_quiet (fail)
    go_wp2
    go_ret
    refine ⟨_, rfl, by omega, by omega, ?_, ?_⟩
    · exact (HQ.out _).1
    · exact But.alike (HQ.out _).2 rfl rfl rfl rfl

/-- What stands ahead of every draw: the slice as it came in, and the cursor. -/
structure Ready (W0 : World) (a : Option Addr) (len cap : Nat) (l : List Int) (p : Nat) (w : World) : Prop where
  hl : len = l.length
  hr : Rd W0 a l
  hb : Bytes l
  hlen : len ≤ 1048576
  hB : Below W0.heap.size W0 w
  hp : W0.heap.size ≤ p
  hc : Cur w p a len cap

set_option maxRecDepth 100000 in
theorem Ready.next {W0 : World} {a : Option Addr} {len cap : Nat} {l : List Int} {p : Nat} {w w' : World} (h : Ready W0 a len cap l p w) (c : Cur w' p a len cap) (b : But p w w') : Ready W0 a len cap l p w' :=
  ⟨h.hl, h.hr, h.hb, h.hlen, b.below h.hB h.hp, h.hp, c⟩
set_option maxRecDepth 100000 in
theorem Ready.alloc {W0 : World} {a : Option Addr} {len cap : Nat} {l : List Int} {p : Nat} {w : World} (h : Ready W0 a len cap l p w) (o : Obj) : Ready W0 a len cap l p (w.alloc o) :=
  h.next (h.hc.alloc o) ((But.refl p w).alloc o)

set_option maxRecDepth 100000 in
theorem byteOf {W0 : World} {a : Option Addr} {len cap : Nat} {l : List Int} {p : Nat} {w : World} (h : Ready W0 a len cap l p w) :
    Calls Tryd.prog 54 #[.pointer (some ⟨p, 0, none⟩)] w fun e w' => ∃ x : Int, e = .returned (.int .i64 x) ∧ 0 ≤ x ∧ x ≤ 255 ∧ Ready W0 a len cap l p w' ∧ But p w w' := by
  refine (l1Byte W0 a len cap p l w h.hl h.hr h.hb h.hlen h.hB h.hp h.hc).mono ?_
  rintro e w' ⟨x, rfl, x0, x1, c, b⟩
  exact ⟨x, rfl, x0, x1, h.next c b, b⟩

set_option maxRecDepth 100000 in
set_option maxHeartbeats 800000 in
theorem below {W0 : World} {a : Option Addr} {len cap : Nat} {l : List Int} {p : Nat} {w : World} (h : Ready W0 a len cap l p w) (n : Int) (hn : 0 < n) (hn1 : n ≤ 16777216) :
    Calls Tryd.prog 40 #[.pointer (some ⟨p, 0, none⟩), .int .i64 n] w fun e w' => ∃ x : Int, e = .returned (.int .i64 x) ∧ 0 ≤ x ∧ x < n ∧ Ready W0 a len cap l p w' ∧ But p w w' := by
  have HR : Hid (Ready W0 a len cap l p w) := h
  clear h
  have hn0 : ((n : Int) == 0) = false := by rw [beq_eq_false_iff_ne]; omega
  by_cases h1 : n ≤ 256
  · go_enter Tryd.func40, Tryd.ntmps40
    go_wp2_with fail
    refine (byteOf HR.out).mono ?_
    rintro e w1 ⟨x, rfl, x0, x1, r1, b1⟩
    have R1 : Hid (Ready W0 a len cap l p w1) := r1
    have B1 : Hid (But p w w1) := b1
    clear r1 b1
    go_wp2
    go_ret
    exact ⟨x % n, rfl, Int.emod_nonneg _ (by omega), Int.emod_lt_of_pos _ hn, R1.out, B1.out⟩
  · go_enter Tryd.func40, Tryd.ntmps40
    go_wp2_with fail
    refine (byteOf HR.out).mono ?_
    rintro e w1 ⟨x, rfl, x0, x1, r1, b1⟩
    have R1 : Hid (Ready W0 a len cap l p w1) := r1
    have B1 : Hid (But p w w1) := b1
    clear r1 b1
    go_wp2_with fail
    refine (byteOf R1.out).mono ?_
    rintro e w2 ⟨y, rfl, y0, y1, r1, b1⟩
    have R2 : Hid (Ready W0 a len cap l p w2) := r1
    have B2 : Hid (But p w w2) := B1.out.trans b1
    clear r1 b1
    go_wp2_with fail
    refine (byteOf R2.out).mono ?_
    rintro e w3 ⟨z, rfl, z0, z1, r1, b1⟩
    have R3 : Hid (Ready W0 a len cap l p w3) := r1
    have B3 : Hid (But p w w3) := B2.out.trans b1
    clear r1 b1
    go_wp2
    go_ret
    exact ⟨(x * 65536 + y * 256 + z) % n, rfl, Int.emod_nonneg _ (by omega), Int.emod_lt_of_pos _ hn, R3.out, B3.out⟩

end Go.Proofs.YtcodonnknepkeaaDoor.Draw

namespace Go.Proofs.YtcodonnknepkeaaDoor.Draw
open Go.RowKit Go.Proofs.YtcodonnknepkeaaDoor.Mem Go.Proofs.YtcodonnknepkeaaDoor.App

/-- A block of ints. -/
def IntsAt (w : World) (q : Nat) (L : List Int) : Prop := ∀ j, j < L.length → w.cell? ⟨q, j, none⟩ = some (.int .i64 (L.getD j 0))
set_option maxRecDepth 100000 in
theorem ints_new (w : World) (L : List Int) : IntsAt (w.alloc (.cells (L.map (Value.int .i64)).toArray 3)) w.heap.size L := by
  intro j hj
  rw [cell_of_row _ w.heap.size j _ _ (0, 0) (heap_alloc_new w _)]
  simp [List.getD, hj]
set_option maxRecDepth 100000 in
theorem IntsAt.but {w w' : World} {p q : Nat} {L : List Int} (h : IntsAt w q L) (b : But p w w') (hq : q ≠ p) : IntsAt w' q L := by
  intro j hj
  have := h j hj
  rw [World.cell?_of_block (w := w) (b.block q (World.block_lt_of_cell? w _ this) (by simp only [ne_eq, Option.some.injEq]; exact hq))]
  exact this

set_option maxRecDepth 100000 in
set_option maxHeartbeats 800000 in
theorem intOfList {W0 : World} {a : Option Addr} {len cap : Nat} {l : List Int} {p : Nat} {w : World} (h : Ready W0 a len cap l p w) (q n : Nat) (L : List Int) (hn : n = L.length) (hL : IntsAt w q L) (hq : q ≠ p) (h0 : 0 < n) (h1 : n ≤ 256) :
    Calls Tryd.prog 41 #[.pointer (some ⟨p, 0, none⟩), .slice (some ⟨q, 0, none⟩) n n] w fun e w' => ∃ x : Int, e = .returned (.int .i64 x) ∧ x ∈ L ∧ Ready W0 a len cap l p w' ∧ But p w w' := by
  have HR : Hid (Ready W0 a len cap l p w) := h
  have HL : Hid (IntsAt w q L) := hL
  have HN : Hid (n = L.length) := hn
  clear h hL hn
  go_enter Tryd.func41, Tryd.ntmps41
  go_wp2_with fail
  refine (below HR.out n (by omega) (by omega)).mono ?_
  rintro e w1 ⟨x, rfl, x0, x1, r1, b1⟩
  have R1 : Hid (Ready W0 a len cap l p w1) := r1
  have B1 : Hid (But p w w1) := b1
  obtain ⟨X, rfl⟩ := Int.eq_ofNat_of_zero_le x0
  have hX : X < L.length := by have := HN.out; omega
  have hc := (HL.out.but b1 hq) X hX
  have HM : Hid (L.getD X 0 ∈ L) := by
    show _ ∈ _
    simp [List.getD, hX]
  clear r1 b1 hX
  generalize L.getD X 0 = z at *
  go_wp2
  go_ret
  exact ⟨z, rfl, HM.out, R1.out, B1.out⟩

set_option maxRecDepth 100000 in
theorem but_grown {p g : Nat} {a b c : World} (h : But p a b) (k : b.grownBy c (some g)) (hg : a.heap.size ≤ g) : But p a c :=
  ⟨k.os.trans h.os, k.tape.trans h.tape, k.output.trans h.output, Nat.le_trans h.size k.size, fun i hi hne => (k.block i (Nat.lt_of_lt_of_le hi h.size) (by simp only [ne_eq, Option.some.injEq]; omega)).trans (h.block i hi hne)⟩

set_option maxRecDepth 100000 in
set_option maxHeartbeats 1600000 in
theorem bytesOf {W0 : World} {a : Option Addr} {len cap : Nat} {l : List Int} {p : Nat} {w : World} (h : Ready W0 a len cap l p w) (N : Nat) (hN : N ≤ 1000) :
    Calls Tryd.prog 42 #[.pointer (some ⟨p, 0, none⟩), .int .i64 N] w fun e w' => ∃ (g c : Nat) (r : List Int), e = .returned (.slice (some ⟨g, 0, none⟩) N c) ∧ N = r.length ∧ Bytes r ∧ w.heap.size ≤ g ∧ Row w' g c r ∧ Ready W0 a len cap l p w' ∧ But p w w' := by
  have HR : Hid (Ready W0 a len cap l p w) := h
  have hlt := h.hc.lt
  clear h
  go_enter Tryd.func42, Tryd.ntmps42
  go_wp2
  go_loopw [5, 6] (fun v i wr => ∃ (k g c : Nat) (r : List Int), k ≤ N ∧ i = .int .i64 k ∧ v = .slice (some ⟨g, 0, none⟩) k c ∧ k = r.length ∧ Bytes r ∧ w.heap.size ≤ g ∧ Row wr g c r ∧ Ready W0 a len cap l p wr ∧ But p w wr)
    (fun _ i _ => N - (intOf i).toNat)
  case atStart => exact ⟨0, w.heap.size, 0, [], Nat.zero_le _, rfl, rfl, rfl, (fun z hz => by cases hz), Nat.le_refl _, row_new w [] (by simp), HR.out.alloc _, (But.refl p w).alloc _⟩
  case round =>
    obtain ⟨k, g, c, r, hk, rfl, rfl, hkr, hby, hg, hrow, hrd, hbu⟩ := hrel
    have HRow : Hid (Row wr g c r) := hrow
    have HRd : Hid (Ready W0 a len cap l p wr) := hrd
    have HBu : Hid (But p w wr) := hbu
    have HKR : Hid (k = r.length) := hkr
    have HBy : Hid (Bytes r) := hby
    clear hrow hrd hbu hkr hby HR
    by_cases hkN : k < N
    · go_wp2_with fail
      refine (byteOf HRd.out).mono ?_
      rintro e w1 ⟨x, rfl, x0, x1, r1, b1⟩
      have R1 : Hid (Ready W0 a len cap l p w1) := r1
      have RW : Hid (Row w1 g c r) := Row.but HRow.out b1 (by omega)
      have B1 : Hid (But p w w1) := HBu.out.trans b1
      clear r1 b1 HRow HRd HBu
      go_wp2_with (at_builtin; refine wpList_app _ rfl (.tmp 13) (.tmp 17) rfl w.heap.size g k c r [x] rfl HKR.out (row_alloc RW.out _) hg (some ⟨w1.heap.size, 0, none⟩) 1 1 rfl rfl (rd_one _ _) (by intro h; cases h) (by rw [← HKR.out]; simp; omega) ?_; intro g2 c2 w2 r2 b2 l2 gr2)
      have R2 : Hid (Row w2 g2 c2 (r ++ [x])) := r2
      have C2 : Hid (Cur w2 p a len cap) := (R1.out.hc.alloc (.cells #[.int .u8 x] 5)).keep (gr2.block p (by have := R1.out.hc.lt; simp; omega) (by simp only [ne_eq, Option.some.injEq]; omega))
      have B2 : Hid (But p w w2) := but_grown (B1.out.alloc _) gr2 hg
      have Q2 : Hid (Ready W0 a len cap l p w2) := ⟨R1.out.hl, R1.out.hr, R1.out.hb, R1.out.hlen, Below.grown (R1.out.hB.alloc R1.out.hB.size _) gr2 (Nat.le_trans R1.out.hB.size (by simp)) (fun k h => by cases h; have := R1.out.hp; omega), R1.out.hp, C2.out⟩
      clear r2 gr2 l2
      go_roundw
      case rel => exact ⟨k + 1, g2, c2, r ++ [x], by omega, by go_num, rfl, by have := HKR.out; simp; omega, (fun z hz => by rcases List.mem_append.1 hz with h | h; exact HBy.out z h; simp at h; omega), b2, R2.out, Q2.out, B2.out⟩
      case measure => simp [intOf]; omega
    · obtain rfl : k = N := by omega
      go_wp2
      go_ret
      exact ⟨g, c, r, rfl, HKR.out, HBy.out, hg, HRow.out, HRd.out, HBu.out⟩

set_option maxRecDepth 100000 in
set_option maxHeartbeats 1600000 in
theorem newCur (a : Option Addr) (len cap : Nat) (l : List Int) (w : World) (hl : len = l.length) (hr : Rd w a l) (hb : Bytes l) (hlen : len ≤ 1048576) :
    Calls Tryd.prog 25 #[.slice a len cap] w fun e w' => ∃ p, e = .returned (.pointer (some ⟨p, 0, none⟩)) ∧ Ready w a len cap l p w' := by
  have HR : Hid (Rd w a l) := hr
  have HB : Hid (Bytes l) := hb
  have HL : Hid (len = l.length) := hl
  have hm := Bits.mask30
  clear hr hb hl
  go_enter Tryd.func25, Tryd.ntmps25
  go_wp2
  go_loop [3, 4] (fun v i => ∃ (k : Nat) (h : Int), k ≤ len ∧ k ≤ 4000 ∧ i = .int .i64 k ∧ v = .int .i64 h) (fun _ i => len - (intOf i).toNat)
  case atStart => exact ⟨0, _, Nat.zero_le _, Nat.zero_le _, rfl, rfl⟩
  case round =>
    obtain ⟨k, h, hk, hk4, rfl, rfl⟩ := hrel
    by_cases hlt : k < len
    · by_cases h4 : k < 4000
      · obtain ⟨b, off, rfl, hbl, hc⟩ := HR.out k (by have := HL.out; omega)
        generalize l.getD k 0 = z at *
        have hkI : (k : Int) < (len : Int) := by omega
        have h4I : (k : Int) < 4000 := by omega
        go_wp2
        go_round
        case rel => exact ⟨k + 1, _, by omega, by omega, by go_num, rfl⟩
        case measure => simp [intOf]; omega
      · have hkI : (k : Int) < (len : Int) := by omega
        have h4I : ¬ ((k : Int) < 4000) := by omega
        go_wp2
        go_ret
        exact ⟨w.heap.size, rfl, HL.out, HR.out, HB.out, hlen, (Below.refl _ _).alloc (Nat.le_refl _) _, Nat.le_refl _, ⟨0, h, by omega, by omega, heap_alloc_new w _⟩⟩
    · have hkI : ¬ ((k : Int) < (len : Int)) := by omega
      go_wp2
      go_ret
      exact ⟨w.heap.size, rfl, HL.out, HR.out, HB.out, hlen, (Below.refl _ _).alloc (Nat.le_refl _) _, Nat.le_refl _, ⟨0, h, by omega, by omega, heap_alloc_new w _⟩⟩
end Go.Proofs.YtcodonnknepkeaaDoor.Draw

namespace Go.Proofs.YtcodonnknepkeaaDoor.DrN
open Go.RowKit Go.Proofs.YtcodonnknepkeaaDoor.Mem Go.Proofs.YtcodonnknepkeaaDoor.App Go.Proofs.YtcodonnknepkeaaDoor.Blk Go.Proofs.YtcodonnknepkeaaDoor.Zone Go.Proofs.YtcodonnknepkeaaDoor.Draw

set_option maxRecDepth 100000 in
theorem rdyL {W0 : World} {a : Option Addr} {len cap : Nat} {l : List Int} {p : Nat} {w w' : World} (h : Ready W0 a len cap l p w) (b : Below w.heap.size w w') : Ready W0 a len cap l p w' :=
  ⟨h.hl, h.hr, h.hb, h.hlen, h.hB.trans (b.mono h.hB.size), h.hp, h.hc.keep (b.block p h.hc.lt)⟩
set_option maxRecDepth 100000 in
theorem butL {p : Nat} {a b c : World} (h : But p a b) (k : Below b.heap.size b c) : But p a c :=
  ⟨k.os.trans h.os, k.tape.trans h.tape, k.output.trans h.output, Nat.le_trans h.size k.size, fun i hi hne => (k.block i (Nat.lt_of_lt_of_le hi h.size)).trans (h.block i hi hne)⟩
set_option maxRecDepth 100000 in
theorem butK {p : Nat} {a b c : World} (h : But p a b) {lo hi : Nat} (k : Kept lo hi b c) (hl : a.heap.size ≤ lo) : But p a c :=
  ⟨k.os.trans h.os, k.tape.trans h.tape, k.output.trans h.output, Nat.le_trans h.size k.size, fun i hi hne => (k.block i (Nat.lt_of_lt_of_le hi h.size) (.inl (by omega))).trans (h.block i hi hne)⟩
set_option maxRecDepth 100000 in
theorem rdyK {W0 : World} {a : Option Addr} {len cap : Nat} {l : List Int} {p : Nat} {w w' : World} (h : Ready W0 a len cap l p w) {lo hi : Nat} (k : Kept lo hi w w') (hl : p < lo) : Ready W0 a len cap l p w' :=
  ⟨h.hl, h.hr, h.hb, h.hlen, h.hB.trans (k.below (by have := h.hp; omega) h.hB.size), h.hp, h.hc.keep (k.block p h.hc.lt (.inl hl))⟩
set_option maxRecDepth 100000 in
/-- The slice as it came in, ahead of the cursor. -/
theorem code {W0 : World} {a : Option Addr} {len cap : Nat} {l : List Int} {p : Nat} {w : World} (h : Ready W0 a len cap l p w) : Below W0.heap.size W0 w := h.hB
end Go.Proofs.YtcodonnknepkeaaDoor.DrN
