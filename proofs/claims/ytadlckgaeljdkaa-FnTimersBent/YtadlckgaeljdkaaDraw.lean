/-
  What the draws of the laws are good for: the cursor stays a cursor, what it gives lies in its bounds, and nothing but the cursor is written. No value of a draw is told.
-/
import Derived.Test.YtadlckgaeljdkaaApp
namespace Go.Proofs.Ytadlckgaeljdkaa.Draw
open Go.RowKit Go.Proofs.Ytadlckgaeljdkaa.Mem Go.Proofs.Ytadlckgaeljdkaa.App

/-- A cursor over a slice, in block p. -/
def Cur (w : World) (p : Nat) (a : Option Addr) (len cap : Nat) : Prop :=
  ∃ i h : Int, 0 ≤ i ∧ i ≤ len ∧ w.heap[p]? = some (.cells #[.slice a len cap, .int .i64 i, .int .i64 h] 48 (0, 0))

/-- The world is as it was but for new blocks and block p. -/
def But (p : Nat) (w w' : World) : Prop := w.grownBy w' (some p)

set_option maxRecDepth 100000 in
theorem But.alike {p : Nat} {w a b : World} (h : But p w a) (e1 : b.heap = a.heap) (e2 : b.os = a.os) (e3 : b.tape = a.tape) (e4 : b.output = a.output) : But p w b :=
  ⟨e2.trans h.os, e3.trans h.tape, e4.trans h.output, by rw [e1]; exact h.size, fun k hk hne => by rw [e1]; exact h.block k hk hne⟩
set_option maxRecDepth 100000 in
theorem But.trans {p : Nat} {a b c : World} (h : But p a b) (k : But p b c) : But p a c := grown_trans h k
set_option maxRecDepth 100000 in
theorem But.refl (p : Nat) (w : World) : But p w w := World.grownBy.refl w _
set_option maxRecDepth 100000 in
theorem But.alloc {p : Nat} {a w : World} (h : But p a w) (o : Obj) : But p a (w.alloc o) := h.trans (World.grownBy_alloc w o _)
set_option maxRecDepth 100000 in
theorem But.below {p : Nat} {W0 w w' : World} (h : But p w w') (b : Below W0.heap.size W0 w) (hp : W0.heap.size ≤ p) : Below W0.heap.size W0 w' :=
  b.grown h b.size (fun k e => by cases e; exact hp)
set_option maxRecDepth 100000 in
theorem Cur.keep {w w' : World} {p : Nat} {a : Option Addr} {len cap : Nat} (h : Cur w p a len cap) (e : w'.heap[p]? = w.heap[p]?) : Cur w' p a len cap := by
  obtain ⟨i, x, h0, h1, h2⟩ := h
  exact ⟨i, x, h0, h1, e.trans h2⟩
set_option maxRecDepth 100000 in
theorem Cur.lt {w : World} {p : Nat} {a : Option Addr} {len cap : Nat} (h : Cur w p a len cap) : p < w.heap.size := by
  obtain ⟨i, x, h0, h1, h2⟩ := h
  exact (Array.getElem?_eq_some_iff.1 h2).1
set_option maxRecDepth 100000 in
theorem Cur.alloc {w : World} {p : Nat} {a : Option Addr} {len cap : Nat} (h : Cur w p a len cap) (o : Obj) : Cur (w.alloc o) p a len cap := h.keep (Below.heap_alloc w o p h.lt)
set_option maxRecDepth 100000 in
theorem Row.but {w w' : World} {p g c : Nat} {l : List Int} (h : Row w g c l) (b : But p w w') (hg : g ≠ p) : Row w' g c l :=
  h.keep (b.block g h.lt (by simp only [ne_eq, Option.some.injEq]; exact hg))

set_option maxRecDepth 100000 in
theorem cur_cell {w : World} {p : Nat} {c : Array Value} {t : TypeId} (h : w.heap[p]? = some (.cells c t (0, 0))) (j : Nat) : w.cell? ⟨p, j, none⟩ = c[j]? := by
  rw [cell_of_row w p j c t (0, 0) h]

set_option maxRecDepth 100000 in
theorem cur_set2 {w : World} {p : Nat} {a : Option Addr} {len cap : Nat} {i h : Int} (hp : w.heap[p]? = some (.cells #[.slice a len cap, .int .i64 i, .int .i64 h] 48 (0, 0))) (h' : Int) (hi : 0 ≤ i ∧ i ≤ len) :
    Cur (w.setCell ⟨p, 2, none⟩ (.int .i64 h')) p a len cap ∧ But p w (w.setCell ⟨p, 2, none⟩ (.int .i64 h')) := by
  refine ⟨⟨i, h', hi.1, hi.2, ?_⟩, ⟨rfl, rfl, rfl, by simp [World.setCell], fun k _ hk => Below.heap_setCell w _ _ k (fun e => hk (by rw [e]))⟩⟩
  rw [heap_setCell_same w p 2 _ _ _ hp]
  rfl
set_option maxRecDepth 100000 in
theorem cur_set21 {w : World} {p : Nat} {a : Option Addr} {len cap : Nat} {i h : Int} (hp : w.heap[p]? = some (.cells #[.slice a len cap, .int .i64 i, .int .i64 h] 48 (0, 0))) (h' : Int) (h0 : 0 ≤ i + 1) (h1 : i + 1 ≤ len) :
    Cur ((w.setCell ⟨p, 2, none⟩ (.int .i64 h')).setCell ⟨p, 1, none⟩ (.int .i64 (i + 1))) p a len cap ∧ But p w ((w.setCell ⟨p, 2, none⟩ (.int .i64 h')).setCell ⟨p, 1, none⟩ (.int .i64 (i + 1))) := by
  have e1 := heap_setCell_same w p 2 _ _ (.int .i64 h') hp
  have e2 := heap_setCell_same (w.setCell ⟨p, 2, none⟩ (.int .i64 h')) p 1 _ _ (.int .i64 (i + 1)) e1
  refine ⟨⟨i + 1, h', h0, h1, ?_⟩, ⟨rfl, rfl, rfl, by simp [World.setCell], fun k _ hk => ?_⟩⟩
  · rw [e2]; rfl
  · rw [Below.heap_setCell _ _ _ k (fun e => hk (by rw [e])), Below.heap_setCell w _ _ k (fun e => hk (by rw [e]))]

set_option maxRecDepth 100000 in
set_option maxHeartbeats 1600000 in
theorem l1Byte (W0 : World) (a : Option Addr) (len cap p : Nat) (l : List Int) (w : World) (hl : len = l.length) (hr : Rd W0 a l) (hb : Bytes l) (hlen : len ≤ 1048576) (hB : Below W0.heap.size W0 w) (hp : W0.heap.size ≤ p) (hc : Cur w p a len cap) :
    Calls Try.prog 35 #[.pointer (some ⟨p, 0, none⟩)] w fun e w' => ∃ x : Int, e = .returned (.int .i64 x) ∧ 0 ≤ x ∧ x ≤ 255 ∧ Cur w' p a len cap ∧ But p w w' := by
  obtain ⟨i, h, i0, i1, hp0⟩ := hc
  obtain ⟨I, rfl⟩ := Int.eq_ofNat_of_zero_le i0
  have c0 : w.cell? ⟨p, 0, none⟩ = some (.slice a len cap) := by rw [cur_cell hp0]; rfl
  have c1 : w.cell? ⟨p, 1, none⟩ = some (.int .i64 I) := by rw [cur_cell hp0]; rfl
  have c2 : w.cell? ⟨p, 2, none⟩ = some (.int .i64 h) := by rw [cur_cell hp0]; rfl
  have f1 : w.frozen? ⟨p, 1, none⟩ = false := frozen_of_row w p 1 _ _ hp0
  have f2 : w.frozen? ⟨p, 2, none⟩ = false := frozen_of_row w p 2 _ _ hp0
  have HP : Hid (w.heap[p]? = some (.cells #[.slice a len cap, .int .i64 I, .int .i64 h] 48 (0, 0))) := hp0
  have HQ : Hid (∀ h' : Int, Cur (w.setCell ⟨p, 2, none⟩ (.int .i64 h')) p a len cap ∧ But p w (w.setCell ⟨p, 2, none⟩ (.int .i64 h'))) := fun h' => cur_set2 HP.out h' (by omega)
  have hm := Bits.mask8
  clear hp0
  by_cases hI : I < len
  · obtain ⟨b, off, rfl, hbl, hc0⟩ := hr I (by omega)
    have hcell : ∀ v, (w.setCell ⟨p, 2, none⟩ v).cell? ⟨b, off + I, none⟩ = some (.int .u8 (l.getD I 0)) := by
      intro v
      rw [World.cell?_of_block (w := w) (Below.heap_setCell w _ _ _ (show b ≠ p by omega)), hB.cell hbl]
      exact hc0
    have hz := hb.at I
    have HR : Hid (∀ h' : Int, Cur ((w.setCell ⟨p, 2, none⟩ (.int .i64 h')).setCell ⟨p, 1, none⟩ (.int .i64 ((I : Int) + 1))) p (some ⟨b, off, none⟩) len cap ∧ But p w ((w.setCell ⟨p, 2, none⟩ (.int .i64 h')).setCell ⟨p, 1, none⟩ (.int .i64 ((I : Int) + 1)))) := fun h' => cur_set21 HP.out h' (by omega) (by omega)
    clear hr hb hB hc0 HP
    generalize l.getD I 0 = z at *
    obtain ⟨z0, z1⟩ := hz
    go_enter Try.func35, Try.ntmps35
    go_wp2
    go_quiet (fail)
    go_wp2
    go_quiet (fail)
    go_wp2
    go_quiet (fail)
    go_wp2
    go_ret
    refine ⟨_, rfl, by omega, by omega, ?_, ?_⟩
    · exact (HR.out _).1
    · exact But.alike (HR.out _).2 rfl rfl rfl rfl
  · clear hr hb hB HP
    have hI' : ¬ ((I : Int) < (len : Int)) := by omega
    go_enter Try.func35, Try.ntmps35
    go_wp2
    go_quiet (fail)
    go_wp2
    go_quiet (fail)
    go_wp2
    go_ret
    refine ⟨_, rfl, by omega, by omega, ?_, ?_⟩
    · exact (HQ.out _).1
    · exact But.alike (HQ.out _).2 rfl rfl rfl rfl

/-- What stands ahead of every draw: the slice as it came in, and the cursor. -/
structure Ready (W0 : World) (a : Option Addr) (len cap : Nat) (l : List Int) (p : Nat) (w : World) : Prop where
  hl : len = l.length
  hr : Rd W0 a l
  hb : Bytes l
  hlen : len ≤ 1048576
  hB : Below W0.heap.size W0 w
  hp : W0.heap.size ≤ p
  hc : Cur w p a len cap

set_option maxRecDepth 100000 in
theorem Ready.next {W0 : World} {a : Option Addr} {len cap : Nat} {l : List Int} {p : Nat} {w w' : World} (h : Ready W0 a len cap l p w) (c : Cur w' p a len cap) (b : But p w w') : Ready W0 a len cap l p w' :=
  ⟨h.hl, h.hr, h.hb, h.hlen, b.below h.hB h.hp, h.hp, c⟩
set_option maxRecDepth 100000 in
theorem Ready.alloc {W0 : World} {a : Option Addr} {len cap : Nat} {l : List Int} {p : Nat} {w : World} (h : Ready W0 a len cap l p w) (o : Obj) : Ready W0 a len cap l p (w.alloc o) :=
  h.next (h.hc.alloc o) ((But.refl p w).alloc o)

set_option maxRecDepth 100000 in
theorem byteOf {W0 : World} {a : Option Addr} {len cap : Nat} {l : List Int} {p : Nat} {w : World} (h : Ready W0 a len cap l p w) :
    Calls Try.prog 35 #[.pointer (some ⟨p, 0, none⟩)] w fun e w' => ∃ x : Int, e = .returned (.int .i64 x) ∧ 0 ≤ x ∧ x ≤ 255 ∧ Ready W0 a len cap l p w' ∧ But p w w' := by
  refine (l1Byte W0 a len cap p l w h.hl h.hr h.hb h.hlen h.hB h.hp h.hc).mono ?_
  rintro e w' ⟨x, rfl, x0, x1, c, b⟩
  exact ⟨x, rfl, x0, x1, h.next c b, b⟩

set_option maxRecDepth 100000 in
set_option maxHeartbeats 800000 in
theorem below {W0 : World} {a : Option Addr} {len cap : Nat} {l : List Int} {p : Nat} {w : World} (h : Ready W0 a len cap l p w) (n : Int) (hn : 0 < n) (hn1 : n ≤ 16777216) :
    Calls Try.prog 33 #[.pointer (some ⟨p, 0, none⟩), .int .i64 n] w fun e w' => ∃ x : Int, e = .returned (.int .i64 x) ∧ 0 ≤ x ∧ x < n ∧ Ready W0 a len cap l p w' ∧ But p w w' := by
  have HR : Hid (Ready W0 a len cap l p w) := h
  clear h
  have hn0 : ((n : Int) == 0) = false := by rw [beq_eq_false_iff_ne]; omega
  by_cases h1 : n ≤ 256
  · go_enter Try.func33, Try.ntmps33
    go_wp2_with fail
    refine (byteOf HR.out).mono ?_
    rintro e w1 ⟨x, rfl, x0, x1, r1, b1⟩
    have R1 : Hid (Ready W0 a len cap l p w1) := r1
    have B1 : Hid (But p w w1) := b1
    clear r1 b1
    go_wp2
    go_ret
    exact ⟨x % n, rfl, Int.emod_nonneg _ (by omega), Int.emod_lt_of_pos _ hn, R1.out, B1.out⟩
  · go_enter Try.func33, Try.ntmps33
    go_wp2_with fail
    refine (byteOf HR.out).mono ?_
    rintro e w1 ⟨x, rfl, x0, x1, r1, b1⟩
    have R1 : Hid (Ready W0 a len cap l p w1) := r1
    have B1 : Hid (But p w w1) := b1
    clear r1 b1
    go_wp2_with fail
    refine (byteOf R1.out).mono ?_
    rintro e w2 ⟨y, rfl, y0, y1, r1, b1⟩
    have R2 : Hid (Ready W0 a len cap l p w2) := r1
    have B2 : Hid (But p w w2) := B1.out.trans b1
    clear r1 b1
    go_wp2_with fail
    refine (byteOf R2.out).mono ?_
    rintro e w3 ⟨z, rfl, z0, z1, r1, b1⟩
    have R3 : Hid (Ready W0 a len cap l p w3) := r1
    have B3 : Hid (But p w w3) := B2.out.trans b1
    clear r1 b1
    go_wp2
    go_ret
    exact ⟨(x * 65536 + y * 256 + z) % n, rfl, Int.emod_nonneg _ (by omega), Int.emod_lt_of_pos _ hn, R3.out, B3.out⟩

end Go.Proofs.Ytadlckgaeljdkaa.Draw
