/-
  Drawn windows: l8Draw; a number near one: l8Ask.
  How what stands ahead of a draw is carried on.
-/
import Derived.Test.YtmcflfpckpjphaaWnDr
import Derived.Deep.RegionHeld3
import Derived.Test.YtmcflfpckpjphaaWb1
set_option linter.unusedVariables false
namespace Go.Proofs.Ytmcflfpckpjphaa.WnDs
open Go.RowKit Go.Proofs.Ytmcflfpckpjphaa.Mem Go.Proofs.Ytmcflfpckpjphaa.MemI Go.Proofs.Ytmcflfpckpjphaa.Blk Go.Proofs.Ytmcflfpckpjphaa.Zone Go.Proofs.Ytmcflfpckpjphaa.ZoneI Go.Proofs.Ytmcflfpckpjphaa.WnZ Go.Proofs.Ytmcflfpckpjphaa.Res Go.Proofs.Ytmcflfpckpjphaa.Draw Go.Proofs.Ytmcflfpckpjphaa.WinP Go.Proofs.Ytmcflfpckpjphaa.WnK Go.Proofs.Ytmcflfpckpjphaa.WnV Go.Proofs.Ytmcflfpckpjphaa.WnG Go.Proofs.Ytmcflfpckpjphaa.WnDr

/-- What a drawn window is: right, in memory of its own. -/
def Drawn (W0 : World) (a : Option Addr) (len cap : Nat) (l : List Int) (p : Nat) (w : World) (e : Ending) (w' : World) : Prop :=
  ∃ (S : WnS) (D : WnD), e = .returned (wnV D S) ∧ D.bits.length = 32 ∧ WnOwn w' w.heap.size w'.heap.size S D ∧ Ready W0 a len cap l p w' ∧ But p w w'

set_option maxRecDepth 100000 in
set_option maxHeartbeats 4000000 in
theorem draw {W0 : World} {a : Option Addr} {len cap : Nat} {l : List Int} {p : Nat} {w : World} (h : Ready W0 a len cap l p w) :
    Calls Try.prog 84 #[.pointer (some ⟨p, 0, none⟩)] w (Drawn W0 a len cap l p w) := by
  have HP : Hid (p < w.heap.size) := h.hc.lt
  obtain ⟨x0, hx0⟩ : ∃ x0, w.alloc (.cells #[.int .i64 0, .slice none 0 0] 26) = x0 := ⟨_, rfl⟩
  have HW0 : Hid (_ = x0) := hx0
  have R0 : Hid (Ready W0 a len cap l p x0) := by rw [← hx0]; exact h.alloc _
  have B0 : Hid (But p w x0) := by rw [← hx0]; exact (But.refl p w).alloc _
  have KO0 : Hid (Blk x0 w.heap.size 26 [.int .i64 0, .slice none 0 0]) := by rw [← hx0]; exact Blk.new w _ _
  clear hx0 h
  go_enter Try.func84, Try.ntmps84
  go_upto_region 1 with fail
  rw [HW0.out]
  clear HW0
  go_wp2_with fail
  refine (nums R0.out 12 (by omega)).mono ?_
  rintro e x1 ⟨g, m, c, L, rfl, em, hm, hg, r1, q1, b1⟩
  have HRow : Hid (ISRd x1 ⟨some ⟨g, 0, none⟩, m, c⟩ L) := ⟨em, r1.rd, (fun e => by cases e), by have := r1.1; show m ≤ c; omega⟩
  have HL : Hid (L.length ≤ 4194304) := by show _ ≤ _; omega
  have R1 : Hid (Ready W0 a len cap l p x1) := q1
  have B1 : Hid (But p w x1) := B0.out.trans b1
  have KO1 : Hid (Blk x1 w.heap.size 26 [.int .i64 0, .slice none 0 0]) := Blk.but KO0.out b1 (by have := HP.out; omega)
  clear em hg r1 q1 b1 R0 B0 KO0
  go_wp2_with fail
  refine (specWinOf (some ⟨g, 0, none⟩) m c L x1 HRow.out HL.out).mono ?_
  unfold Made
  rintro e x2 ⟨S, rfl, o2, b2⟩
  have HD : Hid ((ofD L L.length).bits.length = 32) := ofD_len _ _
  generalize ofD L L.length = D at *
  have O2 : Hid (WnOwn x2 x1.heap.size x2.heap.size S D) := o2
  have R2 : Hid (Ready W0 a len cap l p x2) := ready_below R1.out b2
  have B2 : Hid (But p w x2) := but_below B1.out b2
  have KO2 : Hid (Blk x2 w.heap.size 26 [.int .i64 0, .slice none 0 0]) := KO1.out.later b2
  have HLT : Hid (w.heap.size + 1 ≤ x1.heap.size) := KO1.out.lt
  clear o2 b2 R1 B1 KO1
  have q0 := KO2.out.cell 0 rfl
  have q1 := KO2.out.cell 1 rfl
  have f0 := KO2.out.frozen 0
  have f1 := KO2.out.frozen 1
  unfold wnV
  go_wp2
  obtain ⟨k3, o3, _⟩ := WnK.stored KO2.out O2.out HLT.out
  have KP : Kept w.heap.size (w.heap.size + 1) x2 ((x2.setCell ⟨w.heap.size, 0, none⟩ (.int .i64 D.top)).setCell ⟨w.heap.size, 1, none⟩ (.slice S.bits.a S.bits.n S.bits.c)) := (Kept.setCell _ _ _ _).trans (Kept.setCell _ _ _ _)
  exact bodyPost_ret (v := wnV D S) (res1 rfl (is_cell rfl k3 aggWn)) rfl ⟨S, D, rfl, HD.out, o3.mono (by have := HLT.out; omega) (by rw [size2]; exact Nat.le_refl _), ready_kept R2.out KP HP.out, but_kept B2.out KP (Nat.le_refl _)⟩

set_option maxRecDepth 100000 in
set_option maxHeartbeats 4000000 in
theorem ask {W0 : World} {a : Option Addr} {len cap : Nat} {l : List Int} {p : Nat} {w : World} (h : Ready W0 a len cap l p w) (S : WnS) (D : WnD) :
    Calls Try.prog 47 #[.pointer (some ⟨p, 0, none⟩), wnV D S] w fun e w' => ∃ z : Int, e = .returned (.int .i64 z) ∧ Ready W0 a len cap l p w' ∧ But p w w' := by
  have HP : Hid (p < w.heap.size) := h.hc.lt
  obtain ⟨x0, hx0⟩ : ∃ x0, w.alloc (.cells #[.int .i64 D.top, .slice S.bits.a S.bits.n S.bits.c] 26) = x0 := ⟨_, rfl⟩
  have HW0 : Hid (_ = x0) := hx0
  have R0 : Hid (Ready W0 a len cap l p x0) := by rw [← hx0]; exact h.alloc _
  have B0 : Hid (But p w x0) := by rw [← hx0]; exact (But.refl p w).alloc _
  have KO0 : Hid (Blk x0 w.heap.size 26 [.int .i64 D.top, .slice S.bits.a S.bits.n S.bits.c]) := by rw [← hx0]; exact Blk.new w _ _
  clear hx0 h
  unfold wnV
  go_enter Try.func47, Try.ntmps47
  go_upto_region 1 with fail
  rw [HW0.out]
  clear HW0
  go_wp2_with fail
  refine (once R0.out 8 (by omega) (by omega)).mono ?_
  rintro e x1 ⟨o, rfl, r1, b1⟩
  have R1 : Hid (Ready W0 a len cap l p x1) := r1
  have B1 : Hid (But p w x1) := B0.out.trans b1
  have KO1 : Hid (Blk x1 w.heap.size 26 [.int .i64 D.top, .slice S.bits.a S.bits.n S.bits.c]) := Blk.but KO0.out b1 (by have := HP.out; omega)
  clear r1 b1 R0 B0 KO0
  cases o with
  | true =>
    go_wp2_with fail
    refine (odd R1.out).mono ?_
    rintro e x2 ⟨z, rfl, _, _, r2, b2⟩
    have R2 : Hid (Ready W0 a len cap l p x2) := r2
    have B2 : Hid (But p w x2) := B1.out.trans b2
    clear r2 b2
    go_wp2
    go_ret
    exact ⟨z, rfl, R2.out, B2.out⟩
  | false =>
    have RA : Hid (Ready W0 a len cap l p (x1.drew.alloc (.cells #[.int .i64 0, .int .i64 1, .int .i64 2, .int .i64 32, .int .i64 1023, .int .i64 1024, .int .i64 1025, .int .i64 3000, .int .i64 (-1), .int .i64 (-2), .int .i64 (-3), .int .i64 (-10), .int .i64 (-20), .int .i64 (-1022), .int .i64 (-1023), .int .i64 (-1024), .int .i64 (-1025)] 3))) := (ready_below R1.out (below_drewN (Below.refl _ _) 1)).alloc _
    have BA : Hid (But p w (x1.drew.alloc (.cells #[.int .i64 0, .int .i64 1, .int .i64 2, .int .i64 32, .int .i64 1023, .int .i64 1024, .int .i64 1025, .int .i64 3000, .int .i64 (-1), .int .i64 (-2), .int .i64 (-3), .int .i64 (-10), .int .i64 (-20), .int .i64 (-1022), .int .i64 (-1023), .int .i64 (-1024), .int .i64 (-1025)] 3))) := (but_below B1.out (below_drewN (Below.refl _ _) 1)).alloc _
    have HP1 : Hid (x1.heap.size ≠ p) := by show _ ≠ _; have := R1.out.hc.lt; omega
    have c0 : x1.cell? ⟨w.heap.size, 0, none⟩ = some (.int .i64 D.top) := KO1.out.cell 0 rfl
    have HNP : Hid (w.heap.size ≠ p) := by show _ ≠ _; have := HP.out; omega
    have KOA : Hid (Blk (x1.drew.alloc (.cells #[.int .i64 0, .int .i64 1, .int .i64 2, .int .i64 32, .int .i64 1023, .int .i64 1024, .int .i64 1025, .int .i64 3000, .int .i64 (-1), .int .i64 (-2), .int .i64 (-3), .int .i64 (-10), .int .i64 (-20), .int .i64 (-1022), .int .i64 (-1023), .int .i64 (-1024), .int .i64 (-1025)] 3)) w.heap.size 26 [.int .i64 D.top, .slice S.bits.a S.bits.n S.bits.c]) := Blk.alloc (w := x1.drew) KO1.out _
    go_upto_region 3 with fail
    go_region_held3 (fun w' => w'.cell? ⟨w.heap.size, 0, none⟩ = some (.int .i64 D.top)) (first | exact c2 | exact c0 | go_keep)
      (first
        | (go_at_call 59; refine (intOfList RA.out x1.heap.size 17 [0, 1, 2, 32, 1023, 1024, 1025, 3000, -1, -2, -3, -10, -20, -1022, -1023, -1024, -1025] rfl (ints_new x1.drew _) HP1.out (by omega) (by omega)).mono ?_; rintro e x2 ⟨u, rfl, _, r2, b2⟩; have R2 : Hid (Ready W0 a len cap l p x2) := r2; have B2 : Hid (But p w x2) := BA.out.trans b2; have c2 := (Blk.but KOA.out b2 HNP.out).cell 0 rfl; clear r2 b2))
    all_goals (
      go_wp2
      go_ret
      exact ⟨_, rfl, R2.out, B2.out⟩)
end Go.Proofs.Ytmcflfpckpjphaa.WnDs

namespace Go.Proofs.Ytmcflfpckpjphaa.DrN
open Go.RowKit Go.Proofs.Ytmcflfpckpjphaa.Mem Go.Proofs.Ytmcflfpckpjphaa.App Go.Proofs.Ytmcflfpckpjphaa.Blk Go.Proofs.Ytmcflfpckpjphaa.Zone Go.Proofs.Ytmcflfpckpjphaa.Draw

set_option maxRecDepth 100000 in
theorem rdyL {W0 : World} {a : Option Addr} {len cap : Nat} {l : List Int} {p : Nat} {w w' : World} (h : Ready W0 a len cap l p w) (b : Below w.heap.size w w') : Ready W0 a len cap l p w' :=
  ⟨h.hl, h.hr, h.hb, h.hlen, h.hB.trans (b.mono h.hB.size), h.hp, h.hc.keep (b.block p h.hc.lt)⟩
set_option maxRecDepth 100000 in
theorem butL {p : Nat} {a b c : World} (h : But p a b) (k : Below b.heap.size b c) : But p a c :=
  ⟨k.os.trans h.os, k.tape.trans h.tape, k.output.trans h.output, Nat.le_trans h.size k.size, fun i hi hne => (k.block i (Nat.lt_of_lt_of_le hi h.size)).trans (h.block i hi hne)⟩
set_option maxRecDepth 100000 in
theorem butK {p : Nat} {a b c : World} (h : But p a b) {lo hi : Nat} (k : Kept lo hi b c) (hl : a.heap.size ≤ lo) : But p a c :=
  ⟨k.os.trans h.os, k.tape.trans h.tape, k.output.trans h.output, Nat.le_trans h.size k.size, fun i hi hne => (k.block i (Nat.lt_of_lt_of_le hi h.size) (.inl (by omega))).trans (h.block i hi hne)⟩
set_option maxRecDepth 100000 in
theorem rdyK {W0 : World} {a : Option Addr} {len cap : Nat} {l : List Int} {p : Nat} {w w' : World} (h : Ready W0 a len cap l p w) {lo hi : Nat} (k : Kept lo hi w w') (hl : p < lo) : Ready W0 a len cap l p w' :=
  ⟨h.hl, h.hr, h.hb, h.hlen, h.hB.trans (k.below (by have := h.hp; omega) h.hB.size), h.hp, h.hc.keep (k.block p h.hc.lt (.inl hl))⟩
set_option maxRecDepth 100000 in
/-- The slice as it came in, ahead of the cursor. -/
theorem code {W0 : World} {a : Option Addr} {len cap : Nat} {l : List Int} {p : Nat} {w : World} (h : Ready W0 a len cap l p w) : Below W0.heap.size W0 w := h.hB
end Go.Proofs.Ytmcflfpckpjphaa.DrN
