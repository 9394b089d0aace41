/-
  What spec's WinNew and WinList answer; appending to a slice that is none or the call's own.
-/
import Derived.Test.YtmcflfpckpjphaaGreatDoorVdBas2
set_option maxRecDepth 100000
namespace Go.Proofs.YtmcflfpckpjphaaGreatDoor.WnT
open Go.RowKit Mem MemI Blk Zone ZoneI WnZ Res Each Copy Ops WinP WinB Bits WnC WnS WnK

theorem iwpList_own (w : World) {ops : Array Oper} {rest : List Oper} {o : Oper} {a : Act} {Q : Exit → Act → World → Prop} (hgd : o.guard = none) (s x : Operand)
  (ho : o.op = .call { callee := .builtin .append, args := #[s, x], argTypes := #[37, 37] })
  (lo hi : Nat) (S : Sl) (l y : List Int) (hs : a.eval s = .slice S.a S.n S.c) (hS : ISOwn w lo hi S l)
  (ad : Addr) (m c : Nat) (hx : a.eval x = .slice (some ad) m c) (hm : m = y.length) (hrd : IRd w (some ad) y) (hy : y ≠ []) (hsum : l.length + y.length ≤ 100000000)
  (h : ∀ g' cap' w', IRow w' g' cap' (l ++ y) → lo ≤ g' ∨ w.heap.size ≤ g' → Kept lo hi w w' → wpList Tryz.prog ops Q rest (a.put o.dst (.slice (some ⟨g', 0, none⟩) (S.n + m) cap')) w') :
  wpList Tryz.prog ops Q (o :: rest) a w := by
 rcases hS with ⟨rfl, rfl⟩ | ⟨g, h1, h2, h3, h4, h5⟩
 ·
  obtain ⟨i0, hinf, hz0, hz1, hz2⟩ := info_parts info64
  subst hm
  have hown0 : w.ownsRow w.heap.size 3 1 (.slice none 0 0) 0 [] := ⟨rfl, .inl ⟨rfl, rfl⟩⟩
  refine wpList_append_own w hgd s x 37 ho w.heap.size 3 i0 (.int .i64 0) 1 8 Tryz.underlying37 hinf hz0 hz1 hz2 rfl (by decide) _ _ _ hs hown0 ad y.length c (y.map (Value.int .i64)) hx (by simp) (IRd.cells hrd) (ints_oneCell _ _) (by unfold maxLen; omega) (by simp at hsum; omega) (by simp) ?_
  intro v' w' hown hgr hiff
  rcases hown.2 with ⟨hv, h0⟩ | ⟨g', cap', cur, rfl, hb, hg', _⟩
  ·
   exfalso
   have : y.length = 0 := by simpa using h0
   exact hy (List.length_eq_zero_iff.1 this)
  ·
   rw [List.nil_append] at hown
   obtain ⟨r1, r2, _, r4⟩ := IRow.of hown
   exact h g' cap' w' r1 (.inr r2) (Kept.of_below (grown_none_below hgr) 0).any
 ·
  obtain ⟨sa, sn, sc⟩ := S
  simp only at h1 h2 h5 hs
  subst h1
  refine iwpList_app w hgd s x ho g g sn sc l y hs h2 h5 (Nat.le_refl _) (some ad) m c hx hm hrd (by intro e; cases e) hsum ?_
  intro g' cap' w' r1 r2 r4 gr
  exact h g' cap' w' r1 (.inl (Nat.le_trans h3 r2)) ((Kept.of_grown gr).mono h3 h4)

set_option maxHeartbeats 4000000 in
theorem specWinNew (w : World) : Calls Tryz.prog 169 #[] w (Made ⟨-1, zeros⟩ w) := by
 obtain ⟨x0, hx0⟩ : ∃ x0, (w.alloc (.cells #[.int .i64 0, .slice none 0 0] 39)).alloc (.cells #[.int .i64 (-1), .slice none 0 0] 39) = x0 := ⟨_, rfl⟩
 have HW0 : Hid (_ = x0) := hx0
 have B0 : Hid (Below w.heap.size w x0) := by rw [← hx0]; exact ((Below.refl _ _).alloc (Nat.le_refl _) _).alloc (by simp) _
 have KR0 : Hid (Blk x0 w.heap.size 39 [.int .i64 0, .slice none 0 0]) := by rw [← hx0]; exact (Blk.new w _ _).alloc _
 have KO0 : Hid (Blk x0 (w.heap.size + 1) 39 [.int .i64 (-1), .slice none 0 0]) := by
  have := Blk.new (w.alloc (.cells #[.int .i64 0, .slice none 0 0] 39)) 39 [.int .i64 (-1), .slice none 0 0]
  rw [World.size_alloc] at this
  rw [← hx0]; exact this
 clear hx0
 go_enter Tryz.func169, Tryz.ntmps169
 go_upto_region 2 with fail
 rw [HW0.out]
 clear HW0
 go_wp2
 go_loopw [2] (fun i wr => ∃ (k : Nat) (S : Sl) (hi : Nat), k ≤ 32 ∧ i = .int .i64 k ∧ Blk wr w.heap.size 39 [.int .i64 0, .slice none 0 0] ∧ Blk wr (w.heap.size + 1) 39 [.int .i64 (-1), .slice S.a S.n S.c] ∧ ISOwn wr (w.heap.size + 2) hi S (List.replicate k 0) ∧ hi ≤ wr.heap.size ∧ Below w.heap.size w wr) (fun i _ => 32 - (intOf i).toNat)
 case atStart => exact ⟨0, ⟨none, 0, 0⟩, x0.heap.size, Nat.zero_le _, rfl, KR0.out, KO0.out, ISOwn.nil _ _ _, Nat.le_refl _, B0.out⟩
 case round =>
  obtain ⟨k, S, hi, hk, rfl, hkr, hko, hown, hhi, hbe⟩ := hrel
  have KR := hid (hkr)
  have KO := hid (hko)
  have OW := hid (hown)
  have HHI : Hid (hi ≤ wr.heap.size) := hhi
  have HBe := hid (hbe)
  have HSN : Hid (S.n = k) := by have := hown.len; rw [List.length_replicate] at this; exact this
  clear hkr hko hown hhi hbe KR0 KO0 B0
  have c0 := KO.out.cell 0 rfl
  have c1 := KO.out.cell 1 rfl
  by_cases hlt : k < 32
  ·
   have KRa : Hid (Blk (wr.alloc (.cells #[.int .i64 0] 3)) w.heap.size 39 [.int .i64 0, .slice none 0 0]) := KR.out.alloc _
   have KOa : Hid (Blk (wr.alloc (.cells #[.int .i64 0] 3)) (w.heap.size + 1) 39 [.int .i64 (-1), .slice S.a S.n S.c]) := KO.out.alloc _
   have OWa : Hid (ISOwn (wr.alloc (.cells #[.int .i64 0] 3)) (w.heap.size + 2) hi S (List.replicate k 0)) := OW.out.later ((Below.refl _ _).alloc (Nat.le_refl _) _)
   have BEa : Hid (Below w.heap.size w (wr.alloc (.cells #[.int .i64 0] 3))) := HBe.out.alloc HBe.out.size _
   have HSA : Hid (w.heap.size + 2 ≤ (wr.alloc (.cells #[.int .i64 0] 3)).heap.size) := by have := KO.out.lt; show _ ≤ _; simp; omega
   clear KR KO OW
   go_wp2_with (at_builtin; refine iwpList_own _ rfl (.tmp 9) (.tmp 10) rfl (w.heap.size + 2) hi S (List.replicate k 0) [0] rfl OWa.out ⟨wr.heap.size, 0, none⟩ 1 1 rfl rfl (ird_one wr 0) (by simp) (by simp; omega) ?_; intro q3 c3 w3 r3 k3 kp3; have R3 := hid (r3); have K3 : Hid (w.heap.size + 2 ≤ q3) := (by rcases k3 with h | h; (· exact h); (· exact Nat.le_trans HSA.out h)); have KR3 := hid (KRa.out.keep (kp3.block _ KRa.out.lt (.inl (by omega)))); have KO3 := hid (KOa.out.keep (kp3.block _ KOa.out.lt (.inl (by omega)))); have B3 := hid (BEa.out.trans (kp3.below (by omega) BEa.out.size)); clear r3 k3 kp3 c0 c1; have q0 := KO3.out.cell 1 rfl; have f0 := KO3.out.frozen 1)
   go_wp2
   go_roundw
   case rel => exact ⟨k + 1, ⟨some ⟨q3, 0, none⟩, S.n + 1, c3⟩, w3.heap.size, by omega, by go_num, KR3.out.other (by show w.heap.size ≠ w.heap.size + 1; omega) _, KO3.out.set 1 _ (by simp [maxLen]), ISOwn.row ((R3.out.keep (Below.heap_setCell w3 ⟨w.heap.size + 1, 1, none⟩ _ q3 (by show q3 ≠ w.heap.size + 1; have := K3.out; omega))) |> fun h => by rw [show List.replicate (k + 1) (0 : Int) = List.replicate k 0 ++ [0] from List.replicate_succ']; exact h) (by rw [HSN.out, List.length_replicate]) K3.out R3.out.lt, by simp, B3.out.setCell (by show w.heap.size ≤ w.heap.size + 1; omega) _⟩
   case measure => simp [intOf]; omega
  ·
   obtain rfl : k = 32 := by omega
   have q0 := KR.out.cell 0 rfl
   have q1 := KR.out.cell 1 rfl
   have f0 := KR.out.frozen 0
   have f1 := KR.out.frozen 1
   have OD : Hid (WnOwn wr (w.heap.size + 2) hi ⟨S⟩ ⟨-1, zeros⟩) := ⟨OW.out, ⟨⟩⟩
   go_wp2
   obtain ⟨k4, o4, b4⟩ := WnK.stored KR.out OD.out (by omega)
   exact bodyPost_ret (v := wnV ⟨-1, zeros⟩ ⟨S⟩) (res1 rfl (is_cell rfl k4 aggWn)) rfl ⟨⟨S⟩, rfl, o4.mono (by omega) (by rw [size2]; exact HHI.out), b4 _ _ (Nat.le_refl _) HBe.out⟩

end Go.Proofs.YtmcflfpckpjphaaGreatDoor.WnT
