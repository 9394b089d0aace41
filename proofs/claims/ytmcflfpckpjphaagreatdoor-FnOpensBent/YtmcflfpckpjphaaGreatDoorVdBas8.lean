/-
  What spec's l9Copy, EpNew, EpOk answer.
  'append' of bytes to a row of the call's own, as one step of a region that draws its order; and where it lies then.
  What spec's l9Copy answers.
-/
import Derived.Test.YtmcflfpckpjphaaGreatDoorVdBas3
import Derived.Test.YtmcflfpckpjphaaGreatDoorVdBas1
import Derived.Test.YtmcflfpckpjphaaGreatDoorVdBas6
import Derived.Deep.RegionHeld3
import Derived.Laws.AppendOwnNone
set_option linter.unusedVariables false
set_option maxRecDepth 100000
namespace Go.Proofs.YtmcflfpckpjphaaGreatDoor.EpS
open Go.RowKit Mem MemI App Blk Words Zone ZoneI Res WnZ WinP WnC WnK WnG EpZ EpL EpP WnS WnT WnU WnV

set_option maxHeartbeats 8000000 in
theorem specEpOk (S : EpS) (D : EpD) (w : World) (h : EpRd w S D) :
  Calls Tryz.prog 33 #[epV D S] w fun e w' => e = .returned (.bool (epOk D)) ∧ Below w.heap.size w w' := by
 have HR := hid (h)
 obtain ⟨v, hv⟩ : ∃ v, epOk D = v := ⟨_, rfl⟩
 have HV : Hid (epOk D = v) := hv
 have HN : Hid (S.key.n = D.key.length) := h.key.len
 rw [hv]
 obtain ⟨x0, hx0⟩ : ∃ x0, w.alloc (.cells #[.int .i64 D.n, .slice S.key.a S.key.n S.key.c, .int .i64 D.seq, .int .i64 D.win.top, .slice S.win.bits.a S.win.bits.n S.win.bits.c] 41) = x0 := ⟨_, rfl⟩
 have HW0 := hid (hx0)
 have B0 : Hid (Below w.heap.size w x0) := by rw [← hx0]; exact (Below.refl _ _).alloc (Nat.le_refl _) _
 have K0 : Hid (Blk x0 w.heap.size 41 [.int .i64 D.n, .slice S.key.a S.key.n S.key.c, .int .i64 D.seq, .int .i64 D.win.top, .slice S.win.bits.a S.win.bits.n S.win.bits.c]) := by rw [← hx0]; exact Blk.new w _ _
 clear h hv hx0
 unfold epV
 go_enter Tryz.func33, Tryz.ntmps33
 go_upto_region 1 with fail
 rw [HW0.out]
 obtain ⟨ga, hga⟩ : ∃ ga, w.heap.size = ga := ⟨_, rfl⟩
 rw [hga] at K0
 rw [hga]
 clear hga HW0
 obtain ⟨d0, d1, d2, d3, d4⟩ := cells5 K0.out
 go_wp2_with fail
 refine (Words.l1In D.n 0 4294967295 x0).mono ?_
 rintro e y ⟨rfl, rfl⟩
 cases h0 : isIn D.n 0 4294967295 with
 | false =>
  obtain rfl : v = false := by rw [← HV.out]; unfold epOk; simp [h0]
  go_wp2
  go_ret
  exact ⟨rfl, B0.out⟩
 | true =>
  cases h1 : ((S.key.n : Int) == 32) with
  | false =>
   obtain rfl : v = false := by have hn := HN.out; rw [← HV.out]; unfold epOk; rw [← hn]; simp [h1]
   go_wp2
   go_ret
   exact ⟨rfl, B0.out⟩
  | true =>
   go_wp2_with fail
   refine (Words.l1In D.seq 0 281474976710656 x0).mono ?_
   rintro e y ⟨rfl, rfl⟩
   cases h2 : isIn D.seq 0 281474976710656 with
   | false =>
    obtain rfl : v = false := by rw [← HV.out]; unfold epOk; rw [h2]; simp
    go_wp2
    go_ret
    exact ⟨rfl, B0.out⟩
   | true =>
   have HQ : Hid (isIn D.seq 0 281474976710656 = true) := h2
   obtain rfl : v = winOk D.win.top D.win.bits := by have hn := HN.out; rw [← HV.out]; unfold epOk; rw [HQ.out, h0, ← hn, h1]; simp
   go_wp2_with fail
   refine (specWinOk S.win D.win x0 (HR.out.later B0.out).win).mono ?_
   rintro e x1 ⟨rfl, b1⟩
   have B1 := hid (B0.out.trans (b1.mono B0.out.size))
   clear b1 d0 d1 d2 d3 d4
   go_wp2
   go_ret
   exact ⟨rfl, B1.out⟩

set_option maxHeartbeats 8000000 in
theorem specEpNew (n : Int) (s : Sl) (l : List Int) (w : World) (h : SRd w s l) :
  Calls Tryz.prog 152 #[.int .i64 n, .slice s.a s.n s.c] w (AnsE (newE n l) w) := by
 have HR := hid (h)
 have HN : Hid (s.n = l.length) := h.len
 have HNL : Hid (s.a = none → s.c = 0) := h.nil
 obtain ⟨R, hR⟩ : ∃ R, newE n l = R := ⟨_, rfl⟩
 have HE : Hid (newE n l = R) := hR
 rw [hR]
 obtain ⟨x0, hx0⟩ : ∃ x0, w.alloc (.cells #[.int .i64 0, .slice none 0 0, .int .i64 0, .int .i64 0, .slice none 0 0] 41) = x0 := ⟨_, rfl⟩
 have HW0 := hid (hx0)
 have B0 : Hid (Below w.heap.size w x0) := by rw [← hx0]; exact (Below.refl _ _).alloc (Nat.le_refl _) _
 have K0 : Hid (Blk x0 w.heap.size 41 [.int .i64 0, .slice none 0 0, .int .i64 0, .int .i64 0, .slice none 0 0]) := by rw [← hx0]; exact Blk.new w _ _
 clear h hR hx0
 obtain ⟨sa, sn, sc⟩ := s
 go_enter Tryz.func152, Tryz.ntmps152
 go_upto_region 1 with fail
 rw [HW0.out]
 obtain ⟨go, hgo⟩ : ∃ go, w.heap.size = go := ⟨_, rfl⟩
 have HG : Hid (w.heap.size = go ∧ go < x0.heap.size) := ⟨hgo, by rw [← hgo]; exact K0.out.lt⟩
 rw [hgo] at K0
 rw [hgo]
 clear hgo HW0
 obtain ⟨d0, d1, d2, d3, d4⟩ := cells5 K0.out
 obtain ⟨f0, f1, f2, f3, f4⟩ := froz5 K0.out
 go_wp2_with fail
 refine (Words.l1In n 0 4294967295 x0).mono ?_
 rintro e y ⟨rfl, rfl⟩
 cases h0 : isIn n 0 4294967295 with
 | false =>
  obtain rfl : R = zeroE := by have hn := HN.out; rw [← HE.out]; exact newE_no (by unfold newB; rw [← hn]; simp [h0])
  go_wp2
  obtain ⟨k1, k2, k3⟩ := ep_stored (D := zeroE) (S := zeroES) K0.out (zeroE_own x0 x0.heap.size x0.heap.size (Nat.le_refl _)) (.inl (by have := HG.out; omega))
  exact bodyPost_ret (v := epV zeroE zeroES) (res1 rfl (is_cell rfl k1 aggEp)) rfl ⟨zeroES, rfl, zeroE_own _ _ _ (by rw [ep_size]; exact B0.out.size), k3 _ _ (by have := HG.out; omega) B0.out⟩
 | true =>
  cases h1 : ((sn : Int) == 32) with
  | false =>
   have hne : ((sn : Int) != 32) = true := by simpa using h1
   obtain rfl : R = zeroE := by have hn := HN.out; rw [← HE.out]; exact newE_no (by unfold newB; rw [← hn]; simp [h1])
   go_wp2
   obtain ⟨k1, k2, k3⟩ := ep_stored (D := zeroE) (S := zeroES) K0.out (zeroE_own x0 x0.heap.size x0.heap.size (Nat.le_refl _)) (.inl (by have := HG.out; omega))
   exact bodyPost_ret (v := epV zeroE zeroES) (res1 rfl (is_cell rfl k1 aggEp)) rfl ⟨zeroES, rfl, zeroE_own _ _ _ (by rw [ep_size]; exact B0.out.size), k3 _ _ (by have := HG.out; omega) B0.out⟩
  | true =>
   have HB : Hid (newB n l.length = true) := by have hn := HN.out; show newB _ _ = true; unfold newB; rw [← hn]; simp [h0, h1]
   have HLL : Hid (l.length = 32) := by have := (newB_parts HB.out).2; show _ = _; omega
   obtain rfl : R = ⟨n, l, 0, ⟨-1, zeros⟩⟩ := by rw [← HE.out]; exact newE_yes HB.out
   have hne : ((sn : Int) != 32) = false := by simpa using h1
   clear h0 h1
   have A0 : Hid (Below x0.heap.size x0 (x0.alloc (.cells #[] 5))) := (Below.refl _ _).alloc (Nat.le_refl _) _
   have R0 : Hid (Row (x0.alloc (.cells #[] 5)) x0.heap.size 0 []) := row_new x0 [] (by simp)
   go_wp2_with (at_builtin; refine wpList_app _ rfl (.tmp 15) (.tmp 16) rfl x0.heap.size x0.heap.size 0 0 [] l rfl rfl R0.out (Nat.le_refl _) sa sn sc rfl HN.out ((HR.out.later (B0.out.trans (A0.out.mono B0.out.size))).rd) HNL.out (by have := HLL.out; simp; omega) ?_; intro g1 c1 x1 rr b1 ll gr; have R1 := hid (rr); have T1 : Hid (Below x0.heap.size x0 x1) := A0.out.grown gr A0.out.size (fun k h => by cases h; exact Nat.le_refl _); have GE : Hid (x0.heap.size ≤ g1) := b1; clear rr b1 ll gr)
   have Ok : Hid (SOwn x1 x0.heap.size x1.heap.size ⟨some ⟨g1, 0, none⟩, sn, c1⟩ l) := SOwn.row R1.out HN.out HR.out.bytes GE.out R1.out.lt
   have K1 := hid (K0.out.later T1.out)
   have L1 := hid (T1.out.size)
   have B1 := hid (B0.out.trans (T1.out.mono B0.out.size))
   clear d0 d1 d2 d3 d4 f0 f1 f2 f3 f4
   refine (specWinNew x1).mono ?_
   unfold Made
   rintro e x2 ⟨S2, rfl, o, b⟩
   have Ow := hid (o)
   have Ok2 := hid (Ok.out.carry (Kept.of_below b x1.heap.size) (.inl (Nat.le_refl _)))
   have K2 := hid (K1.out.later b)
   have B2 := hid (B1.out.trans (b.mono B1.out.size))
   have L2 := hid (b.size)
   clear o b
   unfold wnV
   obtain ⟨d0, d1, d2, d3, d4⟩ := cells5 K2.out
   obtain ⟨f0, f1, f2, f3, f4⟩ := froz5 K2.out
   go_wp2
   obtain ⟨k1, k2, k3⟩ := ep_stored (D := ⟨n, l, 0, ⟨-1, zeros⟩⟩) (S := ⟨⟨some ⟨g1, 0, none⟩, sn, c1⟩, S2⟩) (lo := x0.heap.size) (hi := x2.heap.size) K2.out ⟨_, _, _, _, Ok2.out, Ow.out, by have := hid2 L1 L2; omega⟩ (.inl (by have := HG.out; omega))
   exact bodyPost_ret (v := epV ⟨n, l, 0, ⟨-1, zeros⟩⟩ ⟨⟨some ⟨g1, 0, none⟩, sn, c1⟩, S2⟩) (res1 rfl (is_cell rfl k1 aggEp)) rfl ⟨⟨⟨some ⟨g1, 0, none⟩, sn, c1⟩, S2⟩, rfl, k2.mono B0.out.size (by rw [ep_size]; exact Nat.le_refl _), k3 _ _ (by have := HG.out; omega) B2.out⟩

end Go.Proofs.YtmcflfpckpjphaaGreatDoor.EpS

namespace Go.Proofs.YtmcflfpckpjphaaGreatDoor.AppStep
open Go.RowKit Mem App

theorem bstep_at {ops : Array Oper} {o : Oper} {a : Act} {w : World} {K : Act → World → Prop} {Q : Exit → Act → World → Prop} {E : Prop}
  (hgd : o.guard = none) (s x : Operand) (hop : o.op = .call { callee := .builtin .append, args := #[s, x], argTypes := #[22, 22] })
  (base g n cap : Nat) (l y : List Int) (hs : a.eval s = .slice (some ⟨g, 0, none⟩) n cap) (hn : n = l.length) (hrow : Row w g cap l) (hbg : base ≤ g)
  (ad : Addr) (m c : Nat) (hx : a.eval x = .slice (some ad) m c) (hm : m = y.length) (hrd : Rd w (some ad) y) (hsum : l.length + y.length ≤ 100000000)
  (hK : ∀ g' cap' w', Row w' g' cap' (l ++ y) → base ≤ g' → (g' = g ∨ w.heap.size ≤ g') → w.grownBy w' (some g) → K (a.put o.dst (.slice (some ⟨g', 0, none⟩) (n + m) cap')) w') :
  if Region.wanted o (yielded ops a.tmps) = true then Oper.wp Tryz.prog o a w K Q else E := by
 have hw : Region.wanted o (yielded ops a.tmps) = true := by simp [Region.wanted, hgd]
 rw [if_pos hw]
 obtain ⟨i0, hi, hz0, hz1, hz2⟩ := info_parts info8
 subst hn hm
 have hlt := hrow.lt
 obtain ⟨v', w', hrun, hown, hgr, hiff, hat⟩ := run_append_own_at (P := Tryz.prog) w base 22 o.type 5 i0 (.int .u8 0) 1 1 Tryz.underlying22 hi hz0 hz1 hz2 rfl (by decide) _ _ _ (hrow.owns hbg) ad y.length c (y.map (Value.int .u8)) (by simp) (Rd.cells hrd) (ints_oneCell _ _) (by unfold maxLen; omega) (by omega) (by omega)
 rcases hown.2 with ⟨hv, _⟩ | ⟨g', cap', cur, rfl, hb, hg', _⟩
 ·
  exact absurd (hiff.1 hv).1 (by simp)
 ·
  rw [← List.map_append] at hown
  obtain ⟨r1, r2, _, r4⟩ := Row.of hown
  unfold Oper.wp
  simp [execOp, hop, resolve, invoke, builtin, hs, hx, hrun, Result.andThen]
  refine hK g' cap' w' r1 r2 ?_ hgr
  rcases hat with e | e
  ·
   simp only [Value.ownBlock, Option.some.injEq] at e; exact .inl e
  ·
   simp only [Value.ownBlock, Option.some.injEq] at e; exact .inr (by omega)

theorem bstep_any {ops : Array Oper} {o : Oper} {a : Act} {w : World} {K : Act → World → Prop} {Q : Exit → Act → World → Prop} {E : Prop}
  (hgd : o.guard = none) (s x : Operand) (hop : o.op = .call { callee := .builtin .append, args := #[s, x], argTypes := #[22, 22] })
  (base g n cap : Nat) (l y : List Int) (hs : a.eval s = .slice (some ⟨g, 0, none⟩) n cap) (hn : n = l.length) (hrow : Row w g cap l) (hbg : base ≤ g)
  (ao : Option Addr) (m c : Nat) (hx : a.eval x = .slice ao m c) (hm : m = y.length) (hrd : Rd w ao y) (hnone : ao = none → c = 0) (hsum : l.length + y.length ≤ 100000000)
  (hK : ∀ g' cap' w', Row w' g' cap' (l ++ y) → base ≤ g' → (g' = g ∨ w.heap.size ≤ g') → w.grownBy w' (some g) → K (a.put o.dst (.slice (some ⟨g', 0, none⟩) (n + m) cap')) w') :
  if Region.wanted o (yielded ops a.tmps) = true then Oper.wp Tryz.prog o a w K Q else E := by
 cases ao with
 | some ad => exact bstep_at hgd s x hop base g n cap l y hs hn hrow hbg ad m c hx hm hrd hsum hK
 | none =>
  have hy : y = [] := by
   cases y with
   | nil => rfl
   | cons z r => obtain ⟨_, _, e, _⟩ := hrd 0 (by simp); cases e
  subst hy
  have hc0 := hnone rfl
  have hm0 : m = 0 := hm
  subst hc0 hm0 hn
  have hw : Region.wanted o (yielded ops a.tmps) = true := by simp [Region.wanted, hgd]
  rw [if_pos hw]
  obtain ⟨i0, hi, hz0, hz1, hz2⟩ := info_parts info8
  have hrun := run_append_owned_none (P := Tryz.prog) (w := w) base 22 o.type 5 i0 1 Tryz.underlying22 hi _ _ _ (hrow.owns hbg)
  have hK' : K (a.put o.dst (.slice (some ⟨g, 0, none⟩) l.length cap)) w := hK g cap w (by simpa using hrow) hbg (.inl rfl) (World.grownBy.refl _ _)
  unfold Oper.wp
  simp [execOp, hop, resolve, invoke, builtin, hs, hx, hrun, Result.andThen]
  exact hK'
end Go.Proofs.YtmcflfpckpjphaaGreatDoor.AppStep

namespace Go.Proofs.YtmcflfpckpjphaaGreatDoor.EpC
open Go.RowKit Mem MemI App AppStep Blk Words Zone ZoneI Res WnZ WinP WnC WnK WnG FrZ FrQ SlP EpZ EpL EpP

set_option maxHeartbeats 8000000 in
theorem specCopyEp (S : EpS) (D : EpD) (w : World) (h : EpRd w S D) (hl : EpShort D 4194304) :
  Calls Tryz.prog 79 #[epV D S] w (AnsE D w) := by
 have HR := hid (h)
 have HL := hid (hl)
 obtain ⟨x0, hx0⟩ : ∃ x0, (w.alloc (.cells #[.int .i64 D.n, .slice S.key.a S.key.n S.key.c, .int .i64 D.seq, .int .i64 D.win.top, .slice S.win.bits.a S.win.bits.n S.win.bits.c] 41)).alloc (.cells #[.int .i64 0, .slice none 0 0, .int .i64 0, .int .i64 0, .slice none 0 0] 41) = x0 := ⟨_, rfl⟩
 have HW0 := hid (hx0)
 have B0 : Hid (Below w.heap.size w x0) := by rw [← hx0]; exact ((Below.refl _ _).alloc (Nat.le_refl _) _).alloc (by simp) _
 have KA : Hid (Blk x0 w.heap.size 41 [.int .i64 D.n, .slice S.key.a S.key.n S.key.c, .int .i64 D.seq, .int .i64 D.win.top, .slice S.win.bits.a S.win.bits.n S.win.bits.c]) := by rw [← hx0]; exact (Blk.new w _ _).alloc _
 have KO : Hid (Blk x0 (w.heap.size + 1) 41 [.int .i64 0, .slice none 0 0, .int .i64 0, .int .i64 0, .slice none 0 0]) := by
  have := Blk.new (w.alloc (.cells #[.int .i64 D.n, .slice S.key.a S.key.n S.key.c, .int .i64 D.seq, .int .i64 D.win.top, .slice S.win.bits.a S.win.bits.n S.win.bits.c] 41)) 41 [.int .i64 0, .slice none 0 0, .int .i64 0, .int .i64 0, .slice none 0 0]
  rw [World.size_alloc] at this
  rw [← hx0]; exact this
 have HSZ : x0.heap.size = w.heap.size + 2 := by rw [← hx0]; simp
 clear h hl hx0
 unfold epV
 go_enter Tryz.func79, Tryz.ntmps79
 go_upto_region 1 with fail
 rw [HW0.out]
 obtain ⟨ga, hga⟩ : ∃ ga, w.heap.size = ga := ⟨_, rfl⟩
 obtain ⟨go, hgo⟩ : ∃ go, w.heap.size + 1 = go := ⟨_, rfl⟩
 have HG : Hid (w.heap.size = ga ∧ go = ga + 1 ∧ x0.heap.size = ga + 2) := ⟨hga, by omega, by omega⟩
 have NE : Hid (ga ≠ go) := by show _ ≠ _; omega
 rw [hgo] at KO
 rw [hga] at KA
 rw [hgo, hga]
 clear HW0 hga hgo HSZ
 have bA : Below x0.heap.size x0 (x0.alloc (.cells #[] 5)).drew := ((Below.refl _ _).alloc (Nat.le_refl _) _).drew
 have TA := hid (bA)
 have RA : Hid (Row (x0.alloc (.cells #[] 5)).drew x0.heap.size 0 []) := row_new x0 [] (by simp)
 clear bA
 obtain ⟨dz0, dz1, dz2, dz3, dz4⟩ := cells5 KA.out
 obtain ⟨da0, da1, da2, da3, da4⟩ := cells5 (KA.out.later TA.out)
 obtain ⟨oz0, oz1, oz2, oz3, oz4⟩ := cells5 KO.out
 go_region_held3 (fun w' => w'.cell? ⟨ga, 0, none⟩ = some (.int .i64 D.n) ∧ w'.cell? ⟨ga, 1, none⟩ = some (.slice S.key.a S.key.n S.key.c) ∧ w'.cell? ⟨ga, 2, none⟩ = some (.int .i64 D.seq) ∧ w'.cell? ⟨ga, 3, none⟩ = some (.int .i64 D.win.top) ∧ w'.cell? ⟨ga, 4, none⟩ = some (.slice S.win.bits.a S.win.bits.n S.win.bits.c)) (first | with_reducible exact ⟨e0, e1, e2, e3, e4⟩ | with_reducible exact ⟨d0, d1, d2, d3, d4⟩ | with_reducible exact ⟨da0, da1, da2, da3, da4⟩ | with_reducible exact ⟨dz0, dz1, dz2, dz3, dz4⟩ | with_reducible exact ⟨el0 _ _ _ _ _, el1 _ _ _ _ _, el2 _ _ _ _ _, el3 _ _ _ _ _, el4 _ _ _ _ _⟩ | exact ⟨da0, da1, da2, da3, da4⟩ | exact ⟨dz0, dz1, dz2, dz3, dz4⟩ | go_keep)
  (first
   | (go_at_call 123; refine (specCopy S.win D.win y1 ((HR.out.later (B0.out.trans (T1.out.mono B0.out.size))).win) HL.out.win.bits).mono ?_; rintro e y2 ⟨S2, rfl, o, b⟩; have Ow := hid (o); have Ok2 := hid ((Ok.out.carry (Kept.of_below b y1.heap.size) (.inl (Nat.le_refl _)))); have T2 := hid (T1.out.trans (b.mono T1.out.size)); have L12 : Hid (x0.heap.size ≤ y1.heap.size ∧ y1.heap.size ≤ y2.heap.size) := ⟨T1.out.size, b.size⟩; unfold wnV; have e0 := (KA.out.later T2.out).cell 0 rfl; have e1 := (KA.out.later T2.out).cell 1 rfl; have e2 := (KA.out.later T2.out).cell 2 rfl; have e3 := (KA.out.later T2.out).cell 3 rfl; have e4 := (KA.out.later T2.out).cell 4 rfl; have oe0 := (KO.out.later T2.out).cell 0 rfl; have fe0 := (KO.out.later T2.out).frozen 0; have oe1 := (KO.out.later T2.out).cell 1 rfl; have fe1 := (KO.out.later T2.out).frozen 1; have oe2 := (KO.out.later T2.out).cell 2 rfl; have fe2 := (KO.out.later T2.out).frozen 2; have oe3 := (KO.out.later T2.out).cell 3 rfl; have fe3 := (KO.out.later T2.out).frozen 3; have oe4 := (KO.out.later T2.out).cell 4 rfl; have fe4 := (KO.out.later T2.out).frozen 4; have el0 := fun (v0 v1 v2 v3 v4 : Value) => (ep_other (KA.out.later T2.out) NE.out v0 v1 v2 v3 v4).cell 0 rfl; have el1 := fun (v0 v1 v2 v3 v4 : Value) => (ep_other (KA.out.later T2.out) NE.out v0 v1 v2 v3 v4).cell 1 rfl; have el2 := fun (v0 v1 v2 v3 v4 : Value) => (ep_other (KA.out.later T2.out) NE.out v0 v1 v2 v3 v4).cell 2 rfl; have el3 := fun (v0 v1 v2 v3 v4 : Value) => (ep_other (KA.out.later T2.out) NE.out v0 v1 v2 v3 v4).cell 3 rfl; have el4 := fun (v0 v1 v2 v3 v4 : Value) => (ep_other (KA.out.later T2.out) NE.out v0 v1 v2 v3 v4).cell 4 rfl; clear o b)
   | (refine bstep_any rfl (.tmp 5) (.tmp 7) rfl x0.heap.size x0.heap.size 0 0 [] D.key (by rfl) rfl RA.out (Nat.le_refl _) S.key.a S.key.n S.key.c (by rfl) HR.out.key.len (HR.out.later (B0.out.trans (TA.out.mono B0.out.size))).key.rd HR.out.key.nil (by have := HL.out.key; simp; omega) ?_; intro g1 c1 y1 r1 k1 l1 gr1; have T1 : Hid (Below x0.heap.size x0 y1) := TA.out.grown gr1 TA.out.size (fun k h => by cases h; exact Nat.le_refl _); have Ok : Hid (SOwn y1 x0.heap.size y1.heap.size ⟨some ⟨g1, 0, none⟩, S.key.n, c1⟩ D.key) := SOwn.row r1 HR.out.key.len HR.out.key.bytes k1 r1.lt; have d0 := (KA.out.later T1.out).cell 0 rfl; have d1 := (KA.out.later T1.out).cell 1 rfl; have d2 := (KA.out.later T1.out).cell 2 rfl; have d3 := (KA.out.later T1.out).cell 3 rfl; have d4 := (KA.out.later T1.out).cell 4 rfl; have od0 := (KO.out.later T1.out).cell 0 rfl; have fd0 := (KO.out.later T1.out).frozen 0; have od1 := (KO.out.later T1.out).cell 1 rfl; have fd1 := (KO.out.later T1.out).frozen 1; have od2 := (KO.out.later T1.out).cell 2 rfl; have fd2 := (KO.out.later T1.out).frozen 2; have od3 := (KO.out.later T1.out).cell 3 rfl; have fd3 := (KO.out.later T1.out).frozen 3; have od4 := (KO.out.later T1.out).cell 4 rfl; have fd4 := (KO.out.later T1.out).frozen 4; clear r1 k1 l1 gr1))
 clear dz0 da0 d0 e0 el0 oz0 od0 oe0 fd0 fe0 dz1 da1 d1 e1 el1 oz1 od1 oe1 fd1 fe1 dz2 da2 d2 e2 el2 oz2 od2 oe2 fd2 fe2 dz3 da3 d3 e3 el3 oz3 od3 oe3 fd3 fe3 dz4 da4 d4 e4 el4 oz4 od4 oe4 fd4 fe4
 have KF := ep_stored (D := D) (S := ⟨⟨some ⟨g1, 0, none⟩, S.key.n, c1⟩, S2⟩) (lo := x0.heap.size) (hi := y2.heap.size) (KO.out.later T2.out) ⟨_, _, _, _, Ok2.out, Ow.out, by have := L12.out; omega⟩ (.inl (by have := HG.out; omega))
 obtain ⟨k1, k2, k3⟩ := KF
 have HB : Below w.heap.size w y2 := B0.out.trans (T2.out.mono B0.out.size)
 go_wp2
 exact bodyPost_ret (v := epV D ⟨⟨some ⟨g1, 0, none⟩, S.key.n, c1⟩, S2⟩) (res1 rfl (is_cell rfl k1 aggEp)) rfl ⟨⟨⟨some ⟨g1, 0, none⟩, S.key.n, c1⟩, S2⟩, rfl, k2.mono (by have := HG.out; omega) (by rw [ep_size]; exact Nat.le_refl _), k3 _ _ (by have := HG.out; omega) HB⟩
end Go.Proofs.YtmcflfpckpjphaaGreatDoor.EpC
