/-
  What impl's compress does to eight words behind a pointer, for every block of 64 bytes, where the table of round words holds what the program's text lays into it.
-/
import Derived.Test.YtpenhliaelhnoaaDoorSched
namespace Go.Proofs.YtpenhliaelhnoaaDoor.Comp
open Go.RowKit Go.Proofs.YtpenhliaelhnoaaDoor.Mem Go.Proofs.YtpenhliaelhnoaaDoor.MemI Go.Proofs.YtpenhliaelhnoaaDoor.Blk Go.Proofs.YtpenhliaelhnoaaDoor.App Go.Proofs.YtpenhliaelhnoaaDoor.Get Go.Proofs.YtpenhliaelhnoaaDoor.ShaP Go.Proofs.YtpenhliaelhnoaaDoor.Word Go.Proofs.YtpenhliaelhnoaaDoor.Bits Go.Proofs.YtpenhliaelhnoaaDoor.Sched

/-- The table of round words, block 0. -/
def Tab (w : World) : Prop := 0 < w.heap.size ∧ ∀ i, i < 64 → w.cell? ⟨0, i, none⟩ = some (.int .i64 (kk.getD i 0))
set_option maxRecDepth 100000 in
theorem Tab.below {w w' : World} (h : Tab w) {B : Nat} (hB : 0 < B) (b : Below B w w') : Tab w' :=
  ⟨Nat.lt_of_lt_of_le h.1 b.size, fun i hi => by rw [b.cell hB]; exact h.2 i hi⟩
set_option maxRecDepth 100000 in
theorem Tab.later {w w' : World} (h : Tab w) (b : Below w.heap.size w w') : Tab w' := h.below (show 0 < w.heap.size from h.1) b
set_option maxRecDepth 100000 in
theorem Tab.grown {w w' : World} (h : Tab w) {g : Nat} (hg : 0 < g) (b : w.grownBy w' (some g)) : Tab w' :=
  ⟨Nat.lt_of_lt_of_le h.1 b.size, fun i hi => by rw [World.cell?_of_block (w := w) (b.block 0 h.1 (by simp only [ne_eq, Option.some.injEq]; omega))]; exact h.2 i hi⟩

set_option maxRecDepth 100000 in
/-- One round, as impl reckons it. -/
theorem t_impl (k w : Int) (s : St) (h : s.ok) :
    s.h + bits .xor .i64 (bits .xor .i64 (rot s.e 6) (rot s.e 11)) (rot s.e 25) + bits .xor .i64 (bits .and .i64 s.e s.f) (bits .andNot .i64 s.g s.e) + k + w = tOf k w s := by
  rw [andNot_word s.g s.e h.2.2.2.2.2.2.1 h.2.2.2.2.1]; rfl

set_option maxRecDepth 100000 in
theorem add8 (h l : List Int) (k : Nat) (hk : k < 8) (hh : h.length = 8) :
    (((List.range k).map (plus h l) ++ h.drop k).set k ((h.getD k 0 + l.getD k 0) % 4294967296)) = (List.range (k + 1)).map (plus h l) ++ h.drop (k + 1) := by
  rw [List.set_append, if_neg (by simp), List.length_map, List.length_range, Nat.sub_self, List.drop_eq_getElem_cons (by omega), List.set_cons_zero, List.range_succ, List.map_append]
  simp [plus]
set_option maxRecDepth 100000 in
theorem part8 (h l : List Int) (k : Nat) : ((List.range k).map (plus h l) ++ h.drop k).getD k 0 = h.getD k 0 := by
  simp [List.getD, List.getElem?_append]

set_option maxRecDepth 100000 in
theorem index8 (k : Nat) (hk : k < 8) (A B C D E F G H : Int) (w : World) :
    (Instr.index 77 (.agg #[.int .i64 A, .int .i64 B, .int .i64 C, .int .i64 D, .int .i64 E, .int .i64 F, .int .i64 G, .int .i64 H]) (.int .i64 (k : Int))).run Tryd.prog w = .ok (.int .i64 ((St.mk A B C D E F G H).list.getD k 0)) w := by
  rcases (show k = 0 ∨ k = 1 ∨ k = 2 ∨ k = 3 ∨ k = 4 ∨ k = 5 ∨ k = 6 ∨ k = 7 by omega) with rfl | rfl | rfl | rfl | rfl | rfl | rfl | rfl <;> kernel_rfl

set_option maxRecDepth 100000 in
set_option maxHeartbeats 2000000 in
theorem compress (g : Nat) (t : TypeId) (h : List Int) (r : List Value) (a : Option Addr) (cap : Nat) (b : List Int) (w : World)
    (hB : Blk w g t (h.map (Value.int .i64) ++ r)) (hrl : r.length ≤ 10) (hh : h.length = 8) (hw : Wds h) (hT : Tab w) (hl : b.length = 64) (hr : Rd w a b) (hb : Bytes b) (hc : 64 ≤ cap) :
    Calls Tryd.prog 81 #[.pointer (some ⟨g, 0, none⟩), .slice a 64 cap] w fun e w' =>
      e = .returned (.tuple #[]) ∧ Blk w' g t ((comp h b).map (Value.int .i64) ++ r) ∧ w.grownBy w' (some g) := by
  have HB : Hid (Blk w g t (h.map (Value.int .i64) ++ r)) := hB
  have HR : Hid (Rd w a b) := hr
  have HBb : Hid (Bytes b) := hb
  have HL : Hid (b.length = 64) := hl
  have HT : Hid (Tab w) := hT
  have HH : Hid (h.length = 8) := hh
  have HW : Hid (Wds h) := hw
  obtain ⟨zv, zs⟩ := zero_of_info info65
  obtain ⟨cs, hcs⟩ : ∃ cs, cs = ((sched b).map (Value.int .i64)).toArray := ⟨_, rfl⟩
  have HCS : Hid (((sched b).map (Value.int .i64)).toArray = cs) := hcs.symm
  have hsz : cs.size = 64 := by rw [hcs]; simp [sched_length]
  have HZS : Hid ((Tryd.prog.info? 85).map (·.size) = some cs.size) := by rw [hsz]; exact zs
  have HON : Hid (cs.all (·.oneCell') = true) := by show _ = _; rw [hcs]; simp [Value.oneCell']
  have HZE : Hid ((z64.map (Value.int .i64)).toArray.size = cs.size) := by show _ = _; rw [hsz]; simp
  obtain ⟨W, hWs⟩ : ∃ W, W = sched b := ⟨_, rfl⟩
  have HWs : Hid (W = sched b) := hWs
  have HWw : Hid (Wds W) := by rw [hWs]; exact sched_wds b hb
  have HWl : Hid (W.length = 64) := by rw [hWs]; exact sched_length b
  have HCW : Hid (cs = (W.map (Value.int .i64)).toArray) := by rw [hWs]; exact hcs
  clear hB hr hb hl hT hh hw hcs hsz zs hWs
  go_enter Tryd.func81, Tryd.ntmps81
  go_wp2_with fail
  refine (implSchedule64 a cap b w HL.out HR.out HBb.out hc).mono ?_
  rintro e w1 ⟨rfl, b1⟩
  rw [HCS.out]
  have HA : Hid (Blk (w1.alloc (.cells (z64.map (Value.int .i64)).toArray 85)) w1.heap.size 85 (z64.map (Value.int .i64))) := Blk.new _ _ _
  obtain ⟨w2, hw2⟩ : ∃ w2, w2 = w1.alloc (.cells cs 85) := ⟨_, rfl⟩
  obtain ⟨p, hp⟩ : ∃ p, p = w1.heap.size := ⟨_, rfl⟩
  have HB2 : Hid (Below w.heap.size w w2) := by rw [hw2]; exact b1.alloc b1.size _
  have HC2 : Hid (Blk w2 p 85 (W.map (Value.int .i64) ++ [])) := by
    show Blk _ _ _ _
    rw [hw2, HCW.out, hp, List.append_nil]; exact Blk.new _ _ _
  have HX2 : Hid (Blk w2 g t (h.map (Value.int .i64) ++ r)) := HB.out.later HB2.out
  have HT2 : Hid (Tab w2) := HT.out.later HB2.out
  have HP : Hid (w1.heap.size = p) := hp.symm
  have HW2 : Hid (w1.alloc (.cells cs 85) = w2) := hw2.symm
  clear b1 hp hw2
  go_wp2_with (first | (refine wpList_store_row rfl 85 _ _ rfl w1.heap.size cs rfl rfl 85 (z64.map (Value.int .i64)).toArray HA.out HZS.out HZE.out HON.out ?_; rw [World.setRow_alloc_new, HP.out, HW2.out]))
  clear HA zv
  have HCI : Hid (∀ k, k < 8 → w2.cell? ⟨g, k, none⟩ = some (.int .i64 (h.getD k 0))) := fun k hk => HX2.out.int k (by rw [HH.out]; exact hk)
  have c0 := HCI.out 0 (by omega)
  have c1 := HCI.out 1 (by omega)
  have c2 := HCI.out 2 (by omega)
  have c3 := HCI.out 3 (by omega)
  have c4 := HCI.out 4 (by omega)
  have c5 := HCI.out 5 (by omega)
  have c6 := HCI.out 6 (by omega)
  have c7 := HCI.out 7 (by omega)
  obtain ⟨s, hs⟩ : ∃ s, s = stOf h := ⟨_, rfl⟩
  have HS : Hid (s = stOf h) := hs
  have HSok : Hid s.ok := by rw [hs]; exact stOf_ok HW.out
  have e0 : h.getD 0 0 = s.a := by rw [hs]; rfl
  have e1 : h.getD 1 0 = s.b := by rw [hs]; rfl
  have e2 : h.getD 2 0 = s.c := by rw [hs]; rfl
  have e3 : h.getD 3 0 = s.d := by rw [hs]; rfl
  have e4 : h.getD 4 0 = s.e := by rw [hs]; rfl
  have e5 : h.getD 5 0 = s.f := by rw [hs]; rfl
  have e6 : h.getD 6 0 = s.g := by rw [hs]; rfl
  have e7 : h.getD 7 0 = s.h := by rw [hs]; rfl
  rw [e0] at c0
  rw [e1] at c1
  rw [e2] at c2
  rw [e3] at c3
  rw [e4] at c4
  rw [e5] at c5
  rw [e6] at c6
  rw [e7] at c7
  clear e0 e1 e2 e3 e4 e5 e6 e7 hs
  go_quiet (fail)
  clear c0 c1 c2 c3 c4 c5 c6 c7
  go_wp2
  go_loopw [5, 6, 7, 8, 9, 10, 11, 12, 52] (fun va vb vc vd ve vf vg vh i wr => ∃ k m : Nat, k ≤ 64 ∧ i = .int .i64 k ∧ va = .int .i64 (rounds W s k).a ∧ vb = .int .i64 (rounds W s k).b ∧ vc = .int .i64 (rounds W s k).c ∧ vd = .int .i64 (rounds W s k).d ∧ ve = .int .i64 (rounds W s k).e ∧ vf = .int .i64 (rounds W s k).f ∧ vg = .int .i64 (rounds W s k).g ∧ vh = .int .i64 (rounds W s k).h ∧ wr = w2.drewN m)
    (fun _ _ _ _ _ _ _ _ i _ => 64 - (intOf i).toNat)
  case atStart => exact ⟨0, _, Nat.zero_le _, rfl, rfl, rfl, rfl, rfl, rfl, rfl, rfl, rfl, rfl⟩
  case round =>
    obtain ⟨k, m, hk, rfl, rfl, rfl, rfl, rfl, rfl, rfl, rfl, rfl, rfl⟩ := hrel
    by_cases hlt : k < 64
    · have ck := HT2.out.2 k hlt
      have cw := HC2.out.int k (by rw [HWl.out]; exact hlt)
      have hkw := kk_wds.at k
      have hww := HWw.out.at k
      have hok := rounds_ok W s k HSok.out
      have HN : Hid (rounds W s (k + 1) = rnd (kk.getD k 0) (W.getD k 0) (rounds W s k)) := (rfl : rounds W s (k + 1) = _)
      generalize kk.getD k 0 = x1 at *
      generalize W.getD k 0 = x2 at *
      generalize rounds W s k = S at *
      obtain ⟨A, B, C, D, E, F, G, H⟩ := S
      have ht := t_impl x1 x2 ⟨A, B, C, D, E, F, G, H⟩ hok
      obtain ⟨⟨a1, a2⟩, ⟨b1, b2⟩, ⟨c1, c2⟩, ⟨d1, d2⟩, ⟨e1, e2⟩, ⟨f1, f2⟩, ⟨g1, g2⟩, ⟨h1, h2⟩⟩ := hok
      obtain ⟨x1a, x1b⟩ := hkw
      obtain ⟨x2a, x2b⟩ := hww
      dsimp only at ht a1 a2 b1 b2 c1 c2 d1 d2 e1 e2 f1 f2 g1 g2 h1 h2 ⊢
      have q1 : Wd (bits .xor .i64 (bits .xor .i64 (rot E 6) (rot E 11)) (rot E 25)) := wd_big1 E
      have q2 : Wd (bits .xor .i64 (bits .and .i64 E F) (bits .andNot .i64 G E)) := by
        rw [andNot_word G E ⟨g1, g2⟩ ⟨e1, e2⟩]; exact wd_cho ⟨e1, e2⟩ ⟨f1, f2⟩ ⟨g1, g2⟩
      have q3 : Wd (bits .xor .i64 (bits .xor .i64 (rot A 2) (rot A 13)) (rot A 22)) := wd_big0 A
      have q4 : Wd (bits .xor .i64 (bits .xor .i64 (bits .and .i64 A B) (bits .and .i64 A C)) (bits .and .i64 B C)) := wd_maj ⟨a1, a2⟩ ⟨b1, b2⟩ ⟨c1, c2⟩
      have HU : Hid (uOf ⟨A, B, C, D, E, F, G, H⟩ = bits .xor .i64 (bits .xor .i64 (rot A 2) (rot A 13)) (rot A 22) + bits .xor .i64 (bits .xor .i64 (bits .and .i64 A B) (bits .and .i64 A C)) (bits .and .i64 B C)) := (rfl : uOf ⟨A, B, C, D, E, F, G, H⟩ = _)
      obtain ⟨⟨q1a, q1b⟩, ⟨q2a, q2b⟩, ⟨q3a, q3b⟩, ⟨q4a, q4b⟩⟩ := And.intro q1 (And.intro q2 (And.intro q3 q4))
      have HTt : Hid (tOf x1 x2 ⟨A, B, C, D, E, F, G, H⟩ = H + bits .xor .i64 (bits .xor .i64 (rot E 6) (rot E 11)) (rot E 25) + bits .xor .i64 (bits .and .i64 E F) (bits .andNot .i64 G E) + x1 + x2) := ht.symm
      clear ht q1 q2 q3 q4
      obtain ⟨wq, hwq⟩ : ∃ wq, w2.drewN m = wq := ⟨_, rfl⟩
      have ck : wq.cell? ⟨0, k, none⟩ = some (.int .i64 x1) := by rw [← hwq]; exact ck
      have cw : wq.cell? ⟨p, k, none⟩ = some (.int .i64 x2) := by rw [← hwq]; exact cw
      rw [hwq]
      have HWQ : Hid (w2.drewN m = wq) := hwq
      clear hwq
      go_wp2_with fail
      go_quiet (first | (go_at_call 88; refine Calls.quiet_of (implRot _ _ _)))
      go_wp2_with fail
      refine (implRotD _ _ wq _).mono ?_
      rintro e _ ⟨rfl, m1, rfl⟩
      go_wp2_with fail
      refine (implRotD _ _ _ _).mono ?_
      rintro e _ ⟨rfl, m2, rfl⟩
      go_wp2_with fail
      refine (implRotD _ _ _ _).mono ?_
      rintro e _ ⟨rfl, m3, rfl⟩
      go_wp2_with fail
      refine (implAdd _ _ _).mono ?_
      rintro e _ ⟨rfl, rfl⟩
      go_wp2_with fail
      refine (implAdd _ _ _).mono ?_
      rintro e _ ⟨rfl, rfl⟩
      go_wp2
      go_roundw
      case rel =>
        refine ⟨k + 1, _, by omega, by go_num, ?_, ?_, ?_, ?_, ?_, ?_, ?_, ?_, by rw [← HWQ.out]; exact World.drewN_drewN _ _ _⟩
        all_goals rw [HN.out]
        · show _ = Value.int .i64 ((tOf _ _ _ + uOf _) % 4294967296)
          rw [HTt.out, HU.out]
        · rfl
        · rfl
        · rfl
        · show _ = Value.int .i64 ((D + tOf _ _ _) % 4294967296)
          rw [HTt.out]
        · rfl
        · rfl
        · rfl
      case measure => simp [intOf]; omega
    · obtain rfl : k = 64 := by omega
      obtain ⟨S, hS⟩ : ∃ S, rounds W s 64 = S := ⟨_, rfl⟩
      have HSS : Hid (rounds W s 64 = S) := hS
      have HSK : Hid S.ok := by rw [← hS]; exact rounds_ok W s 64 HSok.out
      rw [hS]
      clear hS
      obtain ⟨A, B, C, D, E, F, G, H⟩ := S
      obtain ⟨l, hl⟩ : ∃ l, l = (St.mk A B C D E F G H).list := ⟨_, rfl⟩
      have HLL : Hid (l = (St.mk A B C D E F G H).list) := hl
      have HG0 : Hid (w.grownBy (w2.drewN m) (some g)) := ⟨HB2.out.os, HB2.out.tape, HB2.out.output, HB2.out.size, fun i hi _ => HB2.out.block i hi⟩
      have HX0 : Hid (Blk (w2.drewN m) g t (((List.range 0).map (plus h l) ++ h.drop 0).map (Value.int .i64) ++ r)) := HX2.out
      dsimp only
      clear hl
      go_wp2
      go_loopw [123] (fun i wr => ∃ k : Nat, k ≤ 8 ∧ i = .int .i64 k ∧ Blk wr g t (((List.range k).map (plus h l) ++ h.drop k).map (Value.int .i64) ++ r) ∧ w.grownBy wr (some g))
        (fun i _ => 8 - (intOf i).toNat)
      case atStart => exact ⟨0, Nat.zero_le _, rfl, HX0.out, HG0.out⟩
      case round =>
        obtain ⟨k, hk, rfl, hX, hG⟩ := hrel
        clear HX0 HG0
        by_cases hlt : k < 8
        · have hll : ((List.range k).map (plus h l) ++ h.drop k).length = 8 := by rw [List.length_append, List.length_map, List.length_range, List.length_drop, HH.out]; omega
          have hc0 := hX.int k (by rw [hll]; exact hlt)
          rw [part8 h l k] at hc0
          have hfr := hX.frozen k
          have hag := index8 k hlt A B C D E F G H
          rw [← HLL.out] at hag
          have N1 : Hid (∀ q, Blk ((wr.drewN q).setCell ⟨g, k, none⟩ (.int .i64 ((h.getD k 0 + l.getD k 0) % 4294967296))) g t (((List.range (k + 1)).map (plus h l) ++ h.drop (k + 1)).map (Value.int .i64) ++ r)) := by
            intro q
            have := (hX.drewN q).set k (.int .i64 ((h.getD k 0 + l.getD k 0) % 4294967296)) (by rw [List.length_append, List.length_map, hll]; unfold maxLen; omega)
            rw [set_ints _ _ _ _ (by rw [hll]; exact hlt), add8 h l k hlt HH.out] at this
            exact this
          have N2 : Hid (∀ q, w.grownBy ((wr.drewN q).setCell ⟨g, k, none⟩ (.int .i64 ((h.getD k 0 + l.getD k 0) % 4294967296))) (some g)) := by
            intro q
            have := ((hX.drewN q).owns (by rw [List.length_append, List.length_map, hll]; unfold maxLen; omega)).stored k (.int .i64 ((h.getD k 0 + l.getD k 0) % 4294967296))
            exact grown_trans (b := wr.drewN q) ⟨hG.os, hG.tape, hG.output, hG.size, hG.block⟩ this.2
          have hkI : (k : Int) < 8 := by omega
          clear hX hG hll
          generalize h.getD k 0 = z1 at *
          generalize l.getD k 0 = z2 at *
          go_wp2
          go_region_with (go_at_call 89; refine (implAdd _ _ _).mono ?_; rintro e w' ⟨rfl, rfl⟩)
          all_goals
            go_wp2
            refine ⟨?_, ?measure⟩
            (repeat apply Exists.intro)
            refine ⟨?rel, rfl⟩
            case rel => exact ⟨k + 1, by omega, by go_num, N1.out 1, N2.out 1⟩
            case measure => simp [intOf]; omega
        · obtain rfl : k = 8 := by omega
          have HE : Hid (comp h b = (List.range 8).map (plus h l) ++ h.drop 8) := by
            show _ = _
            rw [List.drop_of_length_le (by rw [HH.out]; exact Nat.le_refl _), List.append_nil, HLL.out, ← HSS.out, HWs.out, HS.out]; rfl
          have HX : Hid (Blk wr g t (((List.range 8).map (plus h l) ++ h.drop 8).map (Value.int .i64) ++ r)) := hX
          have HG : Hid (w.grownBy wr (some g)) := hG
          clear hX hG
          go_wp2
          go_end0
          exact ⟨rfl, by rw [HE.out]; exact HX.out, HG.out⟩
end Go.Proofs.YtpenhliaelhnoaaDoor.Comp
