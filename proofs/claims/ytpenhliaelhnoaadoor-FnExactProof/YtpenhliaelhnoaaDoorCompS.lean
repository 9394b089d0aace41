/-
  What spec's Compress answers at every slice of ints and every slice of bytes of at most 4,194,304 each: the eight words behind the block, or the ints as they came, in new memory.
-/
import Derived.Test.YtpenhliaelhnoaaDoorSchedS
import Derived.Test.YtpenhliaelhnoaaDoorWords
import Derived.Test.YtpenhliaelhnoaaDoorComp
namespace Go.Proofs.YtpenhliaelhnoaaDoor.CompS
open Go.RowKit Go.Proofs.YtpenhliaelhnoaaDoor.Mem Go.Proofs.YtpenhliaelhnoaaDoor.MemI Go.Proofs.YtpenhliaelhnoaaDoor.Blk Go.Proofs.YtpenhliaelhnoaaDoor.App Go.Proofs.YtpenhliaelhnoaaDoor.Get Go.Proofs.YtpenhliaelhnoaaDoor.ShaP Go.Proofs.YtpenhliaelhnoaaDoor.Word Go.Proofs.YtpenhliaelhnoaaDoor.Bits Go.Proofs.YtpenhliaelhnoaaDoor.Sched Go.Proofs.YtpenhliaelhnoaaDoor.Sched2 Go.Proofs.YtpenhliaelhnoaaDoor.SchedS Go.Proofs.YtpenhliaelhnoaaDoor.Words Go.Proofs.YtpenhliaelhnoaaDoor.Comp

def compI (h b : List Int) : List Int := if okw h = true ∧ b.length = 64 then comp h b else h
set_option maxRecDepth 100000 in
theorem compI_length (h b : List Int) : (compI h b).length = h.length := by
  unfold compI; split
  · rename_i e; rw [comp_length, ((okw_iff h).1 e.1).1]
  · rfl

set_option maxRecDepth 100000 in
theorem two_masks (t u : Int) : bits .and .i64 (wrap64 (bits .and .i64 t 4294967295 + bits .and .i64 u 4294967295)) 4294967295 = (t + u) % 4294967296 := by
  rw [mask32 t, mask32 u, IntWalk.wrap64_in _ (by omega), mask32]; omega
set_option maxRecDepth 100000 in
theorem one_mask (d t : Int) (h : Wd d) : bits .and .i64 (wrap64 (d + bits .and .i64 t 4294967295)) 4294967295 = (d + t) % 4294967296 := by
  have h1 := h.1
  have h2 := h.2
  rw [mask32 t, IntWalk.wrap64_in _ (by omega), mask32]; omega

set_option maxRecDepth 100000 in
set_option maxHeartbeats 4000000 in
theorem specCompress (a0 : Option Addr) (n0 c0 : Nat) (h : List Int) (a : Option Addr) (n cap : Nat) (b : List Int) (w : World)
    (hn0 : n0 = h.length) (hh : IRd w a0 h) (na : a0 = none → c0 = 0) (hl0 : n0 ≤ 4194304) (hn : n = b.length) (hr : Rd w a b) (hb : Bytes b) (hl : n ≤ 4194304) :
    Calls Tryd.prog 79 #[.slice a0 n0 c0, .slice a n cap] w fun e w' =>
      ∃ g m c, e = .returned (.slice (some ⟨g, 0, none⟩) m c) ∧ m = (compI h b).length ∧ w.heap.size ≤ g ∧ IRow w' g c (compI h b) ∧ Below w.heap.size w w' := by
  have HH : Hid (IRd w a0 h) := hh
  have HN0 : Hid (n0 = h.length) := hn0
  have HN : Hid (n = b.length) := hn
  have HR : Hid (Rd w a b) := hr
  have HB : Hid (Bytes b) := hb
  have HCL : Hid ((compI h b).length = h.length) := compI_length h b
  have HA0 : Hid (Below w.heap.size w (w.alloc (.cells #[] 3))) := (Below.refl _ _).alloc (Nat.le_refl _) _
  have HR0 : Hid (IRow (w.alloc (.cells #[] 3)) w.heap.size 0 []) := irow_new w [] (by simp)
  clear hh hn0 hn hr hb
  by_cases hk : okw h = true
  · by_cases h64 : n = 64
    · subst h64
      have h8 : h.length = 8 := ((okw_iff h).1 hk).1
      have HW : Hid (Wds h) := ((okw_iff h).1 hk).2
      have HC : Hid (compI h b = comp h b) := by show _ = _; unfold compI; rw [if_pos ⟨hk, HN.out.symm⟩]
      obtain rfl : n0 = 8 := by rw [HN0.out, h8]
      obtain ⟨B, O, rfl, hBl, _⟩ := HH.out 0 (by omega)
      have HBl : Hid (B < w.heap.size) := hBl
      have HCI : Hid (∀ k, k < 8 → w.cell? ⟨B, O + k, none⟩ = some (.int .i64 (h.getD k 0))) := by
        intro k hk
        obtain ⟨B', O', e, _, hc⟩ := HH.out k (by omega)
        simp only [Option.some.injEq, Addr.mk.injEq, and_true] at e
        obtain ⟨rfl, rfl⟩ := e
        exact hc
      have HSI : Hid (schedI b = sched b) := by show _ = _; unfold schedI; rw [if_pos HN.out.symm]
      have H8 : Hid (h.length = 8) := h8
      clear h8 hBl
      go_enter Tryd.func79, Tryd.ntmps79
      go_wp2_with (at_builtin; refine iwpList_app _ rfl (.tmp 21) (.tmp 22) rfl w.heap.size w.heap.size 0 0 [] h rfl rfl HR0.out (Nat.le_refl _) (some ⟨B, O, none⟩) 8 c0 rfl H8.out.symm (HH.out.later HA0.out (Nat.le_refl _)) na (by rw [H8.out]; simp) ?_; intro g1 c1 w1 r1 b1 l1 gr1; have R1 : Hid (IRow w1 g1 c1 h) := (List.nil_append h) ▸ r1; have B1 : Hid (Below w.heap.size w w1) := HA0.out.grown gr1 HA0.out.size (fun k h => by cases h; exact Nat.le_refl _); clear r1 gr1 l1)
      refine (l2Words _ 8 c0 h w1 H8.out.symm (HH.out.later B1.out (Nat.le_refl _)) (by omega)).mono ?_
      rintro e _ ⟨rfl, rfl⟩
      go_wp2_with fail
      refine (l2K w1).mono ?_
      rintro e w2 ⟨rfl, r2, b2⟩
      have R2 : Hid (IRow w2 w1.heap.size 64 kk) := r2
      have B2 : Hid (Below w1.heap.size w1 w2) := b2
      clear r2 b2
      go_wp2_with fail
      have HB2 : Hid (Below w.heap.size w w2) := B1.out.trans (B2.out.mono B1.out.size)
      refine (specSchedule a 64 cap b w2 HN.out (HR.out.later HB2.out (Nat.le_refl _)) HB.out (by omega)).mono ?_
      rintro e w3 ⟨g3, m3, c3, rfl, e3, k3, r3, b3⟩
      obtain rfl : m3 = 64 := by rw [e3, HSI.out, sched_length]
      obtain ⟨W, hWs⟩ : ∃ W, W = sched b := ⟨_, rfl⟩
      have HWs : Hid (W = sched b) := hWs
      have HWw : Hid (Wds W) := by rw [hWs]; exact sched_wds b HB.out
      have HWl : Hid (W.length = 64) := by rw [hWs]; exact sched_length b
      have R3 : Hid (IRow w3 g3 c3 W) := by rw [hWs, ← HSI.out]; exact r3
      have B3 : Hid (Below w2.heap.size w2 w3) := b3
      have HB3 : Hid (Below w.heap.size w w3) := HB2.out.trans (B3.out.mono HB2.out.size)
      have RO : Hid (IRow w3 g1 c1 h) := (R1.out.later B2.out).later B3.out
      have RK : Hid (IRow w3 w1.heap.size 64 kk) := R2.out.later B3.out
      clear r3 b3 hWs e3 k3 R1 R2
      obtain ⟨gk, hgk⟩ : ∃ gk, w1.heap.size = gk := ⟨_, rfl⟩
      rw [hgk] at RK ⊢
      clear hgk B2 B3 HB2 B1
      obtain ⟨s, hs⟩ : ∃ s, s = stOf h := ⟨_, rfl⟩
      have HS : Hid (s = stOf h) := hs
      have HSok : Hid s.ok := by rw [hs]; exact stOf_ok HW.out
      have HC3 : Hid (∀ k, k < 8 → w3.cell? ⟨B, O + k, none⟩ = some (.int .i64 (h.getD k 0))) := fun k hk => by rw [HB3.out.cell HBl.out]; exact HCI.out k hk
      have c0' := HC3.out 0 (by omega)
      have c1' := HC3.out 1 (by omega)
      have c2' := HC3.out 2 (by omega)
      have c3' := HC3.out 3 (by omega)
      have c4' := HC3.out 4 (by omega)
      have c5' := HC3.out 5 (by omega)
      have c6' := HC3.out 6 (by omega)
      have c7' := HC3.out 7 (by omega)
      rw [show h.getD 0 0 = s.a by rw [hs]; rfl] at c0'
      rw [show h.getD 1 0 = s.b by rw [hs]; rfl] at c1'
      rw [show h.getD 2 0 = s.c by rw [hs]; rfl] at c2'
      rw [show h.getD 3 0 = s.d by rw [hs]; rfl] at c3'
      rw [show h.getD 4 0 = s.e by rw [hs]; rfl] at c4'
      rw [show h.getD 5 0 = s.f by rw [hs]; rfl] at c5'
      rw [show h.getD 6 0 = s.g by rw [hs]; rfl] at c6'
      rw [show h.getD 7 0 = s.h by rw [hs]; rfl] at c7'
      rw [Nat.add_zero] at c0'
      clear hs
      go_wp2_with fail
      go_quiet (fail)
      clear c0' c1' c2' c3' c4' c5' c6' c7'
      go_wp2
      go_loopw [8, 9, 10, 11, 12, 13, 14, 15, 16] (fun va vb vc vd ve vf vg vh i wr => ∃ k m : Nat, k ≤ 64 ∧ i = .int .i64 k ∧ va = .int .i64 (rounds W s k).a ∧ vb = .int .i64 (rounds W s k).b ∧ vc = .int .i64 (rounds W s k).c ∧ vd = .int .i64 (rounds W s k).d ∧ ve = .int .i64 (rounds W s k).e ∧ vf = .int .i64 (rounds W s k).f ∧ vg = .int .i64 (rounds W s k).g ∧ vh = .int .i64 (rounds W s k).h ∧ wr = w3.drewN m)
        (fun _ _ _ _ _ _ _ _ i _ => 64 - (intOf i).toNat)
      case atStart => exact ⟨0, _, Nat.zero_le _, rfl, rfl, rfl, rfl, rfl, rfl, rfl, rfl, rfl, rfl⟩
      case round =>
        obtain ⟨k, m, hk2, rfl, rfl, rfl, rfl, rfl, rfl, rfl, rfl, rfl, rfl⟩ := hrel
        by_cases hlt : k < 64
        · have ck := RK.out.cell k (by rw [kk_length]; exact hlt)
          have cw := R3.out.cell k (by rw [HWl.out]; exact hlt)
          have hkw := kk_wds.at k
          have hww := HWw.out.at k
          have hok := rounds_ok W s k HSok.out
          have HNx : Hid (rounds W s (k + 1) = rnd (kk.getD k 0) (W.getD k 0) (rounds W s k)) := (rfl : rounds W s (k + 1) = _)
          generalize kk.getD k 0 = x1 at *
          generalize W.getD k 0 = x2 at *
          generalize rounds W s k = S at *
          obtain ⟨A, B', C, D, E, F, G, H⟩ := S
          obtain ⟨⟨a1, a2⟩, ⟨b1', b2'⟩, ⟨c1'', c2''⟩, ⟨d1, d2⟩, ⟨e1, e2⟩, ⟨f1, f2⟩, ⟨g1', g2'⟩, ⟨h1, h2⟩⟩ := hok
          obtain ⟨x1a, x1b⟩ := hkw
          obtain ⟨x2a, x2b⟩ := hww
          dsimp only at a1 a2 b1' b2' c1'' c2'' d1 d2 e1 e2 f1 f2 g1' g2' h1 h2 ⊢
          have q1 : Wd (bits .xor .i64 (bits .xor .i64 (rot E 6) (rot E 11)) (rot E 25)) := wd_big1 E
          have q2 : Wd (bits .xor .i64 (bits .and .i64 E F) (bits .and .i64 (bits .xor .i64 E 4294967295) G)) := wd_cho ⟨e1, e2⟩ ⟨f1, f2⟩ ⟨g1', g2'⟩
          have q3 : Wd (bits .xor .i64 (bits .xor .i64 (rot A 2) (rot A 13)) (rot A 22)) := wd_big0 A
          have q4 : Wd (bits .xor .i64 (bits .xor .i64 (bits .and .i64 A B') (bits .and .i64 A C)) (bits .and .i64 B' C)) := wd_maj ⟨a1, a2⟩ ⟨b1', b2'⟩ ⟨c1'', c2''⟩
          have HU : Hid (uOf ⟨A, B', C, D, E, F, G, H⟩ = bits .xor .i64 (bits .xor .i64 (rot A 2) (rot A 13)) (rot A 22) + bits .xor .i64 (bits .xor .i64 (bits .and .i64 A B') (bits .and .i64 A C)) (bits .and .i64 B' C)) := (rfl : uOf ⟨A, B', C, D, E, F, G, H⟩ = _)
          have HTt : Hid (tOf x1 x2 ⟨A, B', C, D, E, F, G, H⟩ = H + bits .xor .i64 (bits .xor .i64 (rot E 6) (rot E 11)) (rot E 25) + bits .xor .i64 (bits .and .i64 E F) (bits .and .i64 (bits .xor .i64 E 4294967295) G) + x1 + x2) := (rfl : tOf x1 x2 ⟨A, B', C, D, E, F, G, H⟩ = _)
          obtain ⟨⟨q1a, q1b⟩, ⟨q2a, q2b⟩, ⟨q3a, q3b⟩, ⟨q4a, q4b⟩⟩ := And.intro q1 (And.intro q2 (And.intro q3 q4))
          clear q1 q2 q3 q4
          obtain ⟨wq, hwq⟩ : ∃ wq, w3.drewN m = wq := ⟨_, rfl⟩
          have ck : wq.cell? ⟨gk, k, none⟩ = some (.int .i64 x1) := by rw [← hwq]; exact ck
          have cw : wq.cell? ⟨g3, k, none⟩ = some (.int .i64 x2) := by rw [← hwq]; exact cw
          rw [hwq]
          have HWQ : Hid (w3.drewN m = wq) := hwq
          clear hwq
          go_wp2_with fail
          go_quiet (first | (go_at_call 86; refine Calls.quiet_of (specRot _ _ _)))
          go_wp2_with fail
          refine (specRotD _ _ wq _).mono ?_
          rintro e _ ⟨rfl, m1, rfl⟩
          go_wp2_with fail
          refine (specRotD _ _ _ _).mono ?_
          rintro e _ ⟨rfl, m2, rfl⟩
          go_wp2_with fail
          refine (specRotD _ _ _ _).mono ?_
          rintro e _ ⟨rfl, m3, rfl⟩
          go_wp2
          go_roundw
          case rel =>
            refine ⟨k + 1, _, by omega, by go_num, ?_, ?_, ?_, ?_, ?_, ?_, ?_, ?_, by rw [← HWQ.out]; exact World.drewN_drewN _ _ _⟩
            all_goals rw [HNx.out]
            · show _ = Value.int .i64 ((tOf _ _ _ + uOf _) % 4294967296)
              rw [HTt.out, HU.out, ← two_masks]
            · rfl
            · rfl
            · rfl
            · show _ = Value.int .i64 ((D + tOf _ _ _) % 4294967296)
              rw [HTt.out, ← one_mask D _ ⟨d1, d2⟩]
            · rfl
            · rfl
            · rfl
          case measure => simp [intOf]; omega
        · obtain rfl : k = 64 := by omega
          obtain ⟨S, hS⟩ : ∃ S, rounds W s 64 = S := ⟨_, rfl⟩
          have HSS : Hid (rounds W s 64 = S) := hS
          have HSK : Hid S.ok := by rw [← hS]; exact rounds_ok W s 64 HSok.out
          rw [hS]
          clear hS
          obtain ⟨A, B', C, D, E, F, G, H⟩ := S
          obtain ⟨l, hl'⟩ : ∃ l, l = (St.mk A B' C D E F G H).list := ⟨_, rfl⟩
          have HLL : Hid (l = (St.mk A B' C D E F G H).list) := hl'
          have HLW : Hid (Wds l) := by
            rw [hl']
            obtain ⟨p1, p2, p3, p4, p5, p6, p7, p8⟩ := HSK.out
            intro z hz
            simp only [St.list, List.mem_cons, List.not_mem_nil, or_false] at hz
            rcases hz with rfl | rfl | rfl | rfl | rfl | rfl | rfl | rfl <;> assumption
          have HL8 : Hid (l.length = 8) := by rw [hl']; rfl
          obtain ⟨w4, hw4⟩ : ∃ w4, (w3.drewN m).alloc (.cells #[.int .i64 A, .int .i64 B', .int .i64 C, .int .i64 D, .int .i64 E, .int .i64 F, .int .i64 G, .int .i64 H] 3) = w4 := ⟨_, rfl⟩
          have HW4 : Hid ((w3.drewN m).alloc (.cells #[.int .i64 A, .int .i64 B', .int .i64 C, .int .i64 D, .int .i64 E, .int .i64 F, .int .i64 G, .int .i64 H] 3) = w4) := hw4
          obtain ⟨gl, hgl⟩ : ∃ gl, w3.heap.size = gl := ⟨_, rfl⟩
          have HGL : Hid (w3.heap.size = gl) := hgl
          have RL : Hid (IRow w4 gl 8 l) := by
            rw [← hw4, hl', ← hgl]; exact irow_new (w3.drewN m) [A, B', C, D, E, F, G, H] (by simp [maxLen])
          have HB4 : Hid (Below w.heap.size w w4) := by rw [← hw4]; exact (below_drewN HB3.out m).alloc HB3.out.size _
          have RO4 : Hid (IRow w4 g1 c1 h) := by rw [← hw4]; exact irow_alloc (w := w3.drewN m) (RO.out.keep rfl) _
          have HNE : Hid (g1 ≠ gl) := by rw [← hgl]; exact Nat.ne_of_lt RO.out.lt
          clear hl' hw4 hgl
          dsimp only
          go_wp2
          rw [HGL.out, HW4.out]
          have HO0 : Hid (w4.ownsRow w.heap.size 3 1 (.slice (some ⟨g1, 0, none⟩) 8 c1) 8 (((List.range 0).map (plus h l) ++ h.drop 0).map (Value.int .i64))) := by
            have := RO4.out.owns b1
            rw [H8.out] at this
            exact this
          go_loopw [20] (fun i wr => ∃ k : Nat, k ≤ 8 ∧ i = .int .i64 k ∧ wr.ownsRow w.heap.size 3 1 (.slice (some ⟨g1, 0, none⟩) 8 c1) 8 (((List.range k).map (plus h l) ++ h.drop k).map (Value.int .i64)) ∧ IRow wr gl 8 l ∧ Below w.heap.size w wr)
            (fun i _ => 8 - (intOf i).toNat)
          case atStart => exact ⟨0, Nat.zero_le _, rfl, HO0.out, RL.out, HB4.out⟩
          case round =>
            obtain ⟨k, hk8, rfl, hO, hL, hbe⟩ := hrel
            clear HO0 RL HB4
            by_cases hlt8 : k < 8
            · have hc1 : wr.cell? ⟨B, O + k, none⟩ = some (.int .i64 (h.getD k 0)) := by rw [hbe.cell HBl.out]; exact HCI.out k hlt8
              have hc2 := hL.cell k (by rw [HL8.out]; exact hlt8)
              have hw1 := HW.out.at k
              have hw2 := HLW.out.at k
              have hfr := hO.frozenAt k
              have hca : ∃ v, wr.cell? ⟨g1, k, none⟩ = some v := by
                rw [hO.cellAt k (by omega)]
                exact ⟨_, List.getElem?_eq_getElem (by simp [H8.out]; omega)⟩
              obtain ⟨v0, hca⟩ := hca
              have N1 : Hid (∀ q, ((wr.drewN q).setCell ⟨g1, k, none⟩ (.int .i64 ((h.getD k 0 + l.getD k 0) % 4294967296))).ownsRow w.heap.size 3 1 (.slice (some ⟨g1, 0, none⟩) 8 c1) 8 (((List.range (k + 1)).map (plus h l) ++ h.drop (k + 1)).map (Value.int .i64))) := by
                intro q
                have hOq : (wr.drewN q).ownsRow w.heap.size 3 1 (.slice (some ⟨g1, 0, none⟩) 8 c1) 8 (((List.range k).map (plus h l) ++ h.drop k).map (Value.int .i64)) := hO
                have := (hOq.stored k (.int .i64 ((h.getD k 0 + l.getD k 0) % 4294967296))).1
                rw [← List.map_set, add8 h l k hlt8 H8.out] at this
                exact this
              have N2 : Hid (∀ q, IRow ((wr.drewN q).setCell ⟨g1, k, none⟩ (.int .i64 ((h.getD k 0 + l.getD k 0) % 4294967296))) gl 8 l) := fun q =>
                (hL.keep (w' := wr.drewN q) rfl).keep (Below.heap_setCell _ _ _ _ (Ne.symm HNE.out))
              have N3 : Hid (∀ q, Below w.heap.size w ((wr.drewN q).setCell ⟨g1, k, none⟩ (.int .i64 ((h.getD k 0 + l.getD k 0) % 4294967296)))) := fun q => (below_drewN hbe q).setCell b1 _
              clear hO hL hbe
              generalize h.getD k 0 = z1 at *
              generalize l.getD k 0 = z2 at *
              obtain ⟨z1a, z1b⟩ := hw1
              obtain ⟨z2a, z2b⟩ := hw2
              have hkI : (k : Int) < 8 := by omega
              have j1 : IntKind.i64.wrap (z1 + z2) = z1 + z2 := by rw [IntKind.wrap_i64]; omega
              have j2 := mask32 (z1 + z2)
              go_wp2
              go_region
              all_goals
                go_wp2
                go_roundw
                case rel => exact ⟨k + 1, by omega, by go_num, N1.out 1, N2.out 1, N3.out 1⟩
                case measure => simp [intOf]; omega
            · obtain rfl : k = 8 := by omega
              have HE : Hid (compI h b = (List.range 8).map (plus h l) ++ h.drop 8) := by
                show _ = _
                rw [HC.out, List.drop_of_length_le (by rw [H8.out]; exact Nat.le_refl _), List.append_nil, HLL.out, ← HSS.out, HWs.out, HS.out]; rfl
              have HX := (IRow.of (l := (List.range 8).map (plus h l) ++ h.drop 8) hO).1
              have HX : Hid (IRow wr g1 c1 ((List.range 8).map (plus h l) ++ h.drop 8)) := HX
              have HBE : Hid (Below w.heap.size w wr) := hbe
              clear hO hL hbe
              go_wp2
              go_ret
              exact ⟨g1, 8, c1, rfl, by rw [HCL.out, H8.out], b1, by rw [HE.out]; exact HX.out, HBE.out⟩
    · have HC : Hid (compI h b = h) := by show _ = _; unfold compI; rw [if_neg (fun e => h64 (HN.out.trans e.2))]
      have hne : ((n : Int) != 64) = true := by simp; omega
      clear h64
      go_enter Tryd.func79, Tryd.ntmps79
      go_wp2_with (at_builtin; refine iwpList_app _ rfl (.tmp 21) (.tmp 22) rfl w.heap.size w.heap.size 0 0 [] h rfl rfl HR0.out (Nat.le_refl _) a0 n0 c0 rfl HN0.out (HH.out.later HA0.out (Nat.le_refl _)) na (by rw [← HN0.out]; simp; omega) ?_; intro g1 c1 w1 r1 b1 l1 gr1; have R1 : Hid (IRow w1 g1 c1 h) := (List.nil_append h) ▸ r1; have B1 : Hid (Below w.heap.size w w1) := HA0.out.grown gr1 HA0.out.size (fun k h => by cases h; exact Nat.le_refl _); clear r1 gr1 l1)
      refine (l2Words _ n0 c0 h w1 HN0.out (HH.out.later B1.out (Nat.le_refl _)) (by omega)).mono ?_
      rintro e _ ⟨rfl, rfl⟩
      go_wp2
      go_ret
      exact ⟨g1, _, c1, rfl, by rw [HCL.out, ← HN0.out], b1, by rw [HC.out]; exact R1.out, B1.out⟩
  · have hkf : okw h = false := by simpa using hk
    have HC : Hid (compI h b = h) := by show _ = _; unfold compI; rw [if_neg (fun e => hk e.1)]
    clear hk
    go_enter Tryd.func79, Tryd.ntmps79
    go_wp2_with (at_builtin; refine iwpList_app _ rfl (.tmp 21) (.tmp 22) rfl w.heap.size w.heap.size 0 0 [] h rfl rfl HR0.out (Nat.le_refl _) a0 n0 c0 rfl HN0.out (HH.out.later HA0.out (Nat.le_refl _)) na (by rw [← HN0.out]; simp; omega) ?_; intro g1 c1 w1 r1 b1 l1 gr1; have R1 : Hid (IRow w1 g1 c1 h) := (List.nil_append h) ▸ r1; have B1 : Hid (Below w.heap.size w w1) := HA0.out.grown gr1 HA0.out.size (fun k h => by cases h; exact Nat.le_refl _); clear r1 gr1 l1)
    refine (l2Words _ n0 c0 h w1 HN0.out (HH.out.later B1.out (Nat.le_refl _)) (by omega)).mono ?_
    rintro e _ ⟨rfl, rfl⟩
    go_wp2
    go_ret
    exact ⟨g1, _, c1, rfl, by rw [HCL.out, ← HN0.out], b1, by rw [HC.out]; exact R1.out, B1.out⟩
end Go.Proofs.YtpenhliaelhnoaaDoor.CompS
