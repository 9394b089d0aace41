/-
  What spec's Compress answers at every slice of ints and every slice of bytes of at most 4,194,304 each: the eight words behind the block, or the ints as they came, in new memory.
  What impl's Compress answers at every slice of ints and every slice of bytes of at most 4,194,304 each, where the table of round words holds what the program's text lays into it: what spec's answers, in new memory.
  What impl's newSum and impl's and spec's Start answer: the eight words that a sum begins with, in new memory.
  What impl's add does to a sum behind a pointer, for every slice of bytes, where the table of round words holds what the program's text lays into it: the blocks are compressed, the rest is held.
  What impl's end and Sha answer, where the table of round words holds what the program's text lays into it: the sum's 32 bytes, in new memory.
  Sums with a key as plain functions on lists of numbers.
  Keys of keys, and bytes that hide, as plain functions on lists of numbers.
  What is sealed, and opened, as plain functions.
  What spec's l2Out and Sha answer: the sum's 32 bytes, in new memory.
-/
import Derived.Test.YtmcflfpckpjphaaHs6
import Derived.Test.YtmcflfpckpjphaaHs3
import Derived.Test.YtmcflfpckpjphaaHs5
set_option linter.unusedVariables false
namespace Go.Proofs.Ytmcflfpckpjphaa.CompS
open Go.RowKit Go.Proofs.Ytmcflfpckpjphaa.Mem Go.Proofs.Ytmcflfpckpjphaa.MemI Go.Proofs.Ytmcflfpckpjphaa.Blk Go.Proofs.Ytmcflfpckpjphaa.App Go.Proofs.Ytmcflfpckpjphaa.Get Go.Proofs.Ytmcflfpckpjphaa.ShaP Go.Proofs.Ytmcflfpckpjphaa.Word Go.Proofs.Ytmcflfpckpjphaa.Bits Go.Proofs.Ytmcflfpckpjphaa.Sched Go.Proofs.Ytmcflfpckpjphaa.Sched2 Go.Proofs.Ytmcflfpckpjphaa.SchedS Go.Proofs.Ytmcflfpckpjphaa.Words Go.Proofs.Ytmcflfpckpjphaa.Comp

def compI (h b : List Int) : List Int := if okw h = true ∧ b.length = 64 then comp h b else h
set_option maxRecDepth 100000 in
theorem compI_length (h b : List Int) : (compI h b).length = h.length := by
  unfold compI; split
  · rename_i e; rw [comp_length, ((okw_iff h).1 e.1).1]
  · rfl

set_option maxRecDepth 100000 in
theorem two_masks (t u : Int) : bits .and .i64 (wrap64 (bits .and .i64 t 4294967295 + bits .and .i64 u 4294967295)) 4294967295 = (t + u) % 4294967296 := by
  rw [mask32 t, mask32 u, IntWalk.wrap64_in _ (by omega), mask32]; omega
set_option maxRecDepth 100000 in
theorem one_mask (d t : Int) (h : Wd d) : bits .and .i64 (wrap64 (d + bits .and .i64 t 4294967295)) 4294967295 = (d + t) % 4294967296 := by
  have h1 := h.1
  have h2 := h.2
  rw [mask32 t, IntWalk.wrap64_in _ (by omega), mask32]; omega

set_option maxRecDepth 100000 in
set_option maxHeartbeats 4000000 in
theorem specCompress (a0 : Option Addr) (n0 c0 : Nat) (h : List Int) (a : Option Addr) (n cap : Nat) (b : List Int) (w : World)
    (hn0 : n0 = h.length) (hh : IRd w a0 h) (na : a0 = none → c0 = 0) (hl0 : n0 ≤ 4194304) (hn : n = b.length) (hr : Rd w a b) (hb : Bytes b) (hl : n ≤ 4194304) :
    Calls Try.prog 124 #[.slice a0 n0 c0, .slice a n cap] w fun e w' =>
      ∃ g m c, e = .returned (.slice (some ⟨g, 0, none⟩) m c) ∧ m = (compI h b).length ∧ w.heap.size ≤ g ∧ IRow w' g c (compI h b) ∧ Below w.heap.size w w' := by
  have HH : Hid (IRd w a0 h) := hh
  have HN0 : Hid (n0 = h.length) := hn0
  have HN : Hid (n = b.length) := hn
  have HR : Hid (Rd w a b) := hr
  have HB : Hid (Bytes b) := hb
  have HCL : Hid ((compI h b).length = h.length) := compI_length h b
  have HA0 : Hid (Below w.heap.size w (w.alloc (.cells #[] 3))) := (Below.refl _ _).alloc (Nat.le_refl _) _
  have HR0 : Hid (IRow (w.alloc (.cells #[] 3)) w.heap.size 0 []) := irow_new w [] (by simp)
  clear hh hn0 hn hr hb
  by_cases hk : okw h = true
  · by_cases h64 : n = 64
    · subst h64
      have h8 : h.length = 8 := ((okw_iff h).1 hk).1
      have HW : Hid (Wds h) := ((okw_iff h).1 hk).2
      have HC : Hid (compI h b = comp h b) := by show _ = _; unfold compI; rw [if_pos ⟨hk, HN.out.symm⟩]
      obtain rfl : n0 = 8 := by rw [HN0.out, h8]
      obtain ⟨B, O, rfl, hBl, _⟩ := HH.out 0 (by omega)
      have HBl : Hid (B < w.heap.size) := hBl
      have HCI : Hid (∀ k, k < 8 → w.cell? ⟨B, O + k, none⟩ = some (.int .i64 (h.getD k 0))) := by
        intro k hk
        obtain ⟨B', O', e, _, hc⟩ := HH.out k (by omega)
        simp only [Option.some.injEq, Addr.mk.injEq, and_true] at e
        obtain ⟨rfl, rfl⟩ := e
        exact hc
      have HSI : Hid (schedI b = sched b) := by show _ = _; unfold schedI; rw [if_pos HN.out.symm]
      have H8 : Hid (h.length = 8) := h8
      clear h8 hBl
      go_enter Try.func124, Try.ntmps124
      go_wp2_with (at_builtin; refine iwpList_app _ rfl (.tmp 21) (.tmp 22) rfl w.heap.size w.heap.size 0 0 [] h rfl rfl HR0.out (Nat.le_refl _) (some ⟨B, O, none⟩) 8 c0 rfl H8.out.symm (HH.out.later HA0.out (Nat.le_refl _)) na (by rw [H8.out]; simp) ?_; intro g1 c1 w1 r1 b1 l1 gr1; have R1 : Hid (IRow w1 g1 c1 h) := (List.nil_append h) ▸ r1; have B1 : Hid (Below w.heap.size w w1) := HA0.out.grown gr1 HA0.out.size (fun k h => by cases h; exact Nat.le_refl _); clear r1 gr1 l1)
      refine (l2Words _ 8 c0 h w1 H8.out.symm (HH.out.later B1.out (Nat.le_refl _)) (by omega)).mono ?_
      rintro e _ ⟨rfl, rfl⟩
      go_wp2_with fail
      refine (l2K w1).mono ?_
      rintro e w2 ⟨rfl, r2, b2⟩
      have R2 : Hid (IRow w2 w1.heap.size 64 kk) := r2
      have B2 : Hid (Below w1.heap.size w1 w2) := b2
      clear r2 b2
      go_wp2_with fail
      have HB2 : Hid (Below w.heap.size w w2) := B1.out.trans (B2.out.mono B1.out.size)
      refine (specSchedule a 64 cap b w2 HN.out (HR.out.later HB2.out (Nat.le_refl _)) HB.out (by omega)).mono ?_
      rintro e w3 ⟨g3, m3, c3, rfl, e3, k3, r3, b3⟩
      obtain rfl : m3 = 64 := by rw [e3, HSI.out, sched_length]
      obtain ⟨W, hWs⟩ : ∃ W, W = sched b := ⟨_, rfl⟩
      have HWs : Hid (W = sched b) := hWs
      have HWw : Hid (Wds W) := by rw [hWs]; exact sched_wds b HB.out
      have HWl : Hid (W.length = 64) := by rw [hWs]; exact sched_length b
      have R3 : Hid (IRow w3 g3 c3 W) := by rw [hWs, ← HSI.out]; exact r3
      have B3 : Hid (Below w2.heap.size w2 w3) := b3
      have HB3 : Hid (Below w.heap.size w w3) := HB2.out.trans (B3.out.mono HB2.out.size)
      have RO : Hid (IRow w3 g1 c1 h) := (R1.out.later B2.out).later B3.out
      have RK : Hid (IRow w3 w1.heap.size 64 kk) := R2.out.later B3.out
      clear r3 b3 hWs e3 k3 R1 R2
      obtain ⟨gk, hgk⟩ : ∃ gk, w1.heap.size = gk := ⟨_, rfl⟩
      rw [hgk] at RK ⊢
      clear hgk B2 B3 HB2 B1
      obtain ⟨s, hs⟩ : ∃ s, s = stOf h := ⟨_, rfl⟩
      have HS : Hid (s = stOf h) := hs
      have HSok : Hid s.ok := by rw [hs]; exact stOf_ok HW.out
      have HC3 : Hid (∀ k, k < 8 → w3.cell? ⟨B, O + k, none⟩ = some (.int .i64 (h.getD k 0))) := fun k hk => by rw [HB3.out.cell HBl.out]; exact HCI.out k hk
      have c0' := HC3.out 0 (by omega)
      have c1' := HC3.out 1 (by omega)
      have c2' := HC3.out 2 (by omega)
      have c3' := HC3.out 3 (by omega)
      have c4' := HC3.out 4 (by omega)
      have c5' := HC3.out 5 (by omega)
      have c6' := HC3.out 6 (by omega)
      have c7' := HC3.out 7 (by omega)
      rw [show h.getD 0 0 = s.a by rw [hs]; rfl] at c0'
      rw [show h.getD 1 0 = s.b by rw [hs]; rfl] at c1'
      rw [show h.getD 2 0 = s.c by rw [hs]; rfl] at c2'
      rw [show h.getD 3 0 = s.d by rw [hs]; rfl] at c3'
      rw [show h.getD 4 0 = s.e by rw [hs]; rfl] at c4'
      rw [show h.getD 5 0 = s.f by rw [hs]; rfl] at c5'
      rw [show h.getD 6 0 = s.g by rw [hs]; rfl] at c6'
      rw [show h.getD 7 0 = s.h by rw [hs]; rfl] at c7'
      rw [Nat.add_zero] at c0'
      clear hs
      go_wp2_with fail
      go_quiet (fail)
      clear c0' c1' c2' c3' c4' c5' c6' c7'
      go_wp2
      go_loopw [8, 9, 10, 11, 12, 13, 14, 15, 16] (fun va vb vc vd ve vf vg vh i wr => ∃ k m : Nat, k ≤ 64 ∧ i = .int .i64 k ∧ va = .int .i64 (rounds W s k).a ∧ vb = .int .i64 (rounds W s k).b ∧ vc = .int .i64 (rounds W s k).c ∧ vd = .int .i64 (rounds W s k).d ∧ ve = .int .i64 (rounds W s k).e ∧ vf = .int .i64 (rounds W s k).f ∧ vg = .int .i64 (rounds W s k).g ∧ vh = .int .i64 (rounds W s k).h ∧ wr = w3.drewN m)
        (fun _ _ _ _ _ _ _ _ i _ => 64 - (intOf i).toNat)
      case atStart => exact ⟨0, _, Nat.zero_le _, rfl, rfl, rfl, rfl, rfl, rfl, rfl, rfl, rfl, rfl⟩
      case round =>
        obtain ⟨k, m, hk2, rfl, rfl, rfl, rfl, rfl, rfl, rfl, rfl, rfl, rfl⟩ := hrel
        by_cases hlt : k < 64
        · have ck := RK.out.cell k (by rw [kk_length]; exact hlt)
          have cw := R3.out.cell k (by rw [HWl.out]; exact hlt)
          have hkw := kk_wds.at k
          have hww := HWw.out.at k
          have hok := rounds_ok W s k HSok.out
          have HNx : Hid (rounds W s (k + 1) = rnd (kk.getD k 0) (W.getD k 0) (rounds W s k)) := (rfl : rounds W s (k + 1) = _)
          generalize kk.getD k 0 = x1 at *
          generalize W.getD k 0 = x2 at *
          generalize rounds W s k = S at *
          obtain ⟨A, B', C, D, E, F, G, H⟩ := S
          obtain ⟨⟨a1, a2⟩, ⟨b1', b2'⟩, ⟨c1'', c2''⟩, ⟨d1, d2⟩, ⟨e1, e2⟩, ⟨f1, f2⟩, ⟨g1', g2'⟩, ⟨h1, h2⟩⟩ := hok
          obtain ⟨x1a, x1b⟩ := hkw
          obtain ⟨x2a, x2b⟩ := hww
          dsimp only at a1 a2 b1' b2' c1'' c2'' d1 d2 e1 e2 f1 f2 g1' g2' h1 h2 ⊢
          have q1 : Wd (bits .xor .i64 (bits .xor .i64 (rot E 6) (rot E 11)) (rot E 25)) := wd_big1 E
          have q2 : Wd (bits .xor .i64 (bits .and .i64 E F) (bits .and .i64 (bits .xor .i64 E 4294967295) G)) := wd_cho ⟨e1, e2⟩ ⟨f1, f2⟩ ⟨g1', g2'⟩
          have q3 : Wd (bits .xor .i64 (bits .xor .i64 (rot A 2) (rot A 13)) (rot A 22)) := wd_big0 A
          have q4 : Wd (bits .xor .i64 (bits .xor .i64 (bits .and .i64 A B') (bits .and .i64 A C)) (bits .and .i64 B' C)) := wd_maj ⟨a1, a2⟩ ⟨b1', b2'⟩ ⟨c1'', c2''⟩
          have HU : Hid (uOf ⟨A, B', C, D, E, F, G, H⟩ = bits .xor .i64 (bits .xor .i64 (rot A 2) (rot A 13)) (rot A 22) + bits .xor .i64 (bits .xor .i64 (bits .and .i64 A B') (bits .and .i64 A C)) (bits .and .i64 B' C)) := (rfl : uOf ⟨A, B', C, D, E, F, G, H⟩ = _)
          have HTt : Hid (tOf x1 x2 ⟨A, B', C, D, E, F, G, H⟩ = H + bits .xor .i64 (bits .xor .i64 (rot E 6) (rot E 11)) (rot E 25) + bits .xor .i64 (bits .and .i64 E F) (bits .and .i64 (bits .xor .i64 E 4294967295) G) + x1 + x2) := (rfl : tOf x1 x2 ⟨A, B', C, D, E, F, G, H⟩ = _)
          obtain ⟨⟨q1a, q1b⟩, ⟨q2a, q2b⟩, ⟨q3a, q3b⟩, ⟨q4a, q4b⟩⟩ := And.intro q1 (And.intro q2 (And.intro q3 q4))
          clear q1 q2 q3 q4
          obtain ⟨wq, hwq⟩ : ∃ wq, w3.drewN m = wq := ⟨_, rfl⟩
          have ck : wq.cell? ⟨gk, k, none⟩ = some (.int .i64 x1) := by rw [← hwq]; exact ck
          have cw : wq.cell? ⟨g3, k, none⟩ = some (.int .i64 x2) := by rw [← hwq]; exact cw
          rw [hwq]
          have HWQ : Hid (w3.drewN m = wq) := hwq
          clear hwq
          go_wp2_with fail
          go_quiet (first | (go_at_call 129; refine Calls.quiet_of (specRot _ _ _)))
          go_wp2_with fail
          refine (specRotD _ _ wq _).mono ?_
          rintro e _ ⟨rfl, m1, rfl⟩
          go_wp2_with fail
          refine (specRotD _ _ _ _).mono ?_
          rintro e _ ⟨rfl, m2, rfl⟩
          go_wp2_with fail
          refine (specRotD _ _ _ _).mono ?_
          rintro e _ ⟨rfl, m3, rfl⟩
          go_wp2
          go_roundw
          case rel =>
            refine ⟨k + 1, _, by omega, by go_num, ?_, ?_, ?_, ?_, ?_, ?_, ?_, ?_, by rw [← HWQ.out]; exact World.drewN_drewN _ _ _⟩
            all_goals rw [HNx.out]
            · show _ = Value.int .i64 ((tOf _ _ _ + uOf _) % 4294967296)
              rw [HTt.out, HU.out, ← two_masks]
            · rfl
            · rfl
            · rfl
            · show _ = Value.int .i64 ((D + tOf _ _ _) % 4294967296)
              rw [HTt.out, ← one_mask D _ ⟨d1, d2⟩]
            · rfl
            · rfl
            · rfl
          case measure => simp [intOf]; omega
        · obtain rfl : k = 64 := by omega
          obtain ⟨S, hS⟩ : ∃ S, rounds W s 64 = S := ⟨_, rfl⟩
          have HSS : Hid (rounds W s 64 = S) := hS
          have HSK : Hid S.ok := by rw [← hS]; exact rounds_ok W s 64 HSok.out
          rw [hS]
          clear hS
          obtain ⟨A, B', C, D, E, F, G, H⟩ := S
          obtain ⟨l, hl'⟩ : ∃ l, l = (St.mk A B' C D E F G H).list := ⟨_, rfl⟩
          have HLL : Hid (l = (St.mk A B' C D E F G H).list) := hl'
          have HLW : Hid (Wds l) := by
            rw [hl']
            obtain ⟨p1, p2, p3, p4, p5, p6, p7, p8⟩ := HSK.out
            intro z hz
            simp only [St.list, List.mem_cons, List.not_mem_nil, or_false] at hz
            rcases hz with rfl | rfl | rfl | rfl | rfl | rfl | rfl | rfl <;> assumption
          have HL8 : Hid (l.length = 8) := by rw [hl']; rfl
          obtain ⟨w4, hw4⟩ : ∃ w4, (w3.drewN m).alloc (.cells #[.int .i64 A, .int .i64 B', .int .i64 C, .int .i64 D, .int .i64 E, .int .i64 F, .int .i64 G, .int .i64 H] 3) = w4 := ⟨_, rfl⟩
          have HW4 : Hid ((w3.drewN m).alloc (.cells #[.int .i64 A, .int .i64 B', .int .i64 C, .int .i64 D, .int .i64 E, .int .i64 F, .int .i64 G, .int .i64 H] 3) = w4) := hw4
          obtain ⟨gl, hgl⟩ : ∃ gl, w3.heap.size = gl := ⟨_, rfl⟩
          have HGL : Hid (w3.heap.size = gl) := hgl
          have RL : Hid (IRow w4 gl 8 l) := by
            rw [← hw4, hl', ← hgl]; exact irow_new (w3.drewN m) [A, B', C, D, E, F, G, H] (by simp [maxLen])
          have HB4 : Hid (Below w.heap.size w w4) := by rw [← hw4]; exact (below_drewN HB3.out m).alloc HB3.out.size _
          have RO4 : Hid (IRow w4 g1 c1 h) := by rw [← hw4]; exact irow_alloc (w := w3.drewN m) (RO.out.keep rfl) _
          have HNE : Hid (g1 ≠ gl) := by rw [← hgl]; exact Nat.ne_of_lt RO.out.lt
          clear hl' hw4 hgl
          dsimp only
          go_wp2
          rw [HGL.out, HW4.out]
          have HO0 : Hid (w4.ownsRow w.heap.size 3 1 (.slice (some ⟨g1, 0, none⟩) 8 c1) 8 (((List.range 0).map (plus h l) ++ h.drop 0).map (Value.int .i64))) := by
            have := RO4.out.owns b1
            rw [H8.out] at this
            exact this
          go_loopw [20] (fun i wr => ∃ k : Nat, k ≤ 8 ∧ i = .int .i64 k ∧ wr.ownsRow w.heap.size 3 1 (.slice (some ⟨g1, 0, none⟩) 8 c1) 8 (((List.range k).map (plus h l) ++ h.drop k).map (Value.int .i64)) ∧ IRow wr gl 8 l ∧ Below w.heap.size w wr)
            (fun i _ => 8 - (intOf i).toNat)
          case atStart => exact ⟨0, Nat.zero_le _, rfl, HO0.out, RL.out, HB4.out⟩
          case round =>
            obtain ⟨k, hk8, rfl, hO, hL, hbe⟩ := hrel
            clear HO0 RL HB4
            by_cases hlt8 : k < 8
            · have hc1 : wr.cell? ⟨B, O + k, none⟩ = some (.int .i64 (h.getD k 0)) := by rw [hbe.cell HBl.out]; exact HCI.out k hlt8
              have hc2 := hL.cell k (by rw [HL8.out]; exact hlt8)
              have hw1 := HW.out.at k
              have hw2 := HLW.out.at k
              have hfr := hO.frozenAt k
              have hca : ∃ v, wr.cell? ⟨g1, k, none⟩ = some v := by
                rw [hO.cellAt k (by omega)]
                exact ⟨_, List.getElem?_eq_getElem (by simp [H8.out]; omega)⟩
              obtain ⟨v0, hca⟩ := hca
              have N1 : Hid (∀ q, ((wr.drewN q).setCell ⟨g1, k, none⟩ (.int .i64 ((h.getD k 0 + l.getD k 0) % 4294967296))).ownsRow w.heap.size 3 1 (.slice (some ⟨g1, 0, none⟩) 8 c1) 8 (((List.range (k + 1)).map (plus h l) ++ h.drop (k + 1)).map (Value.int .i64))) := by
                intro q
                have hOq : (wr.drewN q).ownsRow w.heap.size 3 1 (.slice (some ⟨g1, 0, none⟩) 8 c1) 8 (((List.range k).map (plus h l) ++ h.drop k).map (Value.int .i64)) := hO
                have := (hOq.stored k (.int .i64 ((h.getD k 0 + l.getD k 0) % 4294967296))).1
                rw [← List.map_set, add8 h l k hlt8 H8.out] at this
                exact this
              have N2 : Hid (∀ q, IRow ((wr.drewN q).setCell ⟨g1, k, none⟩ (.int .i64 ((h.getD k 0 + l.getD k 0) % 4294967296))) gl 8 l) := fun q =>
                (hL.keep (w' := wr.drewN q) rfl).keep (Below.heap_setCell _ _ _ _ (Ne.symm HNE.out))
              have N3 : Hid (∀ q, Below w.heap.size w ((wr.drewN q).setCell ⟨g1, k, none⟩ (.int .i64 ((h.getD k 0 + l.getD k 0) % 4294967296)))) := fun q => (below_drewN hbe q).setCell b1 _
              clear hO hL hbe
              generalize h.getD k 0 = z1 at *
              generalize l.getD k 0 = z2 at *
              obtain ⟨z1a, z1b⟩ := hw1
              obtain ⟨z2a, z2b⟩ := hw2
              have hkI : (k : Int) < 8 := by omega
              have j1 : IntKind.i64.wrap (z1 + z2) = z1 + z2 := by rw [IntKind.wrap_i64]; omega
              have j2 := mask32 (z1 + z2)
              go_wp2
              go_region
              all_goals
                go_wp2
                go_roundw
                case rel => exact ⟨k + 1, by omega, by go_num, N1.out 1, N2.out 1, N3.out 1⟩
                case measure => simp [intOf]; omega
            · obtain rfl : k = 8 := by omega
              have HE : Hid (compI h b = (List.range 8).map (plus h l) ++ h.drop 8) := by
                show _ = _
                rw [HC.out, List.drop_of_length_le (by rw [H8.out]; exact Nat.le_refl _), List.append_nil, HLL.out, ← HSS.out, HWs.out, HS.out]; rfl
              have HX := (IRow.of (l := (List.range 8).map (plus h l) ++ h.drop 8) hO).1
              have HX : Hid (IRow wr g1 c1 ((List.range 8).map (plus h l) ++ h.drop 8)) := HX
              have HBE : Hid (Below w.heap.size w wr) := hbe
              clear hO hL hbe
              go_wp2
              go_ret
              exact ⟨g1, 8, c1, rfl, by rw [HCL.out, H8.out], b1, by rw [HE.out]; exact HX.out, HBE.out⟩
    · have HC : Hid (compI h b = h) := by show _ = _; unfold compI; rw [if_neg (fun e => h64 (HN.out.trans e.2))]
      have hne : ((n : Int) != 64) = true := by simp; omega
      clear h64
      go_enter Try.func124, Try.ntmps124
      go_wp2_with (at_builtin; refine iwpList_app _ rfl (.tmp 21) (.tmp 22) rfl w.heap.size w.heap.size 0 0 [] h rfl rfl HR0.out (Nat.le_refl _) a0 n0 c0 rfl HN0.out (HH.out.later HA0.out (Nat.le_refl _)) na (by rw [← HN0.out]; simp; omega) ?_; intro g1 c1 w1 r1 b1 l1 gr1; have R1 : Hid (IRow w1 g1 c1 h) := (List.nil_append h) ▸ r1; have B1 : Hid (Below w.heap.size w w1) := HA0.out.grown gr1 HA0.out.size (fun k h => by cases h; exact Nat.le_refl _); clear r1 gr1 l1)
      refine (l2Words _ n0 c0 h w1 HN0.out (HH.out.later B1.out (Nat.le_refl _)) (by omega)).mono ?_
      rintro e _ ⟨rfl, rfl⟩
      go_wp2
      go_ret
      exact ⟨g1, _, c1, rfl, by rw [HCL.out, ← HN0.out], b1, by rw [HC.out]; exact R1.out, B1.out⟩
  · have hkf : okw h = false := by simpa using hk
    have HC : Hid (compI h b = h) := by show _ = _; unfold compI; rw [if_neg (fun e => hk e.1)]
    clear hk
    go_enter Try.func124, Try.ntmps124
    go_wp2_with (at_builtin; refine iwpList_app _ rfl (.tmp 21) (.tmp 22) rfl w.heap.size w.heap.size 0 0 [] h rfl rfl HR0.out (Nat.le_refl _) a0 n0 c0 rfl HN0.out (HH.out.later HA0.out (Nat.le_refl _)) na (by rw [← HN0.out]; simp; omega) ?_; intro g1 c1 w1 r1 b1 l1 gr1; have R1 : Hid (IRow w1 g1 c1 h) := (List.nil_append h) ▸ r1; have B1 : Hid (Below w.heap.size w w1) := HA0.out.grown gr1 HA0.out.size (fun k h => by cases h; exact Nat.le_refl _); clear r1 gr1 l1)
    refine (l2Words _ n0 c0 h w1 HN0.out (HH.out.later B1.out (Nat.le_refl _)) (by omega)).mono ?_
    rintro e _ ⟨rfl, rfl⟩
    go_wp2
    go_ret
    exact ⟨g1, _, c1, rfl, by rw [HCL.out, ← HN0.out], b1, by rw [HC.out]; exact R1.out, B1.out⟩
end Go.Proofs.Ytmcflfpckpjphaa.CompS

namespace Go.Proofs.Ytmcflfpckpjphaa.CompI
open Go.RowKit Go.Proofs.Ytmcflfpckpjphaa.Mem Go.Proofs.Ytmcflfpckpjphaa.MemI Go.Proofs.Ytmcflfpckpjphaa.Blk Go.Proofs.Ytmcflfpckpjphaa.App Go.Proofs.Ytmcflfpckpjphaa.Get Go.Proofs.Ytmcflfpckpjphaa.ShaP Go.Proofs.Ytmcflfpckpjphaa.Word Go.Proofs.Ytmcflfpckpjphaa.Bits Go.Proofs.Ytmcflfpckpjphaa.Sched Go.Proofs.Ytmcflfpckpjphaa.Words Go.Proofs.Ytmcflfpckpjphaa.WordsOf Go.Proofs.Ytmcflfpckpjphaa.Comp Go.Proofs.Ytmcflfpckpjphaa.CompS

end Go.Proofs.Ytmcflfpckpjphaa.CompI

namespace Go.Proofs.Ytmcflfpckpjphaa.Start
open Go.RowKit Go.Proofs.Ytmcflfpckpjphaa.Mem Go.Proofs.Ytmcflfpckpjphaa.MemI Go.Proofs.Ytmcflfpckpjphaa.Blk Go.Proofs.Ytmcflfpckpjphaa.App Go.Proofs.Ytmcflfpckpjphaa.Get Go.Proofs.Ytmcflfpckpjphaa.ShaP Go.Proofs.Ytmcflfpckpjphaa.Word Go.Proofs.Ytmcflfpckpjphaa.Bits Go.Proofs.Ytmcflfpckpjphaa.Sched Go.Proofs.Ytmcflfpckpjphaa.Words Go.Proofs.Ytmcflfpckpjphaa.WordsOf

/-- The cells of a sum. -/
def sumCells (h : List Int) (a : Option Addr) (m c : Nat) (n : Int) : List Value := h.map (Value.int .i64) ++ [.slice a m c, .int .i64 n]

set_option maxRecDepth 100000 in
theorem specStart (w : World) :
    Calls Try.prog 123 #[] w fun e w' => e = .returned (.slice (some ⟨w.heap.size, 0, none⟩) 8 8) ∧ IRow w' w.heap.size 8 start8 ∧ Below w.heap.size w w' := by
  go_enter Try.func123, Try.ntmps123
  go_wp2
  go_ret
  exact ⟨rfl, irow_new w start8 (by simp [maxLen, start8]), (Below.refl _ _).alloc (Nat.le_refl _) _⟩

set_option maxRecDepth 100000 in
theorem specStartR (w : World) :
    Calls Try.prog 123 #[] w fun e w' => ∃ g m c, e = .returned (.slice (some ⟨g, 0, none⟩) m c) ∧ m = start8.length ∧ w.heap.size ≤ g ∧ IRow w' g c start8 ∧ Below w.heap.size w w' :=
  (specStart w).mono fun _ _ ⟨h1, h2, h3⟩ => ⟨w.heap.size, 8, 8, h1, rfl, Nat.le_refl _, h2, h3⟩
end Go.Proofs.Ytmcflfpckpjphaa.Start

namespace Go.Proofs.Ytmcflfpckpjphaa.Adds
open Go.RowKit Go.Proofs.Ytmcflfpckpjphaa.Mem Go.Proofs.Ytmcflfpckpjphaa.MemI Go.Proofs.Ytmcflfpckpjphaa.Blk Go.Proofs.Ytmcflfpckpjphaa.App Go.Proofs.Ytmcflfpckpjphaa.Get Go.Proofs.Ytmcflfpckpjphaa.ShaP Go.Proofs.Ytmcflfpckpjphaa.Word Go.Proofs.Ytmcflfpckpjphaa.Bits Go.Proofs.Ytmcflfpckpjphaa.Sched Go.Proofs.Ytmcflfpckpjphaa.Words Go.Proofs.Ytmcflfpckpjphaa.WordsOf Go.Proofs.Ytmcflfpckpjphaa.Comp Go.Proofs.Ytmcflfpckpjphaa.CompS Go.Proofs.Ytmcflfpckpjphaa.Start Go.Proofs.Ytmcflfpckpjphaa.Cuts Go.Proofs.Ytmcflfpckpjphaa.Pads

set_option maxRecDepth 100000 in
theorem sum_held (h : List Int) (a : Option Addr) (m c : Nat) (n : Int) (a' : Option Addr) (m' c' : Nat) (hh : h.length = 8) : (sumCells h a m c n).set 8 (.slice a' m' c') = sumCells h a' m' c' n := by
  unfold sumCells
  rw [List.set_append, if_neg (by simp [hh]), List.length_map, hh]; rfl
set_option maxRecDepth 100000 in
theorem sum_n (h : List Int) (a : Option Addr) (m c : Nat) (n n' : Int) (hh : h.length = 8) : (sumCells h a m c n).set 9 (.int .i64 n') = sumCells h a m c n' := by
  unfold sumCells
  rw [List.set_append, if_neg (by simp [hh]), List.length_map, hh]; rfl
set_option maxRecDepth 100000 in
theorem sum_len (h : List Int) (a : Option Addr) (m c : Nat) (n : Int) (hh : h.length = 8) : (sumCells h a m c n).length = 10 := by simp [sumCells, hh]
set_option maxRecDepth 100000 in
theorem sum_at8 {w : World} {g : Nat} {t : TypeId} {h : List Int} {a : Option Addr} {m c : Nat} {n : Int} (hB : Blk w g t (sumCells h a m c n)) (hh : h.length = 8) : w.cell? ⟨g, 8, none⟩ = some (.slice a m c) :=
  hB.cell 8 (by simp [sumCells, hh])
set_option maxRecDepth 100000 in
theorem sum_at9 {w : World} {g : Nat} {t : TypeId} {h : List Int} {a : Option Addr} {m c : Nat} {n : Int} (hB : Blk w g t (sumCells h a m c n)) (hh : h.length = 8) : w.cell? ⟨g, 9, none⟩ = some (.int .i64 n) :=
  hB.cell 9 (by simp [sumCells, hh])
set_option maxRecDepth 100000 in
theorem grown_of_below {w w' : World} (b : Below w.heap.size w w') (g : Nat) : w.grownBy w' (some g) := ⟨b.os, b.tape, b.output, b.size, fun i hi _ => b.block i hi⟩
set_option maxRecDepth 100000 in
theorem grown_store {w w' : World} {g : Nat} {t : TypeId} {cs : List Value} (hg : w.grownBy w' (some g)) (hB : Blk w' g t cs) (hl : cs.length ≤ maxLen) (i : Nat) (v : Value) : w.grownBy (w'.setCell ⟨g, i, none⟩ v) (some g) :=
  grown_trans hg ((hB.owns hl).stored i v).2

end Go.Proofs.Ytmcflfpckpjphaa.Adds

namespace Go.Proofs.Ytmcflfpckpjphaa.Ends
open Go.RowKit Go.Proofs.Ytmcflfpckpjphaa.Mem Go.Proofs.Ytmcflfpckpjphaa.MemI Go.Proofs.Ytmcflfpckpjphaa.Blk Go.Proofs.Ytmcflfpckpjphaa.App Go.Proofs.Ytmcflfpckpjphaa.Get Go.Proofs.Ytmcflfpckpjphaa.ShaP Go.Proofs.Ytmcflfpckpjphaa.Word Go.Proofs.Ytmcflfpckpjphaa.Bits Go.Proofs.Ytmcflfpckpjphaa.Sched Go.Proofs.Ytmcflfpckpjphaa.Words Go.Proofs.Ytmcflfpckpjphaa.WordsOf Go.Proofs.Ytmcflfpckpjphaa.Comp Go.Proofs.Ytmcflfpckpjphaa.CompS Go.Proofs.Ytmcflfpckpjphaa.Start Go.Proofs.Ytmcflfpckpjphaa.Cuts Go.Proofs.Ytmcflfpckpjphaa.Pads Go.Proofs.Ytmcflfpckpjphaa.Adds

set_option maxRecDepth 100000 in
theorem grown_on {w a b : World} {g gg : Nat} (h : w.grownBy a (some g)) (k : a.grownBy b (some gg)) (hg : w.heap.size ≤ gg) : w.grownBy b (some g) :=
  ⟨k.os.trans h.os, k.tape.trans h.tape, k.output.trans h.output, Nat.le_trans h.size k.size, fun i hi hne => (k.block i (Nat.lt_of_lt_of_le hi h.size) (by simp; omega)).trans (h.block i hi hne)⟩
set_option maxRecDepth 100000 in
theorem grown_below {w a b : World} {g : Nat} (h : w.grownBy a (some g)) {B : Nat} (k : Below B a b) (hB : w.heap.size ≤ B) : w.grownBy b (some g) :=
  ⟨k.os.trans h.os, k.tape.trans h.tape, k.output.trans h.output, Nat.le_trans h.size k.size, fun i hi hne => (k.block i (Nat.lt_of_lt_of_le hi hB)).trans (h.block i hi hne)⟩
set_option maxRecDepth 100000 in
theorem padI_nat (N : Nat) (h : N ≤ 1048576) : padI (N : Int) = padOf N := by unfold padI; rw [if_pos (by omega), Int.toNat_natCast]
set_option maxRecDepth 100000 in
theorem padI_bytes (n : Int) : Bytes (padI n) := by
  unfold padI; split
  · intro z hz
    simp only [padOf, List.mem_cons, List.mem_append, List.mem_replicate] at hz
    rcases hz with rfl | ⟨_, rfl⟩ | hz
    · omega
    · omega
    · exact num_bytes _ _ z hz
  · intro z hz; cases hz

def shaI (b : List Int) : List Int := if b.length ≤ 1048576 then shaOf b else []
set_option maxRecDepth 100000 in
theorem endOf_length (h held : List Int) (n : Nat) (hh : h.length = 8) : (endOf h held n).length = 32 := by
  unfold endOf; rw [outB_length, run_length _ _ _ hh]

set_option maxRecDepth 100000 in
theorem shaI_length (b : List Int) : (shaI b).length ≤ 1048576 := by
  unfold shaI; split
  · unfold shaOf; rw [endOf_length _ _ _ rfl]; omega
  · simp
set_option maxRecDepth 100000 in
theorem drop_len (l : List Int) : (l.drop (64 * (l.length / 64))).length = l.length % 64 := by rw [List.length_drop]; omega
set_option maxRecDepth 100000 in
theorem run_end (h x p : List Int) : run (run h x (x.length / 64)) (x.drop (64 * (x.length / 64)) ++ p) ((x.drop (64 * (x.length / 64)) ++ p).length / 64) = run h (x ++ p) ((x ++ p).length / 64) := by
  rw [run_parts h x p _ _ (by omega)]
  congr 1
  rw [List.length_append, drop_len, List.length_append]
  omega
set_option maxRecDepth 100000 in
theorem end_rest (h x : List Int) (n : Nat) : endOf (run h x (x.length / 64)) (x.drop (64 * (x.length / 64))) n = outB (run h (x ++ padOf n) ((x ++ padOf n).length / 64)) := by
  unfold endOf; rw [run_end]

end Go.Proofs.Ytmcflfpckpjphaa.Ends

namespace Go.Proofs.Ytmcflfpckpjphaa.MacP
open Go.RowKit Go.Proofs.Ytmcflfpckpjphaa.Mem Go.Proofs.Ytmcflfpckpjphaa.App Go.Proofs.Ytmcflfpckpjphaa.ShaP Go.Proofs.Ytmcflfpckpjphaa.Ends Go.Proofs.Ytmcflfpckpjphaa.DiffP

/-- A key as good as the given one, of at most 64 bytes. -/
def short (k : List Int) : List Int := if k.length ≤ 64 then k else shaI k
/-- A key as one block. -/
def keyI (k : List Int) : List Int := if k.length ≤ 1048576 then short k ++ List.replicate (64 - (short k).length) 0 else []
/-- Each byte turned by a pad. -/
def mix (p : Int) (l : List Int) : List Int := l.map fun z => bits .xor .u8 z p
def hmacI (k b : List Int) : List Int := if k.length ≤ 1048576 ∧ b.length ≤ 1048512 then shaI (mix 92 (keyI k) ++ shaI (mix 54 (keyI k) ++ b)) else []
def tagI (k b : List Int) : List Int := (hmacI k b).take 16

set_option maxRecDepth 100000 in
theorem outB_len32 (h : List Int) (hh : h.length = 8) : (outB h).length = 32 := by rw [outB_length, hh]
set_option maxRecDepth 100000 in
theorem shaI_len (b : List Int) (h : b.length ≤ 1048576) : (shaI b).length = 32 := by
  unfold shaI; rw [if_pos h]
  exact outB_len32 _ (run_length _ _ _ rfl)
set_option maxRecDepth 100000 in
theorem short_len (k : List Int) (h : k.length ≤ 1048576) : (short k).length ≤ 64 := by
  unfold short; split
  · assumption
  · rw [shaI_len k h]; omega
set_option maxRecDepth 100000 in
theorem keyI_len (k : List Int) (h : k.length ≤ 1048576) : (keyI k).length = 64 := by
  have := short_len k h
  unfold keyI; rw [if_pos h]; simp; omega
set_option maxRecDepth 100000 in
theorem keyI_none (k : List Int) (h : ¬ k.length ≤ 1048576) : keyI k = [] := by unfold keyI; rw [if_neg h]
set_option maxRecDepth 100000 in
theorem keyI_le (k : List Int) : (keyI k).length ≤ 64 := by
  by_cases h : k.length ≤ 1048576
  · rw [keyI_len k h]; exact Nat.le_refl _
  · rw [keyI_none k h]; simp
set_option maxRecDepth 100000 in
theorem mix_length (p : Int) (l : List Int) : (mix p l).length = l.length := by simp [mix]
set_option maxRecDepth 100000 in
theorem mix_bytes (p : Int) (l : List Int) (hl : Bytes l) (h3 : 0 ≤ p) (h4 : p ≤ 255) : Bytes (mix p l) := by
  intro z hz
  simp only [mix, List.mem_map] at hz
  obtain ⟨y, hy, rfl⟩ := hz
  exact xor_byte y p (hl y hy).1 (hl y hy).2 h3 h4
set_option maxRecDepth 100000 in
theorem outB_bytes (h : List Int) : Bytes (outB h) := by
  induction h with
  | nil => intro z hz; cases hz
  | cons x r ih =>
    intro z hz
    rcases List.mem_append.1 hz with h | h
    · exact num_bytes x 4 z h
    · exact ih z h
set_option maxRecDepth 100000 in
theorem shaI_bytes (b : List Int) : Bytes (shaI b) := by
  unfold shaI; split
  · exact outB_bytes _
  · intro z hz; cases hz
set_option maxRecDepth 100000 in
theorem short_bytes (k : List Int) (h : Bytes k) : Bytes (short k) := by
  unfold short; split
  · exact h
  · exact shaI_bytes k
set_option maxRecDepth 100000 in
theorem bytes_append {a b : List Int} (ha : Bytes a) (hb : Bytes b) : Bytes (a ++ b) := by
  intro z hz
  rcases List.mem_append.1 hz with h | h
  · exact ha z h
  · exact hb z h
set_option maxRecDepth 100000 in
theorem bytes_zeros (n : Nat) : Bytes (List.replicate n 0) := by
  intro z hz; rw [List.mem_replicate] at hz; omega
set_option maxRecDepth 100000 in
theorem keyI_bytes (k : List Int) (h : Bytes k) : Bytes (keyI k) := by
  unfold keyI; split
  · exact bytes_append (short_bytes k h) (bytes_zeros _)
  · intro z hz; cases hz
set_option maxRecDepth 100000 in
theorem hmacI_len (k b : List Int) (h1 : k.length ≤ 1048576) (h2 : b.length ≤ 1048512) : (hmacI k b).length = 32 := by
  unfold hmacI; rw [if_pos ⟨h1, h2⟩]
  apply shaI_len
  have := shaI_length
  rw [List.length_append, mix_length, keyI_len k h1, shaI_len _ (by rw [List.length_append, mix_length, keyI_len k h1]; omega)]; omega
set_option maxRecDepth 100000 in
theorem hmacI_none (k b : List Int) (h : ¬ (k.length ≤ 1048576 ∧ b.length ≤ 1048512)) : hmacI k b = [] := by unfold hmacI; rw [if_neg h]
set_option maxRecDepth 100000 in
theorem hmacI_bytes (k b : List Int) : Bytes (hmacI k b) := by
  unfold hmacI; split
  · exact shaI_bytes _
  · intro z hz; cases hz
set_option maxRecDepth 100000 in
theorem hmacI_le (k b : List Int) : (hmacI k b).length ≤ 32 := by
  by_cases h : k.length ≤ 1048576 ∧ b.length ≤ 1048512
  · rw [hmacI_len k b h.1 h.2]; exact Nat.le_refl _
  · rw [hmacI_none k b h]; simp
set_option maxRecDepth 100000 in
theorem tagI_len (k b : List Int) (h1 : k.length ≤ 1048576) (h2 : b.length ≤ 1048512) : (tagI k b).length = 16 := by
  unfold tagI; rw [List.length_take, hmacI_len k b h1 h2]; rfl
set_option maxRecDepth 100000 in
theorem tagI_le (k b : List Int) : (tagI k b).length ≤ 16 := by unfold tagI; rw [List.length_take]; omega
set_option maxRecDepth 100000 in
theorem tagI_bytes (k b : List Int) : Bytes (tagI k b) := fun z hz => hmacI_bytes k b z (List.mem_of_mem_take hz)

end Go.Proofs.Ytmcflfpckpjphaa.MacP

namespace Go.Proofs.Ytmcflfpckpjphaa.KdfP
open Go.RowKit Go.Proofs.Ytmcflfpckpjphaa.Mem Go.Proofs.Ytmcflfpckpjphaa.App Go.Proofs.Ytmcflfpckpjphaa.ShaP Go.Proofs.Ytmcflfpckpjphaa.Ends Go.Proofs.Ytmcflfpckpjphaa.DiffP Go.Proofs.Ytmcflfpckpjphaa.MacP

/-- The i-th block: of the one ahead, info, and a byte. -/
def blk (k f : List Int) : Nat → List Int
  | 0 => []
  | i + 1 => hmacI k (blk k f i ++ f ++ [((i + 1 : Nat) : Int) % 256])
/-- The first i blocks, one behind the other. -/
def blks (k f : List Int) : Nat → List Int
  | 0 => []
  | i + 1 => blks k f i ++ blk k f (i + 1)
def mayExp (k f : List Int) (n : Int) : Bool := decide (0 ≤ n ∧ n ≤ 8160 ∧ f.length ≤ 100 ∧ k.length ≤ 1048576)
set_option maxRecDepth 100000 in
theorem mayExp_iff (k f : List Int) (n : Int) : mayExp k f n = true ↔ 0 ≤ n ∧ n ≤ 8160 ∧ f.length ≤ 100 ∧ k.length ≤ 1048576 := by simp [mayExp]
def expI (k f : List Int) (n : Int) : List Int := if mayExp k f n = true then (blks k f ((n.toNat + 31) / 32)).take n.toNat else []
def derI (k f : List Int) : List Int := expI k f 32
def rekey : List Int := [114, 101, 107, 101, 121]
def chn (k : List Int) : Nat → List Int
  | 0 => k
  | i + 1 => derI (chn k i) rekey
def chnI (k : List Int) (n : Int) : List Int := if 0 ≤ n ∧ n ≤ 64 then chn k n.toNat else []

set_option maxRecDepth 100000 in
theorem blk_le (k f : List Int) (i : Nat) : (blk k f i).length ≤ 32 := by
  cases i with
  | zero => simp [blk]
  | succ i => unfold blk; exact hmacI_le _ _
set_option maxRecDepth 100000 in
theorem blk_len (k f : List Int) (hk : k.length ≤ 1048576) (hf : f.length ≤ 100) (i : Nat) : (blk k f (i + 1)).length = 32 := by
  unfold blk
  apply hmacI_len k _ hk
  have := blk_le k f i
  simp only [List.length_append, List.length_singleton]
  omega
set_option maxRecDepth 100000 in
theorem blk_bytes (k f : List Int) (i : Nat) : Bytes (blk k f i) := by
  cases i with
  | zero => intro z hz; cases hz
  | succ i => unfold blk; exact hmacI_bytes _ _
set_option maxRecDepth 100000 in
theorem blks_len (k f : List Int) (hk : k.length ≤ 1048576) (hf : f.length ≤ 100) (i : Nat) : (blks k f i).length = 32 * i := by
  induction i with
  | zero => rfl
  | succ i ih => unfold blks; rw [List.length_append, ih, blk_len k f hk hf]; omega
set_option maxRecDepth 100000 in
theorem blks_bytes (k f : List Int) (i : Nat) : Bytes (blks k f i) := by
  induction i with
  | zero => intro z hz; cases hz
  | succ i ih => unfold blks; exact bytes_append ih (blk_bytes k f (i + 1))
set_option maxRecDepth 100000 in
theorem blks_take (k f : List Int) (i j : Nat) (h : i ≤ j) : ∃ r, blks k f j = blks k f i ++ r := by
  induction j with
  | zero => obtain rfl : i = 0 := by omega
            exact ⟨[], rfl⟩
  | succ j ih =>
    by_cases e : i = j + 1
    · subst e; exact ⟨[], by simp⟩
    · obtain ⟨r, hr⟩ := ih (by omega)
      exact ⟨r ++ blk k f (j + 1), by rw [← List.append_assoc, ← hr]; rfl⟩
set_option maxRecDepth 100000 in
theorem expI_no (k f : List Int) (n : Int) (h : mayExp k f n = false) : expI k f n = [] := by unfold expI; rw [if_neg (by rw [h]; simp)]
set_option maxRecDepth 100000 in
theorem expI_yes (k f : List Int) (n : Int) (h : mayExp k f n = true) : expI k f n = (blks k f ((n.toNat + 31) / 32)).take n.toNat := by unfold expI; rw [if_pos h]
set_option maxRecDepth 100000 in
theorem expI_len (k f : List Int) (n : Nat) (h : mayExp k f (n : Int) = true) : (expI k f (n : Int)).length = n := by
  obtain ⟨h0, h1, h2, h3⟩ := (mayExp_iff k f n).1 h
  rw [expI_yes k f _ h, List.length_take, blks_len k f h3 h2, Int.toNat_natCast]
  omega
set_option maxRecDepth 100000 in
theorem expI_le (k f : List Int) (n : Int) : (expI k f n).length ≤ 8160 := by
  cases h : mayExp k f n with
  | false => rw [expI_no k f n h]; simp
  | true =>
    obtain ⟨h0, h1, h2, h3⟩ := (mayExp_iff k f n).1 h
    obtain ⟨m, rfl⟩ := Int.eq_ofNat_of_zero_le h0
    rw [expI_len k f m h]; omega
set_option maxRecDepth 100000 in
theorem expI_bytes (k f : List Int) (n : Int) : Bytes (expI k f n) := by
  unfold expI; split
  · intro z hz; exact blks_bytes k f _ z (List.mem_of_mem_take hz)
  · intro z hz; cases hz
set_option maxRecDepth 100000 in
theorem derI_le (k f : List Int) : (derI k f).length ≤ 32 := by
  unfold derI
  cases h : mayExp k f 32 with
  | false => rw [expI_no k f _ h]; simp
  | true => rw [show (32 : Int) = ((32 : Nat) : Int) from rfl, expI_len k f 32 h]; exact Nat.le_refl _
set_option maxRecDepth 100000 in
theorem derI_bytes (k f : List Int) : Bytes (derI k f) := expI_bytes k f 32
set_option maxRecDepth 100000 in
theorem chn_bytes (k : List Int) (h : Bytes k) (i : Nat) : Bytes (chn k i) := by
  cases i with
  | zero => exact h
  | succ i => exact derI_bytes _ _
set_option maxRecDepth 100000 in
theorem chn_le (k : List Int) (i : Nat) : (chn k i).length ≤ k.length + 32 := by
  cases i with
  | zero => simp [chn]
  | succ i => have := derI_le (chn k i) rekey; unfold chn; omega
set_option maxRecDepth 100000 in
theorem chnI_le (k : List Int) (n : Int) : (chnI k n).length ≤ k.length + 32 := by
  unfold chnI; split
  · exact chn_le _ _
  · simp
set_option maxRecDepth 100000 in
theorem chnI_most (k : List Int) (n : Int) : (chnI k n).length ≤ max k.length 32 := by
  unfold chnI; split
  · cases n.toNat with
    | zero => show k.length ≤ _; omega
    | succ i => have := derI_le (chn k i) rekey; show (derI (chn k i) rekey).length ≤ _; omega
  · simp
set_option maxRecDepth 100000 in
/-- More bytes begin with fewer. -/
theorem expI_more (k f : List Int) (n m : Nat) (h : n ≤ m) (hm : mayExp k f (m : Int) = true) : (expI k f (m : Int)).take n = expI k f (n : Int) := by
  obtain ⟨h0, h1, h2, h3⟩ := (mayExp_iff k f m).1 hm
  have hn : mayExp k f (n : Int) = true := (mayExp_iff k f n).2 ⟨by omega, by omega, h2, h3⟩
  rw [expI_yes k f _ hm, expI_yes k f _ hn, Int.toNat_natCast, Int.toNat_natCast, List.take_take, Nat.min_eq_left h]
  obtain ⟨r, hr⟩ := blks_take k f ((n + 31) / 32) ((m + 31) / 32) (by omega)
  rw [hr, List.take_append_of_le_length (by rw [blks_len k f h3 h2]; omega)]
set_option maxRecDepth 100000 in
theorem chn_add (k : List Int) (i j : Nat) : chn (chn k i) j = chn k (i + j) := by
  induction j with
  | zero => rfl
  | succ j ih => show derI (chn (chn k i) j) rekey = _; rw [ih]; rfl

/-- The i-th block of a stream. -/
def sblk (k h : List Int) (i : Nat) : List Int := hmacI k (115 :: h ++ num (i : Int) 4)
def sblks (k h : List Int) : Nat → List Int
  | 0 => []
  | i + 1 => sblks k h i ++ sblk k h i
def blockI (k h : List Int) (i : Int) : List Int := if 0 ≤ i ∧ i ≤ 6 ∧ h.length ≤ 100 then sblk k h i.toNat else []
def mayStr (k h : List Int) (n : Int) : Bool := decide (0 ≤ n ∧ n ≤ 200 ∧ h.length ≤ 100 ∧ k.length ≤ 1048576)
set_option maxRecDepth 100000 in
theorem mayStr_iff (k h : List Int) (n : Int) : mayStr k h n = true ↔ 0 ≤ n ∧ n ≤ 200 ∧ h.length ≤ 100 ∧ k.length ≤ 1048576 := by simp [mayStr]
def strI (k h : List Int) (n : Int) : List Int := if mayStr k h n = true then (sblks k h ((n.toNat + 31) / 32)).take n.toNat else []
def xors (a b : List Int) : List Int := List.zipWith (fun x y => bits .xor .u8 x y) a b
def mixI (k h b : List Int) : List Int := if mayStr k h (b.length : Int) = true then xors b (strI k h (b.length : Int)) else []
set_option maxRecDepth 100000 in
theorem sblk_le (k h : List Int) (i : Nat) : (sblk k h i).length ≤ 32 := hmacI_le _ _
set_option maxRecDepth 100000 in
theorem sblk_len (k h : List Int) (hk : k.length ≤ 1048576) (hh : h.length ≤ 100) (i : Nat) : (sblk k h i).length = 32 := by
  unfold sblk
  apply hmacI_len k _ hk
  simp only [List.length_append, List.length_cons, num_length]
  omega
set_option maxRecDepth 100000 in
theorem sblks_len (k h : List Int) (hk : k.length ≤ 1048576) (hh : h.length ≤ 100) (i : Nat) : (sblks k h i).length = 32 * i := by
  induction i with
  | zero => rfl
  | succ i ih => unfold sblks; rw [List.length_append, ih, sblk_len k h hk hh]; omega
set_option maxRecDepth 100000 in
theorem sblks_bytes (k h : List Int) (i : Nat) : Bytes (sblks k h i) := by
  induction i with
  | zero => intro z hz; cases hz
  | succ i ih => unfold sblks; exact bytes_append ih (hmacI_bytes _ _)
set_option maxRecDepth 100000 in
theorem sblks_take (k h : List Int) (i j : Nat) (hij : i ≤ j) : ∃ r, sblks k h j = sblks k h i ++ r := by
  induction j with
  | zero => obtain rfl : i = 0 := by omega
            exact ⟨[], rfl⟩
  | succ j ih =>
    by_cases e : i = j + 1
    · subst e; exact ⟨[], by simp⟩
    · obtain ⟨r, hr⟩ := ih (by omega)
      exact ⟨r ++ sblk k h j, by rw [← List.append_assoc, ← hr]; rfl⟩
set_option maxRecDepth 100000 in
theorem strI_no (k h : List Int) (n : Int) (e : mayStr k h n = false) : strI k h n = [] := by unfold strI; rw [if_neg (by rw [e]; simp)]
set_option maxRecDepth 100000 in
theorem strI_yes (k h : List Int) (n : Int) (e : mayStr k h n = true) : strI k h n = (sblks k h ((n.toNat + 31) / 32)).take n.toNat := by unfold strI; rw [if_pos e]
set_option maxRecDepth 100000 in
theorem strI_len (k h : List Int) (n : Nat) (e : mayStr k h (n : Int) = true) : (strI k h (n : Int)).length = n := by
  obtain ⟨h0, h1, h2, h3⟩ := (mayStr_iff k h n).1 e
  rw [strI_yes k h _ e, List.length_take, sblks_len k h h3 h2, Int.toNat_natCast]
  omega
set_option maxRecDepth 100000 in
theorem strI_le (k h : List Int) (n : Int) : (strI k h n).length ≤ 200 := by
  cases e : mayStr k h n with
  | false => rw [strI_no k h n e]; simp
  | true =>
    obtain ⟨h0, h1, h2, h3⟩ := (mayStr_iff k h n).1 e
    obtain ⟨m, rfl⟩ := Int.eq_ofNat_of_zero_le h0
    rw [strI_len k h m e]; omega
set_option maxRecDepth 100000 in
theorem strI_bytes (k h : List Int) (n : Int) : Bytes (strI k h n) := by
  unfold strI; split
  · intro z hz; exact sblks_bytes k h _ z (List.mem_of_mem_take hz)
  · intro z hz; cases hz
set_option maxRecDepth 100000 in
theorem blockI_le (k h : List Int) (i : Int) : (blockI k h i).length ≤ 32 := by
  unfold blockI; split
  · exact sblk_le _ _ _
  · simp
set_option maxRecDepth 100000 in
theorem blockI_bytes (k h : List Int) (i : Int) : Bytes (blockI k h i) := by
  unfold blockI; split
  · exact hmacI_bytes _ _
  · intro z hz; cases hz
set_option maxRecDepth 100000 in
theorem xors_length (a b : List Int) : (xors a b).length = min a.length b.length := by simp [xors]
set_option maxRecDepth 100000 in
theorem xors_bytes {a b : List Int} (ha : Bytes a) (hb : Bytes b) : Bytes (xors a b) := by
  intro z hz
  unfold xors at hz
  rw [List.mem_iff_getElem] at hz
  obtain ⟨i, hi, rfl⟩ := hz
  rw [List.getElem_zipWith]
  have hi' : i < a.length ∧ i < b.length := by simp at hi; omega
  have h1 := ha _ (List.getElem_mem hi'.1)
  have h2 := hb _ (List.getElem_mem hi'.2)
  exact xor_byte _ _ h1.1 h1.2 h2.1 h2.2
set_option maxRecDepth 100000 in
theorem mixI_le (k h b : List Int) : (mixI k h b).length ≤ 200 := by
  unfold mixI; split
  · rw [xors_length]; have := strI_le k h (b.length : Int); omega
  · simp
set_option maxRecDepth 100000 in
/-- More bytes of a stream begin with fewer. -/
theorem strI_more (k h : List Int) (n m : Nat) (hnm : n ≤ m) (hm : mayStr k h (m : Int) = true) : (strI k h (m : Int)).take n = strI k h (n : Int) := by
  obtain ⟨h0, h1, h2, h3⟩ := (mayStr_iff k h m).1 hm
  have hn : mayStr k h (n : Int) = true := (mayStr_iff k h n).2 ⟨by omega, by omega, h2, h3⟩
  rw [strI_yes k h _ hm, strI_yes k h _ hn, Int.toNat_natCast, Int.toNat_natCast, List.take_take, Nat.min_eq_left hnm]
  obtain ⟨r, hr⟩ := sblks_take k h ((n + 31) / 32) ((m + 31) / 32) (by omega)
  rw [hr, List.take_append_of_le_length (by rw [sblks_len k h h3 h2]; omega)]
set_option maxRecDepth 100000 in
theorem xor_twice (x y : Int) (h1 : 0 ≤ x) (h2 : x ≤ 255) (h3 : 0 ≤ y) (h4 : y ≤ 255) : bits .xor .u8 (bits .xor .u8 x y) y = x := by
  have hx := xor_byte x y h1 h2 h3 h4
  rw [u8_xor _ y hx.1 (by omega) h3 (by omega), u8_xor x y h1 (by omega) h3 (by omega), Int.toNat_natCast, Nat.xor_assoc, Nat.xor_self, Nat.xor_zero]
  omega
set_option maxRecDepth 100000 in
theorem xors_at (a b : List Int) (i : Nat) (h1 : i < a.length) (h2 : i < b.length) : (xors a b)[i]? = some (bits .xor .u8 a[i] b[i]) := by
  unfold xors
  rw [List.getElem?_zipWith, List.getElem?_eq_getElem h1, List.getElem?_eq_getElem h2]
set_option maxRecDepth 100000 in
theorem xors_twice (a b : List Int) (ha : Bytes a) (hb : Bytes b) (hl : a.length = b.length) : xors (xors a b) b = a := by
  apply List.ext_getElem?
  intro i
  by_cases h : i < a.length
  · have hx : i < (xors a b).length := by rw [xors_length]; omega
    have e := xors_at a b i h (by omega)
    rw [List.getElem?_eq_getElem hx, Option.some.injEq] at e
    rw [xors_at (xors a b) b i hx (by omega), e, List.getElem?_eq_getElem h]
    have p := ha _ (List.getElem_mem h)
    have q := hb _ (List.getElem_mem (by omega : i < b.length))
    rw [xor_twice _ _ p.1 p.2 q.1 q.2]
  · rw [List.getElem?_eq_none (by rw [xors_length, xors_length]; omega), List.getElem?_eq_none (by omega)]
set_option maxRecDepth 100000 in
theorem mixI_of (k h b : List Int) (e : mayStr k h (b.length : Int) = true) : mixI k h b = xors b (strI k h (b.length : Int)) := by unfold mixI; rw [if_pos e]
set_option maxRecDepth 100000 in
theorem mixI_no (k h b : List Int) (e : mayStr k h (b.length : Int) = false) : mixI k h b = [] := by unfold mixI; rw [if_neg (by rw [e]; simp)]
set_option maxRecDepth 100000 in
theorem mixI_len (k h b : List Int) (e : mayStr k h (b.length : Int) = true) : (mixI k h b).length = b.length := by rw [mixI_of k h b e, xors_length, strI_len k h _ e, Nat.min_self]
set_option maxRecDepth 100000 in
theorem mixI_twice (k h b : List Int) (hb : Bytes b) (e : mayStr k h (b.length : Int) = true) : mixI k h (mixI k h b) = b := by
  have l1 := mixI_len k h b e
  rw [mixI_of k h (mixI k h b) (by rw [l1]; exact e), l1, mixI_of k h b e]
  exact xors_twice b _ hb (strI_bytes k h _) (by rw [strI_len k h _ e])
end Go.Proofs.Ytmcflfpckpjphaa.KdfP

namespace Go.Proofs.Ytmcflfpckpjphaa.SlQ
open Go.RowKit Go.Proofs.Ytmcflfpckpjphaa.Mem Go.Proofs.Ytmcflfpckpjphaa.App Go.Proofs.Ytmcflfpckpjphaa.Words Go.Proofs.Ytmcflfpckpjphaa.FrZ Go.Proofs.Ytmcflfpckpjphaa.FrP Go.Proofs.Ytmcflfpckpjphaa.FrG Go.Proofs.Ytmcflfpckpjphaa.KdfP Go.Proofs.Ytmcflfpckpjphaa.MacP Go.Proofs.Ytmcflfpckpjphaa.SlP

/-- Whether a frame of these is sealed: key of k bytes, name of n, text of p. -/
def sealOk (k : Int) (role n epoch seq kind p : Int) : Bool := (k == 32) && (headOk role n epoch seq && (isIn kind 4 8 && bodyOk kind p))
set_option maxRecDepth 100000 in
theorem sealOk_iff (k role n epoch seq kind p : Int) : sealOk k role n epoch seq kind p = true ↔ k = 32 ∧ headOk role n epoch seq = true ∧ (4 ≤ kind ∧ kind ≤ 8) ∧ bodyOk kind p = true := by
  unfold sealOk isIn; simp [and_assoc]
/-- The frame as it is tagged: with whatever tag of 16 bytes. -/
def draftD (sn : List Int) (epoch seq kind : Int) (body tag : List Int) : FrD := ⟨kind, 0, [], sn, 0, [], [], epoch, seq, body, tag⟩
set_option maxRecDepth 100000 in
theorem draft_tagIn (role : Int) (sn : List Int) (epoch seq kind : Int) (body tag tag' : List Int) (h : tag.length = tag'.length) : tagIn role (draftD sn epoch seq kind body tag) = tagIn role (draftD sn epoch seq kind body tag') := by
  have e : canTag role (draftD sn epoch seq kind body tag) = canTag role (draftD sn epoch seq kind body tag') := by
    unfold canTag frameOk draftD; simp only [h]
  unfold tagIn; rw [e]; rfl
set_option maxRecDepth 100000 in
theorem draft_can (role : Int) (sn : List Int) (epoch seq kind : Int) (body tag : List Int) (ht : tag.length = 16) : canTag role (draftD sn epoch seq kind body tag) = (headOk role sn.length epoch seq && (isIn kind 4 8 && bodyOk kind body.length)) := by
  rw [Bool.eq_iff_iff]
  constructor
  · intro h
    obtain ⟨h1, h2, h3⟩ := canTag_parts h
    have h4 := canTag_head h
    obtain ⟨_, _, h6, _, _, _, h7, h8, h9, _⟩ := (sealed_parts h2).1 h3
    rw [Bool.and_eq_true, Bool.and_eq_true]
    exact ⟨h4, isIn_yes h2, h9⟩
  · intro h
    rw [Bool.and_eq_true, Bool.and_eq_true] at h
    obtain ⟨h1, h2, h3⟩ := h
    obtain ⟨r1, r2, r3, r4⟩ := (headOk_iff _ _ _ _).1 h1
    have hk : 4 ≤ kind ∧ kind ≤ 8 := by unfold isIn at h2; simpa using h2
    exact canTag_of r1 hk ((sealed_parts (D := draftD sn epoch seq kind body tag) hk).2 ⟨rfl, rfl, by show sn.length = 12; omega, rfl, rfl, rfl, r3, r4, h3, ht⟩)
/-- What is sealed. -/
def sealD (key : List Int) (role : Int) (sn : List Int) (epoch seq kind : Int) (plain : List Int) : FrD :=
  draftD sn epoch seq kind (mixI key (headL role sn epoch seq) plain) (tagI key (tagIn role (draftD sn epoch seq kind (mixI key (headL role sn epoch seq) plain) (List.replicate 16 0))))
/-- Whether it is sealed, and what. -/
def sealB (key : List Int) (role : Int) (sn : List Int) (epoch seq kind : Int) (plain : List Int) : Bool := sealOk key.length role sn.length epoch seq kind plain.length
def sealF (key : List Int) (role : Int) (sn : List Int) (epoch seq kind : Int) (plain : List Int) : FrD := if sealB key role sn epoch seq kind plain = true then sealD key role sn epoch seq kind plain else zeroF
/-- Whether it is opened, and what it was. -/
def unsealB (key : List Int) (role : Int) (D : FrD) : Bool := ((key.length : Int) == 32) && (canTag role D && decide (D.tag = tagI key (tagIn role D)))
def unsealL (key : List Int) (role : Int) (D : FrD) : List Int := if unsealB key role D = true then mixI key (headL role D.sn D.epoch D.seq) D.body else []

set_option maxRecDepth 100000 in
theorem seal_may {key : List Int} {role : Int} {sn : List Int} {epoch seq kind : Int} {plain : List Int} (h : sealB key role sn epoch seq kind plain = true) :
    key.length = 32 ∧ headOk role sn.length epoch seq = true ∧ (4 ≤ kind ∧ kind ≤ 8) ∧ bodyOk kind plain.length = true ∧ plain.length ≤ 40 ∧ mayStr key (headL role sn epoch seq) (plain.length : Int) = true := by
  obtain ⟨h1, h2, h3, h4⟩ := (sealOk_iff _ _ _ _ _ _ _).1 h
  have h5 := bodyOk_le h4
  have h6 := headL_le role sn epoch seq
  exact ⟨by omega, h2, h3, h4, by omega, (mayStr_iff _ _ _).2 ⟨by omega, by omega, by omega, by omega⟩⟩
set_option maxRecDepth 100000 in
theorem seal_body {key : List Int} {role : Int} {sn : List Int} {epoch seq kind : Int} {plain : List Int} (h : sealB key role sn epoch seq kind plain = true) : (mixI key (headL role sn epoch seq) plain).length = plain.length := by
  exact mixI_len _ _ _ (seal_may h).2.2.2.2.2
set_option maxRecDepth 100000 in
theorem seal_can {key : List Int} {role : Int} {sn : List Int} {epoch seq kind : Int} {plain : List Int} (tag : List Int) (ht : tag.length = 16) (h : sealB key role sn epoch seq kind plain = true) : canTag role (draftD sn epoch seq kind (mixI key (headL role sn epoch seq) plain) tag) = true := by
  rw [draft_can _ _ _ _ _ _ _ ht, seal_body h]
  obtain ⟨_, h2, h3, h4, _⟩ := seal_may h
  rw [h2, isIn_yes h3, h4]; rfl
set_option maxRecDepth 100000 in
theorem seal_tag_len {key : List Int} {role : Int} {sn : List Int} {epoch seq kind : Int} {plain : List Int} (h : sealB key role sn epoch seq kind plain = true) : (sealD key role sn epoch seq kind plain).tag.length = 16 := by
  exact tagI_len _ _ (by have := (seal_may h).1; omega) (by have := tagIn_le role (draftD sn epoch seq kind (mixI key (headL role sn epoch seq) plain) (List.replicate 16 0)); omega)
set_option maxRecDepth 100000 in
theorem seal_canD {key : List Int} {role : Int} {sn : List Int} {epoch seq kind : Int} {plain : List Int} (h : sealB key role sn epoch seq kind plain = true) : canTag role (sealD key role sn epoch seq kind plain) = true := seal_can _ (seal_tag_len h) h
set_option maxRecDepth 100000 in
theorem seal_ok {key : List Int} {role : Int} {sn : List Int} {epoch seq kind : Int} {plain : List Int} (h : sealB key role sn epoch seq kind plain = true) : frameOk (sealD key role sn epoch seq kind plain) = true := (canTag_parts (seal_canD h)).2.2
set_option maxRecDepth 100000 in
theorem seal_tag {key : List Int} {role : Int} {sn : List Int} {epoch seq kind : Int} {plain : List Int} (h : sealB key role sn epoch seq kind plain = true) : (sealD key role sn epoch seq kind plain).tag = tagI key (tagIn role (sealD key role sn epoch seq kind plain)) := by
  exact congrArg (tagI key) (draft_tagIn role sn epoch seq kind _ _ _ (by rw [List.length_replicate]; exact (seal_tag_len h).symm))
set_option maxRecDepth 100000 in
theorem seal_unseal {key : List Int} {role : Int} {sn : List Int} {epoch seq kind : Int} {plain : List Int} (h : sealB key role sn epoch seq kind plain = true) : unsealB key role (sealD key role sn epoch seq kind plain) = true := by
  unfold unsealB
  rw [seal_canD h, decide_eq_true (seal_tag h)]
  have := (seal_may h).1
  simp [this]
set_option maxRecDepth 100000 in
theorem seal_back {key : List Int} {role : Int} {sn : List Int} {epoch seq kind : Int} {plain : List Int} (hb : Bytes plain) (h : sealB key role sn epoch seq kind plain = true) : unsealL key role (sealD key role sn epoch seq kind plain) = plain := by
  unfold unsealL
  rw [if_pos (seal_unseal h)]
  exact mixI_twice _ _ _ hb (seal_may h).2.2.2.2.2
set_option maxRecDepth 100000 in
theorem sealF_yes {key : List Int} {role : Int} {sn : List Int} {epoch seq kind : Int} {plain : List Int} (h : sealB key role sn epoch seq kind plain = true) : sealF key role sn epoch seq kind plain = sealD key role sn epoch seq kind plain := by unfold sealF; rw [if_pos h]
set_option maxRecDepth 100000 in
theorem sealF_no {key : List Int} {role : Int} {sn : List Int} {epoch seq kind : Int} {plain : List Int} (h : sealB key role sn epoch seq kind plain = false) : sealF key role sn epoch seq kind plain = zeroF := by unfold sealF; rw [if_neg (by rw [h]; simp)]
set_option maxRecDepth 100000 in
theorem unsealL_yes {key : List Int} {role : Int} {D : FrD} (h : unsealB key role D = true) : unsealL key role D = mixI key (headL role D.sn D.epoch D.seq) D.body := by unfold unsealL; rw [if_pos h]
set_option maxRecDepth 100000 in
theorem unsealL_no {key : List Int} {role : Int} {D : FrD} (h : unsealB key role D = false) : unsealL key role D = [] := by unfold unsealL; rw [if_neg (by rw [h]; simp)]
set_option maxRecDepth 100000 in
theorem unseal_parts {key : List Int} {role : Int} {D : FrD} (h : unsealB key role D = true) : key.length = 32 ∧ canTag role D = true ∧ D.tag = tagI key (tagIn role D) := by
  unfold unsealB at h; simp at h; exact ⟨by omega, h.2.1, h.2.2⟩
set_option maxRecDepth 100000 in
theorem mixI_bytes (k h b : List Int) (hb : Bytes b) : Bytes (mixI k h b) := by
  by_cases e : mayStr k h (b.length : Int) = true
  · rw [mixI_of _ _ _ e]; exact xors_bytes hb (strI_bytes _ _ _)
  · rw [mixI_no _ _ _ (by simpa using e)]; exact fun z hz => by cases hz
set_option maxRecDepth 100000 in
theorem unsealL_le (key : List Int) (role : Int) (D : FrD) : (unsealL key role D).length ≤ 200 := by
  unfold unsealL; split
  · exact mixI_le _ _ _
  · simp
set_option maxRecDepth 100000 in
theorem sealD_short {key : List Int} {role : Int} {sn : List Int} {epoch seq kind : Int} {plain : List Int} (h : sealB key role sn epoch seq kind plain = true) : FrShort (sealD key role sn epoch seq kind plain) 100 := FrQ3.short_ok _ (seal_ok h)
set_option maxRecDepth 100000 in
theorem zeroF_short (n : Nat) : FrShort zeroF n := ⟨Nat.zero_le _, Nat.zero_le _, Nat.zero_le _, Nat.zero_le _, Nat.zero_le _, Nat.zero_le _⟩
set_option maxRecDepth 100000 in
theorem short_le {D : FrD} {n m : Nat} (h : FrShort D n) (hm : n ≤ m) : FrShort D m := ⟨by have := h.cn; omega, by have := h.sn; omega, by have := h.cookie; omega, by have := h.proof; omega, by have := h.body; omega, by have := h.tag; omega⟩
set_option maxRecDepth 100000 in
theorem sealF_short (key : List Int) (role : Int) (sn : List Int) (epoch seq kind : Int) (plain : List Int) : FrShort (sealF key role sn epoch seq kind plain) 100 := by
  by_cases h : sealB key role sn epoch seq kind plain = true
  · rw [sealF_yes h]; exact sealD_short h
  · rw [sealF_no (by simpa using h)]; exact zeroF_short _
end Go.Proofs.Ytmcflfpckpjphaa.SlQ

namespace Go.Proofs.Ytmcflfpckpjphaa.ShaS
open Go.RowKit Go.Proofs.Ytmcflfpckpjphaa.Mem Go.Proofs.Ytmcflfpckpjphaa.MemI Go.Proofs.Ytmcflfpckpjphaa.Blk Go.Proofs.Ytmcflfpckpjphaa.App Go.Proofs.Ytmcflfpckpjphaa.Get Go.Proofs.Ytmcflfpckpjphaa.ShaP Go.Proofs.Ytmcflfpckpjphaa.Word Go.Proofs.Ytmcflfpckpjphaa.Bits Go.Proofs.Ytmcflfpckpjphaa.Sched Go.Proofs.Ytmcflfpckpjphaa.Words Go.Proofs.Ytmcflfpckpjphaa.WordsOf Go.Proofs.Ytmcflfpckpjphaa.Comp Go.Proofs.Ytmcflfpckpjphaa.CompS Go.Proofs.Ytmcflfpckpjphaa.Start Go.Proofs.Ytmcflfpckpjphaa.Cuts Go.Proofs.Ytmcflfpckpjphaa.Pads Go.Proofs.Ytmcflfpckpjphaa.Adds Go.Proofs.Ytmcflfpckpjphaa.Ends

set_option maxRecDepth 100000 in
theorem putN4 (z : Int) : putN z 4 = num z 4 := rfl
set_option maxRecDepth 100000 in
set_option maxHeartbeats 800000 in
theorem l2Out (gh ch : Nat) (h : List Int) (w : World) (hh : h.length = 8) (hr : IRow w gh ch h) :
    Calls Try.prog 125 #[.slice (some ⟨gh, 0, none⟩) 8 ch] w fun e w' =>
      ∃ g c, e = .returned (.slice (some ⟨g, 0, none⟩) 32 c) ∧ w.heap.size ≤ g ∧ Row w' g c (outB h) ∧ Below w.heap.size w w' := by
  have HH : Hid (h.length = 8) := hh
  have HR : Hid (IRow w gh ch h) := hr
  have A0 : Hid (Below w.heap.size w (w.alloc (.cells #[] 5))) := (Below.refl _ _).alloc (Nat.le_refl _) _
  have R0 : Hid (Row (w.alloc (.cells #[] 5)) w.heap.size 0 (outB (h.take 0))) := row_new w [] (by simp)
  clear hh hr
  go_enter Try.func125, Try.ntmps125
  go_wp2
  go_loopw [3, 4] (fun v i wr => ∃ k gg cc : Nat, k ≤ 8 ∧ i = .int .i64 k ∧ v = .slice (some ⟨gg, 0, none⟩) (4 * k) cc ∧ w.heap.size ≤ gg ∧ Row wr gg cc (outB (h.take k)) ∧ Below w.heap.size w wr)
    (fun _ i _ => 8 - (intOf i).toNat)
  case atStart => exact ⟨0, w.heap.size, 0, Nat.zero_le _, rfl, rfl, Nat.le_refl _, R0.out, A0.out⟩
  case round =>
    obtain ⟨k, gg, cc, hk, rfl, rfl, hgg, hRow, hbe⟩ := hrel
    have HRow : Hid (Row wr gg cc (outB (h.take k))) := hRow
    have HBe : Hid (Below w.heap.size w wr) := hbe
    clear R0 A0 hRow hbe
    by_cases hlt : k < 8
    · have hc := (HR.out.later HBe.out).cell k (by rw [HH.out]; exact hlt)
      have HT1 : Hid (outB (h.take (k + 1)) = outB (h.take k) ++ putN (h.getD k 0) 4) := by
        show _ = _
        rw [List.take_succ_eq_append_getElem (by rw [HH.out]; exact hlt), outB_snoc, putN4]
        simp [List.getD, HH.out, hlt]
      have HOL : Hid (4 * k = (outB (h.take k)).length) := by show _ = _; rw [outB_length, List.length_take, HH.out]; omega
      generalize h.getD k 0 = z at *
      go_wp2_with fail
      refine (specPutN _ (4 * k) cc _ z 4 wr HOL.out HRow.out.rd (by intro e; cases e) (by rw [← HOL.out]; omega)).mono ?_
      rintro e w2 ⟨g2, m2, c2, rfl, e2, k2, r2, b2⟩
      have HM : Hid (m2 = 4 * (k + 1)) := by show _ = _; rw [e2, List.length_append, ← HOL.out, putN4, num_length]; omega
      have K2 : Hid (w.heap.size ≤ g2) := Nat.le_trans HBe.out.size k2
      have R2 : Hid (Row w2 g2 c2 (outB (h.take k) ++ putN z 4)) := r2
      have B2 : Hid (Below w.heap.size w w2) := HBe.out.trans (b2.mono HBe.out.size)
      clear e2 k2 r2 b2
      go_wp2
      go_roundw
      case rel => exact ⟨k + 1, g2, c2, by omega, by go_num, by rw [HM.out], K2.out, by rw [HT1.out]; exact R2.out, B2.out⟩
      case measure => simp [intOf]; omega
    · obtain rfl : k = 8 := by omega
      have HT8 : Hid (outB h = outB (h.take 8)) := by show _ = _; rw [List.take_of_length_le (by rw [HH.out]; exact Nat.le_refl _)]
      go_wp2
      go_ret
      exact ⟨gg, cc, rfl, hgg, by rw [HT8.out]; exact HRow.out, HBe.out⟩

set_option maxRecDepth 100000 in
theorem compI_ok (h b : List Int) (hh : h.length = 8) (hw : Wds h) (hb : b.length = 64) : compI h b = comp h b := by
  unfold compI; rw [if_pos ⟨(okw_iff h).2 ⟨hh, hw⟩, hb⟩]

set_option maxRecDepth 100000 in
set_option maxHeartbeats 2000000 in
theorem specSha (a : Option Addr) (n cap : Nat) (b : List Int) (w : World) (hn : n = b.length) (hr : Rd w a b) (na : a = none → cap = 0) (hb : Bytes b) (hl : n ≤ 2097152) :
    Calls Try.prog 117 #[.slice a n cap] w fun e w' =>
      ∃ g m c, e = .returned (.slice (some ⟨g, 0, none⟩) m c) ∧ m = (shaI b).length ∧ w.heap.size ≤ g ∧ Row w' g c (shaI b) ∧ Below w.heap.size w w' := by
  have HN : Hid (n = b.length) := hn
  have HR : Hid (Rd w a b) := hr
  have HB : Hid (Bytes b) := hb
  have A0 : Hid (Below w.heap.size w (w.alloc (.cells #[] 5))) := (Below.refl _ _).alloc (Nat.le_refl _) _
  have R0 : Hid (Row (w.alloc (.cells #[] 5)) w.heap.size 0 []) := row_new w [] (by simp)
  clear hn hr hb
  by_cases h1 : n ≤ 1048576
  · have HS : Hid (shaI b = outB (run start8 (b ++ padI (n : Int)) ((b ++ padI (n : Int)).length / 64))) := by
      show _ = _
      unfold shaI; rw [if_pos (by rw [← HN.out]; exact h1), padI_nat n h1, HN.out]; rfl
    have HPL : Hid ((padI (n : Int)).length = 9 + (64 - (n + 9) % 64) % 64) := by show _ = _; rw [padI_nat n h1, padOf_length]
    go_enter Try.func117, Try.ntmps117
    go_wp2_with (at_builtin; refine wpList_app _ rfl (.tmp 10) (.tmp 11) rfl w.heap.size w.heap.size 0 0 [] b rfl rfl R0.out (Nat.le_refl _) a n cap rfl HN.out (HR.out.later A0.out (Nat.le_refl _)) na (by rw [← HN.out]; simp; omega) ?_; intro g1 c1 w1 r1 b1 l1 gr1; have R1 : Hid (Row w1 g1 c1 b) := (List.nil_append b) ▸ r1; have B1 : Hid (Below w.heap.size w w1) := A0.out.grown gr1 A0.out.size (fun k h => by cases h; exact Nat.le_refl _); clear r1 gr1 l1)
    refine (specPad (n : Int) w1).mono ?_
    rintro e w2 ⟨gp, mp, cp, rfl, e2, k2, r2, b2⟩
    have R2 : Hid (Row w2 gp cp (padI (n : Int))) := r2
    have E2 : Hid (mp = (padI (n : Int)).length) := e2
    have B2 : Hid (Below w.heap.size w w2) := B1.out.trans (b2.mono B1.out.size)
    have R12 : Hid (Row w2 g1 c1 b) := R1.out.later b2
    clear r2 e2 k2 b2
    go_wp2_with (at_builtin; refine wpList_app _ rfl (.tmp 12) (.tmp 15) rfl w.heap.size g1 n c1 b (padI (n : Int)) (by simp [Act.eval]) HN.out R12.out b1 (some ⟨gp, 0, none⟩) mp cp rfl E2.out R2.out.rd (by intro e; cases e) (by rw [← HN.out, HPL.out]; omega) ?_; intro g3 c3 w3 r3 b3 l3 gr3; have R3 : Hid (Row w3 g3 c3 (b ++ padI (n : Int))) := r3; have B3 : Hid (Below w.heap.size w w3) := B2.out.grown gr3 B2.out.size (fun k h => by cases h; exact b1); clear r3 gr3 l3)
    obtain ⟨x, hx⟩ : ∃ x, b ++ padI (n : Int) = x := ⟨_, rfl⟩
    rw [hx] at HS R3
    obtain ⟨L, hL⟩ : ∃ L, n + mp = L := ⟨_, rfl⟩
    have HL : Hid (x.length = L) := by rw [← hx, ← hL, List.length_append, ← HN.out, ← E2.out]; simp [Hid]
    obtain ⟨Q, hQ⟩ : ∃ Q, L = 64 * Q := ⟨L / 64, by have := HPL.out; have := E2.out; omega⟩
    subst hQ
    have HXB : Hid (Bytes x) := by
      rw [← hx]
      exact fun z hz => (List.mem_append.1 hz).elim (HB.out z) (padI_bytes _ z)
    have hQm : 64 * Q ≤ 4194304 := by have := HPL.out; have := E2.out; omega
    rw [hL]
    clear hL hx R1 B1 R2 R12 B2 E2 HPL
    go_wp2_with fail
    refine (specStart w3).mono ?_
    rintro e w4 ⟨rfl, r4, b4⟩
    have HS8 : Hid (start8.length = 8) := (rfl : start8.length = 8)
    have HSW : Hid (Wds start8) := start8_wds
    have KH : Hid (w.heap.size ≤ w3.heap.size) := B3.out.size
    have RH : Hid (IRow w4 w3.heap.size 8 (run start8 x 0)) := r4
    have RX : Hid (Row w4 g3 c3 x) := R3.out.later b4
    have BX : Hid (Below w.heap.size w w4) := B3.out.trans (b4.mono B3.out.size)
    clear r4 b4 R3 B3
    go_wp2
    go_loopw [4, 5] (fun v i wr => ∃ q gh ch : Nat, q ≤ Q ∧ i = .int .i64 (64 * (q : Int)) ∧ v = .slice (some ⟨gh, 0, none⟩) 8 ch ∧ w.heap.size ≤ gh ∧ IRow wr gh ch (run start8 x q) ∧ Row wr g3 c3 x ∧ Below w.heap.size w wr)
      (fun _ i _ => 64 * Q - (intOf i).toNat)
    case atStart => exact ⟨0, w3.heap.size, 8, Nat.zero_le _, rfl, rfl, KH.out, RH.out, RX.out, BX.out⟩
    case round =>
      obtain ⟨q, gh, ch, hq, rfl, rfl, hgh, hH, hX, hbe⟩ := hrel
      have HH : Hid (IRow wr gh ch (run start8 x q)) := hH
      have HX : Hid (Row wr g3 c3 x) := hX
      have HBe : Hid (Below w.heap.size w wr) := hbe
      have HRL : Hid ((run start8 x q).length = 8) := run_length start8 x q HS8.out
      have HRW : Hid (Wds (run start8 x q)) := run_wds start8 x q HSW.out
      have hc3 : 64 * Q ≤ c3 := by have := hX.1; rw [HL.out] at this; exact this
      clear hH hX hbe KH RH RX BX
      by_cases hlt : q < Q
      · have HPL2 : Hid ((piece x (64 * q) 64).length = 64) := piece_length x (64 * q) 64 (by rw [HL.out]; omega)
        have HP : Hid (Rd wr (some ⟨g3, 64 * q, none⟩) (piece x (64 * q) 64)) := by
          have := rd_piece HX.out.rd (64 * q) 64 (by rw [HL.out]; omega)
          rwa [Nat.zero_add] at this
        have HPB : Hid (Bytes (piece x (64 * q) 64)) := piece_bytes HXB.out _ _
        have HCI : Hid (compI (run start8 x q) (piece x (64 * q) 64) = run start8 x (q + 1)) := compI_ok _ _ HRL.out HRW.out HPL2.out
        have i1 : (64 * (q : Int)) < 64 * (Q : Int) := by omega
        have i2 : (64 * (q : Int)) + 64 ≤ 64 * (Q : Int) := by omega
        go_wp2_with fail
        refine (specCompress (some ⟨gh, 0, none⟩) 8 ch (run start8 x q) (some ⟨g3, 64 * q, none⟩) _ _ (piece x (64 * q) 64) wr HRL.out.symm HH.out.rd (by intro e; cases e) (by omega) (by rw [HPL2.out]) HP.out HPB.out (by omega)).mono ?_
        rintro e w5 ⟨g5, m5, c5, rfl, e5, k5, r5, b5⟩
        rw [HCI.out] at e5 r5
        obtain rfl : m5 = 8 := by rw [e5, run_length start8 x (q + 1) HS8.out]
        have R5 : Hid (IRow w5 g5 c5 (run start8 x (q + 1))) := r5
        have K5 : Hid (w.heap.size ≤ g5) := Nat.le_trans HBe.out.size k5
        have B5 : Hid (Below w.heap.size w w5) := HBe.out.trans (b5.mono HBe.out.size)
        have X5 : Hid (Row w5 g3 c3 x) := HX.out.later b5
        clear r5 e5 k5 b5 HCI HPB HP HPL2
        go_wp2
        go_roundw
        case rel => exact ⟨q + 1, g5, c5, by omega, by go_num, rfl, K5.out, R5.out, X5.out, B5.out⟩
        case measure => simp [intOf]; omega
      · obtain rfl : q = Q := by omega
        have i3 : ¬ (64 * (q : Int) < 64 * (q : Int)) := by omega
        go_wp2_with fail
        refine (l2Out gh ch (run start8 x q) wr HRL.out HH.out).mono ?_
        rintro e w6 ⟨g6, c6, rfl, k6, r6, b6⟩
        have HE : Hid (shaI b = outB (run start8 x q)) := by
          show _ = _
          rw [HS.out, HL.out, Nat.mul_div_cancel_left q (by omega)]
        have HE2 : Hid ((shaI b).length = 32) := by show _ = _; rw [HE.out, outB_length, HRL.out]
        have K6 : Hid (w.heap.size ≤ g6) := Nat.le_trans HBe.out.size k6
        have R6 : Hid (Row w6 g6 c6 (shaI b)) := by show Row _ _ _ _; rw [HE.out]; exact r6
        have B6 : Hid (Below w.heap.size w w6) := HBe.out.trans (b6.mono HBe.out.size)
        clear r6 k6 b6
        go_wp2
        go_ret
        exact ⟨g6, 32, c6, rfl, HE2.out.symm, K6.out, R6.out, B6.out⟩
  · have HS : Hid (shaI b = []) := by show _ = _; unfold shaI; rw [if_neg (by rw [← HN.out]; exact h1)]
    clear HR HB
    go_enter Try.func117, Try.ntmps117
    go_wp2
    go_ret
    exact ⟨w.heap.size, 0, 0, by simp, by rw [HS.out]; rfl, Nat.le_refl _, by rw [HS.out]; exact R0.out, A0.out⟩
end Go.Proofs.Ytmcflfpckpjphaa.ShaS
