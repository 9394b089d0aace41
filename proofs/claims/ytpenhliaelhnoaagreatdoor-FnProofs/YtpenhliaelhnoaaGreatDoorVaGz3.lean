/-
  What impl's and spec's Schedule answer at every slice of bytes of at most 4,194,304: the same words, in new memory.
  What spec's l1In, l2Words and l2K and impl's list of eight words answer, at every slice of ints of at most 4,194,304.
  Keys as plain functions: which words are shared, and what a proof is of.
  What impl's and spec's Cut answer at every slice of at most 4,194,304 bytes that is not nil and every two ints: the same bytes, in new memory, and the same word on whether they were there.
  What impl's wordsOf answers at every slice of ints of at most 4,194,304: whether they are eight words, and then those.
  What impl's and spec's Schedule answer at every slice of bytes of at most 4,194,304: the same words, in new memory.
-/
import Derived.Test.YtpenhliaelhnoaaGreatDoorVaGz2
import Derived.Deep.RegionWith
import Derived.Test.YtpenhliaelhnoaaGreatDoorVaGz1
import Derived.ChangeKeysEq
set_option linter.unusedVariables false
set_option maxRecDepth 100000
namespace Go.Proofs.YtpenhliaelhnoaaGreatDoor.Sched
open Go.RowKit Mem MemI Blk App Get ShaP Word Bits

abbrev z64 : List Int := List.replicate 64 0
theorem info65 : (Tryz.prog.info? 118).map (fun i => (i.zero, i.size)) = some (some (.agg ((z64.map (Value.int .i64)).toArray)), 64) := by kernel_rfl

def filled (l : List Int) : List Int := l ++ List.replicate (64 - l.length) 0
theorem filled_set (l : List Int) (z : Int) (h : l.length < 64) : (filled l).set l.length z = filled (l ++ [z]) := by
 unfold filled
 rw [List.set_append, if_neg (by omega), Nat.sub_self, List.length_append, show 64 - l.length = (64 - (l.length + [z].length)) + 1 by simp; omega, List.replicate_succ]
 simp
theorem filled_length (l : List Int) (h : l.length ≤ 64) : (filled l).length = 64 := by simp [filled]; omega
theorem filled_getD (l : List Int) (i : Nat) (h : i < l.length) : (filled l).getD i 0 = l.getD i 0 := by simp [filled, List.getD, List.getElem?_append, h]

theorem blk_setRow {w : World} {g : Nat} {t : TypeId} {cs : List Value} (h : Blk w g t cs) (c' : Array Value) {l : List Value} (e : c' = l.toArray) : Blk (w.setRow g c') g t l := by
 subst e
 unfold Blk at *
 show (w.heap.modify g _)[g]? = _
 rw [Array.getElem?_modify, if_pos rfl, h]; rfl
theorem below_setRow (w : World) {B g : Nat} (h : B ≤ g) (c' : Array Value) : Below B w (w.setRow g c') := by
 refine ⟨rfl, rfl, rfl, ?_, fun k hk => ?_⟩
 ·
  show w.heap.size ≤ (w.heap.modify g _).size
  rw [Array.size_modify]; exact Nat.le_refl _
 ·
  show (w.heap.modify g _)[k]? = _
  rw [Array.getElem?_modify, if_neg (by omega)]

theorem implRotD (x n : Int) (w : World) (q : Nat) :
  Calls Tryz.prog 112 #[.int .i64 x, .int .i64 n] (w.drewN q) fun e w' => e = .returned (.int .i64 (rot x n)) ∧ ∃ m, w' = w.drewN m :=
 (implRot x n _).mono fun _ _ h => ⟨h.1, h.2.elim fun _ e => ⟨_, e.trans (World.drewN_drewN _ _ _)⟩⟩
theorem specRotD (x n : Int) (w : World) (q : Nat) :
  Calls Tryz.prog 110 #[.int .i64 x, .int .i64 n] (w.drewN q) fun e w' => e = .returned (.int .i64 (rot x n)) ∧ ∃ m, w' = w.drewN m :=
 (specRot x n _).mono fun _ _ h => ⟨h.1, h.2.elim fun _ e => ⟨_, e.trans (World.drewN_drewN _ _ _)⟩⟩

set_option maxHeartbeats 1000000 in
theorem implSchedule64 (a : Option Addr) (cap : Nat) (b : List Int) (w : World) (hl : b.length = 64) (hr : Rd w a b) (hb : Bytes b) (hc : 64 ≤ cap) :
  Calls Tryz.prog 111 #[.slice a 64 cap] w fun e w' => e = .returned (.agg ((sched b).map (Value.int .i64)).toArray) ∧ Below w.heap.size w w' := by
 have HR := hid (hr)
 have HB := hid (hb)
 have HL : Hid (b.length = 64) := hl
 clear hr hb hl
 obtain ⟨zv, zs⟩ := zero_of_info info65
 go_enter Tryz.func111, Tryz.ntmps111
 have HZ1 : Hid (Blk (w.alloc (.cells (z64.map (Value.int .i64)).toArray 118)) w.heap.size 118 (z64.map (Value.int .i64))) := Blk.new _ _ _
 have HA1 : Hid (Below w.heap.size w (w.alloc (.cells (z64.map (Value.int .i64)).toArray 118))) := (Below.refl _ _).alloc (Nat.le_refl _) _
 go_wp2
 go_loopw [8] (fun i wr => ∃ k : Nat, k ≤ 16 ∧ i = .int .i64 k ∧ Blk wr (w.heap.size + 1) 118 ((filled (first b k)).map (Value.int .i64)) ∧ Blk wr w.heap.size 118 (z64.map (Value.int .i64)) ∧ Below w.heap.size w wr)
  (fun i _ => 16 - (intOf i).toNat)
 case atStart =>
  refine ⟨0, Nat.zero_le _, rfl, ?_, ?_, ?_⟩
  ·
   have := Blk.new (w.alloc (.cells (z64.map (Value.int .i64)).toArray 118)) 118 (z64.map (Value.int .i64))
   rw [show (w.alloc (.cells (z64.map (Value.int .i64)).toArray 118)).heap.size = w.heap.size + 1 by simp] at this
   exact this
  ·
   exact HZ1.out.alloc _
  ·
   exact HA1.out.alloc (by simp) _
 case round =>
  obtain ⟨k, hk, rfl, hB1, hB0, hbe⟩ := hrel
  clear HZ1 HA1
  by_cases hlt : k < 16
  ·
   have hG : gotN b ((k : Int) * 4) 4 = .tuple #[.int .i64 (val (piece b (4 * k) 4)), .int .i64 ((k : Int) * 4 + 4), .bool true] := by
    unfold gotN
    rw [if_pos ⟨(isSize_iff 4).2 (by omega), there_yes (by rw [HL.out]; omega)⟩]
    rw [show ((k : Int) * 4).toNat = 4 * k by omega]; rfl
   have hfr := hB1.frozen k
   have hca := hB1.cell k (v := .int .i64 ((filled (first b k)).getD k 0)) (by have := filled_length (first b k) (by rw [first_length]; omega); simp [List.getD, this, show k < 64 by omega])
   have N1 : Hid (Blk (wr.setCell ⟨w.heap.size + 1, k, none⟩ (.int .i64 (val (piece b (4 * k) 4)))) (w.heap.size + 1) 118 ((filled (first b (k + 1))).map (Value.int .i64))) := by
    have := hB1.set k (.int .i64 (val (piece b (4 * k) 4))) (by rw [List.length_map, filled_length _ (by rw [first_length]; omega)]; simp [maxLen])
    rw [← List.map_set] at this
    have e := filled_set (first b k) (val (piece b (4 * k) 4)) (by rw [first_length]; omega)
    rw [first_length, ← first_succ] at e
    rw [e] at this
    exact this
   have N0 : Hid (Blk (wr.setCell ⟨w.heap.size + 1, k, none⟩ (.int .i64 (val (piece b (4 * k) 4)))) w.heap.size 118 (z64.map (Value.int .i64))) := hB0.other (by simp) _
   have NB : Hid (Below w.heap.size w (wr.setCell ⟨w.heap.size + 1, k, none⟩ (.int .i64 (val (piece b (4 * k) 4))))) := hbe.setCell (by simp) _
   have HR' : Hid (Rd wr a b) := HR.out.later hbe (Nat.le_refl _)
   clear hB1 hB0 hbe
   generalize (filled (first b k)).getD k 0 = v0 at *
   generalize val (piece b (4 * k) 4) = v1 at *
   go_wp2_with fail
   refine (implGetN a 64 cap b ((k : Int) * 4) 4 wr HL.out.symm HR'.out HB.out hc (by omega) (by omega)).mono ?_
   rintro e w1 ⟨rfl, rfl⟩
   go_wp2
   go_roundw
   case rel => exact ⟨k + 1, by omega, by go_num, N1.out, N0.out, NB.out⟩
   case measure => simp [intOf]; omega
  ·
   obtain rfl : k = 16 := by omega
   have HB1 := hid (hB1)
   have HB0 := hid (hB0)
   have HBE := hid (hbe)
   clear hB1 hB0 hbe
   go_wp2
   go_loopw [5] (fun i wr => ∃ n : Nat, n ≤ 48 ∧ i = .int .i64 ((n : Int) + 16) ∧ Blk wr (w.heap.size + 1) 118 ((filled (more (first b 16) n)).map (Value.int .i64)) ∧ Blk wr w.heap.size 118 (z64.map (Value.int .i64)) ∧ Below w.heap.size w wr)
    (fun i _ => 64 - (intOf i).toNat)
   case atStart => exact ⟨0, Nat.zero_le _, rfl, HB1.out, HB0.out, HBE.out⟩
   case round =>
    obtain ⟨n, hn, rfl, hB1, hB0, hbe⟩ := hrel
    clear HB1 HB0 HBE
    by_cases hlt : n < 48
    ·
     have hlen : (more (first b 16) n).length = n + 16 := by rw [more_length, first_length]; omega
     have hfl := filled_length (more (first b 16) n) (by omega)
     have hcl : ∀ i, i < n + 16 → wr.cell? ⟨w.heap.size + 1, i, none⟩ = some (.int .i64 ((more (first b 16) n).getD i 0)) := by
      intro i hi
      rw [← filled_getD _ i (by omega)]
      exact hB1.cell i (by simp [List.getD, hfl, show i < 64 by omega])
     have c1 := hcl (n + 1) (by omega)
     have c2 := hcl (n + 14) (by omega)
     have c3 := hcl (n + 9) (by omega)
     have c4 := hcl n (by omega)
     have hws : Wds (more (first b 16) n) := more_wds _ _ (first_wds b 16 HB.out)
     have w1 := hws.at (n + 1)
     have w2 := hws.at (n + 14)
     have w3 := hws.at (n + 9)
     have w4 := hws.at n
     obtain ⟨z, hz⟩ : ∃ z, nextW (more (first b 16) n) (16 + n) = z := ⟨_, rfl⟩
     have HN : Hid (((more (first b 16) n).getD (n + 9) 0 + (more (first b 16) n).getD n 0 + s0 ((more (first b 16) n).getD (n + 1) 0) + s1 ((more (first b 16) n).getD (n + 14) 0)) % 4294967296 = z) := by
      show _ = _
      rw [← hz]; unfold nextW
      rw [show 16 + n - 7 = n + 9 by omega, show 16 + n - 16 = n by omega, show 16 + n - 15 = n + 1 by omega, show 16 + n - 2 = n + 14 by omega]
     have hfr := hB1.frozen (n + 16)
     have hca := hB1.cell (n + 16) (v := .int .i64 ((filled (more (first b 16) n)).getD (n + 16) 0)) (by simp [List.getD, hfl, show n + 16 < 64 by omega])
     have N1 : Hid (Blk (wr.setCell ⟨w.heap.size + 1, n + 16, none⟩ (.int .i64 z)) (w.heap.size + 1) 118 ((filled (more (first b 16) (n + 1))).map (Value.int .i64))) := by
      have := hB1.set (n + 16) (.int .i64 z) (by rw [List.length_map, hfl]; simp [maxLen])
      rw [← List.map_set] at this
      have e := filled_set (more (first b 16) n) z (by omega)
      rw [hlen] at e
      rw [e] at this
      show Blk _ _ _ ((filled (more (first b 16) n ++ [nextW (more (first b 16) n) (16 + n)])).map (Value.int .i64))
      rw [hz]
      exact this
     have N0 : Hid (Blk (wr.setCell ⟨w.heap.size + 1, n + 16, none⟩ (.int .i64 z)) w.heap.size 118 (z64.map (Value.int .i64))) := hB0.other (by simp) _
     have NB : Hid (Below w.heap.size w (wr.setCell ⟨w.heap.size + 1, n + 16, none⟩ (.int .i64 z))) := hbe.setCell (by simp) _
     have N1 : Hid (∀ m, Blk ((wr.drewN m).setCell ⟨w.heap.size + 1, n + 16, none⟩ (.int .i64 z)) (w.heap.size + 1) 118 ((filled (more (first b 16) (n + 1))).map (Value.int .i64))) := fun m => N1.out
     have N0 : Hid (∀ m, Blk ((wr.drewN m).setCell ⟨w.heap.size + 1, n + 16, none⟩ (.int .i64 z)) w.heap.size 118 (z64.map (Value.int .i64))) := fun m => N0.out
     have NB : Hid (∀ m, Below w.heap.size w ((wr.drewN m).setCell ⟨w.heap.size + 1, n + 16, none⟩ (.int .i64 z))) := fun m => (below_drewN hbe m).setCell (by simp) _
     clear hB1 hB0 hbe hz hws hcl hlen hfl
     generalize (filled (more (first b 16) n)).getD (n + 16) 0 = v0 at *
     generalize (more (first b 16) n).getD (n + 1) 0 = x1 at *
     generalize (more (first b 16) n).getD (n + 14) 0 = x2 at *
     generalize (more (first b 16) n).getD (n + 9) 0 = x3 at *
     generalize (more (first b 16) n).getD n 0 = x4 at *
     obtain ⟨w1a, w1b⟩ := w1
     obtain ⟨w2a, w2b⟩ := w2
     obtain ⟨w3a, w3b⟩ := w3
     obtain ⟨w4a, w4b⟩ := w4
     have hs0 : Wd (bits .xor .i64 (bits .xor .i64 (rot x1 7) (rot x1 18)) (x1 / 8)) := wd_s0 (x := x1) ⟨w1a, w1b⟩
     have hs1 : Wd (bits .xor .i64 (bits .xor .i64 (rot x2 17) (rot x2 19)) (x2 / 1024)) := wd_s1 (x := x2) ⟨w2a, w2b⟩
     have HN : Hid ((x3 + x4 + (bits .xor .i64 (bits .xor .i64 (rot x1 7) (rot x1 18)) (x1 / 8) + bits .xor .i64 (bits .xor .i64 (rot x2 17) (rot x2 19)) (x2 / 1024))) % 4294967296 = z) := by
      show _ = _
      rw [← HN.out]; unfold s0 s1 xor3; rw [Int.add_assoc (x3 + x4)]
     go_wp2
     go_quiet (fail)
     go_wp2_with fail
     refine (implRotD _ _ _ _).mono ?_
     rintro e _ ⟨rfl, q1, rfl⟩
     go_wp2_with fail
     refine (implRotD _ _ _ _).mono ?_
     rintro e _ ⟨rfl, q2, rfl⟩
     go_wp2_with fail
     refine (implRotD _ _ _ _).mono ?_
     rintro e _ ⟨rfl, q3, rfl⟩
     go_wp2_with fail
     refine (implRotD _ _ _ _).mono ?_
     rintro e _ ⟨rfl, q4, rfl⟩
     go_wp2_with fail
     generalize bits .xor .i64 (bits .xor .i64 (rot x1 7) (rot x1 18)) (x1 / 8) = f0 at *
     generalize bits .xor .i64 (bits .xor .i64 (rot x2 17) (rot x2 19)) (x2 / 1024) = f1 at *
     obtain ⟨f0a, f0b⟩ := hs0
     obtain ⟨f1a, f1b⟩ := hs1
     obtain ⟨p, hp⟩ : ∃ p : Nat, n + 9 = p := ⟨_, rfl⟩
     rw [hp] at c3
     have hp64 : (p : Int) < 64 := by omega
     have hn64 : (n : Int) < 64 := by omega
     have j1 : IntKind.i64.wrap ((n : Int) + 16 - 7) = (p : Int) := by rw [IntKind.wrap_i64]; omega
     have j2 : IntKind.i64.wrap (n : Int) = (n : Int) := by rw [IntKind.wrap_i64]; omega
     have j3 : IntKind.i64.wrap (x3 + x4) = x3 + x4 := by rw [IntKind.wrap_i64]; omega
     have j4 : IntKind.i64.wrap (f0 + f1) = f0 + f1 := by rw [IntKind.wrap_i64]; omega
     have i5 : (0 : Int) ≤ (n : Int) + 16 := by omega
     have i6 : (n : Int) + 16 < 64 := by omega
     have t16 : ((n : Int) + 16).toNat = n + 16 := by omega
     clear hp
     go_region_with (go_at_call 113; refine (implAdd _ _ _).mono ?_; rintro e w' ⟨rfl, rfl⟩)
     all_goals
      go_wp2
      refine ⟨?_, ?measure⟩
      (repeat apply Exists.intro)
      refine ⟨?rel, rfl⟩
      case rel => exact ⟨n + 1, by omega, by go_num, by rw [HN.out]; exact N1.out _, by rw [HN.out]; exact N0.out _, by rw [HN.out]; exact NB.out _⟩
      case measure => simp [intOf]; omega
    ·
     obtain rfl : n = 48 := by omega
     have e : filled (more (first b 16) 48) = sched b := by
      unfold filled; rw [more_length, first_length]; simp [sched]
     rw [e] at hB1
     obtain ⟨cs, hcs⟩ : ∃ cs, cs = ((sched b).map (Value.int .i64)).toArray := ⟨_, rfl⟩
     obtain ⟨zc, hzc⟩ : ∃ zc, zc = (z64.map (Value.int .i64)).toArray := ⟨_, rfl⟩
     have hsz : cs.size = 64 := by rw [hcs]; simp [sched_length]
     have HCS : Hid (cs = ((sched b).map (Value.int .i64)).toArray) := hcs
     have HB1 : Hid (wr.heap[w.heap.size + 1]? = some (.cells cs 118 (0, 0))) := by rw [hcs]; exact hB1
     have HB0 : Hid (wr.heap[w.heap.size]? = some (.cells zc 118 (0, 0))) := by rw [hzc]; exact hB0
     have HZS : Hid ((Tryz.prog.info? 118).map (·.size) = some cs.size) := by rw [hsz]; exact zs
     have HON : Hid (cs.all (·.oneCell') = true) := by show _ = _; rw [hcs]; simp [Value.oneCell']
     have HST : Hid ((wr.setRow w.heap.size cs).heap[w.heap.size]? = some (.cells cs 118 (0, 0))) := by
      have := blk_setRow hB0 cs hcs
      rw [hcs] at this ⊢; exact this
     have HBB : Hid (Below w.heap.size w (wr.setRow w.heap.size cs)) := hbe.trans (below_setRow wr (Nat.le_refl _) _)
     have HZE : Hid (zc.size = cs.size) := by show _ = _; rw [hsz, hzc]; simp
     clear hB1 hB0 hbe hsz zv zs e hcs hzc
     go_wp2_with (first | refine wpList_load_row rfl 118 _ rfl (w.heap.size + 1) rfl 118 cs (0, 0) _ HB1.out Tryz.underlying118 rfl HZS.out ?_ | refine wpList_store_row rfl 118 _ _ rfl w.heap.size cs rfl rfl 118 zc HB0.out HZS.out HZE.out HON.out ?_)
     refine bodyPost_ret (v := .agg cs) ?_ rfl ⟨by rw [HCS.out], HBB.out⟩
     exact results_cell_row rfl _ _ w.heap.size 118 cs (0, 0) _ rfl HST.out Tryz.underlying118 rfl HZS.out
end Go.Proofs.YtpenhliaelhnoaaGreatDoor.Sched

namespace Go.Proofs.YtpenhliaelhnoaaGreatDoor.Words
open Go.RowKit Mem MemI Blk App Get ShaP Word Bits Sched

def isIn (x a b : Int) : Bool := decide (a ≤ x ∧ x ≤ b)
theorem isIn_no {x a b : Int} (h : ¬ (a ≤ x ∧ x ≤ b)) : isIn x a b = false := by unfold isIn; exact decide_eq_false h
theorem isIn_yes {x a b : Int} (h : a ≤ x ∧ x ≤ b) : isIn x a b = true := by unfold isIn; exact decide_eq_true h

theorem l1In (x a b : Int) (w : World) :
  Calls Tryz.prog 54 #[.int .i64 x, .int .i64 a, .int .i64 b] w fun e w' => e = .returned (.bool (isIn x a b)) ∧ w = w' := by
 by_cases h1 : a ≤ x
 ·
  by_cases h2 : x ≤ b
  ·
   have H : Hid (isIn x a b = true) := isIn_yes ⟨h1, h2⟩
   go_enter Tryz.func54, Tryz.ntmps54
   go_wp2
   go_ret
   exact ⟨by rw [H.out]; simp, rfl⟩
  ·
   have H : Hid (isIn x a b = false) := isIn_no (fun h => h2 h.2)
   go_enter Tryz.func54, Tryz.ntmps54
   go_wp2
   go_ret
   exact ⟨by rw [H.out]; simp, rfl⟩
 ·
  have H : Hid (isIn x a b = false) := isIn_no (fun h => h1 h.1)
  go_enter Tryz.func54, Tryz.ntmps54
  go_wp2
  go_ret
  exact ⟨by rw [H.out]; simp, rfl⟩

def okw (h : List Int) : Bool := decide (h.length = 8) && h.all (fun z => isIn z 0 4294967295)
theorem okw_iff (h : List Int) : okw h = true ↔ h.length = 8 ∧ Wds h := by
 simp only [okw, Bool.and_eq_true, decide_eq_true_eq, List.all_eq_true, isIn]
 exact Iff.rfl
theorem okw_bad {h : List Int} (i : Nat) (hb : ¬ Wd (h.getD i 0)) : okw h = false := by
 cases e : okw h with
 | false => rfl
 | true => exact absurd (((okw_iff h).1 e).2.at i) hb
theorem okw_len {h : List Int} (hb : h.length ≠ 8) : okw h = false := by simp [okw, hb]
theorem wds_of {h : List Int} {k : Nat} (hk : ¬ k < h.length) (hj : ∀ j, j < k → Wd (h.getD j 0)) : Wds h := by
 intro z hz
 obtain ⟨i, hi, rfl⟩ := List.getElem_of_mem hz
 have := hj i (by omega)
 simpa [List.getD, hi] using this

set_option maxHeartbeats 400000 in
theorem l2Words (a : Option Addr) (n cap : Nat) (h : List Int) (w : World) (hn : n = h.length) (hr : IRd w a h) (hl : n ≤ 4194304) :
  Calls Tryz.prog 107 #[.slice a n cap] w fun e w' => e = .returned (.bool (okw h)) ∧ w = w' := by
 subst hn
 go_enter Tryz.func107, Tryz.ntmps107
 go_wp2
 go_loop [3] (fun i => ∃ k : Nat, k ≤ h.length ∧ i = .int .i64 k ∧ (∀ j, j < k → Wd (h.getD j 0))) (fun i => h.length - (intOf i).toNat)
 case atStart => exact ⟨0, Nat.zero_le _, rfl, (fun j hj => by omega)⟩
 case round =>
  obtain ⟨k, hk, rfl, hj⟩ := hrel
  have HJ : Hid (∀ j, j < k → Wd (h.getD j 0)) := hj
  clear hj
  by_cases hlt : k < h.length
  ·
   obtain ⟨b, off, rfl, _, hc⟩ := hr k hlt
   clear hr
   by_cases hw : Wd (h.getD k 0)
   ·
    have HJ2 : Hid (∀ j, j < k + 1 → Wd (h.getD j 0)) := by
     intro j hj
     by_cases e : j = k
     ·
      subst e; exact hw
     ·
      exact HJ.out j (by omega)
    have hin : isIn (h.getD k 0) 0 4294967295 = true := isIn_yes hw
    clear hw
    generalize h.getD k 0 = z at *
    go_wp2_with fail
    refine (l1In z 0 4294967295 w).mono ?_
    rintro e w1 ⟨rfl, rfl⟩
    go_wp2
    go_round
    case rel => exact ⟨k + 1, by omega, by go_num, HJ2.out⟩
    case measure => simp [intOf]; omega
   ·
    have HO : Hid (okw h = false) := okw_bad k hw
    have hin : isIn (h.getD k 0) 0 4294967295 = false := isIn_no hw
    clear hw
    generalize h.getD k 0 = z at *
    go_wp2_with fail
    refine (l1In z 0 4294967295 w).mono ?_
    rintro e w1 ⟨rfl, rfl⟩
    go_wp2
    go_ret
    exact ⟨by simp [HO.out], rfl⟩
  ·
   clear hr
   have HWs : Hid (Wds h) := wds_of hlt HJ.out
   by_cases h8 : h.length = 8
   ·
    have HO : Hid (okw h = true) := (okw_iff h).2 ⟨h8, HWs.out⟩
    have he : ((h.length : Int) == 8) = true := by simp [h8]
    clear h8
    go_wp2
    go_ret
    exact ⟨by rw [HO.out]; simp, rfl⟩
   ·
    have HO : Hid (okw h = false) := okw_len h8
    have he : ((h.length : Int) == 8) = false := by simp; omega
    clear h8
    go_wp2
    go_ret
    exact ⟨by rw [HO.out]; simp, rfl⟩

set_option maxRecDepth 8000 in
theorem l2K (w : World) :
  Calls Tryz.prog 108 #[] w fun e w' => e = .returned (.slice (some ⟨w.heap.size, 0, none⟩) 64 64) ∧ IRow w' w.heap.size 64 kk ∧ Below w.heap.size w w' := by
 go_enter Tryz.func108, Tryz.ntmps108
 go_wp2
 go_ret
 exact ⟨rfl, irow_new w kk (by simp [maxLen, kk_length]), (Below.refl _ _).alloc (Nat.le_refl _) _⟩

end Go.Proofs.YtpenhliaelhnoaaGreatDoor.Words

namespace Go.Proofs.YtpenhliaelhnoaaGreatDoor.KeP
open Go.RowKit Mem App Words

def pskOk (n : Nat) : Bool := isIn (n : Int) 1 32
theorem pskOk_iff {n : Nat} : pskOk n = true ↔ 1 ≤ n ∧ n ≤ 32 := by unfold pskOk isIn; simp; omega
def proofF (id : Int) (cn sn : Nat) (tick : Int) (ck : Nat) : Bool := isIn id 1 9 && ((cn : Int) == 12) && ((sn : Int) == 12) && isIn tick 0 1000000 && ((ck : Int) == 16)
theorem proofF_parts {id : Int} {cn sn : Nat} {tick : Int} {ck : Nat} (k : proofF id cn sn tick ck = true) : (1 ≤ id ∧ id ≤ 9) ∧ cn = 12 ∧ sn = 12 ∧ (0 ≤ tick ∧ tick ≤ 1000000) ∧ ck = 16 := by
 unfold proofF isIn at k
 simp only [Bool.and_eq_true, decide_eq_true_eq, beq_iff_eq] at k
 obtain ⟨⟨⟨⟨k1, k2⟩, k3⟩, k4⟩, k5⟩ := k
 exact ⟨k1, by omega, by omega, k4, by omega⟩
def proofL (id : Int) (cn sn : List Int) (tick : Int) (ck : List Int) : List Int := if proofF id cn.length sn.length tick ck.length = true then [102, id] ++ cn ++ sn ++ putN tick 4 ++ ck else []
theorem proofL_yes {id : Int} {cn sn : List Int} {tick : Int} {ck : List Int} (k : proofF id cn.length sn.length tick ck.length = true) : proofL id cn sn tick ck = [102, id] ++ cn ++ sn ++ putN tick 4 ++ ck := if_pos k
theorem proofL_no {id : Int} {cn sn : List Int} {tick : Int} {ck : List Int} (k : proofF id cn.length sn.length tick ck.length = false) : proofL id cn sn tick ck = [] := if_neg (by rw [k]; decide)
theorem putN4_len (n : Int) : (putN n 4).length = 4 := by show (num n 4).length = 4; rw [num_length]
theorem proofL_len {id : Int} {cn sn : List Int} {tick : Int} {ck : List Int} (k : proofF id cn.length sn.length tick ck.length = true) : (proofL id cn sn tick ck).length = 46 := by
 obtain ⟨_, k2, k3, _, k5⟩ := proofF_parts k
 rw [proofL_yes k]
 simp only [List.length_append, putN4_len, k2, k3, k5]
 rfl
theorem app_bytes {a b : List Int} (ha : Bytes a) (hb : Bytes b) : Bytes (a ++ b) := by
 intro z hz
 rcases List.mem_append.1 hz with h | h
 ·
  exact ha z h
 ·
  exact hb z h
theorem proofL_bytes {id : Int} {cn sn : List Int} {tick : Int} {ck : List Int} (hc : Bytes cn) (hs : Bytes sn) (hk : Bytes ck) : Bytes (proofL id cn sn tick ck) := by
 cases k : proofF id cn.length sn.length tick ck.length with
 | true =>
  have q := (proofF_parts k).1
  rw [proofL_yes k]
  refine app_bytes (app_bytes (app_bytes (app_bytes ?_ hc) hs) ?_) hk
  ·
   intro z hz; simp at hz; omega
  ·
   show Bytes (num tick 4); exact num_bytes _ _
 | false => rw [proofL_no k]; intro z hz; cases hz
end Go.Proofs.YtpenhliaelhnoaaGreatDoor.KeP

namespace Go.Proofs.YtpenhliaelhnoaaGreatDoor.Cuts
open Go.RowKit Mem App Get

def cutOf (l : List Int) (i k : Int) : List Int := if there l.length i k = true then piece l i.toNat k.toNat else []
theorem rd_piece {w : World} {b off : Nat} {l : List Int} (h : Rd w (some ⟨b, off, none⟩) l) (i k : Nat) (hk : i + k ≤ l.length) : Rd w (some ⟨b, off + i, none⟩) (piece l i k) := by
 intro j hj
 rw [piece_length l i k hk] at hj
 obtain ⟨b', off', e, h1, h2⟩ := h (i + j) (by omega)
 simp only [Option.some.injEq, Addr.mk.injEq, and_true] at e
 obtain ⟨rfl, rfl⟩ := e
 refine ⟨b, off + i, rfl, h1, ?_⟩
 have e : (piece l i k).getD j 0 = l.getD (i + j) 0 := by simp [piece, List.getD, hj]
 rw [e, Nat.add_assoc]
 exact h2

set_option maxHeartbeats 800000 in
theorem implCut (b off len cap : Nat) (l : List Int) (i k : Int) (w : World) (hl : len = l.length) (hr : Rd w (some ⟨b, off, none⟩) l) (hlc : len ≤ cap) (hlen : len ≤ 4194304) (hi : i ≤ 9223372036854775807) :
  Calls Tryz.prog 72 #[.slice (some ⟨b, off, none⟩) len cap, .int .i64 i, .int .i64 k] w fun e w' =>
   ∃ g m c, e = .returned (.tuple #[.slice (some ⟨g, 0, none⟩) m c, .bool (there len i k)]) ∧ m = (cutOf l i k).length ∧ w.heap.size ≤ g ∧ Row w' g c (cutOf l i k) ∧ Below w.heap.size w w' := by
 have HR := hid (hr)
 have HL : Hid (len = l.length) := hl
 clear hr hl
 by_cases ht : there len i k = true
 ·
  have HC : Hid (cutOf l i k = piece l i.toNat k.toNat) := by
   show cutOf l i k = _
   unfold cutOf; rw [if_pos (by rw [← HL.out]; exact ht)]
  have ht' : 0 ≤ i ∧ 0 ≤ k ∧ k ≤ (len : Int) - i := by simpa [there] using ht
  obtain ⟨I, rfl⟩ := Int.eq_ofNat_of_zero_le ht'.1
  obtain ⟨K, rfl⟩ := Int.eq_ofNat_of_zero_le ht'.2.1
  rw [Int.toNat_natCast, Int.toNat_natCast] at HC
  have k3 : I + K ≤ len := by omega
  have HK : Hid (I + K ≤ l.length) := by show _ ≤ _; rw [← HL.out]; exact k3
  have HP : Hid (Rd w (some ⟨b, off + I, none⟩) (piece l I K)) := rd_piece HR.out I K HK.out
  have HN : Hid (K = (piece l I K).length) := by show _ = _; rw [piece_length l I K HK.out]
  have HM : Hid (I + K - I = (piece l I K).length) := by show _ = _; rw [piece_length l I K HK.out]; omega
  clear ht'
  by_cases hc : cap = I
  ·
   have hk0 : K = 0 := by omega
   subst hk0
   subst hc
   have ht0 : there len (cap : Int) 0 = true := by simpa using ht
   have HC0 : Hid (cutOf l (cap : Int) ((0 : Nat) : Int) = []) := by show _ = _; rw [HC.out]; simp [piece]
   clear ht HC
   go_enter Tryz.func72, Tryz.ntmps72
   go_wp2_with fail
   refine (allThere _ len _ _ _ _ hlen hi).mono ?_
   rintro e w1 ⟨rfl, rfl⟩
   go_wp2_with fail
   refine (putBytes _ none 0 0 0 0 [] [] w rfl rfl (by intro i hi; cases hi) (by intro i hi; cases hi) (fun _ => rfl) (fun _ => rfl) (by simp) (by simp)).mono ?_
   rintro e w2 ⟨rfl, h3, h4⟩
   go_wp2
   go_ret2
   exact ⟨w.heap.size, 0, 0, by simp [ht0], by rw [HC0.out]; rfl, Nat.le_refl _, by rw [HC0.out]; exact h3, h4⟩
  ·
   go_enter Tryz.func72, Tryz.ntmps72
   go_wp2_with fail
   refine (allThere _ len cap _ _ _ hlen hi).mono ?_
   rintro e w1 ⟨rfl, rfl⟩
   go_wp2_with fail
   refine (putBytes _ none _ _ 0 0 (piece l I K) [] w HN.out rfl HP.out (by intro i hi; cases hi) (by intro h; cases h) (fun _ => rfl) (by rw [← HN.out]; omega) (by simp)).mono ?_
   rintro e w2 ⟨rfl, h3, h4⟩
   go_wp2
   go_ret2
   exact ⟨w.heap.size, K, K, by simp [ht], by rw [HC.out, ← HN.out], Nat.le_refl _, by rw [HC.out]; simpa using h3, h4⟩
 ·
  have hf : there len i k = false := by simpa using ht
  have HC : Hid (cutOf l i k = []) := by
   show cutOf l i k = _
   unfold cutOf; rw [if_neg (by rw [← HL.out]; exact ht)]
  clear ht
  go_enter Tryz.func72, Tryz.ntmps72
  go_wp2_with fail
  refine (allThere _ len cap _ _ _ hlen hi).mono ?_
  rintro e w1 ⟨rfl, rfl⟩
  go_wp2
  go_ret2
  exact ⟨w.heap.size, 0, 0, by simp [hf], by rw [HC.out]; rfl, Nat.le_refl _, by rw [HC.out]; exact row_new w [] (by simp), (Below.refl _ _).alloc (Nat.le_refl _) _⟩

end Go.Proofs.YtpenhliaelhnoaaGreatDoor.Cuts

namespace Go.Proofs.YtpenhliaelhnoaaGreatDoor.WordsOf
open Go.RowKit Mem MemI Blk App Get ShaP Word Bits Sched Words

theorem blk_drew {w : World} {g : Nat} {t : TypeId} {cs : List Value} (h : Blk w g t cs) : Blk w.drew g t cs := h
end Go.Proofs.YtpenhliaelhnoaaGreatDoor.WordsOf

namespace Go.Proofs.YtpenhliaelhnoaaGreatDoor.Sched2
open Go.RowKit Mem MemI Blk App Get ShaP Word Bits Sched

def schedI (b : List Int) : List Int := if b.length = 64 then sched b else []
end Go.Proofs.YtpenhliaelhnoaaGreatDoor.Sched2
