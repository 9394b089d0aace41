/-
  What impl's and spec's Schedule answer at every slice of bytes of at most 4,194,304: the same words, in new memory.
-/
import Derived.Test.YtpenhliaelhnoaaDoorPads
import Derived.Test.YtpenhliaelhnoaaDoorWord
import Derived.Deep.RegionWith
namespace Go.Proofs.YtpenhliaelhnoaaDoor.Sched
open Go.RowKit Go.Proofs.YtpenhliaelhnoaaDoor.Mem Go.Proofs.YtpenhliaelhnoaaDoor.MemI Go.Proofs.YtpenhliaelhnoaaDoor.Blk Go.Proofs.YtpenhliaelhnoaaDoor.App Go.Proofs.YtpenhliaelhnoaaDoor.Get Go.Proofs.YtpenhliaelhnoaaDoor.ShaP Go.Proofs.YtpenhliaelhnoaaDoor.Word Go.Proofs.YtpenhliaelhnoaaDoor.Bits

abbrev z64 : List Int := List.replicate 64 0
set_option maxRecDepth 100000 in
theorem info65 : (Tryd.prog.info? 85).map (fun i => (i.zero, i.size)) = some (some (.agg ((z64.map (Value.int .i64)).toArray)), 64) := by kernel_rfl

/-- k cells filled, the rest 0. -/
def filled (l : List Int) : List Int := l ++ List.replicate (64 - l.length) 0
set_option maxRecDepth 100000 in
theorem filled_set (l : List Int) (z : Int) (h : l.length < 64) : (filled l).set l.length z = filled (l ++ [z]) := by
  unfold filled
  rw [List.set_append, if_neg (by omega), Nat.sub_self, List.length_append, show 64 - l.length = (64 - (l.length + [z].length)) + 1 by simp; omega, List.replicate_succ]
  simp
set_option maxRecDepth 100000 in
theorem filled_length (l : List Int) (h : l.length ≤ 64) : (filled l).length = 64 := by simp [filled]; omega
set_option maxRecDepth 100000 in
theorem filled_getD (l : List Int) (i : Nat) (h : i < l.length) : (filled l).getD i 0 = l.getD i 0 := by simp [filled, List.getD, List.getElem?_append, h]

set_option maxRecDepth 100000 in
theorem blk_setRow {w : World} {g : Nat} {t : TypeId} {cs : List Value} (h : Blk w g t cs) (c' : Array Value) {l : List Value} (e : c' = l.toArray) : Blk (w.setRow g c') g t l := by
  subst e
  unfold Blk at *
  show (w.heap.modify g _)[g]? = _
  rw [Array.getElem?_modify, if_pos rfl, h]; rfl
set_option maxRecDepth 100000 in
theorem below_setRow (w : World) {B g : Nat} (h : B ≤ g) (c' : Array Value) : Below B w (w.setRow g c') := by
  refine ⟨rfl, rfl, rfl, ?_, fun k hk => ?_⟩
  · show w.heap.size ≤ (w.heap.modify g _).size
    rw [Array.size_modify]; exact Nat.le_refl _
  · show (w.heap.modify g _)[k]? = _
    rw [Array.getElem?_modify, if_neg (by omega)]

set_option maxRecDepth 100000 in
theorem implRotD (x n : Int) (w : World) (q : Nat) :
    Calls Tryd.prog 88 #[.int .i64 x, .int .i64 n] (w.drewN q) fun e w' => e = .returned (.int .i64 (rot x n)) ∧ ∃ m, w' = w.drewN m :=
  (implRot x n _).mono fun _ _ h => ⟨h.1, h.2.elim fun _ e => ⟨_, e.trans (World.drewN_drewN _ _ _)⟩⟩
set_option maxRecDepth 100000 in
theorem specRotD (x n : Int) (w : World) (q : Nat) :
    Calls Tryd.prog 86 #[.int .i64 x, .int .i64 n] (w.drewN q) fun e w' => e = .returned (.int .i64 (rot x n)) ∧ ∃ m, w' = w.drewN m :=
  (specRot x n _).mono fun _ _ h => ⟨h.1, h.2.elim fun _ e => ⟨_, e.trans (World.drewN_drewN _ _ _)⟩⟩

set_option maxRecDepth 100000 in
set_option maxHeartbeats 1000000 in
theorem implSchedule64 (a : Option Addr) (cap : Nat) (b : List Int) (w : World) (hl : b.length = 64) (hr : Rd w a b) (hb : Bytes b) (hc : 64 ≤ cap) :
    Calls Tryd.prog 87 #[.slice a 64 cap] w fun e w' => e = .returned (.agg ((sched b).map (Value.int .i64)).toArray) ∧ Below w.heap.size w w' := by
  have HR : Hid (Rd w a b) := hr
  have HB : Hid (Bytes b) := hb
  have HL : Hid (b.length = 64) := hl
  clear hr hb hl
  obtain ⟨zv, zs⟩ := zero_of_info info65
  go_enter Tryd.func87, Tryd.ntmps87
  have HZ1 : Hid (Blk (w.alloc (.cells (z64.map (Value.int .i64)).toArray 85)) w.heap.size 85 (z64.map (Value.int .i64))) := Blk.new _ _ _
  have HA1 : Hid (Below w.heap.size w (w.alloc (.cells (z64.map (Value.int .i64)).toArray 85))) := (Below.refl _ _).alloc (Nat.le_refl _) _
  go_wp2
  go_loopw [8] (fun i wr => ∃ k : Nat, k ≤ 16 ∧ i = .int .i64 k ∧ Blk wr (w.heap.size + 1) 85 ((filled (first b k)).map (Value.int .i64)) ∧ Blk wr w.heap.size 85 (z64.map (Value.int .i64)) ∧ Below w.heap.size w wr)
    (fun i _ => 16 - (intOf i).toNat)
  case atStart =>
    refine ⟨0, Nat.zero_le _, rfl, ?_, ?_, ?_⟩
    · have := Blk.new (w.alloc (.cells (z64.map (Value.int .i64)).toArray 85)) 85 (z64.map (Value.int .i64))
      rw [show (w.alloc (.cells (z64.map (Value.int .i64)).toArray 85)).heap.size = w.heap.size + 1 by simp] at this
      exact this
    · exact HZ1.out.alloc _
    · exact HA1.out.alloc (by simp) _
  case round =>
    obtain ⟨k, hk, rfl, hB1, hB0, hbe⟩ := hrel
    clear HZ1 HA1
    by_cases hlt : k < 16
    · have hG : gotN b ((k : Int) * 4) 4 = .tuple #[.int .i64 (val (piece b (4 * k) 4)), .int .i64 ((k : Int) * 4 + 4), .bool true] := by
        unfold gotN
        rw [if_pos ⟨(isSize_iff 4).2 (by omega), there_yes (by rw [HL.out]; omega)⟩]
        rw [show ((k : Int) * 4).toNat = 4 * k by omega]; rfl
      have hfr := hB1.frozen k
      have hca := hB1.cell k (v := .int .i64 ((filled (first b k)).getD k 0)) (by have := filled_length (first b k) (by rw [first_length]; omega); simp [List.getD, this, show k < 64 by omega])
      have N1 : Hid (Blk (wr.setCell ⟨w.heap.size + 1, k, none⟩ (.int .i64 (val (piece b (4 * k) 4)))) (w.heap.size + 1) 85 ((filled (first b (k + 1))).map (Value.int .i64))) := by
        have := hB1.set k (.int .i64 (val (piece b (4 * k) 4))) (by rw [List.length_map, filled_length _ (by rw [first_length]; omega)]; simp [maxLen])
        rw [← List.map_set] at this
        have e := filled_set (first b k) (val (piece b (4 * k) 4)) (by rw [first_length]; omega)
        rw [first_length, ← first_succ] at e
        rw [e] at this
        exact this
      have N0 : Hid (Blk (wr.setCell ⟨w.heap.size + 1, k, none⟩ (.int .i64 (val (piece b (4 * k) 4)))) w.heap.size 85 (z64.map (Value.int .i64))) := hB0.other (by simp) _
      have NB : Hid (Below w.heap.size w (wr.setCell ⟨w.heap.size + 1, k, none⟩ (.int .i64 (val (piece b (4 * k) 4))))) := hbe.setCell (by simp) _
      have HR' : Hid (Rd wr a b) := HR.out.later hbe (Nat.le_refl _)
      clear hB1 hB0 hbe
      generalize (filled (first b k)).getD k 0 = v0 at *
      generalize val (piece b (4 * k) 4) = v1 at *
      go_wp2_with fail
      refine (implGetN a 64 cap b ((k : Int) * 4) 4 wr HL.out.symm HR'.out HB.out hc (by omega) (by omega)).mono ?_
      rintro e w1 ⟨rfl, rfl⟩
      go_wp2
      go_roundw
      case rel => exact ⟨k + 1, by omega, by go_num, N1.out, N0.out, NB.out⟩
      case measure => simp [intOf]; omega
    · obtain rfl : k = 16 := by omega
      have HB1 : Hid (Blk wr (w.heap.size + 1) 85 ((filled (more (first b 16) 0)).map (Value.int .i64))) := hB1
      have HB0 : Hid (Blk wr w.heap.size 85 (z64.map (Value.int .i64))) := hB0
      have HBE : Hid (Below w.heap.size w wr) := hbe
      clear hB1 hB0 hbe
      go_wp2
      go_loopw [5] (fun i wr => ∃ n : Nat, n ≤ 48 ∧ i = .int .i64 ((n : Int) + 16) ∧ Blk wr (w.heap.size + 1) 85 ((filled (more (first b 16) n)).map (Value.int .i64)) ∧ Blk wr w.heap.size 85 (z64.map (Value.int .i64)) ∧ Below w.heap.size w wr)
        (fun i _ => 64 - (intOf i).toNat)
      case atStart => exact ⟨0, Nat.zero_le _, rfl, HB1.out, HB0.out, HBE.out⟩
      case round =>
        obtain ⟨n, hn, rfl, hB1, hB0, hbe⟩ := hrel
        clear HB1 HB0 HBE
        by_cases hlt : n < 48
        · have hlen : (more (first b 16) n).length = n + 16 := by rw [more_length, first_length]; omega
          have hfl := filled_length (more (first b 16) n) (by omega)
          have hcl : ∀ i, i < n + 16 → wr.cell? ⟨w.heap.size + 1, i, none⟩ = some (.int .i64 ((more (first b 16) n).getD i 0)) := by
            intro i hi
            rw [← filled_getD _ i (by omega)]
            exact hB1.cell i (by simp [List.getD, hfl, show i < 64 by omega])
          have c1 := hcl (n + 1) (by omega)
          have c2 := hcl (n + 14) (by omega)
          have c3 := hcl (n + 9) (by omega)
          have c4 := hcl n (by omega)
          have hws : Wds (more (first b 16) n) := more_wds _ _ (first_wds b 16 HB.out)
          have w1 := hws.at (n + 1)
          have w2 := hws.at (n + 14)
          have w3 := hws.at (n + 9)
          have w4 := hws.at n
          obtain ⟨z, hz⟩ : ∃ z, nextW (more (first b 16) n) (16 + n) = z := ⟨_, rfl⟩
          have HN : Hid (((more (first b 16) n).getD (n + 9) 0 + (more (first b 16) n).getD n 0 + s0 ((more (first b 16) n).getD (n + 1) 0) + s1 ((more (first b 16) n).getD (n + 14) 0)) % 4294967296 = z) := by
            show _ = _
            rw [← hz]; unfold nextW
            rw [show 16 + n - 7 = n + 9 by omega, show 16 + n - 16 = n by omega, show 16 + n - 15 = n + 1 by omega, show 16 + n - 2 = n + 14 by omega]
          have hfr := hB1.frozen (n + 16)
          have hca := hB1.cell (n + 16) (v := .int .i64 ((filled (more (first b 16) n)).getD (n + 16) 0)) (by simp [List.getD, hfl, show n + 16 < 64 by omega])
          have N1 : Hid (Blk (wr.setCell ⟨w.heap.size + 1, n + 16, none⟩ (.int .i64 z)) (w.heap.size + 1) 85 ((filled (more (first b 16) (n + 1))).map (Value.int .i64))) := by
            have := hB1.set (n + 16) (.int .i64 z) (by rw [List.length_map, hfl]; simp [maxLen])
            rw [← List.map_set] at this
            have e := filled_set (more (first b 16) n) z (by omega)
            rw [hlen] at e
            rw [e] at this
            show Blk _ _ _ ((filled (more (first b 16) n ++ [nextW (more (first b 16) n) (16 + n)])).map (Value.int .i64))
            rw [hz]
            exact this
          have N0 : Hid (Blk (wr.setCell ⟨w.heap.size + 1, n + 16, none⟩ (.int .i64 z)) w.heap.size 85 (z64.map (Value.int .i64))) := hB0.other (by simp) _
          have NB : Hid (Below w.heap.size w (wr.setCell ⟨w.heap.size + 1, n + 16, none⟩ (.int .i64 z))) := hbe.setCell (by simp) _
          have N1 : Hid (∀ m, Blk ((wr.drewN m).setCell ⟨w.heap.size + 1, n + 16, none⟩ (.int .i64 z)) (w.heap.size + 1) 85 ((filled (more (first b 16) (n + 1))).map (Value.int .i64))) := fun m => N1.out
          have N0 : Hid (∀ m, Blk ((wr.drewN m).setCell ⟨w.heap.size + 1, n + 16, none⟩ (.int .i64 z)) w.heap.size 85 (z64.map (Value.int .i64))) := fun m => N0.out
          have NB : Hid (∀ m, Below w.heap.size w ((wr.drewN m).setCell ⟨w.heap.size + 1, n + 16, none⟩ (.int .i64 z))) := fun m => (below_drewN hbe m).setCell (by simp) _
          clear hB1 hB0 hbe hz hws hcl hlen hfl
          generalize (filled (more (first b 16) n)).getD (n + 16) 0 = v0 at *
          generalize (more (first b 16) n).getD (n + 1) 0 = x1 at *
          generalize (more (first b 16) n).getD (n + 14) 0 = x2 at *
          generalize (more (first b 16) n).getD (n + 9) 0 = x3 at *
          generalize (more (first b 16) n).getD n 0 = x4 at *
          obtain ⟨w1a, w1b⟩ := w1
          obtain ⟨w2a, w2b⟩ := w2
          obtain ⟨w3a, w3b⟩ := w3
          obtain ⟨w4a, w4b⟩ := w4
          have hs0 : Wd (bits .xor .i64 (bits .xor .i64 (rot x1 7) (rot x1 18)) (x1 / 8)) := wd_s0 (x := x1) ⟨w1a, w1b⟩
          have hs1 : Wd (bits .xor .i64 (bits .xor .i64 (rot x2 17) (rot x2 19)) (x2 / 1024)) := wd_s1 (x := x2) ⟨w2a, w2b⟩
          have HN : Hid ((x3 + x4 + (bits .xor .i64 (bits .xor .i64 (rot x1 7) (rot x1 18)) (x1 / 8) + bits .xor .i64 (bits .xor .i64 (rot x2 17) (rot x2 19)) (x2 / 1024))) % 4294967296 = z) := by
            show _ = _
            rw [← HN.out]; unfold s0 s1 xor3; rw [Int.add_assoc (x3 + x4)]
          go_wp2
          go_quiet (fail)
          go_wp2_with fail
          refine (implRotD _ _ _ _).mono ?_
          rintro e _ ⟨rfl, q1, rfl⟩
          go_wp2_with fail
          refine (implRotD _ _ _ _).mono ?_
          rintro e _ ⟨rfl, q2, rfl⟩
          go_wp2_with fail
          refine (implRotD _ _ _ _).mono ?_
          rintro e _ ⟨rfl, q3, rfl⟩
          go_wp2_with fail
          refine (implRotD _ _ _ _).mono ?_
          rintro e _ ⟨rfl, q4, rfl⟩
          go_wp2_with fail
          generalize bits .xor .i64 (bits .xor .i64 (rot x1 7) (rot x1 18)) (x1 / 8) = f0 at *
          generalize bits .xor .i64 (bits .xor .i64 (rot x2 17) (rot x2 19)) (x2 / 1024) = f1 at *
          obtain ⟨f0a, f0b⟩ := hs0
          obtain ⟨f1a, f1b⟩ := hs1
          obtain ⟨p, hp⟩ : ∃ p : Nat, n + 9 = p := ⟨_, rfl⟩
          rw [hp] at c3
          have hp64 : (p : Int) < 64 := by omega
          have hn64 : (n : Int) < 64 := by omega
          have j1 : IntKind.i64.wrap ((n : Int) + 16 - 7) = (p : Int) := by rw [IntKind.wrap_i64]; omega
          have j2 : IntKind.i64.wrap (n : Int) = (n : Int) := by rw [IntKind.wrap_i64]; omega
          have j3 : IntKind.i64.wrap (x3 + x4) = x3 + x4 := by rw [IntKind.wrap_i64]; omega
          have j4 : IntKind.i64.wrap (f0 + f1) = f0 + f1 := by rw [IntKind.wrap_i64]; omega
          have i5 : (0 : Int) ≤ (n : Int) + 16 := by omega
          have i6 : (n : Int) + 16 < 64 := by omega
          have t16 : ((n : Int) + 16).toNat = n + 16 := by omega
          clear hp
          go_region_with (go_at_call 89; refine (implAdd _ _ _).mono ?_; rintro e w' ⟨rfl, rfl⟩)
          all_goals
            go_wp2
            refine ⟨?_, ?measure⟩
            (repeat apply Exists.intro)
            refine ⟨?rel, rfl⟩
            case rel => exact ⟨n + 1, by omega, by go_num, by rw [HN.out]; exact N1.out _, by rw [HN.out]; exact N0.out _, by rw [HN.out]; exact NB.out _⟩
            case measure => simp [intOf]; omega
        · obtain rfl : n = 48 := by omega
          have e : filled (more (first b 16) 48) = sched b := by
            unfold filled; rw [more_length, first_length]; simp [sched]
          rw [e] at hB1
          obtain ⟨cs, hcs⟩ : ∃ cs, cs = ((sched b).map (Value.int .i64)).toArray := ⟨_, rfl⟩
          obtain ⟨zc, hzc⟩ : ∃ zc, zc = (z64.map (Value.int .i64)).toArray := ⟨_, rfl⟩
          have hsz : cs.size = 64 := by rw [hcs]; simp [sched_length]
          have HCS : Hid (cs = ((sched b).map (Value.int .i64)).toArray) := hcs
          have HB1 : Hid (wr.heap[w.heap.size + 1]? = some (.cells cs 85 (0, 0))) := by rw [hcs]; exact hB1
          have HB0 : Hid (wr.heap[w.heap.size]? = some (.cells zc 85 (0, 0))) := by rw [hzc]; exact hB0
          have HZS : Hid ((Tryd.prog.info? 85).map (·.size) = some cs.size) := by rw [hsz]; exact zs
          have HON : Hid (cs.all (·.oneCell') = true) := by show _ = _; rw [hcs]; simp [Value.oneCell']
          have HST : Hid ((wr.setRow w.heap.size cs).heap[w.heap.size]? = some (.cells cs 85 (0, 0))) := by
            have := blk_setRow hB0 cs hcs
            rw [hcs] at this ⊢; exact this
          have HBB : Hid (Below w.heap.size w (wr.setRow w.heap.size cs)) := hbe.trans (below_setRow wr (Nat.le_refl _) _)
          have HZE : Hid (zc.size = cs.size) := by show _ = _; rw [hsz, hzc]; simp
          clear hB1 hB0 hbe hsz zv zs e hcs hzc
          go_wp2_with (first | refine wpList_load_row rfl 85 _ rfl (w.heap.size + 1) rfl 85 cs (0, 0) _ HB1.out Tryd.underlying85 rfl HZS.out ?_ | refine wpList_store_row rfl 85 _ _ rfl w.heap.size cs rfl rfl 85 zc HB0.out HZS.out HZE.out HON.out ?_)
          refine bodyPost_ret (v := .agg cs) ?_ rfl ⟨by rw [HCS.out], HBB.out⟩
          exact results_cell_row rfl _ _ w.heap.size 85 cs (0, 0) _ rfl HST.out Tryd.underlying85 rfl HZS.out
end Go.Proofs.YtpenhliaelhnoaaDoor.Sched
