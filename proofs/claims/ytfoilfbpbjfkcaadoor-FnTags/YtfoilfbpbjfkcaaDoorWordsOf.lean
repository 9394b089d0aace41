/-
  What impl's wordsOf answers at every slice of ints of at most 4,194,304: whether they are eight words, and then those.
-/
import Derived.Test.YtfoilfbpbjfkcaaDoorWords
import Derived.ChangeKeysEq
namespace Go.Proofs.YtfoilfbpbjfkcaaDoor.WordsOf
open Go.RowKit Go.Proofs.YtfoilfbpbjfkcaaDoor.Mem Go.Proofs.YtfoilfbpbjfkcaaDoor.MemI Go.Proofs.YtfoilfbpbjfkcaaDoor.Blk Go.Proofs.YtfoilfbpbjfkcaaDoor.App Go.Proofs.YtfoilfbpbjfkcaaDoor.Get Go.Proofs.YtfoilfbpbjfkcaaDoor.ShaP Go.Proofs.YtfoilfbpbjfkcaaDoor.Word Go.Proofs.YtfoilfbpbjfkcaaDoor.Bits Go.Proofs.YtfoilfbpbjfkcaaDoor.Sched Go.Proofs.YtfoilfbpbjfkcaaDoor.Words

abbrev z8 : List Int := List.replicate 8 0
/-- k of eight cells filled, the rest 0. -/
def fill8 (l : List Int) (k : Nat) : List Int := l.take k ++ List.replicate (8 - k) 0
theorem fill8_set (l : List Int) (k : Nat) (hl : l.length = 8) (hk : k < 8) : (fill8 l k).set k (l.getD k 0) = fill8 l (k + 1) := by
  have := set_mid l k (by omega)
  rw [hl] at this; exact this
theorem fill8_length (l : List Int) (k : Nat) (hl : l.length = 8) (hk : k ≤ 8) : (fill8 l k).length = 8 := by simp [fill8, hl]; omega
theorem fill8_all (l : List Int) (hl : l.length = 8) : fill8 l 8 = l := by simp [fill8]; exact List.take_of_length_le (by omega)
def cut8 (h : List Int) : List Int := h.map fun z => z % 4294967296
theorem cut8_getD (h : List Int) (k : Nat) : (cut8 h).getD k 0 = (h.getD k 0) % 4294967296 := by
  simp only [cut8, List.getD, List.getElem?_map]
  cases h[k]? <;> simp
theorem cut8_eq (h : List Int) (hw : Wds h) : cut8 h = h := by
  unfold cut8
  conv => rhs; rw [← List.map_id h]
  apply List.map_congr_left
  intro z hz
  have := hw z hz
  unfold Wd at this
  simp; omega
theorem cut8_ne (h : List Int) (hl : h.length = 8) (hw : okw h = false) : cut8 h ≠ h := by
  intro e
  have : Wds h := by
    intro z hz
    rw [← e] at hz
    simp only [cut8, List.mem_map] at hz
    obtain ⟨y, _, rfl⟩ := hz
    exact wd_mod _
  rw [(okw_iff h).2 ⟨hl, this⟩] at hw
  cases hw

theorem cells3 : Tryd.prog.cellsOf 3 = 1 := by kernel_rfl
theorem items (d : Nat) (X Y : List Int) (hx : X.length = 8) (hy : Y.length = 8) (is : List Nat) (h : ∀ i ∈ is, i < 8) (w : World) :
    (Op.eqItems (d + 1) 3 1 (X.map (Value.int .i64)).toArray (Y.map (Value.int .i64)).toArray is).run Tryd.prog w = .ok (is.all fun i => X.getD i 0 == Y.getD i 0) w := by
  induction is with
  | nil => simp [Op.eqItems]
  | cons j r ih =>
    have hj := h j (by simp)
    have ih := ih (fun i hi => h i (by simp [hi]))
    simp only [Op.eqItems, Sem.run_bind]
    have hp : ∀ Z : List Int, Z.length = 8 → (part 3 (Z.map (Value.int .i64)).toArray (j * 1)).run Tryd.prog w = .ok (.int .i64 (Z.getD j 0)) w := by
      intro Z hz
      simp [part, hz, hj, List.getD]
    rw [hp X hx, Result.andThen_ok, hp Y hy, Result.andThen_ok, run_equalIn_int w d 3 .i64 .i64 _ _ Tryd.underlying3]
    rw [List.all_cons]
    cases (X.getD j 0 == Y.getD j 0) with
    | true => simpa using ih
    | false => simp
/-- Two arrays of eight ints, compared. -/
theorem eq8 (X Y : List Int) (hx : X.length = 8) (hy : Y.length = 8) (w : World) :
    (Op.equalIn 10000 55 (.agg (X.map (Value.int .i64)).toArray) (.agg (Y.map (Value.int .i64)).toArray)).run Tryd.prog w = .ok (decide (X = Y)) w := by
  obtain ⟨i0, hi, _, _, _⟩ := info_parts info64
  rw [show (10000 : Nat) = 9999 + 1 from rfl, run_equalIn_array w 9999 _ _ Tryd.underlying55 hi, cells3, show (9999 : Nat) = 9998 + 1 from rfl, items 9998 X Y hx hy _ (fun i hi => by simpa using hi) w]
  congr 1
  rw [Bool.eq_iff_iff, decide_eq_true_eq, List.all_eq_true]
  constructor
  · intro h
    apply List.ext_getElem (by omega)
    intro i h1 h2
    have := h i (by simp; omega)
    simpa [List.getD, h1, h2] using this
  · rintro rfl i _
    simp

theorem results_row_tmp {P : Program} {fn : Func} {p q : Tmp} {ty : TypeId} (h : fn.results = #[.cell p ty, .tmp q]) (tmps : Array Value) (w : World) (g : Nat) (t : TypeId) (cs : Array Value) (fr : Nat × Nat) (d : TypeDesc)
    (hp : tmps.getD p undef = .pointer (some ⟨g, 0, none⟩)) (hg : w.heap[g]? = some (.cells cs t fr))
    (hu : P.underlying ty = some d) (hd : (match d with | .struct _ | .array _ _ => true | _ => false) = true) (hi : (P.info? ty).map (·.size) = some cs.size) (v : Value) (hq : tmps.getD q undef = v) :
    (results fn tmps).run P w = .ok (.tuple #[.agg cs, v]) w := by
  have hp' : tmps[p]?.getD undef = .pointer (some ⟨g, 0, none⟩) := by simpa using hp
  have hq' : tmps[q]?.getD undef = v := by simpa using hq
  simp [results, h, hp', hq', asAddr, run_loadVar_row w g t ty cs fr d hg hu hd hi]
theorem blk_drew {w : World} {g : Nat} {t : TypeId} {cs : List Value} (h : Blk w g t cs) : Blk w.drew g t cs := h
theorem set8 (a0 a1 a2 a3 a4 a5 a6 a7 : Value) : ((((((((z8.map (Value.int .i64)).set 0 a0).set 1 a1).set 2 a2).set 3 a3).set 4 a4).set 5 a5).set 6 a6).set 7 a7 = [a0, a1, a2, a3, a4, a5, a6, a7] := rfl
theorem ints8 (y0 y1 y2 y3 y4 y5 y6 y7 : Int) : [Value.int .i64 y0, .int .i64 y1, .int .i64 y2, .int .i64 y3, .int .i64 y4, .int .i64 y5, .int .i64 y6, .int .i64 y7] = [y0, y1, y2, y3, y4, y5, y6, y7].map (Value.int .i64) := rfl
theorem info8w : (Tryd.prog.info? 55).map (·.size) = some 8 := by kernel_rfl

set_option maxRecDepth 100000 in
set_option maxHeartbeats 2000000 in
theorem wordsOf (a : Option Addr) (n cap : Nat) (h : List Int) (w : World) (hn : n = h.length) (hr : IRd w a h) (hl : n ≤ 4194304) :
    Calls Tryd.prog 76 #[.slice a n cap] w fun e w' =>
      ∃ G : List Int, e = .returned (.tuple #[.agg (G.map (Value.int .i64)).toArray, .bool (okw h)]) ∧ (okw h = true → G = h) ∧ G.length = 8 ∧ Below w.heap.size w w' := by
  have HR : Hid (IRd w a h) := hr
  have HN : Hid (n = h.length) := hn
  have Z : List Value := z8.map (Value.int .i64)
  have A0 : Hid (Below w.heap.size w (w.alloc (.cells (z8.map (Value.int .i64)).toArray 55))) := (Below.refl _ _).alloc (Nat.le_refl _) _
  by_cases h8 : n = 8
  · subst h8
    clear hr hn
    go_enter Tryd.func76, Tryd.ntmps76
    go_wp2
    go_loopw [14] (fun i wr => ∃ k : Nat, k ≤ 8 ∧ i = .int .i64 k ∧ Blk wr (w.heap.size + 1) 55 ((fill8 h k).map (Value.int .i64)) ∧ Blk wr (w.heap.size + 2) 55 ((fill8 (cut8 h) k).map (Value.int .i64)) ∧ Blk wr w.heap.size 55 (z8.map (Value.int .i64)) ∧ Below w.heap.size w wr)
      (fun i _ => 8 - (intOf i).toNat)
    case atStart =>
      refine ⟨0, Nat.zero_le _, rfl, ?_, ?_, ?_, ?_⟩
      · have := (Blk.new (w.alloc (.cells (z8.map (Value.int .i64)).toArray 55)) 55 (z8.map (Value.int .i64))).alloc (.cells (z8.map (Value.int .i64)).toArray 55)
        rw [show (w.alloc (.cells (z8.map (Value.int .i64)).toArray 55)).heap.size = w.heap.size + 1 by simp] at this
        exact this
      · have := Blk.new ((w.alloc (.cells (z8.map (Value.int .i64)).toArray 55)).alloc (.cells (z8.map (Value.int .i64)).toArray 55)) 55 (z8.map (Value.int .i64))
        rw [show ((w.alloc (.cells (z8.map (Value.int .i64)).toArray 55)).alloc (.cells (z8.map (Value.int .i64)).toArray 55)).heap.size = w.heap.size + 2 by simp] at this
        exact this
      · exact ((Blk.new w 55 (z8.map (Value.int .i64))).alloc _).alloc _
      · exact (A0.out.alloc (by simp) _).alloc (by simp; omega) _
    case round =>
      obtain ⟨k, hk, rfl, hB1, hB2, hB0, hbe⟩ := hrel
      clear A0
      have h8' : h.length = 8 := HN.out.symm
      have c8' : (cut8 h).length = 8 := by simp [cut8, h8']
      by_cases hlt : k < 8
      · obtain ⟨b, off, rfl, hbl, hc0⟩ := HR.out k (by omega)
        have hc : wr.cell? ⟨b, off + k, none⟩ = some (.int .i64 (h.getD k 0)) := by rw [hbe.cell hbl]; exact hc0
        have f1 := hB1.frozen k
        have f2 := hB2.frozen k
        have x1 := hB1.cell k (v := .int .i64 ((fill8 h k).getD k 0)) (by simp [List.getD, fill8_length h k h8' hk, hlt])
        have x2 := hB2.cell k (v := .int .i64 ((fill8 (cut8 h) k).getD k 0)) (by simp [List.getD, fill8_length (cut8 h) k c8' hk, hlt])
        have nb1 : w.heap.size + 1 ≠ w.heap.size + 2 := by omega
        have N : Hid (Blk ((wr.setCell ⟨w.heap.size + 1, k, none⟩ (.int .i64 (h.getD k 0))).setCell ⟨w.heap.size + 2, k, none⟩ (.int .i64 (h.getD k 0 % 4294967296))) (w.heap.size + 1) 55 ((fill8 h (k + 1)).map (Value.int .i64)) ∧ Blk ((wr.setCell ⟨w.heap.size + 1, k, none⟩ (.int .i64 (h.getD k 0))).setCell ⟨w.heap.size + 2, k, none⟩ (.int .i64 (h.getD k 0 % 4294967296))) (w.heap.size + 2) 55 ((fill8 (cut8 h) (k + 1)).map (Value.int .i64)) ∧ Blk ((wr.setCell ⟨w.heap.size + 1, k, none⟩ (.int .i64 (h.getD k 0))).setCell ⟨w.heap.size + 2, k, none⟩ (.int .i64 (h.getD k 0 % 4294967296))) w.heap.size 55 (z8.map (Value.int .i64)) ∧ Below w.heap.size w ((wr.setCell ⟨w.heap.size + 1, k, none⟩ (.int .i64 (h.getD k 0))).setCell ⟨w.heap.size + 2, k, none⟩ (.int .i64 (h.getD k 0 % 4294967296)))) := by
          refine ⟨?_, ?_, ?_, ?_⟩
          · have := hB1.set k (.int .i64 (h.getD k 0)) (by rw [List.length_map, fill8_length h k h8' hk]; simp [maxLen])
            rw [← List.map_set, fill8_set h k h8' hlt] at this
            exact this.other (by simp) _
          · have := (hB2.other (a := ⟨w.heap.size + 1, k, none⟩) (by simp) (.int .i64 (h.getD k 0))).set k (.int .i64 (h.getD k 0 % 4294967296)) (by rw [List.length_map, fill8_length _ k c8' hk]; simp [maxLen])
            rw [← List.map_set, ← cut8_getD, fill8_set (cut8 h) k c8' hlt, cut8_getD] at this
            exact this
          · exact (hB0.other (by simp) _).other (by simp) _
          · exact (hbe.setCell (by simp) _).setCell (by simp) _
        clear hB1 hB2 hB0 hbe h8' c8' hc0 hbl
        generalize (fill8 h k).getD k 0 = v1 at *
        generalize (fill8 (cut8 h) k).getD k 0 = v2 at *
        generalize h.getD k 0 = z at *
        go_wp2_with fail
        refine (implAdd _ _ _).mono ?_
        rintro e w1 ⟨rfl, rfl⟩
        rw [Int.add_zero]
        go_wp2
        go_roundw
        case rel => exact ⟨k + 1, by omega, by go_num, N.out.1, N.out.2.1, N.out.2.2.1, N.out.2.2.2⟩
        case measure => simp [intOf]; omega
      · obtain rfl : k = 8 := by omega
        rw [fill8_all h h8'] at hB1
        rw [fill8_all _ c8'] at hB2
        obtain ⟨y0, y1, y2, y3, y4, y5, y6, y7, rfl⟩ : ∃ y0 y1 y2 y3 y4 y5 y6 y7, h = [y0, y1, y2, y3, y4, y5, y6, y7] := by
          match h, h8' with
          | [y0, y1, y2, y3, y4, y5, y6, y7], _ => exact ⟨_, _, _, _, _, _, _, _, rfl⟩
        have a0 := hB1.cell 0 rfl
        have a1 := hB1.cell 1 rfl
        have a2 := hB1.cell 2 rfl
        have a3 := hB1.cell 3 rfl
        have a4 := hB1.cell 4 rfl
        have a5 := hB1.cell 5 rfl
        have a6 := hB1.cell 6 rfl
        have a7 := hB1.cell 7 rfl
        have b0 := hB2.cell 0 rfl
        have b1 := hB2.cell 1 rfl
        have b2 := hB2.cell 2 rfl
        have b3 := hB2.cell 3 rfl
        have b4 := hB2.cell 4 rfl
        have b5 := hB2.cell 5 rfl
        have b6 := hB2.cell 6 rfl
        have b7 := hB2.cell 7 rfl
        have s0 := hB0.frozen 0
        have s1 := hB0.frozen 1
        have s2 := hB0.frozen 2
        have s3 := hB0.frozen 3
        have s4 := hB0.frozen 4
        have s5 := hB0.frozen 5
        have s6 := hB0.frozen 6
        have s7 := hB0.frozen 7
        have t0 := hB0.cell 0 rfl
        have t1 := hB0.cell 1 rfl
        have t2 := hB0.cell 2 rfl
        have t3 := hB0.cell 3 rfl
        have t4 := hB0.cell 4 rfl
        have t5 := hB0.cell 5 rfl
        have t6 := hB0.cell 6 rfl
        have t7 := hB0.cell 7 rfl
        have hq := eq8 [y0, y1, y2, y3, y4, y5, y6, y7] (cut8 [y0, y1, y2, y3, y4, y5, y6, y7]) h8' c8'
        have hd : decide ([y0, y1, y2, y3, y4, y5, y6, y7] = cut8 [y0, y1, y2, y3, y4, y5, y6, y7]) = okw [y0, y1, y2, y3, y4, y5, y6, y7] := by
          cases hk : okw [y0, y1, y2, y3, y4, y5, y6, y7] with
          | true => exact decide_eq_true (cut8_eq _ ((okw_iff _).1 hk).2).symm
          | false => exact decide_eq_false fun e => cut8_ne _ h8' hk e.symm
        rw [hd] at hq
        simp only [cut8, List.map_cons, List.map_nil] at hq
        have m : ∀ n, n = 8 → n ≤ maxLen := by rintro _ rfl; simp [maxLen]
        have HF0 := (((((((hB0.set 0 (.int .i64 y0) (m _ rfl)).set 1 (.int .i64 y1) (m _ rfl)).set 2 (.int .i64 y2) (m _ rfl)).set 3 (.int .i64 y3) (m _ rfl)).set 4 (.int .i64 y4) (m _ rfl)).set 5 (.int .i64 y5) (m _ rfl)).set 6 (.int .i64 y6) (m _ rfl)).set 7 (.int .i64 y7) (m _ rfl)
        have HBE0 := ((((((((hbe.setCell (p := ⟨w.heap.size, 0, none⟩) (Nat.le_refl _) (.int .i64 y0)).setCell (p := ⟨w.heap.size, 1, none⟩) (Nat.le_refl _) (.int .i64 y1)).setCell (p := ⟨w.heap.size, 2, none⟩) (Nat.le_refl _) (.int .i64 y2)).setCell (p := ⟨w.heap.size, 3, none⟩) (Nat.le_refl _) (.int .i64 y3)).setCell (p := ⟨w.heap.size, 4, none⟩) (Nat.le_refl _) (.int .i64 y4)).setCell (p := ⟨w.heap.size, 5, none⟩) (Nat.le_refl _) (.int .i64 y5)).setCell (p := ⟨w.heap.size, 6, none⟩) (Nat.le_refl _) (.int .i64 y6)).setCell (p := ⟨w.heap.size, 7, none⟩) (Nat.le_refl _) (.int .i64 y7)).drew
        have HF1 : Blk (((((((((wr.setCell ⟨w.heap.size, 0, none⟩ (.int .i64 y0)).setCell ⟨w.heap.size, 1, none⟩ (.int .i64 y1)).setCell ⟨w.heap.size, 2, none⟩ (.int .i64 y2)).setCell ⟨w.heap.size, 3, none⟩ (.int .i64 y3)).setCell ⟨w.heap.size, 4, none⟩ (.int .i64 y4)).setCell ⟨w.heap.size, 5, none⟩ (.int .i64 y5)).setCell ⟨w.heap.size, 6, none⟩ (.int .i64 y6)).setCell ⟨w.heap.size, 7, none⟩ (.int .i64 y7)).drew) w.heap.size 55 ([y0, y1, y2, y3, y4, y5, y6, y7].map (Value.int .i64)) := by
          rw [set8, ints8] at HF0
          exact blk_drew HF0
        obtain ⟨wz, hwz⟩ : ∃ wz, ((((((((wr.setCell ⟨w.heap.size, 0, none⟩ (.int .i64 y0)).setCell ⟨w.heap.size, 1, none⟩ (.int .i64 y1)).setCell ⟨w.heap.size, 2, none⟩ (.int .i64 y2)).setCell ⟨w.heap.size, 3, none⟩ (.int .i64 y3)).setCell ⟨w.heap.size, 4, none⟩ (.int .i64 y4)).setCell ⟨w.heap.size, 5, none⟩ (.int .i64 y5)).setCell ⟨w.heap.size, 6, none⟩ (.int .i64 y6)).setCell ⟨w.heap.size, 7, none⟩ (.int .i64 y7)).drew = wz := ⟨_, rfl⟩
        rw [hwz] at HF1 HBE0
        have HF : Hid (Blk wz w.heap.size 55 ([y0, y1, y2, y3, y4, y5, y6, y7].map (Value.int .i64))) := HF1
        have HBE : Hid (Below w.heap.size w wz) := HBE0
        have HWZ : Hid (((((((((wr.setCell ⟨w.heap.size, 0, none⟩ (.int .i64 y0)).setCell ⟨w.heap.size, 1, none⟩ (.int .i64 y1)).setCell ⟨w.heap.size, 2, none⟩ (.int .i64 y2)).setCell ⟨w.heap.size, 3, none⟩ (.int .i64 y3)).setCell ⟨w.heap.size, 4, none⟩ (.int .i64 y4)).setCell ⟨w.heap.size, 5, none⟩ (.int .i64 y5)).setCell ⟨w.heap.size, 6, none⟩ (.int .i64 y6)).setCell ⟨w.heap.size, 7, none⟩ (.int .i64 y7)).drew = wz) := hwz
        clear HF0 HBE0 HF1 hwz m
        clear hB1 hB2 hB0 hbe h8' c8' hd HR HN
        obtain ⟨ok, hok⟩ : ∃ ok, okw [y0, y1, y2, y3, y4, y5, y6, y7] = ok := ⟨_, rfl⟩
        rw [hok] at hq
        have HOK : Hid (okw [y0, y1, y2, y3, y4, y5, y6, y7] = ok) := hok
        clear hok
        go_wp2
        go_region
        go_wp2
        rw [HWZ.out]
        refine bodyPost_ret (v := .tuple #[.agg ([y0, y1, y2, y3, y4, y5, y6, y7].map (Value.int .i64)).toArray, .bool ok]) ?_ rfl ⟨[y0, y1, y2, y3, y4, y5, y6, y7], by rw [HOK.out], fun _ => rfl, rfl, HBE.out⟩
        exact results_row_tmp rfl _ _ w.heap.size 55 _ (0, 0) _ rfl HF.out Tryd.underlying55 rfl info8w _ rfl
  · have HO : Hid (okw h = false) := okw_len (by omega)
    have hne : ((n : Int) != 8) = true := by simp; omega
    clear h8 hn hr
    go_enter Tryd.func76, Tryd.ntmps76
    go_wp2
    refine bodyPost_ret (v := .tuple #[.agg (z8.map (Value.int .i64)).toArray, .bool false]) ?_ rfl ⟨z8, by rw [HO.out], fun e => (by rw [HO.out] at e; cases e), rfl, (A0.out.alloc (by simp) _).alloc (by simp; omega) _⟩
    exact results_row_tmp rfl _ _ w.heap.size 55 _ (0, 0) _ rfl (((Blk.new w 55 (z8.map (Value.int .i64))).alloc _).alloc _) Tryd.underlying55 rfl info8w _ rfl
end Go.Proofs.YtfoilfbpbjfkcaaDoor.WordsOf
