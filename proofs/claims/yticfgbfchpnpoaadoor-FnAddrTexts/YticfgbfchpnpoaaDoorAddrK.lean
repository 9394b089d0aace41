/-
  What impl's numbersOf, addrOf and ParseAddr answer.
-/
import Derived.Test.YticfgbfchpnpoaaDoorAddrJ
import Derived.Test.YticfgbfchpnpoaaDoorAddrN
import Derived.Test.YticfgbfchpnpoaaDoorAddrR
import Derived.Test.YticfgbfchpnpoaaDoorGet
import Derived.Lib.OthersKept
import Derived.Laws.RangeAny
namespace Go.Proofs.YticfgbfchpnpoaaDoor.AddrK
open Go.RowKit Go.Proofs.YticfgbfchpnpoaaDoor.Mem Go.Proofs.YticfgbfchpnpoaaDoor.App Go.Proofs.YticfgbfchpnpoaaDoor.Get Go.Proofs.YticfgbfchpnpoaaDoor.Blk Go.Proofs.YticfgbfchpnpoaaDoor.Str Go.Proofs.YticfgbfchpnpoaaDoor.Words Go.Proofs.YticfgbfchpnpoaaDoor.AddrP Go.Proofs.YticfgbfchpnpoaaDoor.Res Go.Proofs.YticfgbfchpnpoaaDoor.AddrS Go.Proofs.YticfgbfchpnpoaaDoor.AddrT Go.Proofs.YticfgbfchpnpoaaDoor.AddrR Go.Proofs.YticfgbfchpnpoaaDoor.AddrI Go.Proofs.YticfgbfchpnpoaaDoor.AddrJ Go.Proofs.YticfgbfchpnpoaaDoor.Itoa Go.Proofs.YticfgbfchpnpoaaDoor.AddrN

theorem iterPos_at {w : World} {k : Nat} {s : ByteArray} {p : Nat} (h : w.heap[k]? = some (.stringIter s p)) : w.iterPos k = p := by
  unfold World.iterPos; rw [h]
theorem blk_ne_iter {w : World} {g : Nat} {t : TypeId} {cs : List Value} (h : Blk w g t cs) {k : Nat} {s : ByteArray} {p : Nat} (hk : w.heap[k]? = some (.stringIter s p)) : g ≠ k := by
  rintro rfl
  have h' : w.heap[g]? = _ := h
  rw [hk] at h'
  cases h'
theorem blk_iter {w : World} {g : Nat} {t : TypeId} {cs : List Value} (h : Blk w g t cs) {k : Nat} {s : ByteArray} {p : Nat} (hk : w.heap[k]? = some (.stringIter s p)) (p' : Nat) : Blk (w.iterAt k s p') g t cs :=
  h.keep (Lib.iterAt_other w k g s p' (blk_ne_iter h hk))
theorem iter_set {w : World} {k : Nat} {s : ByteArray} {p : Nat} (hk : w.heap[k]? = some (.stringIter s p)) {a : Addr} (ne : k ≠ a.block) (v : Value) : (w.setCell a v).heap[k]? = some (.stringIter s p) :=
  (Below.heap_setCell w a v k ne).trans hk
/-- Five numbers in a block. -/
def Five (w : World) (g : Nat) (x : List Int) : Prop := x.length = 5 ∧ Blk w g 60 (x.map (Value.int .i64))
theorem Five.set {w : World} {g : Nat} {x : List Int} (h : Five w g x) (i : Nat) (v : Int) : Five (w.setCell ⟨g, i, none⟩ (.int .i64 v)) g (x.set i v) := by
  refine ⟨by rw [List.length_set]; exact h.1, ?_⟩
  rw [List.map_set]
  exact h.2.set i _ (by rw [List.length_map, h.1]; simp [maxLen])
theorem Five.cell {w : World} {g : Nat} {x : List Int} (h : Five w g x) (i : Nat) (hi : i < 5) : w.cell? ⟨g, i, none⟩ = some (.int .i64 (x.getD i 0)) :=
  h.2.cell i (by have := h.1; simp [List.getD, this, hi])
theorem Five.out {w : World} {g : Nat} {x : List Int} (h : Five w g x) : ∃ x0 x1 x2 x3 x4, x = [x0, x1, x2, x3, x4] := by
  match x, h.1 with
  | [x0, x1, x2, x3, x4], _ => exact ⟨x0, x1, x2, x3, x4, rfl⟩
theorem agg5 : aggB Tryd.prog 60 5 = true := by kernel_rfl

set_option maxRecDepth 100000 in
set_option maxHeartbeats 1600000 in
theorem numbersOf (s : ByteArray) (w : World) :
    Calls Tryd.prog 35 #[.string s] w fun e w' => ∃ x0 x1 x2 x3 x4, e = .returned (.agg #[.int .i64 x0, .int .i64 x1, .int .i64 x2, .int .i64 x3, .int .i64 x4]) ∧ Parts (bs s) [x0, x1, x2, x3, x4] ∧ Below w.heap.size w w' := by
  have HL : Hid ((bs s).length = s.size) := bs_length s
  obtain ⟨w1, hw1⟩ : ∃ w1, (w.alloc (.cells #[.int .i64 0, .int .i64 0, .int .i64 0, .int .i64 0, .int .i64 0] 60)).alloc (.cells #[.int .i64 0, .int .i64 0, .int .i64 0, .int .i64 0, .int .i64 0] 60) = w1 := ⟨_, rfl⟩
  have B1 : Hid (Below w.heap.size w w1) := by rw [← hw1]; exact ((Below.refl _ _).alloc (Nat.le_refl _) _).alloc (by simp) _
  have F0 : Hid (Five w1 w.heap.size zero5) := by rw [← hw1]; exact ⟨rfl, (Blk.new w 60 (zero5.map (Value.int .i64))).alloc _⟩
  have F1 : Hid (Five w1 (w.heap.size + 1) zero5) := by
    rw [← hw1]
    refine ⟨rfl, ?_⟩
    have := Blk.new (w.alloc (.cells #[.int .i64 0, .int .i64 0, .int .i64 0, .int .i64 0, .int .i64 0] 60)) 60 (zero5.map (Value.int .i64))
    rw [World.size_alloc] at this
    exact this
  have Z1 : Hid (w1.heap.size = w.heap.size + 1 + 1) := by rw [← hw1]; show _ = _; rw [World.size_alloc, World.size_alloc]
  have HW1 : Hid _ := hw1
  clear hw1
  go_enter Tryd.func35, Tryd.ntmps35
  go_wp2
  rw [HW1.out]
  have I0 : Hid ((w1.iter s 0).heap[w.heap.size + 1 + 1]? = some (.stringIter s 0)) := by have := World.iter_heap w1 s 0; rw [Z1.out] at this; exact this
  have BI : Hid (Below w1.heap.size w1 (w1.iter s 0)) := (Below.refl _ _).alloc (Nat.le_refl _) _
  go_loopw [4] (fun v wr => ∃ (k last : Nat) (x : List Int), wr.heap[w.heap.size + 1 + 1]? = some (.stringIter s k) ∧ v = .int .i64 (last : Int) ∧ last ≤ 4 ∧ Five wr (w.heap.size + 1) x ∧ Five wr w.heap.size zero5 ∧ Track (bs s) k x last ∧ Below w.heap.size w wr)
    (fun _ wr => s.size - wr.iterPos (w.heap.size + 1 + 1))
  case atStart => exact ⟨0, 0, zero5, I0.out, rfl, by omega, ⟨rfl, F1.out.2.later BI.out⟩, ⟨rfl, F0.out.2.later BI.out⟩, track_start _, B1.out.trans (BI.out.mono B1.out.size)⟩
  case round =>
    obtain ⟨k, last, x, hit, rfl, hl4, hf1, hf0, htr, hbe⟩ := hrel
    have HI : Hid (wr.heap[w.heap.size + 1 + 1]? = some (.stringIter s k)) := hit
    have HF1 : Hid (Five wr (w.heap.size + 1) x) := hf1
    have HF0 : Hid (Five wr w.heap.size zero5) := hf0
    have HTr : Hid (Track (bs s) k x last) := htr
    have HBe : Hid (Below w.heap.size w wr) := hbe
    have HM : Hid (wr.iterPos (w.heap.size + 1 + 1) = k) := iterPos_at hit
    clear hit hf1 hf0 htr hbe B1 F0 F1 I0 BI Z1 HW1
    by_cases hlt : k < s.size
    · have HLT : Hid (k < (bs s).length) := by rw [HL.out]; exact hlt
      have G1 : Hid ((bs s).getD k 0 = ((s[k]'hlt).toNat : Int)) := bs_getD s k hlt
      have b1 := (s[k]'hlt).toNat_lt
      obtain ⟨r, q, hr, r0, r1, hq, hasc⟩ : ∃ (r : Int) (q : Nat), (∀ ty, (Instr.next (.pointer (some ⟨w.heap.size + 1 + 1, 0, none⟩)) true ty).run Tryd.prog wr = .ok (.tuple #[.bool true, .int .i64 k, .int .i32 r]) (wr.iterAt (w.heap.size + 1 + 1) s q)) ∧ 0 ≤ r ∧ r ≤ 2147483647 ∧ k < q ∧ ((r = (bs s).getD k 0 ∧ q = k + 1) ∨ (∀ h p, ¬ IsText (bs s) h p)) := by
        by_cases ha : (s[k]'hlt).toNat < 128
        · exact ⟨_, _, fun ty => Lib.run_next_ascii_at wr _ s k ty HI.out hlt ha, by omega, by omega, by omega, .inl ⟨G1.out.symm, rfl⟩⟩
        · have h1 := decode_high s k hlt (by omega)
          have h2 := decode_le s k
          exact ⟨_, _, fun ty => Lib.run_next_any_at wr _ s k ty HI.out hlt, by omega, by omega, by omega, .inr (high_no HLT.out (by rw [G1.out]; omega))⟩
      have HA : Hid ((r = (bs s).getD k 0 ∧ q = k + 1) ∨ (∀ h p, ¬ IsText (bs s) h p)) := hasc
      have HQ : Hid (k < q) := hq
      have HI2 : Hid ((wr.iterAt (w.heap.size + 1 + 1) s q).heap[w.heap.size + 1 + 1]? = some (.stringIter s q)) := Lib.iterAt_heap wr _ s k q HI.out
      have HB2 : Hid (Below w.heap.size w (wr.iterAt (w.heap.size + 1 + 1) s q)) := Lib.below_iterAt HBe.out (by omega) s q
      have HF2 : Hid (Five (wr.iterAt (w.heap.size + 1 + 1) s q) (w.heap.size + 1) x) := ⟨HF1.out.1, blk_iter HF1.out.2 HI.out q⟩
      have HF3 : Hid (Five (wr.iterAt (w.heap.size + 1 + 1) s q) w.heap.size zero5) := ⟨rfl, blk_iter HF0.out.2 HI.out q⟩
      have HM2 : Hid ((wr.iterAt (w.heap.size + 1 + 1) s q).iterPos (w.heap.size + 1 + 1) = q) := iterPos_at HI2.out
      clear hasc b1 hq
      by_cases hd : 48 ≤ r ∧ r ≤ 57
      · obtain ⟨z, hz⟩ : ∃ z, x.getD last 0 = z := ⟨_, rfl⟩
        have hc := HF2.out.cell last (by omega)
        have hfr := HF2.out.2.frozen last
        rw [hz] at hc
        have HZ : Hid (x.getD last 0 = z) := hz
        clear hz
        obtain ⟨wq, hwq⟩ : ∃ wq, wr.iterAt (w.heap.size + 1 + 1) s q = wq := ⟨_, rfl⟩
        rw [hwq] at hr hc hfr HI2 HB2 HF2 HF3 HM2
        clear hwq
        have HTr2 : Hid (Track (bs s) q (x.set last (wrap64 (wrap64 (z * 10) + (r - 48)))) last) := by
          rcases HA.out with ⟨h1, h2⟩ | hno
          · rw [h2]
            refine track_digit HTr.out HLT.out (by rw [← h1]; exact hd) _ ?_
            rw [HZ.out, ← h1]
            intro z0 z1
            unfold wrap64
            omega
          · exact track_no' HLT.out hno _ _ _
        go_wp2
        refine ⟨⟨q, last, _, iter_set HI2.out (by simp) _, rfl, hl4, HF2.out.set last _, ⟨rfl, HF3.out.2.other (by simp) _⟩, HTr2.out, HB2.out.setCell (by simp) _⟩, ?_⟩
        rw [iterPos_at (iter_set HI2.out (by simp) _), HM.out]
        have := HQ.out
        omega
      · have hd1 : (decide (r ≥ 48) && decide (r ≤ 57)) = false := by
          rw [Bool.and_eq_false_iff, decide_eq_false_iff_not, decide_eq_false_iff_not]; omega
        obtain ⟨wq, hwq⟩ : ∃ wq, wr.iterAt (w.heap.size + 1 + 1) s q = wq := ⟨_, rfl⟩
        rw [hwq] at hr HI2 HB2 HF2 HF3 HM2
        clear hwq
        by_cases h4 : last = 4
        · subst h4
          have HP : Hid (Parts (bs s) x) := by
            rcases HA.out with ⟨h1, h2⟩ | hno
            · exact parts_no HLT.out (track_no HTr.out HLT.out (by rw [← h1]; exact hd)) x
            · exact parts_no HLT.out hno x
          obtain ⟨x0, x1, x2, x3, x4, rfl⟩ := HF2.out.out
          have n0 := HF2.out.2.cell 0 rfl
          have n1 := HF2.out.2.cell 1 rfl
          have n2 := HF2.out.2.cell 2 rfl
          have n3 := HF2.out.2.cell 3 rfl
          have n4 := HF2.out.2.cell 4 rfl
          have c0 := HF3.out.2.cell 0 rfl
          have f0 := HF3.out.2.frozen 0
          have c1 := HF3.out.2.cell 1 rfl
          have f1 := HF3.out.2.frozen 1
          have c2 := HF3.out.2.cell 2 rfl
          have f2 := HF3.out.2.frozen 2
          have c3 := HF3.out.2.cell 3 rfl
          have f3 := HF3.out.2.frozen 3
          have c4 := HF3.out.2.cell 4 rfl
          have f4 := HF3.out.2.frozen 4
          have RET : Hid (Five (((((wq.setCell ⟨w.heap.size, 0, none⟩ (.int .i64 x0)).setCell ⟨w.heap.size, 1, none⟩ (.int .i64 x1)).setCell ⟨w.heap.size, 2, none⟩ (.int .i64 x2)).setCell ⟨w.heap.size, 3, none⟩ (.int .i64 x3)).setCell ⟨w.heap.size, 4, none⟩ (.int .i64 x4)) w.heap.size [x0, x1, x2, x3, x4]) := (((((HF3.out.set 0 x0).set 1 x1).set 2 x2).set 3 x3).set 4 x4)
          have BEL : Hid (Below w.heap.size w (((((wq.setCell ⟨w.heap.size, 0, none⟩ (.int .i64 x0)).setCell ⟨w.heap.size, 1, none⟩ (.int .i64 x1)).setCell ⟨w.heap.size, 2, none⟩ (.int .i64 x2)).setCell ⟨w.heap.size, 3, none⟩ (.int .i64 x3)).setCell ⟨w.heap.size, 4, none⟩ (.int .i64 x4))) := (((((HB2.out.setCell (Nat.le_refl _) _).setCell (Nat.le_refl _) _).setCell (Nat.le_refl _) _).setCell (Nat.le_refl _) _).setCell (Nat.le_refl _) _)
          by_cases h48 : r ≥ 48
          · have h57 : ¬ r ≤ 57 := by omega
            clear hd
            go_wp2
            exact bodyPost_ret (v := .agg #[.int .i64 x0, .int .i64 x1, .int .i64 x2, .int .i64 x3, .int .i64 x4]) (res1 rfl (is_cell rfl RET.out.2 agg5)) rfl ⟨x0, x1, x2, x3, x4, rfl, HP.out, BEL.out⟩
          · clear hd
            go_wp2
            exact bodyPost_ret (v := .agg #[.int .i64 x0, .int .i64 x1, .int .i64 x2, .int .i64 x3, .int .i64 x4]) (res1 rfl (is_cell rfl RET.out.2 agg5)) rfl ⟨x0, x1, x2, x3, x4, rfl, HP.out, BEL.out⟩
        · have h4I : ((last : Int) == 4) = false := by rw [beq_eq_false_iff_ne]; omega
          have HTr2 : Hid (Track (bs s) q x (last + 1)) := by
            rcases HA.out with ⟨h1, h2⟩ | hno
            · rw [h2]; exact track_mark HTr.out HLT.out (by rw [← h1]; exact hd) h4
            · exact track_no' HLT.out hno _ _ _
          have HL4 : Hid (last + 1 ≤ 4) := by show _ ≤ _; omega
          clear h4
          by_cases h48 : r ≥ 48
          · have h57 : ¬ r ≤ 57 := by omega
            clear hd
            go_wp2
            refine ⟨⟨q, last + 1, x, HI2.out, by simp, HL4.out, HF2.out, HF3.out, HTr2.out, HB2.out⟩, ?_⟩
            rw [HM2.out, HM.out]
            have := HQ.out
            omega
          · clear hd
            go_wp2
            refine ⟨⟨q, last + 1, x, HI2.out, by simp, HL4.out, HF2.out, HF3.out, HTr2.out, HB2.out⟩, ?_⟩
            rw [HM2.out, HM.out]
            have := HQ.out
            omega
    · have HP : Hid (Parts (bs s) x) := parts_end HTr.out (by rw [HL.out]; exact hlt)
      obtain ⟨x0, x1, x2, x3, x4, rfl⟩ := HF1.out.out
      have hnx := fun ty => Lib.run_next_end_at (P := Tryd.prog) wr (w.heap.size + 1 + 1) s k ty HI.out hlt
      have n0 := HF1.out.2.cell 0 rfl
      have n1 := HF1.out.2.cell 1 rfl
      have n2 := HF1.out.2.cell 2 rfl
      have n3 := HF1.out.2.cell 3 rfl
      have n4 := HF1.out.2.cell 4 rfl
      have c0 := HF0.out.2.cell 0 rfl
      have f0 := HF0.out.2.frozen 0
      have c1 := HF0.out.2.cell 1 rfl
      have f1 := HF0.out.2.frozen 1
      have c2 := HF0.out.2.cell 2 rfl
      have f2 := HF0.out.2.frozen 2
      have c3 := HF0.out.2.cell 3 rfl
      have f3 := HF0.out.2.frozen 3
      have c4 := HF0.out.2.cell 4 rfl
      have f4 := HF0.out.2.frozen 4
      have RET : Hid (Five (((((wr.setCell ⟨w.heap.size, 0, none⟩ (.int .i64 x0)).setCell ⟨w.heap.size, 1, none⟩ (.int .i64 x1)).setCell ⟨w.heap.size, 2, none⟩ (.int .i64 x2)).setCell ⟨w.heap.size, 3, none⟩ (.int .i64 x3)).setCell ⟨w.heap.size, 4, none⟩ (.int .i64 x4)) w.heap.size [x0, x1, x2, x3, x4]) := (((((HF0.out.set 0 x0).set 1 x1).set 2 x2).set 3 x3).set 4 x4)
      have BEL : Hid (Below w.heap.size w (((((wr.setCell ⟨w.heap.size, 0, none⟩ (.int .i64 x0)).setCell ⟨w.heap.size, 1, none⟩ (.int .i64 x1)).setCell ⟨w.heap.size, 2, none⟩ (.int .i64 x2)).setCell ⟨w.heap.size, 3, none⟩ (.int .i64 x3)).setCell ⟨w.heap.size, 4, none⟩ (.int .i64 x4))) := (((((HBe.out.setCell (Nat.le_refl _) _).setCell (Nat.le_refl _) _).setCell (Nat.le_refl _) _).setCell (Nat.le_refl _) _).setCell (Nat.le_refl _) _)
      go_wp2
      exact bodyPost_ret (v := .agg #[.int .i64 x0, .int .i64 x1, .int .i64 x2, .int .i64 x3, .int .i64 x4]) (res1 rfl (is_cell rfl RET.out.2 agg5)) rfl ⟨x0, x1, x2, x3, x4, rfl, HP.out, BEL.out⟩

/-- The first k of four bytes, as a number. -/
def hostTo (x : List Int) (k : Nat) : Int := val (x.take k)
theorem hostTo_succ (x : List Int) (k : Nat) (h : k < x.length) : hostTo x (k + 1) = hostTo x k * 256 + x.getD k 0 := by
  have e2 : x.getD k 0 = x[k] := by simp [List.getD, h]
  unfold hostTo
  rw [List.take_succ_eq_append_getElem h, val_snoc, e2]
def Four (x0 x1 x2 x3 : Int) : Prop := Bytes [x0, x1, x2, x3]
theorem host_bd {x0 x1 x2 x3 : Int} (h : Four x0 x1 x2 x3) (k : Nat) (hk : k < 4) : 0 ≤ hostTo [x0, x1, x2, x3] k ∧ hostTo [x0, x1, x2, x3] k < 16777216 := by
  have hb : Bytes ([x0, x1, x2, x3].take k) := fun z hz => h z (List.mem_of_mem_take hz)
  have := val_bd _ hb
  refine ⟨this.1, Int.lt_of_lt_of_le this.2 ?_⟩
  match k, hk with
  | 0, _ => simp
  | 1, _ => simp
  | 2, _ => simp
  | 3, _ => simp

set_option maxRecDepth 100000 in
set_option maxHeartbeats 1600000 in
theorem addrOf (x0 x1 x2 x3 x4 : Int) (w : World) :
    Calls Tryd.prog 34 #[.agg #[.int .i64 x0, .int .i64 x1, .int .i64 x2, .int .i64 x3, .int .i64 x4]] w fun e w' => ∃ h, e = .returned (addrV h x4) ∧ (Four x0 x1 x2 x3 → h = x0 * 16777216 + x1 * 65536 + x2 * 256 + x3) ∧ Below w.heap.size w w' := by
  obtain ⟨w1, hw1⟩ : ∃ w1, (w.alloc (.cells #[.int .i64 x0, .int .i64 x1, .int .i64 x2, .int .i64 x3, .int .i64 x4] 60)).alloc (.cells #[.int .i64 0, .int .i64 0] 25) = w1 := ⟨_, rfl⟩
  have B1 : Hid (Below w.heap.size w w1) := by rw [← hw1]; exact ((Below.refl _ _).alloc (Nat.le_refl _) _).alloc (by simp) _
  have F0 : Hid (Five w1 w.heap.size [x0, x1, x2, x3, x4]) := by rw [← hw1]; exact ⟨rfl, (Blk.new w 60 ([x0, x1, x2, x3, x4].map (Value.int .i64))).alloc _⟩
  have F1 : Hid (Blk w1 (w.heap.size + 1) 25 [.int .i64 0, .int .i64 0]) := by
    rw [← hw1]
    have := Blk.new (w.alloc (.cells #[.int .i64 x0, .int .i64 x1, .int .i64 x2, .int .i64 x3, .int .i64 x4] 60)) 25 [.int .i64 0, .int .i64 0]
    rw [World.size_alloc] at this
    exact this
  have HW1 : Hid _ := hw1
  clear hw1
  go_enter Tryd.func34, Tryd.ntmps34
  go_wp2
  rw [HW1.out]
  go_loopw [3, 8] (fun v i wr => ∃ (k : Nat) (h : Int), k ≤ 4 ∧ v = .int .i64 h ∧ i = .int .i64 (k : Int) ∧ (Four x0 x1 x2 x3 → h = hostTo [x0, x1, x2, x3] k) ∧ wr = w1)
    (fun _ i _ => (4 - intOf i).toNat)
  case atStart => exact ⟨0, 0, by omega, rfl, rfl, fun _ => rfl, rfl⟩
  case round =>
    obtain ⟨k, h, hk, rfl, rfl, hh, rfl⟩ := hrel
    have HH : Hid (Four x0 x1 x2 x3 → h = hostTo [x0, x1, x2, x3] k) := hh
    clear hh
    by_cases hlt : k < 4
    · have hc := F0.out.cell k (by omega)
      have HX : Hid ([x0, x1, x2, x3, x4].getD k 0 = [x0, x1, x2, x3].getD k 0) := by
        show _ = _
        match k, hlt with
        | 0, _ => rfl
        | 1, _ => rfl
        | 2, _ => rfl
        | 3, _ => rfl
      rw [HX.out] at hc
      obtain ⟨z, hz⟩ : ∃ z, [x0, x1, x2, x3].getD k 0 = z := ⟨_, rfl⟩
      rw [hz] at hc
      have HZ : Hid ([x0, x1, x2, x3].getD k 0 = z) := hz
      clear hz
      go_wp2
      refine ⟨⟨k + 1, _, by omega, rfl, by simp, fun h4 => ?_, trivial⟩, by simp [intOf]; omega⟩
      have hb : 0 ≤ z ∧ z ≤ 255 := by rw [← HZ.out]; exact Bytes.at h4 k
      have hbd := host_bd h4 k hlt
      rw [HH.out h4, hostTo_succ _ k (by simp; omega), HZ.out, show wrap64 (hostTo [x0, x1, x2, x3] k * 256) = hostTo [x0, x1, x2, x3] k * 256 by unfold wrap64; omega]
      exact or_step _ z hbd.1 (by omega) hb.1 hb.2
    · obtain rfl : k = 4 := by omega
      have hc := F0.out.cell 4 (by omega)
      have c0 := F1.out.cell 0 rfl
      have c1 := F1.out.cell 1 rfl
      have f0 := F1.out.frozen 0
      have f1 := F1.out.frozen 1
      have HE : Hid (Four x0 x1 x2 x3 → h = x0 * 16777216 + x1 * 65536 + x2 * 256 + x3) := fun h4 => by
        rw [HH.out h4]
        show ((((0 * 256 + x0) * 256 + x1) * 256 + x2) * 256 + x3) = _
        omega
      have hc4 : wr.cell? ⟨w.heap.size, 4, none⟩ = some (.int .i64 x4) := hc
      clear hc
      go_wp2
      exact ret_addr rfl rfl ((F1.out.set 0 _ (by simp [maxLen])).set 1 _ (by simp [maxLen])) rfl ⟨h, rfl, HE.out, (B1.out.setCell (by simp) _).setCell (by simp) _⟩

/-- What ParseAddr reads is the address whose text it is, or none's. -/
theorem reads_back {b : List Int} {x0 x1 x2 x3 x4 h : Int} (hP : Parts b [x0, x1, x2, x3, x4]) (hH : Four x0 x1 x2 x3 → h = x0 * 16777216 + x1 * 65536 + x2 * 256 + x3) (hne : addrI h x4 ≠ b) : Reads b 0 0 false := by
  refine .inr ⟨rfl, rfl, rfl, ?_⟩
  intro h' p' k e
  have o := (addrOk_iff h' p').1 k
  have q := hP.2 h' p' ⟨k, e⟩
  simp only [List.cons.injEq, and_true] at q
  obtain ⟨q0, q1, q2, q3, q4⟩ := q
  have h4 : Four x0 x1 x2 x3 := by
    intro z hz
    simp only [List.mem_cons, List.not_mem_nil, or_false] at hz
    rcases hz with rfl | rfl | rfl | rfl <;> omega
  have hh := hH h4
  apply hne
  rw [← e]
  congr 1
  omega
/-- Of the empty text the zero address is read, which has a text. -/
theorem reads_ok {b : List Int} {x0 x1 x2 x3 x4 h : Int} (hP : Parts b [x0, x1, x2, x3, x4]) (hH : Four x0 x1 x2 x3 → h = x0 * 16777216 + x1 * 65536 + x2 * 256 + x3) (he : addrI h x4 = b) : addrOk h x4 = true := by
  cases k : addrOk h x4 with
  | true => rfl
  | false =>
    exfalso
    unfold addrI at he
    rw [if_neg (by rw [k]; simp)] at he
    have q := hP.1 he.symm
    simp only [zero5, List.cons.injEq, and_true] at q
    obtain ⟨rfl, rfl, rfl, rfl, rfl⟩ := q
    have hh := hH (by intro z hz; simp at hz; omega)
    rw [hh] at k
    exact absurd k (by decide)

set_option maxRecDepth 100000 in
set_option maxHeartbeats 1600000 in
theorem implParseAddr (s : ByteArray) (w : World) (hT : Pow w) :
    Calls Tryd.prog 15 #[.string s] w (Parsed s w) := by
  have HT : Hid (Pow w) := hT
  obtain ⟨w0, hw0⟩ : ∃ w0, w.alloc (.cells #[.int .i64 0, .int .i64 0] 25) = w0 := ⟨_, rfl⟩
  have HW0 : Hid (w.alloc (.cells #[.int .i64 0, .int .i64 0] 25) = w0) := hw0
  have B0 : Hid (Below w.heap.size w w0) := by rw [← hw0]; exact (Below.refl _ _).alloc (Nat.le_refl _) _
  have K0 : Hid (Blk w0 w.heap.size 25 [.int .i64 0, .int .i64 0]) := by rw [← hw0]; exact Blk.new w _ _
  clear hw0 hT
  go_enter Tryd.func15, Tryd.ntmps15
  go_wp2_with fail
  rw [HW0.out]
  refine (numbersOf s w0).mono ?_
  rintro e w1 ⟨x0, x1, x2, x3, x4, rfl, hP, b1⟩
  have HP : Hid (Parts (bs s) [x0, x1, x2, x3, x4]) := hP
  have B1 : Hid (Below w.heap.size w w1) := B0.out.trans (b1.mono B0.out.size)
  have K1 : Hid (Blk w1 w.heap.size 25 [.int .i64 0, .int .i64 0]) := K0.out.later b1
  clear hP b1
  go_wp2_with fail
  refine (addrOf x0 x1 x2 x3 x4 w1).mono ?_
  rintro e w2 ⟨h, rfl, hH, b2⟩
  have HH : Hid (Four x0 x1 x2 x3 → h = x0 * 16777216 + x1 * 65536 + x2 * 256 + x3) := hH
  have B2 : Hid (Below w.heap.size w w2) := B1.out.trans (b2.mono B1.out.size)
  have K2 : Hid (Blk w2 w.heap.size 25 [.int .i64 0, .int .i64 0]) := K1.out.later b2
  clear hH b2
  obtain ⟨w3, hw3⟩ : ∃ w3, w2.alloc (.cells #[.int .i64 h, .int .i64 x4] 25) = w3 := ⟨_, rfl⟩
  have HW3 : Hid (w2.alloc (.cells #[.int .i64 h, .int .i64 x4] 25) = w3) := hw3
  have B3 : Hid (Below w.heap.size w w3) := by rw [← hw3]; exact B2.out.alloc B2.out.size _
  have K3 : Hid (Blk w3 w.heap.size 25 [.int .i64 0, .int .i64 0]) := by rw [← hw3]; exact K2.out.alloc _
  have L3 : Hid (Blk w3 w2.heap.size 25 [.int .i64 h, .int .i64 x4]) := by rw [← hw3]; exact Blk.new w2 _ _
  clear hw3
  unfold addrV
  go_upto_region 2 with fail
  rw [HW3.out]
  generalize w2.heap.size = g at *
  clear HW3
  have P3 : Hid (Pow w3) := HT.out.later B3.out
  have q0 := L3.out.cell 0 rfl
  have q1 := L3.out.cell 1 rfl
  go_wp2_with fail
  refine (implAddrText h x4 w3 P3.out).mono ?_
  rintro e w5 ⟨rfl, b5⟩
  have BO5 : Hid (Below w.heap.size w w5) := B3.out.trans (b5.mono B3.out.size)
  have KK5 : Hid (Blk w5 w.heap.size 25 [.int .i64 0, .int .i64 0]) := K3.out.later b5
  have KO5 : Hid (Blk w5 g 25 [.int .i64 h, .int .i64 x4]) := L3.out.later b5
  have z0 := KO5.out.cell 0 rfl
  have z1 := KO5.out.cell 1 rfl
  have o0 := KK5.out.cell 0 rfl
  have o1 := KK5.out.cell 1 rfl
  have f0 := KK5.out.frozen 0
  have f1 := KK5.out.frozen 1
  clear b5 q0 q1
  by_cases hsame : strOfNums (addrI h x4) = s
  · have YES : Hid (Reads (bs s) h x4 true) := by
      have e : addrI h x4 = bs s := by rw [← hsame, bs_nums _ (addrI_bytes h x4)]
      exact .inl ⟨rfl, reads_ok HP.out HH.out e, e⟩
    have hb1 : (s == s) = true := (beq_bytes _ _).2 rfl
    have hb2 : (s.toList != s.toList) = false := by simp
    rw [hsame]
    clear hsame
    go_wp2
    exact ret_addr2 rfl rfl ((KK5.out.set 0 _ (by simp [maxLen])).set 1 _ (by simp [maxLen])) rfl rfl ⟨h, x4, true, rfl, YES.out, (BO5.out.setCell (Nat.le_refl _) _).setCell (Nat.le_refl _) _⟩
  · have NO : Hid (Reads (bs s) 0 0 false) := reads_back HP.out HH.out (by intro e; apply hsame; rw [e, str_bs])
    have hb1 : (strOfNums (addrI h x4) == s) = false := by
      cases e : (strOfNums (addrI h x4) == s) with
      | false => rfl
      | true => exact absurd ((beq_bytes _ _).1 e) hsame
    have hb2 : ((strOfNums (addrI h x4)).toList == s.toList) = false := by rw [← beq_toListBytes]; exact hb1
    have hb3 : ((strOfNums (addrI h x4)).toList != s.toList) = true := by rw [bne, hb2]; rfl
    clear hsame hb1
    generalize strOfNums (addrI h x4) = T at *
    go_wp2
    exact ret_addr2 rfl rfl ((KK5.out.set 0 _ (by simp [maxLen])).set 1 _ (by simp [maxLen])) rfl rfl ⟨0, 0, false, rfl, NO.out, (BO5.out.setCell (Nat.le_refl _) _).setCell (Nat.le_refl _) _⟩
end Go.Proofs.YticfgbfchpnpoaaDoor.AddrK
