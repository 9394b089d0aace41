/-
  impl's laidTogether: what lists come to that are laid one behind the other in new memory.
  What the laws' helpers over a slice of bytes answer, with the slice as one value and its memory as a zone.
-/
import Derived.Test.YtpenhliaelhnoaaDoorGd4
import Derived.Test.YtpenhliaelhnoaaDoorGd2
import Derived.Laws.CopyOwn
set_option linter.unusedVariables false
namespace Go.Proofs.YtpenhliaelhnoaaDoor.KeL
open Go.RowKit Go.Proofs.YtpenhliaelhnoaaDoor.Mem Go.Proofs.YtpenhliaelhnoaaDoor.App Go.Proofs.YtpenhliaelhnoaaDoor.Blk Go.Proofs.YtpenhliaelhnoaaDoor.Words Go.Proofs.YtpenhliaelhnoaaDoor.Zone Go.Proofs.YtpenhliaelhnoaaDoor.Res Go.Proofs.YtpenhliaelhnoaaDoor.KeP Go.Proofs.YtpenhliaelhnoaaDoor.Shp

/-- How many bytes the first k lists have. -/
def sz (ls : List (List Int)) (k : Nat) : Nat := (ls.take k).flatten.length
set_option maxRecDepth 100000 in
theorem sz_succ {ls : List (List Int)} {k : Nat} {l : List Int} (h : ls[k]? = some l) : sz ls (k + 1) = sz ls k + l.length := by
  unfold sz; rw [List.take_add_one, h]; simp
set_option maxRecDepth 100000 in
theorem sz_zero (ls : List (List Int)) : sz ls 0 = 0 := by unfold sz; simp
set_option maxRecDepth 100000 in
theorem sz_all (ls : List (List Int)) : sz ls ls.length = ls.flatten.length := by unfold sz; rw [List.take_length]
set_option maxRecDepth 100000 in
theorem sz_le (ls : List (List Int)) (k : Nat) : sz ls k ≤ ls.flatten.length := by
  unfold sz
  conv => rhs; rw [← List.take_append_drop k ls, List.flatten_append, List.length_append]
  omega
/-- The first k of them laid, the rest still 0. -/
def laidL (ls : List (List Int)) (k : Nat) : List Int := (ls.take k).flatten ++ List.replicate (ls.flatten.length - sz ls k) 0
set_option maxRecDepth 100000 in
theorem laidL_len (ls : List (List Int)) (k : Nat) : (laidL ls k).length = ls.flatten.length := by
  have := sz_le ls k
  unfold laidL; rw [List.length_append, List.length_replicate]; unfold sz at *; omega
set_option maxRecDepth 100000 in
theorem laidL_zero (ls : List (List Int)) : laidL ls 0 = List.replicate ls.flatten.length 0 := by unfold laidL; rw [sz_zero]; simp
set_option maxRecDepth 100000 in
theorem laidL_all (ls : List (List Int)) : laidL ls ls.length = ls.flatten := by unfold laidL; rw [sz_all, List.take_length]; simp
set_option maxRecDepth 100000 in
theorem laidL_splice {ls : List (List Int)} {k : Nat} {l : List Int} (h : ls[k]? = some l) : splice ((laidL ls k).map (Value.int .u8)) (sz ls k) (l.map (Value.int .u8)) = (laidL ls (k + 1)).map (Value.int .u8) := by
  have h1 := sz_succ h
  have h2 := sz_le ls (k + 1)
  have hl : ((ls.take k).flatten.map (Value.int .u8)).length = sz ls k := by rw [List.length_map]; rfl
  unfold splice
  have e1 : ((laidL ls k).map (Value.int .u8)).take (sz ls k) = (ls.take k).flatten.map (Value.int .u8) := by
    unfold laidL; rw [List.map_append, ← hl, List.take_left]
  have e2 : ((laidL ls k).map (Value.int .u8)).drop (sz ls k + (l.map (Value.int .u8)).length) = (List.replicate (ls.flatten.length - sz ls (k + 1)) (0 : Int)).map (Value.int .u8) := by
    unfold laidL; rw [List.map_append, ← hl, List.drop_append, hl, List.drop_eq_nil_of_le (by rw [hl, List.length_map]; omega), List.nil_append, ← List.map_drop, List.drop_replicate, List.length_map]
    congr 2; omega
  rw [e1, e2]
  unfold laidL
  rw [List.take_add_one, h]
  simp [List.flatten_append]
set_option maxRecDepth 100000 in
theorem laid_bytes {ls : List (List Int)} (h : ∀ l ∈ ls, Bytes l) : Bytes ls.flatten := by
  intro z hz
  obtain ⟨l, hl, hz⟩ := List.mem_flatten.1 hz
  exact h l hl z hz

/-- What came in: a block of slices that read as the lists. -/
structure Parts (w : World) (g : Nat) (ps : List Sl) (ls : List (List Int)) : Prop where
  blk : Blk w g 22 (ps.map Sl.v)
  len : ps.length = ls.length
  rd : ∀ (k : Nat) (p : Sl) (l : List Int), ps[k]? = some p → ls[k]? = some l → SRd w p l
set_option maxRecDepth 100000 in
theorem Parts.later {w w' : World} {g : Nat} {ps : List Sl} {ls : List (List Int)} (h : Parts w g ps ls) (b : Below w.heap.size w w') : Parts w' g ps ls :=
  ⟨h.blk.later b, h.len, fun k p l h1 h2 => (h.rd k p l h1 h2).later b⟩
set_option maxRecDepth 100000 in
theorem Parts.at {w : World} {g : Nat} {ps : List Sl} {ls : List (List Int)} (h : Parts w g ps ls) {k : Nat} (hk : k < ls.length) :
    ∃ p l, ls[k]? = some l ∧ SRd w p l ∧ w.cell? ⟨g, k, none⟩ = some (.slice p.a p.n p.c) := by
  have hp : k < ps.length := by rw [h.len]; exact hk
  refine ⟨ps[k], ls[k], List.getElem?_eq_getElem hk, h.rd k _ _ (List.getElem?_eq_getElem hp) (List.getElem?_eq_getElem hk), h.blk.cell k ?_⟩
  rw [List.getElem?_map, List.getElem?_eq_getElem hp]; rfl
set_option maxRecDepth 100000 in
theorem Parts.bytes {w : World} {g : Nat} {ps : List Sl} {ls : List (List Int)} (h : Parts w g ps ls) : Bytes ls.flatten := by
  refine laid_bytes fun l hl => ?_
  obtain ⟨k, hk, rfl⟩ := List.mem_iff_getElem.1 hl
  obtain ⟨p, l, e, q, _⟩ := h.at hk
  rw [List.getElem?_eq_getElem hk] at e
  cases e
  exact q.bytes

/-- Slices that read as the lists, one by one. -/
def Rds (w : World) : List Sl → List (List Int) → Prop
  | [], [] => True
  | p :: ps, l :: ls => SRd w p l ∧ Rds w ps ls
  | _, _ => False
set_option maxRecDepth 100000 in
theorem Rds.len {w : World} : ∀ {ps : List Sl} {ls : List (List Int)}, Rds w ps ls → ps.length = ls.length
  | [], [], _ => rfl
  | _ :: _, _ :: _, h => congrArg (· + 1) (Rds.len h.2)
set_option maxRecDepth 100000 in
theorem Rds.rd {w : World} : ∀ {ps : List Sl} {ls : List (List Int)}, Rds w ps ls → ∀ (k : Nat) (p : Sl) (l : List Int), ps[k]? = some p → ls[k]? = some l → SRd w p l
  | [], [], _, _, _, _, h, _ => by simp at h
  | _ :: _, _ :: _, h, 0, _, _, h1, h2 => by simp at h1 h2; rw [← h1, ← h2]; exact h.1
  | _ :: _, _ :: _, h, k + 1, _, _, h1, h2 => Rds.rd h.2 k _ _ (by simpa using h1) (by simpa using h2)
set_option maxRecDepth 100000 in
theorem Parts.of {w : World} {g : Nat} {ps : List Sl} {ls : List (List Int)} (h : Blk w g 22 (ps.map Sl.v)) (f : Rds w ps ls) : Parts w g ps ls := ⟨h, f.len, f.rd⟩

set_option maxRecDepth 100000 in
set_option maxHeartbeats 1600000 in
theorem laid (g c : Nat) (ps : List Sl) (ls : List (List Int)) (n : Nat) (w : World) (hn : n = ls.length) (h : Parts w g ps ls) (hs : ls.flatten.length ≤ 100000) (hn2 : n ≤ 100000) :
    Calls Tryd.prog 37 #[.slice (some ⟨g, 0, none⟩) n c] w fun e w' => ∃ g1 m1 c1, e = .returned (.slice (some ⟨g1, 0, none⟩) m1 c1) ∧ m1 = ls.flatten.length ∧ w.heap.size ≤ g1 ∧ Row w' g1 c1 ls.flatten ∧ Below w.heap.size w w' := by
  obtain ⟨i0, hi, hz0, hz1, hz2⟩ := info_parts info8
  have hsz : (Tryd.prog.info? 5).map (·.size) = some 1 := by rw [hi]; simp [hz1]
  have HP : Hid (Parts w g ps ls) := h
  have HN : Hid (n = ls.length) := hn
  obtain ⟨T, hT⟩ : ∃ T, ls.flatten.length = T := ⟨_, rfl⟩
  have HT : Hid (ls.flatten.length = T) := hT
  rw [hT] at hs
  clear h hn hT
  go_enter Tryd.func37, Tryd.ntmps37
  go_wp2
  go_loop [3, 12] (fun v i => ∃ k s : Nat, k ≤ n ∧ i = .int .i64 k ∧ v = .int .i64 s ∧ Hid (s = sz ls k)) (fun _ i => n - (intOf i).toNat)
  case atStart => exact ⟨0, 0, Nat.zero_le _, rfl, rfl, (sz_zero ls).symm⟩
  case round =>
    obtain ⟨k, s, hk, rfl, rfl, HS⟩ := hrel
    have HSL : Hid (s ≤ T) := by rw [HS.out, ← HT.out]; exact sz_le ls k
    by_cases hlt : k < n
    · obtain ⟨⟨pa, pn, pc⟩, l, hl, hrd, hcell⟩ := HP.out.at (k := k) (by rw [← HN.out]; exact hlt)
      have HS1 : Hid (s + pn = sz ls (k + 1)) := by have e := hrd.len; show _ = _; rw [sz_succ hl, HS.out, ← e]
      have hle : s + pn ≤ 100000 := by have := sz_le ls (k + 1); rw [← HS1.out, HT.out] at this; omega
      clear hl hrd
      go_wp2
      go_round
      case rel => exact ⟨k + 1, s + pn, by omega, by go_num, by go_num, HS1.out⟩
      case measure => simp [intOf]; omega
    · obtain rfl : k = n := by omega
      have HST : Hid (s = T) := by show _ = _; rw [HS.out, HN.out, sz_all, HT.out]
      obtain rfl : s = T := HST.out
      clear HST HSL
      go_wp2_with (at_make; refine wpList_make_full _ rfl _ _ 22 rfl w.heap.size 5 i0 (.int .u8 0) 1 Tryd.underlying22 hi hz0 hz1 _ _ _ _ s rfl rfl rfl rfl (by rw [hz2]; omega) (by unfold maxLen; omega) (Nat.le_refl _) ?_; intro w1 hown hgr; have B1 : Hid (Below w.heap.size w w1) := (Below.refl _ _).grown hgr (Nat.le_refl _) (fun k h => by cases h); have R1 : Hid (Row w1 w.heap.size s (laidL ls 0)) := (by rw [laidL_zero, HT.out]; exact (Row.of (l := List.replicate s (0 : Int)) (base := w.heap.size) (by simpa [Value.cells, toList_madeCells_one] using hown)).1); clear hown hgr)
      go_loopw [7, 25] (fun v i wr => ∃ j q : Nat, j ≤ k ∧ i = .int .i64 j ∧ v = .int .i64 q ∧ Hid (q = sz ls j) ∧ Row wr w.heap.size s (laidL ls j) ∧ Below w.heap.size w wr) (fun _ i _ => k - (intOf i).toNat)
      case atStart => exact ⟨0, 0, Nat.zero_le _, rfl, rfl, (sz_zero ls).symm, R1.out, B1.out⟩
      case round =>
        obtain ⟨j, q, hj, rfl, rfl, HQ, hRow, hbe⟩ := hrel
        have HRow : Hid (Row wr w.heap.size s (laidL ls j)) := hRow
        have HBe : Hid (Below w.heap.size w wr) := hbe
        have hqs : q ≤ s := by rw [HQ.out, ← HT.out]; exact sz_le ls j
        clear R1 B1 hRow hbe
        by_cases hlt : j < k
        · obtain ⟨⟨pa, pn, pc⟩, l, hl, hrd, hcell⟩ := (HP.out.later HBe.out).at (k := j) (by rw [← HN.out]; exact hlt)
          have HQ1 : Hid (q + pn = sz ls (j + 1)) := by have e := hrd.len; show _ = _; rw [sz_succ hl, HQ.out, ← e]
          have hle : q + pn ≤ s := by have := sz_le ls (j + 1); rw [← HQ1.out, HT.out] at this; omega
          obtain ⟨X, hX⟩ : ∃ X, l.map (Value.int .u8) = X := ⟨_, rfl⟩
          obtain ⟨C, hC⟩ : ∃ C, (laidL ls j).map (Value.int .u8) = C := ⟨_, rfl⟩
          have HXL : Hid (X.length = pn) := by rw [← hX]; show _ = _; rw [List.length_map]; exact hrd.len.symm
          have HXO : Hid (∀ v ∈ X, v.oneCell' = true) := by rw [← hX]; exact ints_oneCell _ _
          have HCL : Hid (C.length = s) := by rw [← hC]; show _ = _; rw [List.length_map, laidL_len, HT.out]
          have HSP : Hid (splice C q X = (laidL ls (j + 1)).map (Value.int .u8)) := by rw [← hC, ← hX, HQ.out]; exact laidL_splice hl
          have HSRC : Hid (0 < X.length → ∃ ad, pa = some ad ∧ ∀ j v, X[j]? = some v → wr.cell? (ad.add j) = some v) := by
            rw [← hX]
            intro h0
            cases pa with
            | none => obtain ⟨_, _, e, _⟩ := hrd.rd 0 (by simpa using h0); cases e
            | some ad => exact ⟨ad, rfl, Rd.cells hrd.rd⟩
          have HG : Hid (wr.heap[w.heap.size]? = some (.cells C.toArray 5 (0, 0))) := by
            obtain ⟨_, _, cur, h3, h4, h5⟩ := HRow.out
            have e : cur = C.toArray := by
              apply Array.toList_inj.1
              rw [List.take_of_length_le (by rw [Array.length_toList, laidL_len, HT.out]; omega), hC] at h5
              simpa using h5
            show _ = _
            rw [h3, e]
          have HCJ : Hid ((laidL ls j).map (Value.int .u8) = C) := hC
          clear hl hrd hX hC
          have HB1 : Hid (X.length = 0 → laidL ls (j + 1) = laidL ls j) := by
            intro h2
            have h1 := HSP.out
            have h3 : X = [] := List.eq_nil_of_length_eq_zero h2
            rw [h3, ← HCJ.out] at h1
            have h4 : (laidL ls j).map (Value.int .u8) = (laidL ls (j + 1)).map (Value.int .u8) := by rw [← h1]; simp [splice]
            exact (List.map_inj_right (by intro x y h; cases h; rfl)).1 h4.symm
          by_cases hsq : s = q
          · obtain rfl : pn = 0 := by omega
            subst hsq
            have R2 : Hid (Row wr w.heap.size s (laidL ls (j + 1))) := by rw [HB1.out HXL.out]; exact HRow.out
            have B2 : Hid (Below w.heap.size w wr) := HBe.out
            have HQ2 : Hid (s = sz ls (j + 1)) := HQ1.out
            clear HQ1
            have kc := run_copy_none (P := Tryd.prog) wr 22 22 3 5 (some ⟨w.heap.size, 0, none⟩) pa 0 0 0 pc Tryd.underlying22 hsz rfl
            go_wp2
            go_roundw
            case rel => exact ⟨j + 1, s, by omega, by go_num, by go_num, HQ2.out, R2.out, B2.out⟩
            case measure => simp [intOf]; omega
          · have hi0 : (0 : Int) ≤ q := by omega
            have hi1 : (q : Int) ≤ s := by omega
            by_cases hp0 : pn = 0
            · obtain rfl : pn = 0 := hp0
              have R2 : Hid (Row wr w.heap.size s (laidL ls (j + 1))) := by rw [HB1.out HXL.out]; exact HRow.out
              have B2 : Hid (Below w.heap.size w wr) := HBe.out
              have HQ2 : Hid (q = sz ls (j + 1)) := HQ1.out
              clear HQ1
              have kc := run_copy_none (P := Tryd.prog) wr 22 22 3 5 (some ⟨w.heap.size, q, none⟩) pa (s - q) (s - q) 0 pc Tryd.underlying22 hsz (by show min _ _ = 0; omega)
              go_wp2
              go_roundw
              case rel => exact ⟨j + 1, q, by omega, by go_num, by go_num, HQ2.out, R2.out, B2.out⟩
              case measure => simp [intOf]; omega
            · obtain ⟨ad, rfl, hsrc⟩ := HSRC.out (by rw [HXL.out]; omega)
              have kc := run_copy_row (P := Tryd.prog) wr 22 22 3 5 w.heap.size q (s - q) (s - q) ad pn pc C.toArray 5 X Tryd.underlying22 hsz HG.out (by rw [HXL.out]; show pn = min _ _; omega) hsrc (by rw [HXL.out]; have := HCL.out; simp; omega) HXO.out
              clear hsrc HSRC
              obtain ⟨N, hN⟩ : ∃ N, (List.take q C.toArray.toList ++ X ++ List.drop (q + X.length) C.toArray.toList).toArray = N := ⟨_, rfl⟩
              have HNL : N.toList = splice C q X := by rw [← hN]; simp [splice]
              obtain ⟨w2, hw2⟩ : ∃ w2, wr.setRow w.heap.size N = w2 := ⟨_, rfl⟩
              have HG2 := setRow_heap wr w.heap.size C.toArray N 5 _ HG.out
              rw [hw2] at HG2
              have HG3 : Hid (w2.heap[w.heap.size]? = some (.cells N 5 (0, 0))) := HG2
              have B2 : Hid (Below w.heap.size w w2) := by rw [← hw2]; exact below_setRow HBe.out (Nat.le_refl _) _
              have R2 : Hid (Row w2 w.heap.size s (laidL ls (j + 1))) := ⟨by rw [laidL_len, HT.out]; exact Nat.le_refl _, by unfold maxLen; omega, N, HG3.out, by rw [← Array.length_toList, HNL, HSP.out]; simp [laidL_len, HT.out], by rw [HNL, HSP.out]; simp [List.take_of_length_le]⟩
              have hN' := hN
              rw [HXL.out] at kc hN'
              rw [hN', hw2] at kc
              clear HG2 hw2 hN hN' HNL
              go_wp2
              go_roundw
              case rel => exact ⟨j + 1, q + pn, by omega, by go_num, by go_num, HQ1.out, R2.out, B2.out⟩
              case measure => simp [intOf]; omega
        · obtain rfl : j = k := by omega
          have HE : Hid (laidL ls j = ls.flatten) := by rw [HN.out]; exact laidL_all ls
          have R3 : Hid (Row wr w.heap.size s ls.flatten) := by rw [← HE.out]; exact HRow.out
          have E3 : Hid (s = ls.flatten.length) := HT.out.symm
          go_wp2
          go_ret
          exact ⟨w.heap.size, s, s, rfl, E3.out, Nat.le_refl _, R3.out, HBe.out⟩
end Go.Proofs.YtpenhliaelhnoaaDoor.KeL

namespace Go.Proofs.YtpenhliaelhnoaaDoor.ZoneB
open Go.RowKit Go.Proofs.YtpenhliaelhnoaaDoor.Mem Go.Proofs.YtpenhliaelhnoaaDoor.Blk Go.Proofs.YtpenhliaelhnoaaDoor.Zone

set_option maxRecDepth 100000 in
theorem toB (s : Sl) (l : List Int) (w : World) (h : SRd w s l) (hl : l.length ≤ 4194304) :
    Calls Tryd.prog 19 #[.slice s.a s.n s.c] w fun e w' =>
      e = .returned (.slice (some ⟨w.heap.size, 0, none⟩) s.n s.n) ∧ SOwn w' w.heap.size w'.heap.size ⟨some ⟨w.heap.size, 0, none⟩, s.n, s.n⟩ l ∧ Below w.heap.size w w' := by
  refine (toByteS s.a s.n s.c l w h.len h.rd hl).mono ?_
  rintro e w' ⟨rfl, r, b⟩
  exact ⟨rfl, SOwn.row r h.len h.bytes (Nat.le_refl _) r.lt, b⟩
set_option maxRecDepth 100000 in
theorem eqB (s t : Sl) (x y : List Int) (w : World) (h : SRd w s x) (k : SRd w t y) (lx : x.length ≤ 4194304) (ly : y.length ≤ 4194304) :
    Calls Tryd.prog 21 #[.slice s.a s.n s.c, .slice t.a t.n t.c] w fun e w' => e = .returned (.bool (decide (x = y))) ∧ Below w.heap.size w w' := by
  refine (eqByteS s.a t.a s.n s.c t.n t.c x y w h.len k.len h.rd k.rd lx ly).mono ?_
  rintro e w' ⟨rfl, m, rfl⟩
  exact ⟨rfl, ⟨rfl, rfl, rfl, Nat.le_refl _, fun _ _ => rfl⟩⟩
set_option maxRecDepth 100000 in
set_option maxHeartbeats 800000 in
theorem markB (s : Sl) (l : List Int) (q : Int) (w : World) (lo hi : Nat) (h : SOwn w lo hi s l) (hl : l.length ≤ 4194304) (q0 : 0 ≤ q) (q1 : q ≤ 4194304) :
    Calls Tryd.prog 22 #[.slice s.a s.n s.c, .int .i64 q] w fun e w' =>
      e = .returned (.int .i64 (q + s.n)) ∧ SOwn w' lo hi s (marks q s.n) ∧ Kept lo hi w w' ∧ ∀ i, s.a ≠ some ⟨i, 0, none⟩ → i < w.heap.size → w'.heap[i]? = w.heap[i]? := by
  obtain ⟨hb, ⟨rfl, rfl⟩ | ⟨g, h1, h2, h3, h4, h5⟩⟩ := h
  · have hm : marks q 0 = [] := rfl
    show Calls Tryd.prog 22 #[.slice none 0 0, .int .i64 q] w fun e w' => e = .returned (.int .i64 (q + (0 : Nat))) ∧ SOwn w' lo hi ⟨none, 0, 0⟩ (marks q 0) ∧ Kept lo hi w w' ∧ ∀ i, (none : Option Addr) ≠ some ⟨i, 0, none⟩ → i < w.heap.size → w'.heap[i]? = w.heap[i]?
    rw [hm]
    have HN : Hid (SOwn w lo hi ⟨none, 0, 0⟩ []) := SOwn.nil w lo hi
    clear hm hb hl
    go_enter Tryd.func22, Tryd.ntmps22
    go_wp2
    go_loop [1, 5] (fun k i => k = .int .i64 q ∧ i = .int .i64 0) (fun _ _ => 0)
    case atStart => exact ⟨rfl, rfl⟩
    case round =>
      obtain ⟨rfl, rfl⟩ := hrel
      go_wp2
      go_ret
      exact ⟨by simp, HN.out, Kept.refl _ _ _, by intros; rfl⟩
  · obtain ⟨sa, sn, sc⟩ := s
    simp only at h1 h2 h5
    subst h1
    refine (markByteS g sn sc l q w h2 h5 hl q0 q1).mono ?_
    rintro e w' ⟨rfl, r, gr⟩
    refine ⟨rfl, ⟨marks_bytes q sn, .inr ⟨g, rfl, (marks_length q sn).symm, h3, h4, r⟩⟩, (Kept.of_grown gr).mono h3 h4, ?_⟩
    intro i hne hi
    exact gr.block i hi (by simp only [ne_eq, Option.some.injEq]; intro e; exact hne (by rw [e]))
set_option maxRecDepth 100000 in
theorem heldB (s : Sl) (q : Int) (w : World) (h : SRd w s (marks q s.n)) (hl : s.n ≤ 4194304) (q0 : 0 ≤ q) (q1 : q ≤ 4194304) :
    Calls Tryd.prog 23 #[.slice s.a s.n s.c, .int .i64 q] w fun e w' => e = .returned (.int .i64 (q + s.n)) ∧ w = w' :=
  heldByteS s.a s.c s.n q w h.rd hl q0 q1
end Go.Proofs.YtpenhliaelhnoaaDoor.ZoneB
