/-
  What impl's wordsOf answers at every slice of ints of at most 4,194,304: whether they are eight words, and then those.
-/
import Derived.Test.YtpenhliaelhnoaaDoorWords
import Derived.ChangeKeysEq
namespace Go.Proofs.YtpenhliaelhnoaaDoor.WordsOf
open Go.RowKit Go.Proofs.YtpenhliaelhnoaaDoor.Mem Go.Proofs.YtpenhliaelhnoaaDoor.MemI Go.Proofs.YtpenhliaelhnoaaDoor.Blk Go.Proofs.YtpenhliaelhnoaaDoor.App Go.Proofs.YtpenhliaelhnoaaDoor.Get Go.Proofs.YtpenhliaelhnoaaDoor.ShaP Go.Proofs.YtpenhliaelhnoaaDoor.Word Go.Proofs.YtpenhliaelhnoaaDoor.Bits Go.Proofs.YtpenhliaelhnoaaDoor.Sched Go.Proofs.YtpenhliaelhnoaaDoor.Words

abbrev z8 : List Int := List.replicate 8 0
/-- k of eight cells filled, the rest 0. -/
def fill8 (l : List Int) (k : Nat) : List Int := l.take k ++ List.replicate (8 - k) 0
set_option maxRecDepth 100000 in
theorem fill8_set (l : List Int) (k : Nat) (hl : l.length = 8) (hk : k < 8) : (fill8 l k).set k (l.getD k 0) = fill8 l (k + 1) := by
  have := set_mid l k (by omega)
  rw [hl] at this; exact this
set_option maxRecDepth 100000 in
theorem fill8_length (l : List Int) (k : Nat) (hl : l.length = 8) (hk : k ≤ 8) : (fill8 l k).length = 8 := by simp [fill8, hl]; omega
set_option maxRecDepth 100000 in
theorem fill8_all (l : List Int) (hl : l.length = 8) : fill8 l 8 = l := by simp [fill8]; exact List.take_of_length_le (by omega)
def cut8 (h : List Int) : List Int := h.map fun z => z % 4294967296
set_option maxRecDepth 100000 in
theorem cut8_getD (h : List Int) (k : Nat) : (cut8 h).getD k 0 = (h.getD k 0) % 4294967296 := by
  simp only [cut8, List.getD, List.getElem?_map]
  cases h[k]? <;> simp
set_option maxRecDepth 100000 in
theorem cut8_eq (h : List Int) (hw : Wds h) : cut8 h = h := by
  unfold cut8
  conv => rhs; rw [← List.map_id h]
  apply List.map_congr_left
  intro z hz
  have := hw z hz
  unfold Wd at this
  simp; omega
set_option maxRecDepth 100000 in
theorem cut8_ne (h : List Int) (hl : h.length = 8) (hw : okw h = false) : cut8 h ≠ h := by
  intro e
  have : Wds h := by
    intro z hz
    rw [← e] at hz
    simp only [cut8, List.mem_map] at hz
    obtain ⟨y, _, rfl⟩ := hz
    exact wd_mod _
  rw [(okw_iff h).2 ⟨hl, this⟩] at hw
  cases hw

set_option maxRecDepth 100000 in
theorem cells3 : Tryd.prog.cellsOf 3 = 1 := by kernel_rfl
set_option maxRecDepth 100000 in
theorem items (d : Nat) (X Y : List Int) (hx : X.length = 8) (hy : Y.length = 8) (is : List Nat) (h : ∀ i ∈ is, i < 8) (w : World) :
    (Op.eqItems (d + 1) 3 1 (X.map (Value.int .i64)).toArray (Y.map (Value.int .i64)).toArray is).run Tryd.prog w = .ok (is.all fun i => X.getD i 0 == Y.getD i 0) w := by
  induction is with
  | nil => simp [Op.eqItems]
  | cons j r ih =>
    have hj := h j (by simp)
    have ih := ih (fun i hi => h i (by simp [hi]))
    simp only [Op.eqItems, Sem.run_bind]
    have hp : ∀ Z : List Int, Z.length = 8 → (part 3 (Z.map (Value.int .i64)).toArray (j * 1)).run Tryd.prog w = .ok (.int .i64 (Z.getD j 0)) w := by
      intro Z hz
      simp [part, hz, hj, List.getD]
    rw [hp X hx, Result.andThen_ok, hp Y hy, Result.andThen_ok, run_equalIn_int w d 3 .i64 .i64 _ _ Tryd.underlying3]
    rw [List.all_cons]
    cases (X.getD j 0 == Y.getD j 0) with
    | true => simpa using ih
    | false => simp
set_option maxRecDepth 100000 in
/-- Two arrays of eight ints, compared. -/
theorem eq8 (X Y : List Int) (hx : X.length = 8) (hy : Y.length = 8) (w : World) :
    (Op.equalIn 10000 78 (.agg (X.map (Value.int .i64)).toArray) (.agg (Y.map (Value.int .i64)).toArray)).run Tryd.prog w = .ok (decide (X = Y)) w := by
  obtain ⟨i0, hi, _, _, _⟩ := info_parts info64
  rw [show (10000 : Nat) = 9999 + 1 from rfl, run_equalIn_array w 9999 _ _ Tryd.underlying78 hi, cells3, show (9999 : Nat) = 9998 + 1 from rfl, items 9998 X Y hx hy _ (fun i hi => by simpa using hi) w]
  congr 1
  rw [Bool.eq_iff_iff, decide_eq_true_eq, List.all_eq_true]
  constructor
  · intro h
    apply List.ext_getElem (by omega)
    intro i h1 h2
    have := h i (by simp; omega)
    simpa [List.getD, h1, h2] using this
  · rintro rfl i _
    simp

set_option maxRecDepth 100000 in
theorem results_row_tmp {P : Program} {fn : Func} {p q : Tmp} {ty : TypeId} (h : fn.results = #[.cell p ty, .tmp q]) (tmps : Array Value) (w : World) (g : Nat) (t : TypeId) (cs : Array Value) (fr : Nat × Nat) (d : TypeDesc)
    (hp : tmps.getD p undef = .pointer (some ⟨g, 0, none⟩)) (hg : w.heap[g]? = some (.cells cs t fr))
    (hu : P.underlying ty = some d) (hd : (match d with | .struct _ | .array _ _ => true | _ => false) = true) (hi : (P.info? ty).map (·.size) = some cs.size) (v : Value) (hq : tmps.getD q undef = v) :
    (results fn tmps).run P w = .ok (.tuple #[.agg cs, v]) w := by
  have hp' : tmps[p]?.getD undef = .pointer (some ⟨g, 0, none⟩) := by simpa using hp
  have hq' : tmps[q]?.getD undef = v := by simpa using hq
  simp [results, h, hp', hq', asAddr, run_loadVar_row w g t ty cs fr d hg hu hd hi]
set_option maxRecDepth 100000 in
theorem blk_drew {w : World} {g : Nat} {t : TypeId} {cs : List Value} (h : Blk w g t cs) : Blk w.drew g t cs := h
set_option maxRecDepth 100000 in
theorem set8 (a0 a1 a2 a3 a4 a5 a6 a7 : Value) : ((((((((z8.map (Value.int .i64)).set 0 a0).set 1 a1).set 2 a2).set 3 a3).set 4 a4).set 5 a5).set 6 a6).set 7 a7 = [a0, a1, a2, a3, a4, a5, a6, a7] := rfl
set_option maxRecDepth 100000 in
theorem ints8 (y0 y1 y2 y3 y4 y5 y6 y7 : Int) : [Value.int .i64 y0, .int .i64 y1, .int .i64 y2, .int .i64 y3, .int .i64 y4, .int .i64 y5, .int .i64 y6, .int .i64 y7] = [y0, y1, y2, y3, y4, y5, y6, y7].map (Value.int .i64) := rfl
set_option maxRecDepth 100000 in
theorem info8w : (Tryd.prog.info? 78).map (·.size) = some 8 := by kernel_rfl

end Go.Proofs.YtpenhliaelhnoaaDoor.WordsOf
