/-
  Plain facts: the digits of bytes are read as these bytes, and what is read as bytes is the digits of these bytes.
-/
import Derived.Test.YtdfjpmldcbbmkaaHexT
import Derived.Test.YtdfjpmldcbbmkaaParse
import Derived.Test.YtdfjpmldcbbmkaaCuts
namespace Go.Proofs.Ytdfjpmldcbbmkaa.LawHexM
open Go.RowKit Go.Proofs.Ytdfjpmldcbbmkaa.Mem Go.Proofs.Ytdfjpmldcbbmkaa.HexT Go.Proofs.Ytdfjpmldcbbmkaa.Parse Go.Proofs.Ytdfjpmldcbbmkaa.Get Go.Proofs.Ytdfjpmldcbbmkaa.Cuts

theorem ext_getD {x y : List Int} (hl : x.length = y.length) (h : ∀ i, i < x.length → x.getD i 0 = y.getD i 0) : x = y := by
  apply List.ext_getElem hl
  intro i h1 h2
  have := h i h1
  simpa [List.getD, h1, h2] using this
theorem bs_str (x : List Int) (h : Bytes x) : bs (strOfNums x) = x := by
  unfold bs
  rw [strOfNums_data, List.map_map]
  refine ext_getD (by simp) ?_
  intro i hi
  rw [List.length_map] at hi
  have hb := h.at i
  simp only [List.getD, List.getElem?_map, List.getElem?_eq_getElem hi, Option.map_some, Option.getD_some, Function.comp] at hb ⊢
  rw [UInt8.toNat_ofNat']
  omega
theorem str_bs (s : ByteArray) : strOfNums (bs s) = s := by
  have e : (bs s).map (fun n => UInt8.ofNat n.toNat) = s.data.toList := by
    unfold bs
    rw [List.map_map]
    conv => rhs; rw [← List.map_id s.data.toList]
    apply List.map_congr_left
    intro b _
    simp [Function.comp]
  unfold strOfNums
  rw [e]
theorem hexOf_cons (z : Int) (r : List Int) : hexOf (z :: r) = hexDig (z / 16) :: hexDig (z % 16) :: hexOf r := by simp [hexOf]
theorem hexOf_getD (l : List Int) : ∀ i, i < l.length → (hexOf l).getD (2 * i) 0 = hexDig (l.getD i 0 / 16) ∧ (hexOf l).getD (2 * i + 1) 0 = hexDig (l.getD i 0 % 16) := by
  induction l with
  | nil => intro i hi; cases hi
  | cons z r ih =>
    intro i hi
    rw [hexOf_cons]
    cases i with
    | zero => simp
    | succ j =>
      have := ih j (by simpa using hi)
      rw [show 2 * (j + 1) = 2 * j + 1 + 1 by omega]
      simpa using this
theorem dig_hex (d : Int) (h0 : 0 ≤ d) (h1 : d ≤ 15) : digV (hexDig d) = d := by
  unfold hexDig digV
  split
  · rw [if_pos (by omega)]; omega
  · rw [if_neg (by omega), if_pos (by omega)]; omega
theorem hex_dig (z : Int) (h : 0 ≤ digV z) : hexDig (digV z) = z := by
  unfold digV at h ⊢
  split
  · unfold hexDig; rw [if_pos (by omega)]; omega
  · split
    · unfold hexDig; rw [if_neg (by omega)]; omega
    · rename_i h1 h2; rw [if_neg h1, if_neg h2] at h; omega
theorem hexOf_bytes {l : List Int} (h : Bytes l) : Bytes (hexOf l) := by
  intro z hz
  simp only [hexOf, List.mem_flatMap] at hz
  obtain ⟨y, hy, hz⟩ := hz
  have hb := h y hy
  simp only [List.mem_cons, List.not_mem_nil, or_false] at hz
  rcases hz with rfl | rfl
  · exact hexDig_bd _ (by omega) (by omega)
  · exact hexDig_bd _ (by omega) (by omega)
theorem hex_digits {l : List Int} (h : Bytes l) (i : Nat) (hi : i < (hexOf l).length) : 0 ≤ digV ((hexOf l).getD i 0) := by
  rw [hexOf_length] at hi
  have hg := hexOf_getD l (i / 2) (by omega)
  have hb := h.at (i / 2)
  rcases (show i = 2 * (i / 2) ∨ i = 2 * (i / 2) + 1 by omega) with e | e
  · rw [e, hg.1, dig_hex _ (by omega) (by omega)]; omega
  · rw [e, hg.2, dig_hex _ (by omega) (by omega)]; omega
theorem back {l : List Int} (h : Bytes l) (hl : l.length ≤ 200) : good (bs (strOfNums (hexOf l))) = true ∧ parsed (bs (strOfNums (hexOf l))) = l := by
  rw [bs_str _ (hexOf_bytes h)]
  have hg : good (hexOf l) = true := good_yes (by rw [hexOf_length]; omega) (by rw [hexOf_length]; omega) (hex_digits h)
  refine ⟨hg, ?_⟩
  rw [parsed_yes hg, hexOf_length, show 2 * l.length / 2 = l.length by omega]
  refine ext_getD (pairsTo_length _ _) ?_
  intro i hi
  rw [pairsTo_length] at hi
  have hgd := hexOf_getD l i hi
  have hb := h.at i
  have e : (pairsTo (hexOf l) l.length).getD i 0 = 16 * digV ((hexOf l).getD (2 * i) 0) + digV ((hexOf l).getD (2 * i + 1) 0) := by
    unfold pairsTo
    generalize (hexOf l) = x
    simp [List.getD, hi]
  rw [e, hgd.1, hgd.2, dig_hex _ (by omega) (by omega), dig_hex _ (by omega) (by omega)]
  omega
theorem pairs_hex (b : List Int) (m : Nat) (hl : b.length = 2 * m) (h : ∀ i, i < b.length → 0 ≤ digV (b.getD i 0)) : hexOf (pairsTo b m) = b := by
  refine ext_getD (by rw [hexOf_length, pairsTo_length, hl]) ?_
  intro i hi
  rw [hexOf_length, pairsTo_length] at hi
  have hj : i / 2 < m := by omega
  have hg := hexOf_getD (pairsTo b m) (i / 2) (by rw [pairsTo_length]; exact hj)
  have e : (pairsTo b m).getD (i / 2) 0 = 16 * digV (b.getD (2 * (i / 2)) 0) + digV (b.getD (2 * (i / 2) + 1) 0) := by
    unfold pairsTo
    simp only [List.getD, List.getElem?_map, List.getElem?_range hj, Option.map_some, Option.getD_some]
  have b1 := digV_bd (b.getD (2 * (i / 2)) 0)
  have b2 := digV_bd (b.getD (2 * (i / 2) + 1) 0)
  have p1 := h (2 * (i / 2)) (by omega)
  have p2 := h (2 * (i / 2) + 1) (by omega)
  rcases (show i = 2 * (i / 2) ∨ i = 2 * (i / 2) + 1 by omega) with q | q
  · rw [q, hg.1, e, show (16 * digV (b.getD (2 * (i / 2)) 0) + digV (b.getD (2 * (i / 2) + 1) 0)) / 16 = digV (b.getD (2 * (i / 2)) 0) by omega, hex_dig _ p1]
  · rw [q, hg.2, e, show (16 * digV (b.getD (2 * (i / 2)) 0) + digV (b.getD (2 * (i / 2) + 1) 0)) % 16 = digV (b.getD (2 * (i / 2) + 1) 0) by omega, hex_dig _ p2]
theorem forth (s : ByteArray) (h : good (bs s) = true) : strOfNums (hexOf (parsed (bs s))) = s := by
  have h' : (bs s).length % 2 = 0 ∧ (bs s).length ≤ 400 ∧ ∀ i, i < (bs s).length → 0 ≤ digV ((bs s).getD i 0) := by simpa [good] using h
  rw [parsed_yes h, pairs_hex (bs s) ((bs s).length / 2) (by omega) h'.2.2, str_bs]
theorem parsed_bytes (b : List Int) : Bytes (parsed b) := by
  unfold parsed
  split
  · rename_i h
    have h' : b.length % 2 = 0 ∧ b.length ≤ 400 ∧ ∀ i, i < b.length → 0 ≤ digV (b.getD i 0) := by simpa [good] using h
    intro z hz
    simp only [pairsTo, List.mem_map, List.mem_range] at hz
    obtain ⟨i, hi, rfl⟩ := hz
    have b1 := digV_bd (b.getD (2 * i) 0)
    have b2 := digV_bd (b.getD (2 * i + 1) 0)
    have p1 := h'.2.2 (2 * i) (by omega)
    have p2 := h'.2.2 (2 * i + 1) (by omega)
    omega
  · intro z hz; cases hz
theorem both_pieces (l : List Int) (n : Nat) : piece l 0 n ++ piece l n (l.length - n) = l := by
  unfold piece
  rw [List.drop_zero, List.take_of_length_le (l := l.drop n) (by rw [List.length_drop]; omega), List.take_append_drop]
end Go.Proofs.Ytdfjpmldcbbmkaa.LawHexM
