/-
  What impl's AddrText answers: an address's text.
-/
import Derived.Test.YticfgbfchpnpoaaDoorAddrI
import Derived.Test.YticfgbfchpnpoaaDoorAddrT
import Derived.Test.YticfgbfchpnpoaaDoorItoa
namespace Go.Proofs.YticfgbfchpnpoaaDoor.AddrJ
open Go.RowKit Go.Proofs.YticfgbfchpnpoaaDoor.Mem Go.Proofs.YticfgbfchpnpoaaDoor.App Go.Proofs.YticfgbfchpnpoaaDoor.Get Go.Proofs.YticfgbfchpnpoaaDoor.Blk Go.Proofs.YticfgbfchpnpoaaDoor.Str Go.Proofs.YticfgbfchpnpoaaDoor.Words Go.Proofs.YticfgbfchpnpoaaDoor.AddrP Go.Proofs.YticfgbfchpnpoaaDoor.Res Go.Proofs.YticfgbfchpnpoaaDoor.AddrS Go.Proofs.YticfgbfchpnpoaaDoor.AddrT Go.Proofs.YticfgbfchpnpoaaDoor.AddrI Go.Proofs.YticfgbfchpnpoaaDoor.Itoa

/-- What stands ahead of a part: ahead of the first nothing, else a dot. -/
def dotAt (k : Nat) : List Int := if k = 0 then [] else [46]
/-- The first k parts, with dots between. -/
def dots (l : List Int) : Nat → List Int
  | 0 => []
  | k + 1 => dots l k ++ (dotAt k ++ dec (l.getD k 0).toNat)
theorem dots_len (l : List Int) (hb : Bytes l) (k : Nat) : (dots l k).length ≤ 6 * k := by
  induction k with
  | zero => exact Nat.le_refl _
  | succ k ih =>
    have h1 := hb.at k
    have h2 := dec_len (l.getD k 0).toNat (by omega)
    have h3 : (dotAt k).length ≤ 1 := by unfold dotAt; split <;> simp
    show (dots l k ++ (dotAt k ++ dec (l.getD k 0).toNat)).length ≤ _
    rw [List.length_append, List.length_append]
    omega
theorem dots_text (H p : Nat) (hh : H ≤ 4294967295) (hp : p ≤ 65535) : dots (num (H : Int) 4) 4 ++ [58] ++ dec p = addrI (H : Int) (p : Int) := by
  have hk : addrOk (H : Int) (p : Int) = true := (addrOk_iff _ _).2 (by omega)
  rw [text_def _ _ hk]
  have g0 : (num (H : Int) 4).getD 0 0 = (H : Int) / 16777216 := by rw [num_getD _ 4 0 (by omega)]; show (H : Int) / 16777216 % 256 = _; omega
  have g1 : (num (H : Int) 4).getD 1 0 = (H : Int) / 65536 % 256 := num_getD _ 4 1 (by omega)
  have g2 : (num (H : Int) 4).getD 2 0 = (H : Int) / 256 % 256 := num_getD _ 4 2 (by omega)
  have g3 : (num (H : Int) 4).getD 3 0 = (H : Int) % 256 := by rw [num_getD _ 4 3 (by omega)]; show (H : Int) / 1 % 256 = _; rw [Int.ediv_one]
  simp only [dots, dotAt, g0, g1, g2, g3, if_true, List.nil_append, Int.toNat_natCast, List.append_assoc]
  simp
theorem highest4 (n : Int) (w : World) : Calls Tryd.prog 29 #[.int .i64 n, .int .i64 4] w fun e w' =>
      e = .returned (.slice (some ⟨w.heap.size, 0, none⟩) 4 4) ∧ Row w' w.heap.size 4 (num n 4) ∧ Below w.heap.size w w' := highestFirst n 4 w (by omega) (by omega)

set_option maxRecDepth 100000 in
set_option maxHeartbeats 1600000 in
theorem implAddrText (h q : Int) (w : World) (hT : Pow w) :
    Calls Tryd.prog 10 #[addrV h q] w fun e w' => e = .returned (.string (strOfNums (addrI h q))) ∧ Below w.heap.size w w' := by
  have HT : Hid (Pow w) := hT
  obtain ⟨w0, hw0⟩ : ∃ w0, w.alloc (.cells #[.int .i64 h, .int .i64 q] 25) = w0 := ⟨_, rfl⟩
  have HW0 : Hid (w.alloc (.cells #[.int .i64 h, .int .i64 q] 25) = w0) := hw0
  have B0 : Hid (Below w.heap.size w w0) := by rw [← hw0]; exact (Below.refl _ _).alloc (Nat.le_refl _) _
  have K0 : Hid (Blk w0 w.heap.size 25 [.int .i64 h, .int .i64 q]) := by rw [← hw0]; exact Blk.new w _ _
  clear hw0 hT
  unfold addrV
  cases hk : addrOk h q with
  | false =>
    have HX : Hid (addrI h q = []) := by show _ = _; unfold addrI; rw [if_neg (by rw [hk]; simp)]
    go_enter Tryd.func10, Tryd.ntmps10
    go_wp2_with fail
    rw [HW0.out]
    refine (implAddrOk h q w0).mono ?_
    rintro e w1 ⟨rfl, b1⟩
    have B1 : Hid (Below w.heap.size w w1) := B0.out.trans (b1.mono B0.out.size)
    clear b1
    rw [hk]
    go_wp2
    go_ret
    exact ⟨by rw [HX.out]; rfl, B1.out⟩
  | true =>
    have ok := (addrOk_iff h q).1 hk
    obtain ⟨H, rfl⟩ := Int.eq_ofNat_of_zero_le ok.1
    obtain ⟨p, rfl⟩ := Int.eq_ofNat_of_zero_le ok.2.2.1
    have hp : p ≤ 65535 := by omega
    have HTX : Hid (dots (num (H : Int) 4) 4 ++ [58] ++ dec p = addrI (H : Int) (p : Int)) := dots_text H p (by omega) hp
    obtain ⟨l, hl⟩ : ∃ l, num (H : Int) 4 = l := ⟨_, rfl⟩
    have HLN : Hid (l.length = 4) := by rw [← hl]; exact num_length _ _
    have HLB : Hid (Bytes l) := by rw [← hl]; exact num_bytes _ _
    have HLE : Hid (num (H : Int) 4 = l) := hl
    rw [hl] at HTX
    clear hl
    have DP : Hid ((dec p).length ≤ 5) := dec_len p hp
    have D4 : Hid ((dots l 4).length ≤ 24) := dots_len l HLB.out 4
    clear ok
    go_enter Tryd.func10, Tryd.ntmps10
    go_wp2_with fail
    rw [HW0.out]
    refine (implAddrOk (H : Int) (p : Int) w0).mono ?_
    rintro e w1 ⟨rfl, b1⟩
    have B1 : Hid (Below w.heap.size w w1) := B0.out.trans (b1.mono B0.out.size)
    have K1 : Hid (Blk w1 w.heap.size 25 [.int .i64 (H : Int), .int .i64 (p : Int)]) := K0.out.later b1
    clear b1
    rw [hk]
    have o0 := K1.out.cell 0 rfl
    go_wp2_with fail
    refine (highest4 (H : Int) w1).mono ?_
    rintro e w2 ⟨rfl, r2, b2⟩
    obtain ⟨g, hg⟩ : ∃ g, w1.heap.size = g := ⟨_, rfl⟩
    have R2 : Hid (Row w2 g 4 l) := by show Row _ _ _ _; rw [← HLE.out, ← hg]; exact r2
    have B2 : Hid (Below w.heap.size w w2) := B1.out.trans (b2.mono B1.out.size)
    have K2 : Hid (Blk w2 w.heap.size 25 [.int .i64 (H : Int), .int .i64 (p : Int)]) := K1.out.later b2
    rw [hg]
    clear b2 r2 hg o0 HLE
    go_wp2_with fail
    go_loopw [3, 4, 14] (fun t m i wr => ∃ k : Nat, k ≤ 4 ∧ t = .string (strOfNums (dots l k)) ∧ m = .string (strOfNums (dotAt k)) ∧ i = .int .i64 (k : Int) ∧ Below w2.heap.size w2 wr)
      (fun _ _ i _ => (4 - intOf i).toNat)
    case atStart => exact ⟨0, Nat.zero_le _, rfl, rfl, rfl, Below.refl _ _⟩
    case round =>
      obtain ⟨k, hk4, rfl, rfl, rfl, hbe⟩ := hrel
      have HBe : Hid (Below w2.heap.size w2 wr) := hbe
      have PR : Hid (Pow wr) := HT.out.later (B2.out.trans (hbe.mono B2.out.size))
      have BR : Hid (Below w.heap.size w wr) := B2.out.trans (hbe.mono B2.out.size)
      have KR : Hid (Blk wr w.heap.size 25 [.int .i64 (H : Int), .int .i64 (p : Int)]) := K2.out.later hbe
      have RR : Hid (Row wr g 4 l) := R2.out.later hbe
      clear hbe
      by_cases hlt : k < 4
      · have hc := RR.out.cell k (by rw [HLN.out]; exact hlt)
        have hb := HLB.out.at k
        obtain ⟨z, hz⟩ := Int.eq_ofNat_of_zero_le hb.1
        have hz5 : z ≤ 65535 := by omega
        have hzb : z ≤ 255 := by omega
        have HS : Hid (dots l (k + 1) = dots l k ++ (dotAt k ++ dec z)) := by show dots l k ++ (dotAt k ++ dec (l.getD k 0).toNat) = _; rw [hz, Int.toNat_natCast]
        have HD1 : Hid ((dots l k).length ≤ 6 * k) := dots_len l HLB.out k
        have HD2 : Hid ((dotAt k).length ≤ 1) := by show _ ≤ _; unfold dotAt; split <;> simp
        have HD3 : Hid ((dec z).length ≤ 5) := dec_len z hz5
        have HD4 : Hid (dotAt (k + 1) = [46]) := rfl
        have a1 : ∀ W : World, (Op.stringOp .add (strOfNums (dotAt k)) (strOfNums (dec z))).run Tryd.prog W = .ok (.string (strOfNums (dotAt k ++ dec z))) W := fun W => by rw [run_string_add_sum W _ _ (by rw [strOfNums_size, strOfNums_size]; have := HD2.out; have := HD3.out; omega), str_append]
        have a2 : ∀ W : World, (Op.stringOp .add (strOfNums (dots l k)) (strOfNums (dotAt k ++ dec z))).run Tryd.prog W = .ok (.string (strOfNums (dots l (k + 1)))) W := fun W => by rw [run_string_add_sum W _ _ (by rw [strOfNums_size, strOfNums_size, List.length_append]; have := HD1.out; have := HD2.out; have := HD3.out; omega), str_append, HS.out]
        rw [hz] at hc
        obtain ⟨S1, hS1⟩ : ∃ S, strOfNums (dots l k) = S := ⟨_, rfl⟩
        obtain ⟨S2, hS2⟩ : ∃ S, strOfNums (dotAt k) = S := ⟨_, rfl⟩
        obtain ⟨S3, hS3⟩ : ∃ S, strOfNums (dec z) = S := ⟨_, rfl⟩
        obtain ⟨S4, hS4⟩ : ∃ S, strOfNums (dotAt k ++ dec z) = S := ⟨_, rfl⟩
        obtain ⟨S5, hS5⟩ : ∃ S, strOfNums (dots l (k + 1)) = S := ⟨_, rfl⟩
        have CI : Hid (∀ W, Pow W → Calls Tryd.prog 30 #[.int .i64 (z : Int)] W fun e w' => e = .returned (.string S3) ∧ Below W.heap.size W w') := by rw [← hS3]; exact fun W hW => itoa z W hz5 hW
        rw [hS2, hS3, hS4] at a1
        rw [hS1, hS4, hS5] at a2
        rw [hS1, hS2]
        have E5 : Hid (S5 = strOfNums (dots l (k + 1))) := hS5.symm
        clear hS1 hS2 hS3 hS4 hS5 hz hb HS
        go_wp2_with fail
        refine (CI.out wr PR.out).mono ?_
        rintro e w3 ⟨rfl, b3⟩
        have B3 : Hid (Below w2.heap.size w2 w3) := HBe.out.trans (b3.mono HBe.out.size)
        clear b3
        go_wp2
        go_roundw
        case rel => exact ⟨k + 1, by omega, by rw [E5.out], rfl, by simp, B3.out⟩
        case measure => simp [intOf]; omega
      · obtain rfl : k = 4 := by omega
        have o1 := KR.out.cell 1 rfl
        have a1 : ∀ W : World, (Op.stringOp .add (strOfNums (dots l 4)) ⟨#[58]⟩).run Tryd.prog W = .ok (.string (strOfNums (dots l 4 ++ [58]))) W := fun W => by
          have := run_string_add_sum (P := Tryd.prog) W (strOfNums (dots l 4)) (strOfNums [58]) (by rw [strOfNums_size, strOfNums_size]; have := D4.out; simp; omega)
          rw [str_append] at this
          exact this
        have a2 : ∀ W : World, (Op.stringOp .add (strOfNums (dots l 4 ++ [58])) (strOfNums (dec p))).run Tryd.prog W = .ok (.string (strOfNums (dots l 4 ++ [58] ++ dec p))) W := fun W => by rw [run_string_add_sum W _ _ (by rw [strOfNums_size, strOfNums_size, List.length_append]; have := D4.out; have := DP.out; simp; omega), str_append]
        obtain ⟨S1, hS1⟩ : ∃ S, strOfNums (dots l 4) = S := ⟨_, rfl⟩
        obtain ⟨S2, hS2⟩ : ∃ S, strOfNums (dots l 4 ++ [58]) = S := ⟨_, rfl⟩
        obtain ⟨S3, hS3⟩ : ∃ S, strOfNums (dec p) = S := ⟨_, rfl⟩
        obtain ⟨S4, hS4⟩ : ∃ S, strOfNums (dots l 4 ++ [58] ++ dec p) = S := ⟨_, rfl⟩
        have CI : Hid (∀ W, Pow W → Calls Tryd.prog 30 #[.int .i64 (p : Int)] W fun e w' => e = .returned (.string S3) ∧ Below W.heap.size W w') := by rw [← hS3]; exact fun W hW => itoa p W hp hW
        rw [hS1, hS2] at a1
        rw [hS2, hS3, hS4] at a2
        rw [hS1]
        have E4 : Hid (strOfNums (addrI (H : Int) (p : Int)) = S4) := by show _ = _; rw [← hS4, HTX.out]
        clear hS1 hS2 hS3 hS4
        go_wp2_with fail
        refine (CI.out wr PR.out).mono ?_
        rintro e w3 ⟨rfl, b3⟩
        have B3 : Hid (Below w.heap.size w w3) := BR.out.trans (b3.mono BR.out.size)
        clear b3
        go_wp2
        go_ret
        exact ⟨by rw [E4.out]; rfl, B3.out⟩
end Go.Proofs.YticfgbfchpnpoaaDoor.AddrJ
