/-
  What spec's l6Num and AddrText answer: a number's digits, an address's text.
-/
import Derived.Test.YticfgbfchpnpoaaDoorAddrS
import Derived.Laws.Concat
import Derived.Laws.BitsAllLaws
namespace Go.Proofs.YticfgbfchpnpoaaDoor.AddrT
open Go.RowKit Go.Proofs.YticfgbfchpnpoaaDoor.Mem Go.Proofs.YticfgbfchpnpoaaDoor.App Go.Proofs.YticfgbfchpnpoaaDoor.Get Go.Proofs.YticfgbfchpnpoaaDoor.Blk Go.Proofs.YticfgbfchpnpoaaDoor.Str Go.Proofs.YticfgbfchpnpoaaDoor.Bits Go.Proofs.YticfgbfchpnpoaaDoor.Words Go.Proofs.YticfgbfchpnpoaaDoor.AddrP Go.Proofs.YticfgbfchpnpoaaDoor.Res Go.Proofs.YticfgbfchpnpoaaDoor.Each Go.Proofs.YticfgbfchpnpoaaDoor.Copy Go.Proofs.YticfgbfchpnpoaaDoor.Ops Go.Proofs.YticfgbfchpnpoaaDoor.AddrS

theorem str_append (a b : List Int) : strOfNums a ++ strOfNums b = strOfNums (a ++ b) := by
  unfold strOfNums; rw [ByteArray.mk_append_mk, List.map_append]
theorem str_nil : strOfNums [] = ⟨#[]⟩ := rfl
/-- A string that is made of bytes is told by them. -/
theorem str_inj {a b : List Int} (ha : Bytes a) (hb : Bytes b) (h : strOfNums a = strOfNums b) : a = b := by
  rw [← bs_nums a ha, ← bs_nums b hb, h]
theorem str_bs (s : ByteArray) : strOfNums (bs s) = s := by
  obtain ⟨d⟩ := s
  unfold strOfNums bs
  congr 1
  apply Array.toList_inj.1
  rw [List.map_map]
  conv => rhs; rw [← List.map_id d.toList]
  apply List.map_congr_left
  intro b _
  simp
theorem convert_row {w : World} {g c n : Nat} {l : List Int} (hn : n = l.length) (h : Rd w (some ⟨g, 0, none⟩) l) :
    (convert 22 9 (.slice (some ⟨g, 0, none⟩) n c)).run Tryd.prog w = .ok (.string (strOfNums l)) w := by
  subst hn
  exact run_convert_bytes_arg (P := Tryd.prog) w 22 5 Tryd.underlying22 Tryd.underlying5 g 0 l.length c l rfl (fun i hi => by
    obtain ⟨b, off, e, _, hc⟩ := h i hi
    cases e
    exact hc) 9 Tryd.underlying9

set_option maxRecDepth 100000 in
set_option maxHeartbeats 1600000 in
theorem l6Num (n : Nat) (w : World) (hn : n ≤ 65535) :
    Calls Tryd.prog 39 #[.int .i64 (n : Int)] w fun e w' => e = .returned (.string (strOfNums (dec n))) ∧ Below w.heap.size w w' := by
  by_cases h0 : n = 0
  · subst h0
    go_enter Tryd.func39, Tryd.ntmps39
    go_wp2
    go_ret
    exact ⟨by rw [dec_zero]; rfl, Below.refl _ _⟩
  · have hne : ((n : Int) == 0) = false := by simp; omega
    have HD : Hid (dec n = digs n) := dec_pos n (by omega)
    have HN : Hid (0 < n) := by show 0 < n; omega
    clear h0
    go_enter Tryd.func39, Tryd.ntmps39
    go_wp2
    go_loopw [0, 3] (fun v s wr => ∃ (k : Nat) (x : List Int), k ≤ n ∧ v = .int .i64 (k : Int) ∧ s = .string (strOfNums x) ∧ digs n = digs k ++ x ∧ x.length ≤ 20 ∧ Below w.heap.size w wr)
      (fun v _ _ => (intOf v).toNat)
    case atStart => exact ⟨n, [], Nat.le_refl _, rfl, rfl, by simp, by simp, Below.refl _ _⟩
    case round =>
      obtain ⟨k, x, hk, rfl, rfl, hx, hl, hbe⟩ := hrel
      have HX : Hid (digs n = digs k ++ x) := hx
      have HL : Hid (x.length ≤ 20) := hl
      have HBe : Hid (Below w.heap.size w wr) := hbe
      clear hx hl hbe
      by_cases h1 : 0 < k
      · have h1I : (k : Int) > 0 := by omega
        have HK : Hid (digs k = digs (k / 10) ++ [48 + (k : Int) % 10]) := by
          have := digs_pos k h1
          rw [show ((48 + k % 10 : Nat) : Int) = 48 + (k : Int) % 10 by omega] at this
          exact this
        have hcv := convert_row (c := 1) (n := 1) rfl (rd_one wr (48 + (k : Int) % 10))
        have hadd : ∀ W : World, (Op.stringOp .add (strOfNums [48 + (k : Int) % 10]) (strOfNums x)).run Tryd.prog W = .ok (.string (strOfNums ([48 + (k : Int) % 10] ++ x))) W := fun W => by
          rw [run_string_add_sum W _ _ (by rw [strOfNums_size, strOfNums_size]; have := HL.out; simp; omega), str_append]
        have HX2 : Hid (digs n = digs (k / 10) ++ ((48 + (k : Int) % 10) :: x)) := by
          show _ = _
          rw [HX.out, HK.out, List.append_assoc]; rfl
        have HL2 : Hid (((48 + (k : Int) % 10) :: x).length ≤ 20) := by
          show _ ≤ _
          have h5 := digs_len n 5 (by omega)
          rw [HX2.out, List.length_append] at h5
          omega
        go_wp2
        exact ⟨⟨k / 10, _, by omega, by congr 1, rfl, HX2.out, HL2.out, HBe.out.alloc HBe.out.size _⟩, by simp [intOf]; omega⟩
      · obtain rfl : k = 0 := by omega
        go_wp2
        go_ret
        exact ⟨by rw [HD.out, HX.out, digs_zero]; rfl, HBe.out⟩

set_option maxRecDepth 100000 in
set_option maxHeartbeats 400000 in
theorem text_def (h p : Int) (k : addrOk h p = true) : addrI h p = dec (h / 16777216).toNat ++ [46] ++ dec (h / 65536 % 256).toNat ++ [46] ++ dec (h / 256 % 256).toNat ++ [46] ++ dec (h % 256).toNat ++ [58] ++ dec p.toNat := by
  have a := (addrOk_iff h p).1 k
  unfold addrI
  rw [if_pos k]
  unfold addrT
  rw [show (h / 16777216).toNat = h.toNat / 16777216 by omega, show (h / 65536 % 256).toNat = h.toNat / 65536 % 256 by omega, show (h / 256 % 256).toNat = h.toNat / 256 % 256 by omega, show (h % 256).toNat = h.toNat % 256 by omega]

set_option maxRecDepth 100000 in
set_option maxHeartbeats 4000000 in
theorem specAddrText (h q : Int) (w : World) :
    Calls Tryd.prog 20 #[addrV h q] w fun e w' => e = .returned (.string (strOfNums (addrI h q))) ∧ Below w.heap.size w w' := by
  obtain ⟨w0, hw0⟩ : ∃ w0, w.alloc (.cells #[.int .i64 h, .int .i64 q] 25) = w0 := ⟨_, rfl⟩
  have HW0 : Hid (w.alloc (.cells #[.int .i64 h, .int .i64 q] 25) = w0) := hw0
  have B0 : Hid (Below w.heap.size w w0) := by rw [← hw0]; exact (Below.refl _ _).alloc (Nat.le_refl _) _
  have K0 : Hid (Blk w0 w.heap.size 25 [.int .i64 h, .int .i64 q]) := by rw [← hw0]; exact Blk.new w _ _
  clear hw0
  unfold addrV
  cases hk : addrOk h q with
  | false =>
    have HT : Hid (addrI h q = []) := by show _ = _; unfold addrI; rw [if_neg (by rw [hk]; simp)]
    go_enter Tryd.func20, Tryd.ntmps20
    go_wp2_with fail
    rw [HW0.out]
    refine (specAddrOk h q w0).mono ?_
    rintro e w1 ⟨rfl, b1⟩
    have B1 : Hid (Below w.heap.size w w1) := B0.out.trans (b1.mono B0.out.size)
    clear b1
    rw [hk]
    go_wp2
    go_ret
    exact ⟨by rw [HT.out]; rfl, B1.out⟩
  | true =>
    have ok := (addrOk_iff h q).1 hk
    obtain ⟨H, rfl⟩ := Int.eq_ofNat_of_zero_le ok.1
    obtain ⟨p, rfl⟩ := Int.eq_ofNat_of_zero_le ok.2.2.1
    have HT := text_def _ _ hk
    obtain ⟨n1, e1⟩ : ∃ n1, H / 16777216 = n1 := ⟨_, rfl⟩
    obtain ⟨m2, e2⟩ : ∃ m2, H / 65536 = m2 := ⟨_, rfl⟩
    obtain ⟨n2, e3⟩ : ∃ n2, m2 % 256 = n2 := ⟨_, rfl⟩
    obtain ⟨m3, e4⟩ : ∃ m3, H / 256 = m3 := ⟨_, rfl⟩
    obtain ⟨n3, e5⟩ : ∃ n3, m3 % 256 = n3 := ⟨_, rfl⟩
    obtain ⟨n4, e6⟩ : ∃ n4, H % 256 = n4 := ⟨_, rfl⟩
    rw [show ((H : Int) / 16777216).toNat = n1 by omega, show ((H : Int) / 65536 % 256).toNat = n2 by omega, show ((H : Int) / 256 % 256).toNat = n3 by omega, show ((H : Int) % 256).toNat = n4 by omega, Int.toNat_natCast] at HT
    have HTT : Hid _ := HT
    have hn1 : n1 ≤ 65535 := by omega
    have hn2 : n2 ≤ 65535 := by omega
    have hn3 : n3 ≤ 65535 := by omega
    have hn4 : n4 ≤ 65535 := by omega
    have hp : p ≤ 65535 := by omega
    have L1 : Hid ((dec n1).length ≤ 5) := dec_len n1 hn1
    have L2 : Hid ((dec n2).length ≤ 5) := dec_len n2 hn2
    have L3 : Hid ((dec n3).length ≤ 5) := dec_len n3 hn3
    have L4 : Hid ((dec n4).length ≤ 5) := dec_len n4 hn4
    have L5 : Hid ((dec p).length ≤ 5) := dec_len p hp
    have s1 : (H : Int) / 16777216 = (n1 : Int) := by omega
    have s2 : (H : Int) / 65536 = (m2 : Int) := by omega
    have s3 : (H : Int) / 256 = (m3 : Int) := by omega
    have b2 : bits .and .i64 (m2 : Int) 255 = (n2 : Int) := by rw [mask8]; omega
    have b3 : bits .and .i64 (m3 : Int) 255 = (n3 : Int) := by rw [mask8]; omega
    have b4 : bits .and .i64 (H : Int) 255 = (n4 : Int) := by rw [mask8]; omega
    clear HT ok e1 e2 e3 e4 e5 e6
    obtain ⟨S9, hS9⟩ : ∃ S, strOfNums (dec n1) = S := ⟨_, rfl⟩
    obtain ⟨S15, hS15⟩ : ∃ S, strOfNums (dec n2) = S := ⟨_, rfl⟩
    obtain ⟨S22, hS22⟩ : ∃ S, strOfNums (dec n3) = S := ⟨_, rfl⟩
    obtain ⟨S28, hS28⟩ : ∃ S, strOfNums (dec n4) = S := ⟨_, rfl⟩
    obtain ⟨S33, hS33⟩ : ∃ S, strOfNums (dec p) = S := ⟨_, rfl⟩
    obtain ⟨S10, hS10⟩ : ∃ S, strOfNums (dec n1 ++ [46]) = S := ⟨_, rfl⟩
    obtain ⟨S16, hS16⟩ : ∃ S, strOfNums (dec n1 ++ [46] ++ dec n2) = S := ⟨_, rfl⟩
    obtain ⟨S17, hS17⟩ : ∃ S, strOfNums (dec n1 ++ [46] ++ dec n2 ++ [46]) = S := ⟨_, rfl⟩
    obtain ⟨S23, hS23⟩ : ∃ S, strOfNums (dec n1 ++ [46] ++ dec n2 ++ [46] ++ dec n3) = S := ⟨_, rfl⟩
    obtain ⟨S24, hS24⟩ : ∃ S, strOfNums (dec n1 ++ [46] ++ dec n2 ++ [46] ++ dec n3 ++ [46]) = S := ⟨_, rfl⟩
    obtain ⟨S29, hS29⟩ : ∃ S, strOfNums (dec n1 ++ [46] ++ dec n2 ++ [46] ++ dec n3 ++ [46] ++ dec n4) = S := ⟨_, rfl⟩
    obtain ⟨S30, hS30⟩ : ∃ S, strOfNums (dec n1 ++ [46] ++ dec n2 ++ [46] ++ dec n3 ++ [46] ++ dec n4 ++ [58]) = S := ⟨_, rfl⟩
    obtain ⟨S34, hS34⟩ : ∃ S, strOfNums (dec n1 ++ [46] ++ dec n2 ++ [46] ++ dec n3 ++ [46] ++ dec n4 ++ [58] ++ dec p) = S := ⟨_, rfl⟩
    have C9 : Hid (∀ W, Calls Tryd.prog 39 #[.int .i64 (n1 : Int)] W fun e w' => e = .returned (.string S9) ∧ Below W.heap.size W w') := by rw [← hS9]; exact fun W => l6Num n1 W hn1
    have C15 : Hid (∀ W, Calls Tryd.prog 39 #[.int .i64 (n2 : Int)] W fun e w' => e = .returned (.string S15) ∧ Below W.heap.size W w') := by rw [← hS15]; exact fun W => l6Num n2 W hn2
    have C22 : Hid (∀ W, Calls Tryd.prog 39 #[.int .i64 (n3 : Int)] W fun e w' => e = .returned (.string S22) ∧ Below W.heap.size W w') := by rw [← hS22]; exact fun W => l6Num n3 W hn3
    have C28 : Hid (∀ W, Calls Tryd.prog 39 #[.int .i64 (n4 : Int)] W fun e w' => e = .returned (.string S28) ∧ Below W.heap.size W w') := by rw [← hS28]; exact fun W => l6Num n4 W hn4
    have C33 : Hid (∀ W, Calls Tryd.prog 39 #[.int .i64 (p : Int)] W fun e w' => e = .returned (.string S33) ∧ Below W.heap.size W w') := by rw [← hS33]; exact fun W => l6Num p W hp
    have hadd : ∀ (W : World) (x y : List Int), x.length ≤ 100 → y.length ≤ 100 → (Op.stringOp .add (strOfNums x) (strOfNums y)).run Tryd.prog W = .ok (.string (strOfNums (x ++ y))) W := fun W x y h1 h2 => by rw [run_string_add_sum W _ _ (by rw [strOfNums_size, strOfNums_size]; omega), str_append]
    have A10 : ∀ W : World, (Op.stringOp .add S9 ⟨#[46]⟩).run Tryd.prog W = .ok (.string S10) W := fun W => by rw [← hS9, ← hS10]; exact hadd W (dec n1) ([46]) (by have := L1.out; have := L2.out; have := L3.out; have := L4.out; have := L5.out; (try simp only [List.length_append, List.length_singleton]); omega) (by simp)
    have A16 : ∀ W : World, (Op.stringOp .add S10 S15).run Tryd.prog W = .ok (.string S16) W := fun W => by rw [← hS10, ← hS15, ← hS16]; exact hadd W (dec n1 ++ [46]) (dec n2) (by have := L1.out; have := L2.out; have := L3.out; have := L4.out; have := L5.out; (try simp only [List.length_append, List.length_singleton]); omega) (by have := L1.out; have := L2.out; have := L3.out; have := L4.out; have := L5.out; (try simp only [List.length_append, List.length_singleton]); omega)
    have A17 : ∀ W : World, (Op.stringOp .add S16 ⟨#[46]⟩).run Tryd.prog W = .ok (.string S17) W := fun W => by rw [← hS16, ← hS17]; exact hadd W (dec n1 ++ [46] ++ dec n2) ([46]) (by have := L1.out; have := L2.out; have := L3.out; have := L4.out; have := L5.out; (try simp only [List.length_append, List.length_singleton]); omega) (by simp)
    have A23 : ∀ W : World, (Op.stringOp .add S17 S22).run Tryd.prog W = .ok (.string S23) W := fun W => by rw [← hS17, ← hS22, ← hS23]; exact hadd W (dec n1 ++ [46] ++ dec n2 ++ [46]) (dec n3) (by have := L1.out; have := L2.out; have := L3.out; have := L4.out; have := L5.out; (try simp only [List.length_append, List.length_singleton]); omega) (by have := L1.out; have := L2.out; have := L3.out; have := L4.out; have := L5.out; (try simp only [List.length_append, List.length_singleton]); omega)
    have A24 : ∀ W : World, (Op.stringOp .add S23 ⟨#[46]⟩).run Tryd.prog W = .ok (.string S24) W := fun W => by rw [← hS23, ← hS24]; exact hadd W (dec n1 ++ [46] ++ dec n2 ++ [46] ++ dec n3) ([46]) (by have := L1.out; have := L2.out; have := L3.out; have := L4.out; have := L5.out; (try simp only [List.length_append, List.length_singleton]); omega) (by simp)
    have A29 : ∀ W : World, (Op.stringOp .add S24 S28).run Tryd.prog W = .ok (.string S29) W := fun W => by rw [← hS24, ← hS28, ← hS29]; exact hadd W (dec n1 ++ [46] ++ dec n2 ++ [46] ++ dec n3 ++ [46]) (dec n4) (by have := L1.out; have := L2.out; have := L3.out; have := L4.out; have := L5.out; (try simp only [List.length_append, List.length_singleton]); omega) (by have := L1.out; have := L2.out; have := L3.out; have := L4.out; have := L5.out; (try simp only [List.length_append, List.length_singleton]); omega)
    have A30 : ∀ W : World, (Op.stringOp .add S29 ⟨#[58]⟩).run Tryd.prog W = .ok (.string S30) W := fun W => by rw [← hS29, ← hS30]; exact hadd W (dec n1 ++ [46] ++ dec n2 ++ [46] ++ dec n3 ++ [46] ++ dec n4) ([58]) (by have := L1.out; have := L2.out; have := L3.out; have := L4.out; have := L5.out; (try simp only [List.length_append, List.length_singleton]); omega) (by simp)
    have A34 : ∀ W : World, (Op.stringOp .add S30 S33).run Tryd.prog W = .ok (.string S34) W := fun W => by rw [← hS30, ← hS33, ← hS34]; exact hadd W (dec n1 ++ [46] ++ dec n2 ++ [46] ++ dec n3 ++ [46] ++ dec n4 ++ [58]) (dec p) (by have := L1.out; have := L2.out; have := L3.out; have := L4.out; have := L5.out; (try simp only [List.length_append, List.length_singleton]); omega) (by have := L1.out; have := L2.out; have := L3.out; have := L4.out; have := L5.out; (try simp only [List.length_append, List.length_singleton]); omega)
    have HTS : Hid (strOfNums (addrI (H : Int) (p : Int)) = S34) := by show _ = _; rw [HTT.out, ← hS34]
    clear hadd hS9 hS15 hS22 hS28 hS33 hS10 hS16 hS17 hS23 hS24 hS29 hS30 hS34
    go_enter Tryd.func20, Tryd.ntmps20
    go_wp2_with fail
    rw [HW0.out]
    refine (specAddrOk (H : Int) (p : Int) w0).mono ?_
    rintro e w1 ⟨rfl, bb⟩
    have B1 : Hid (Below w.heap.size w w1) := B0.out.trans (bb.mono B0.out.size)
    have K1 : Hid (Blk w1 w.heap.size 25 [.int .i64 (H : Int), .int .i64 (p : Int)]) := K0.out.later bb
    clear bb
    rw [hk]
    go_upto_region 3 with fail
    go_cut [2] from 6 to 34 (fun s2 wx => s2 = .string S34 ∧ Below w1.heap.size w1 wx)
    case first =>
      rename_i J K' hRJ hMet
      generalize hA : Act.mk _ _ = A
      have a1' : A.eval (.tmp 1) = .pointer (some ⟨w.heap.size, 0, none⟩) := by rw [← hA]; rfl
      have asz : A.tmps.size = 35 := by rw [← hA]; rfl
      have hK : ∀ wx, Below w1.heap.size w1 wx → Blk wx w.heap.size 25 [.int .i64 (H : Int), .int .i64 (p : Int)] := fun wx hb => K1.out.later hb
      refine region_each (by kernel_rfl) [6, 7, 8, 9, 10, 11, 12, 13, 14, 15, 16, 17, 18, 19, 20, 21, 22, 23, 24, 25, 26, 27, 28, 29, 30, 31, 32, 33, 34] 29 (fun i => [6, 7, 8, 9, 10, 11, 12, 13, 14, 15, 16, 17, 18, 19, 20, 21, 22, 23, 24, 25, 26, 27, 28, 29, 30, 31, 32, 33, 34].getD i 0) (fun _ => 0)
        (fun i g v wx => match i with
          | 0 => v = .pointer (some ⟨w.heap.size, 0, none⟩)
          | 1 => v = .int .i64 (H : Int)
          | 2 => v = .int .i64 (n1 : Int)
          | 3 => v = .string S9
          | 4 => v = .string S10
          | 5 => v = .pointer (some ⟨w.heap.size, 0, none⟩)
          | 6 => v = .int .i64 (H : Int)
          | 7 => v = .int .i64 (m2 : Int)
          | 8 => v = .int .i64 (n2 : Int)
          | 9 => v = .string S15
          | 10 => v = .string S16
          | 11 => v = .string S17
          | 12 => v = .pointer (some ⟨w.heap.size, 0, none⟩)
          | 13 => v = .int .i64 (H : Int)
          | 14 => v = .int .i64 (m3 : Int)
          | 15 => v = .int .i64 (n3 : Int)
          | 16 => v = .string S22
          | 17 => v = .string S23
          | 18 => v = .string S24
          | 19 => v = .pointer (some ⟨w.heap.size, 0, none⟩)
          | 20 => v = .int .i64 (H : Int)
          | 21 => v = .int .i64 (n4 : Int)
          | 22 => v = .string S28
          | 23 => v = .string S29
          | 24 => v = .string S30
          | 25 => v = .pointer (some ⟨w.heap.size, 1, none⟩)
          | 26 => v = .int .i64 (p : Int)
          | 27 => v = .string S33
          | 28 => v = .string S34
          | _ => False) (fun wx => Below w1.heap.size w1 wx) (by kernel_rfl) (Below.refl _ _).drew ?_ ?_ ?_
      · intro i g v wx wy hi hF hb _
        match i, hi with
        | 0, _ => exact hF
        | 1, _ => exact hF
        | 2, _ => exact hF
        | 3, _ => exact hF
        | 4, _ => exact hF
        | 5, _ => exact hF
        | 6, _ => exact hF
        | 7, _ => exact hF
        | 8, _ => exact hF
        | 9, _ => exact hF
        | 10, _ => exact hF
        | 11, _ => exact hF
        | 12, _ => exact hF
        | 13, _ => exact hF
        | 14, _ => exact hF
        | 15, _ => exact hF
        | 16, _ => exact hF
        | 17, _ => exact hF
        | 18, _ => exact hF
        | 19, _ => exact hF
        | 20, _ => exact hF
        | 21, _ => exact hF
        | 22, _ => exact hF
        | 23, _ => exact hF
        | 24, _ => exact hF
        | 25, _ => exact hF
        | 26, _ => exact hF
        | 27, _ => exact hF
        | 28, _ => exact hF
        | n + 29, hi => exact absurd hi (by omega)
      · intro i hi t ρ wx hB hp hd
        match i, hi with
        | 0, _ =>
          have e1 : (fr [6, 7, 8, 9, 10, 11, 12, 13, 14, 15, 16, 17, 18, 19, 20, 21, 22, 23, 24, 25, 26, 27, 28, 29, 30, 31, 32, 33, 34] A t).eval (.tmp 1) = .pointer (some ⟨w.heap.size, 0, none⟩) := (fr_eval_old _ _ _ 1 rfl).trans a1'
          refine op_run (v := .pointer (some ⟨w.heap.size, 0, none⟩)) (w' := wx) rfl rfl ?_ ?_
          · clear hp hd; have ec : ∀ v, (fr [6, 7, 8, 9, 10, 11, 12, 13, 14, 15, 16, 17, 18, 19, 20, 21, 22, 23, 24, 25, 26, 27, 28, 29, 30, 31, 32, 33, 34] A t).eval (.const v) = v := fun _ => rfl; generalize (fr [6, 7, 8, 9, 10, 11, 12, 13, 14, 15, 16, 17, 18, 19, 20, 21, 22, 23, 24, 25, 26, 27, 28, 29, 30, 31, 32, 33, 34] A t).eval = ev at ec e1 ⊢; go_simp
          · exact ⟨_, 0, rfl, hB, Below.refl _ _, rfl, .inl rfl⟩
        | 1, _ =>
          have e6 : (fr [6, 7, 8, 9, 10, 11, 12, 13, 14, 15, 16, 17, 18, 19, 20, 21, 22, 23, 24, 25, 26, 27, 28, 29, 30, 31, 32, 33, 34] A t).eval (.tmp 6) = .pointer (some ⟨w.heap.size, 0, none⟩) := (fr_eval _ _ _ 6 rfl (by rw [asz]; decide)).trans (hp 0 (pre_mem (by kernel_rfl)))
          have hc := (hK wx hB).cell 0 rfl
          refine op_run (v := .int .i64 (H : Int)) (w' := wx) rfl rfl ?_ ?_
          · clear hp hd; have ec : ∀ v, (fr [6, 7, 8, 9, 10, 11, 12, 13, 14, 15, 16, 17, 18, 19, 20, 21, 22, 23, 24, 25, 26, 27, 28, 29, 30, 31, 32, 33, 34] A t).eval (.const v) = v := fun _ => rfl; generalize (fr [6, 7, 8, 9, 10, 11, 12, 13, 14, 15, 16, 17, 18, 19, 20, 21, 22, 23, 24, 25, 26, 27, 28, 29, 30, 31, 32, 33, 34] A t).eval = ev at ec e6 ⊢; go_simp
          · exact ⟨_, 0, rfl, hB, Below.refl _ _, rfl, .inl rfl⟩
        | 2, _ =>
          have e7 : (fr [6, 7, 8, 9, 10, 11, 12, 13, 14, 15, 16, 17, 18, 19, 20, 21, 22, 23, 24, 25, 26, 27, 28, 29, 30, 31, 32, 33, 34] A t).eval (.tmp 7) = .int .i64 (H : Int) := (fr_eval _ _ _ 7 rfl (by rw [asz]; decide)).trans (hp 1 (pre_mem (by kernel_rfl)))
          refine op_run (v := .int .i64 (n1 : Int)) (w' := wx) rfl rfl ?_ ?_
          · clear hp hd; have ec : ∀ v, (fr [6, 7, 8, 9, 10, 11, 12, 13, 14, 15, 16, 17, 18, 19, 20, 21, 22, 23, 24, 25, 26, 27, 28, 29, 30, 31, 32, 33, 34] A t).eval (.const v) = v := fun _ => rfl; generalize (fr [6, 7, 8, 9, 10, 11, 12, 13, 14, 15, 16, 17, 18, 19, 20, 21, 22, 23, 24, 25, 26, 27, 28, 29, 30, 31, 32, 33, 34] A t).eval = ev at ec e7 ⊢; go_simp
          · exact ⟨_, 0, rfl, hB, Below.refl _ _, rfl, .inl rfl⟩
        | 3, _ =>
          have e8 : (fr [6, 7, 8, 9, 10, 11, 12, 13, 14, 15, 16, 17, 18, 19, 20, 21, 22, 23, 24, 25, 26, 27, 28, 29, 30, 31, 32, 33, 34] A t).eval (.tmp 8) = .int .i64 (n1 : Int) := (fr_eval _ _ _ 8 rfl (by rw [asz]; decide)).trans (hp 2 (pre_mem (by kernel_rfl)))
          refine op_call (f := 39) (args := #[.int .i64 (n1 : Int)]) rfl rfl ?_ (C9.out wx) ?_
          · have ef : (fr [6, 7, 8, 9, 10, 11, 12, 13, 14, 15, 16, 17, 18, 19, 20, 21, 22, 23, 24, 25, 26, 27, 28, 29, 30, 31, 32, 33, 34] A t).eval (.func 39) = .func (.func 39) #[] #[] := rfl; clear hp hd; have ec : ∀ v, (fr [6, 7, 8, 9, 10, 11, 12, 13, 14, 15, 16, 17, 18, 19, 20, 21, 22, 23, 24, 25, 26, 27, 28, 29, 30, 31, 32, 33, 34] A t).eval (.const v) = v := fun _ => rfl; generalize (fr [6, 7, 8, 9, 10, 11, 12, 13, 14, 15, 16, 17, 18, 19, 20, 21, 22, 23, 24, 25, 26, 27, 28, 29, 30, 31, 32, 33, 34] A t).eval = ev at ec e8 ef ⊢; go_simp
          · rintro e wy ⟨rfl, b2⟩
            exact ⟨_, rfl, _, 0, rfl, hB.trans (b2.mono hB.size), b2, rfl, .inl rfl⟩
        | 4, _ =>
          have hv3 := hp 3 (pre_mem (by kernel_rfl))
          have e9 : (fr [6, 7, 8, 9, 10, 11, 12, 13, 14, 15, 16, 17, 18, 19, 20, 21, 22, 23, 24, 25, 26, 27, 28, 29, 30, 31, 32, 33, 34] A t).eval (.tmp 9) = .string S9 := (fr_eval _ _ _ 9 rfl (by rw [asz]; decide)).trans hv3
          refine op_run (v := .string S10) (w' := wx) rfl rfl ?_ ?_
          · clear hp hd; have ec : ∀ v, (fr [6, 7, 8, 9, 10, 11, 12, 13, 14, 15, 16, 17, 18, 19, 20, 21, 22, 23, 24, 25, 26, 27, 28, 29, 30, 31, 32, 33, 34] A t).eval (.const v) = v := fun _ => rfl; generalize (fr [6, 7, 8, 9, 10, 11, 12, 13, 14, 15, 16, 17, 18, 19, 20, 21, 22, 23, 24, 25, 26, 27, 28, 29, 30, 31, 32, 33, 34] A t).eval = ev at ec e9 ⊢; go_simp
          · exact ⟨_, 0, rfl, hB, Below.refl _ _, rfl, .inl rfl⟩
        | 5, _ =>
          have e1 : (fr [6, 7, 8, 9, 10, 11, 12, 13, 14, 15, 16, 17, 18, 19, 20, 21, 22, 23, 24, 25, 26, 27, 28, 29, 30, 31, 32, 33, 34] A t).eval (.tmp 1) = .pointer (some ⟨w.heap.size, 0, none⟩) := (fr_eval_old _ _ _ 1 rfl).trans a1'
          refine op_run (v := .pointer (some ⟨w.heap.size, 0, none⟩)) (w' := wx) rfl rfl ?_ ?_
          · clear hp hd; have ec : ∀ v, (fr [6, 7, 8, 9, 10, 11, 12, 13, 14, 15, 16, 17, 18, 19, 20, 21, 22, 23, 24, 25, 26, 27, 28, 29, 30, 31, 32, 33, 34] A t).eval (.const v) = v := fun _ => rfl; generalize (fr [6, 7, 8, 9, 10, 11, 12, 13, 14, 15, 16, 17, 18, 19, 20, 21, 22, 23, 24, 25, 26, 27, 28, 29, 30, 31, 32, 33, 34] A t).eval = ev at ec e1 ⊢; go_simp
          · exact ⟨_, 0, rfl, hB, Below.refl _ _, rfl, .inl rfl⟩
        | 6, _ =>
          have e11 : (fr [6, 7, 8, 9, 10, 11, 12, 13, 14, 15, 16, 17, 18, 19, 20, 21, 22, 23, 24, 25, 26, 27, 28, 29, 30, 31, 32, 33, 34] A t).eval (.tmp 11) = .pointer (some ⟨w.heap.size, 0, none⟩) := (fr_eval _ _ _ 11 rfl (by rw [asz]; decide)).trans (hp 5 (pre_mem (by kernel_rfl)))
          have hc := (hK wx hB).cell 0 rfl
          refine op_run (v := .int .i64 (H : Int)) (w' := wx) rfl rfl ?_ ?_
          · clear hp hd; have ec : ∀ v, (fr [6, 7, 8, 9, 10, 11, 12, 13, 14, 15, 16, 17, 18, 19, 20, 21, 22, 23, 24, 25, 26, 27, 28, 29, 30, 31, 32, 33, 34] A t).eval (.const v) = v := fun _ => rfl; generalize (fr [6, 7, 8, 9, 10, 11, 12, 13, 14, 15, 16, 17, 18, 19, 20, 21, 22, 23, 24, 25, 26, 27, 28, 29, 30, 31, 32, 33, 34] A t).eval = ev at ec e11 ⊢; go_simp
          · exact ⟨_, 0, rfl, hB, Below.refl _ _, rfl, .inl rfl⟩
        | 7, _ =>
          have e12 : (fr [6, 7, 8, 9, 10, 11, 12, 13, 14, 15, 16, 17, 18, 19, 20, 21, 22, 23, 24, 25, 26, 27, 28, 29, 30, 31, 32, 33, 34] A t).eval (.tmp 12) = .int .i64 (H : Int) := (fr_eval _ _ _ 12 rfl (by rw [asz]; decide)).trans (hp 6 (pre_mem (by kernel_rfl)))
          refine op_run (v := .int .i64 (m2 : Int)) (w' := wx) rfl rfl ?_ ?_
          · clear hp hd; have ec : ∀ v, (fr [6, 7, 8, 9, 10, 11, 12, 13, 14, 15, 16, 17, 18, 19, 20, 21, 22, 23, 24, 25, 26, 27, 28, 29, 30, 31, 32, 33, 34] A t).eval (.const v) = v := fun _ => rfl; generalize (fr [6, 7, 8, 9, 10, 11, 12, 13, 14, 15, 16, 17, 18, 19, 20, 21, 22, 23, 24, 25, 26, 27, 28, 29, 30, 31, 32, 33, 34] A t).eval = ev at ec e12 ⊢; go_simp
          · exact ⟨_, 0, rfl, hB, Below.refl _ _, rfl, .inl rfl⟩
        | 8, _ =>
          have e13 : (fr [6, 7, 8, 9, 10, 11, 12, 13, 14, 15, 16, 17, 18, 19, 20, 21, 22, 23, 24, 25, 26, 27, 28, 29, 30, 31, 32, 33, 34] A t).eval (.tmp 13) = .int .i64 (m2 : Int) := (fr_eval _ _ _ 13 rfl (by rw [asz]; decide)).trans (hp 7 (pre_mem (by kernel_rfl)))
          refine op_run (v := .int .i64 (n2 : Int)) (w' := wx) rfl rfl ?_ ?_
          · clear hp hd; have ec : ∀ v, (fr [6, 7, 8, 9, 10, 11, 12, 13, 14, 15, 16, 17, 18, 19, 20, 21, 22, 23, 24, 25, 26, 27, 28, 29, 30, 31, 32, 33, 34] A t).eval (.const v) = v := fun _ => rfl; generalize (fr [6, 7, 8, 9, 10, 11, 12, 13, 14, 15, 16, 17, 18, 19, 20, 21, 22, 23, 24, 25, 26, 27, 28, 29, 30, 31, 32, 33, 34] A t).eval = ev at ec e13 ⊢; go_simp
          · exact ⟨_, 0, rfl, hB, Below.refl _ _, rfl, .inl rfl⟩
        | 9, _ =>
          have e14 : (fr [6, 7, 8, 9, 10, 11, 12, 13, 14, 15, 16, 17, 18, 19, 20, 21, 22, 23, 24, 25, 26, 27, 28, 29, 30, 31, 32, 33, 34] A t).eval (.tmp 14) = .int .i64 (n2 : Int) := (fr_eval _ _ _ 14 rfl (by rw [asz]; decide)).trans (hp 8 (pre_mem (by kernel_rfl)))
          refine op_call (f := 39) (args := #[.int .i64 (n2 : Int)]) rfl rfl ?_ (C15.out wx) ?_
          · have ef : (fr [6, 7, 8, 9, 10, 11, 12, 13, 14, 15, 16, 17, 18, 19, 20, 21, 22, 23, 24, 25, 26, 27, 28, 29, 30, 31, 32, 33, 34] A t).eval (.func 39) = .func (.func 39) #[] #[] := rfl; clear hp hd; have ec : ∀ v, (fr [6, 7, 8, 9, 10, 11, 12, 13, 14, 15, 16, 17, 18, 19, 20, 21, 22, 23, 24, 25, 26, 27, 28, 29, 30, 31, 32, 33, 34] A t).eval (.const v) = v := fun _ => rfl; generalize (fr [6, 7, 8, 9, 10, 11, 12, 13, 14, 15, 16, 17, 18, 19, 20, 21, 22, 23, 24, 25, 26, 27, 28, 29, 30, 31, 32, 33, 34] A t).eval = ev at ec e14 ef ⊢; go_simp
          · rintro e wy ⟨rfl, b2⟩
            exact ⟨_, rfl, _, 0, rfl, hB.trans (b2.mono hB.size), b2, rfl, .inl rfl⟩
        | 10, _ =>
          have e10 : (fr [6, 7, 8, 9, 10, 11, 12, 13, 14, 15, 16, 17, 18, 19, 20, 21, 22, 23, 24, 25, 26, 27, 28, 29, 30, 31, 32, 33, 34] A t).eval (.tmp 10) = .string S10 := (fr_eval _ _ _ 10 rfl (by rw [asz]; decide)).trans (hp 4 (pre_mem (by kernel_rfl)))
          have hv9 := hp 9 (pre_mem (by kernel_rfl))
          have e15 : (fr [6, 7, 8, 9, 10, 11, 12, 13, 14, 15, 16, 17, 18, 19, 20, 21, 22, 23, 24, 25, 26, 27, 28, 29, 30, 31, 32, 33, 34] A t).eval (.tmp 15) = .string S15 := (fr_eval _ _ _ 15 rfl (by rw [asz]; decide)).trans hv9
          refine op_run (v := .string S16) (w' := wx) rfl rfl ?_ ?_
          · clear hp hd; have ec : ∀ v, (fr [6, 7, 8, 9, 10, 11, 12, 13, 14, 15, 16, 17, 18, 19, 20, 21, 22, 23, 24, 25, 26, 27, 28, 29, 30, 31, 32, 33, 34] A t).eval (.const v) = v := fun _ => rfl; generalize (fr [6, 7, 8, 9, 10, 11, 12, 13, 14, 15, 16, 17, 18, 19, 20, 21, 22, 23, 24, 25, 26, 27, 28, 29, 30, 31, 32, 33, 34] A t).eval = ev at ec e10 e15 ⊢; go_simp
          · exact ⟨_, 0, rfl, hB, Below.refl _ _, rfl, .inl rfl⟩
        | 11, _ =>
          have e16 : (fr [6, 7, 8, 9, 10, 11, 12, 13, 14, 15, 16, 17, 18, 19, 20, 21, 22, 23, 24, 25, 26, 27, 28, 29, 30, 31, 32, 33, 34] A t).eval (.tmp 16) = .string S16 := (fr_eval _ _ _ 16 rfl (by rw [asz]; decide)).trans (hp 10 (pre_mem (by kernel_rfl)))
          refine op_run (v := .string S17) (w' := wx) rfl rfl ?_ ?_
          · clear hp hd; have ec : ∀ v, (fr [6, 7, 8, 9, 10, 11, 12, 13, 14, 15, 16, 17, 18, 19, 20, 21, 22, 23, 24, 25, 26, 27, 28, 29, 30, 31, 32, 33, 34] A t).eval (.const v) = v := fun _ => rfl; generalize (fr [6, 7, 8, 9, 10, 11, 12, 13, 14, 15, 16, 17, 18, 19, 20, 21, 22, 23, 24, 25, 26, 27, 28, 29, 30, 31, 32, 33, 34] A t).eval = ev at ec e16 ⊢; go_simp
          · exact ⟨_, 0, rfl, hB, Below.refl _ _, rfl, .inl rfl⟩
        | 12, _ =>
          have e1 : (fr [6, 7, 8, 9, 10, 11, 12, 13, 14, 15, 16, 17, 18, 19, 20, 21, 22, 23, 24, 25, 26, 27, 28, 29, 30, 31, 32, 33, 34] A t).eval (.tmp 1) = .pointer (some ⟨w.heap.size, 0, none⟩) := (fr_eval_old _ _ _ 1 rfl).trans a1'
          refine op_run (v := .pointer (some ⟨w.heap.size, 0, none⟩)) (w' := wx) rfl rfl ?_ ?_
          · clear hp hd; have ec : ∀ v, (fr [6, 7, 8, 9, 10, 11, 12, 13, 14, 15, 16, 17, 18, 19, 20, 21, 22, 23, 24, 25, 26, 27, 28, 29, 30, 31, 32, 33, 34] A t).eval (.const v) = v := fun _ => rfl; generalize (fr [6, 7, 8, 9, 10, 11, 12, 13, 14, 15, 16, 17, 18, 19, 20, 21, 22, 23, 24, 25, 26, 27, 28, 29, 30, 31, 32, 33, 34] A t).eval = ev at ec e1 ⊢; go_simp
          · exact ⟨_, 0, rfl, hB, Below.refl _ _, rfl, .inl rfl⟩
        | 13, _ =>
          have e18 : (fr [6, 7, 8, 9, 10, 11, 12, 13, 14, 15, 16, 17, 18, 19, 20, 21, 22, 23, 24, 25, 26, 27, 28, 29, 30, 31, 32, 33, 34] A t).eval (.tmp 18) = .pointer (some ⟨w.heap.size, 0, none⟩) := (fr_eval _ _ _ 18 rfl (by rw [asz]; decide)).trans (hp 12 (pre_mem (by kernel_rfl)))
          have hc := (hK wx hB).cell 0 rfl
          refine op_run (v := .int .i64 (H : Int)) (w' := wx) rfl rfl ?_ ?_
          · clear hp hd; have ec : ∀ v, (fr [6, 7, 8, 9, 10, 11, 12, 13, 14, 15, 16, 17, 18, 19, 20, 21, 22, 23, 24, 25, 26, 27, 28, 29, 30, 31, 32, 33, 34] A t).eval (.const v) = v := fun _ => rfl; generalize (fr [6, 7, 8, 9, 10, 11, 12, 13, 14, 15, 16, 17, 18, 19, 20, 21, 22, 23, 24, 25, 26, 27, 28, 29, 30, 31, 32, 33, 34] A t).eval = ev at ec e18 ⊢; go_simp
          · exact ⟨_, 0, rfl, hB, Below.refl _ _, rfl, .inl rfl⟩
        | 14, _ =>
          have e19 : (fr [6, 7, 8, 9, 10, 11, 12, 13, 14, 15, 16, 17, 18, 19, 20, 21, 22, 23, 24, 25, 26, 27, 28, 29, 30, 31, 32, 33, 34] A t).eval (.tmp 19) = .int .i64 (H : Int) := (fr_eval _ _ _ 19 rfl (by rw [asz]; decide)).trans (hp 13 (pre_mem (by kernel_rfl)))
          refine op_run (v := .int .i64 (m3 : Int)) (w' := wx) rfl rfl ?_ ?_
          · clear hp hd; have ec : ∀ v, (fr [6, 7, 8, 9, 10, 11, 12, 13, 14, 15, 16, 17, 18, 19, 20, 21, 22, 23, 24, 25, 26, 27, 28, 29, 30, 31, 32, 33, 34] A t).eval (.const v) = v := fun _ => rfl; generalize (fr [6, 7, 8, 9, 10, 11, 12, 13, 14, 15, 16, 17, 18, 19, 20, 21, 22, 23, 24, 25, 26, 27, 28, 29, 30, 31, 32, 33, 34] A t).eval = ev at ec e19 ⊢; go_simp
          · exact ⟨_, 0, rfl, hB, Below.refl _ _, rfl, .inl rfl⟩
        | 15, _ =>
          have e20 : (fr [6, 7, 8, 9, 10, 11, 12, 13, 14, 15, 16, 17, 18, 19, 20, 21, 22, 23, 24, 25, 26, 27, 28, 29, 30, 31, 32, 33, 34] A t).eval (.tmp 20) = .int .i64 (m3 : Int) := (fr_eval _ _ _ 20 rfl (by rw [asz]; decide)).trans (hp 14 (pre_mem (by kernel_rfl)))
          refine op_run (v := .int .i64 (n3 : Int)) (w' := wx) rfl rfl ?_ ?_
          · clear hp hd; have ec : ∀ v, (fr [6, 7, 8, 9, 10, 11, 12, 13, 14, 15, 16, 17, 18, 19, 20, 21, 22, 23, 24, 25, 26, 27, 28, 29, 30, 31, 32, 33, 34] A t).eval (.const v) = v := fun _ => rfl; generalize (fr [6, 7, 8, 9, 10, 11, 12, 13, 14, 15, 16, 17, 18, 19, 20, 21, 22, 23, 24, 25, 26, 27, 28, 29, 30, 31, 32, 33, 34] A t).eval = ev at ec e20 ⊢; go_simp
          · exact ⟨_, 0, rfl, hB, Below.refl _ _, rfl, .inl rfl⟩
        | 16, _ =>
          have e21 : (fr [6, 7, 8, 9, 10, 11, 12, 13, 14, 15, 16, 17, 18, 19, 20, 21, 22, 23, 24, 25, 26, 27, 28, 29, 30, 31, 32, 33, 34] A t).eval (.tmp 21) = .int .i64 (n3 : Int) := (fr_eval _ _ _ 21 rfl (by rw [asz]; decide)).trans (hp 15 (pre_mem (by kernel_rfl)))
          refine op_call (f := 39) (args := #[.int .i64 (n3 : Int)]) rfl rfl ?_ (C22.out wx) ?_
          · have ef : (fr [6, 7, 8, 9, 10, 11, 12, 13, 14, 15, 16, 17, 18, 19, 20, 21, 22, 23, 24, 25, 26, 27, 28, 29, 30, 31, 32, 33, 34] A t).eval (.func 39) = .func (.func 39) #[] #[] := rfl; clear hp hd; have ec : ∀ v, (fr [6, 7, 8, 9, 10, 11, 12, 13, 14, 15, 16, 17, 18, 19, 20, 21, 22, 23, 24, 25, 26, 27, 28, 29, 30, 31, 32, 33, 34] A t).eval (.const v) = v := fun _ => rfl; generalize (fr [6, 7, 8, 9, 10, 11, 12, 13, 14, 15, 16, 17, 18, 19, 20, 21, 22, 23, 24, 25, 26, 27, 28, 29, 30, 31, 32, 33, 34] A t).eval = ev at ec e21 ef ⊢; go_simp
          · rintro e wy ⟨rfl, b2⟩
            exact ⟨_, rfl, _, 0, rfl, hB.trans (b2.mono hB.size), b2, rfl, .inl rfl⟩
        | 17, _ =>
          have e17 : (fr [6, 7, 8, 9, 10, 11, 12, 13, 14, 15, 16, 17, 18, 19, 20, 21, 22, 23, 24, 25, 26, 27, 28, 29, 30, 31, 32, 33, 34] A t).eval (.tmp 17) = .string S17 := (fr_eval _ _ _ 17 rfl (by rw [asz]; decide)).trans (hp 11 (pre_mem (by kernel_rfl)))
          have hv16 := hp 16 (pre_mem (by kernel_rfl))
          have e22 : (fr [6, 7, 8, 9, 10, 11, 12, 13, 14, 15, 16, 17, 18, 19, 20, 21, 22, 23, 24, 25, 26, 27, 28, 29, 30, 31, 32, 33, 34] A t).eval (.tmp 22) = .string S22 := (fr_eval _ _ _ 22 rfl (by rw [asz]; decide)).trans hv16
          refine op_run (v := .string S23) (w' := wx) rfl rfl ?_ ?_
          · clear hp hd; have ec : ∀ v, (fr [6, 7, 8, 9, 10, 11, 12, 13, 14, 15, 16, 17, 18, 19, 20, 21, 22, 23, 24, 25, 26, 27, 28, 29, 30, 31, 32, 33, 34] A t).eval (.const v) = v := fun _ => rfl; generalize (fr [6, 7, 8, 9, 10, 11, 12, 13, 14, 15, 16, 17, 18, 19, 20, 21, 22, 23, 24, 25, 26, 27, 28, 29, 30, 31, 32, 33, 34] A t).eval = ev at ec e17 e22 ⊢; go_simp
          · exact ⟨_, 0, rfl, hB, Below.refl _ _, rfl, .inl rfl⟩
        | 18, _ =>
          have e23 : (fr [6, 7, 8, 9, 10, 11, 12, 13, 14, 15, 16, 17, 18, 19, 20, 21, 22, 23, 24, 25, 26, 27, 28, 29, 30, 31, 32, 33, 34] A t).eval (.tmp 23) = .string S23 := (fr_eval _ _ _ 23 rfl (by rw [asz]; decide)).trans (hp 17 (pre_mem (by kernel_rfl)))
          refine op_run (v := .string S24) (w' := wx) rfl rfl ?_ ?_
          · clear hp hd; have ec : ∀ v, (fr [6, 7, 8, 9, 10, 11, 12, 13, 14, 15, 16, 17, 18, 19, 20, 21, 22, 23, 24, 25, 26, 27, 28, 29, 30, 31, 32, 33, 34] A t).eval (.const v) = v := fun _ => rfl; generalize (fr [6, 7, 8, 9, 10, 11, 12, 13, 14, 15, 16, 17, 18, 19, 20, 21, 22, 23, 24, 25, 26, 27, 28, 29, 30, 31, 32, 33, 34] A t).eval = ev at ec e23 ⊢; go_simp
          · exact ⟨_, 0, rfl, hB, Below.refl _ _, rfl, .inl rfl⟩
        | 19, _ =>
          have e1 : (fr [6, 7, 8, 9, 10, 11, 12, 13, 14, 15, 16, 17, 18, 19, 20, 21, 22, 23, 24, 25, 26, 27, 28, 29, 30, 31, 32, 33, 34] A t).eval (.tmp 1) = .pointer (some ⟨w.heap.size, 0, none⟩) := (fr_eval_old _ _ _ 1 rfl).trans a1'
          refine op_run (v := .pointer (some ⟨w.heap.size, 0, none⟩)) (w' := wx) rfl rfl ?_ ?_
          · clear hp hd; have ec : ∀ v, (fr [6, 7, 8, 9, 10, 11, 12, 13, 14, 15, 16, 17, 18, 19, 20, 21, 22, 23, 24, 25, 26, 27, 28, 29, 30, 31, 32, 33, 34] A t).eval (.const v) = v := fun _ => rfl; generalize (fr [6, 7, 8, 9, 10, 11, 12, 13, 14, 15, 16, 17, 18, 19, 20, 21, 22, 23, 24, 25, 26, 27, 28, 29, 30, 31, 32, 33, 34] A t).eval = ev at ec e1 ⊢; go_simp
          · exact ⟨_, 0, rfl, hB, Below.refl _ _, rfl, .inl rfl⟩
        | 20, _ =>
          have e25 : (fr [6, 7, 8, 9, 10, 11, 12, 13, 14, 15, 16, 17, 18, 19, 20, 21, 22, 23, 24, 25, 26, 27, 28, 29, 30, 31, 32, 33, 34] A t).eval (.tmp 25) = .pointer (some ⟨w.heap.size, 0, none⟩) := (fr_eval _ _ _ 25 rfl (by rw [asz]; decide)).trans (hp 19 (pre_mem (by kernel_rfl)))
          have hc := (hK wx hB).cell 0 rfl
          refine op_run (v := .int .i64 (H : Int)) (w' := wx) rfl rfl ?_ ?_
          · clear hp hd; have ec : ∀ v, (fr [6, 7, 8, 9, 10, 11, 12, 13, 14, 15, 16, 17, 18, 19, 20, 21, 22, 23, 24, 25, 26, 27, 28, 29, 30, 31, 32, 33, 34] A t).eval (.const v) = v := fun _ => rfl; generalize (fr [6, 7, 8, 9, 10, 11, 12, 13, 14, 15, 16, 17, 18, 19, 20, 21, 22, 23, 24, 25, 26, 27, 28, 29, 30, 31, 32, 33, 34] A t).eval = ev at ec e25 ⊢; go_simp
          · exact ⟨_, 0, rfl, hB, Below.refl _ _, rfl, .inl rfl⟩
        | 21, _ =>
          have e26 : (fr [6, 7, 8, 9, 10, 11, 12, 13, 14, 15, 16, 17, 18, 19, 20, 21, 22, 23, 24, 25, 26, 27, 28, 29, 30, 31, 32, 33, 34] A t).eval (.tmp 26) = .int .i64 (H : Int) := (fr_eval _ _ _ 26 rfl (by rw [asz]; decide)).trans (hp 20 (pre_mem (by kernel_rfl)))
          refine op_run (v := .int .i64 (n4 : Int)) (w' := wx) rfl rfl ?_ ?_
          · clear hp hd; have ec : ∀ v, (fr [6, 7, 8, 9, 10, 11, 12, 13, 14, 15, 16, 17, 18, 19, 20, 21, 22, 23, 24, 25, 26, 27, 28, 29, 30, 31, 32, 33, 34] A t).eval (.const v) = v := fun _ => rfl; generalize (fr [6, 7, 8, 9, 10, 11, 12, 13, 14, 15, 16, 17, 18, 19, 20, 21, 22, 23, 24, 25, 26, 27, 28, 29, 30, 31, 32, 33, 34] A t).eval = ev at ec e26 ⊢; go_simp
          · exact ⟨_, 0, rfl, hB, Below.refl _ _, rfl, .inl rfl⟩
        | 22, _ =>
          have e27 : (fr [6, 7, 8, 9, 10, 11, 12, 13, 14, 15, 16, 17, 18, 19, 20, 21, 22, 23, 24, 25, 26, 27, 28, 29, 30, 31, 32, 33, 34] A t).eval (.tmp 27) = .int .i64 (n4 : Int) := (fr_eval _ _ _ 27 rfl (by rw [asz]; decide)).trans (hp 21 (pre_mem (by kernel_rfl)))
          refine op_call (f := 39) (args := #[.int .i64 (n4 : Int)]) rfl rfl ?_ (C28.out wx) ?_
          · have ef : (fr [6, 7, 8, 9, 10, 11, 12, 13, 14, 15, 16, 17, 18, 19, 20, 21, 22, 23, 24, 25, 26, 27, 28, 29, 30, 31, 32, 33, 34] A t).eval (.func 39) = .func (.func 39) #[] #[] := rfl; clear hp hd; have ec : ∀ v, (fr [6, 7, 8, 9, 10, 11, 12, 13, 14, 15, 16, 17, 18, 19, 20, 21, 22, 23, 24, 25, 26, 27, 28, 29, 30, 31, 32, 33, 34] A t).eval (.const v) = v := fun _ => rfl; generalize (fr [6, 7, 8, 9, 10, 11, 12, 13, 14, 15, 16, 17, 18, 19, 20, 21, 22, 23, 24, 25, 26, 27, 28, 29, 30, 31, 32, 33, 34] A t).eval = ev at ec e27 ef ⊢; go_simp
          · rintro e wy ⟨rfl, b2⟩
            exact ⟨_, rfl, _, 0, rfl, hB.trans (b2.mono hB.size), b2, rfl, .inl rfl⟩
        | 23, _ =>
          have e24 : (fr [6, 7, 8, 9, 10, 11, 12, 13, 14, 15, 16, 17, 18, 19, 20, 21, 22, 23, 24, 25, 26, 27, 28, 29, 30, 31, 32, 33, 34] A t).eval (.tmp 24) = .string S24 := (fr_eval _ _ _ 24 rfl (by rw [asz]; decide)).trans (hp 18 (pre_mem (by kernel_rfl)))
          have hv22 := hp 22 (pre_mem (by kernel_rfl))
          have e28 : (fr [6, 7, 8, 9, 10, 11, 12, 13, 14, 15, 16, 17, 18, 19, 20, 21, 22, 23, 24, 25, 26, 27, 28, 29, 30, 31, 32, 33, 34] A t).eval (.tmp 28) = .string S28 := (fr_eval _ _ _ 28 rfl (by rw [asz]; decide)).trans hv22
          refine op_run (v := .string S29) (w' := wx) rfl rfl ?_ ?_
          · clear hp hd; have ec : ∀ v, (fr [6, 7, 8, 9, 10, 11, 12, 13, 14, 15, 16, 17, 18, 19, 20, 21, 22, 23, 24, 25, 26, 27, 28, 29, 30, 31, 32, 33, 34] A t).eval (.const v) = v := fun _ => rfl; generalize (fr [6, 7, 8, 9, 10, 11, 12, 13, 14, 15, 16, 17, 18, 19, 20, 21, 22, 23, 24, 25, 26, 27, 28, 29, 30, 31, 32, 33, 34] A t).eval = ev at ec e24 e28 ⊢; go_simp
          · exact ⟨_, 0, rfl, hB, Below.refl _ _, rfl, .inl rfl⟩
        | 24, _ =>
          have e29 : (fr [6, 7, 8, 9, 10, 11, 12, 13, 14, 15, 16, 17, 18, 19, 20, 21, 22, 23, 24, 25, 26, 27, 28, 29, 30, 31, 32, 33, 34] A t).eval (.tmp 29) = .string S29 := (fr_eval _ _ _ 29 rfl (by rw [asz]; decide)).trans (hp 23 (pre_mem (by kernel_rfl)))
          refine op_run (v := .string S30) (w' := wx) rfl rfl ?_ ?_
          · clear hp hd; have ec : ∀ v, (fr [6, 7, 8, 9, 10, 11, 12, 13, 14, 15, 16, 17, 18, 19, 20, 21, 22, 23, 24, 25, 26, 27, 28, 29, 30, 31, 32, 33, 34] A t).eval (.const v) = v := fun _ => rfl; generalize (fr [6, 7, 8, 9, 10, 11, 12, 13, 14, 15, 16, 17, 18, 19, 20, 21, 22, 23, 24, 25, 26, 27, 28, 29, 30, 31, 32, 33, 34] A t).eval = ev at ec e29 ⊢; go_simp
          · exact ⟨_, 0, rfl, hB, Below.refl _ _, rfl, .inl rfl⟩
        | 25, _ =>
          have e1 : (fr [6, 7, 8, 9, 10, 11, 12, 13, 14, 15, 16, 17, 18, 19, 20, 21, 22, 23, 24, 25, 26, 27, 28, 29, 30, 31, 32, 33, 34] A t).eval (.tmp 1) = .pointer (some ⟨w.heap.size, 0, none⟩) := (fr_eval_old _ _ _ 1 rfl).trans a1'
          refine op_run (v := .pointer (some ⟨w.heap.size, 1, none⟩)) (w' := wx) rfl rfl ?_ ?_
          · clear hp hd; have ec : ∀ v, (fr [6, 7, 8, 9, 10, 11, 12, 13, 14, 15, 16, 17, 18, 19, 20, 21, 22, 23, 24, 25, 26, 27, 28, 29, 30, 31, 32, 33, 34] A t).eval (.const v) = v := fun _ => rfl; generalize (fr [6, 7, 8, 9, 10, 11, 12, 13, 14, 15, 16, 17, 18, 19, 20, 21, 22, 23, 24, 25, 26, 27, 28, 29, 30, 31, 32, 33, 34] A t).eval = ev at ec e1 ⊢; go_simp
          · exact ⟨_, 0, rfl, hB, Below.refl _ _, rfl, .inl rfl⟩
        | 26, _ =>
          have e31 : (fr [6, 7, 8, 9, 10, 11, 12, 13, 14, 15, 16, 17, 18, 19, 20, 21, 22, 23, 24, 25, 26, 27, 28, 29, 30, 31, 32, 33, 34] A t).eval (.tmp 31) = .pointer (some ⟨w.heap.size, 1, none⟩) := (fr_eval _ _ _ 31 rfl (by rw [asz]; decide)).trans (hp 25 (pre_mem (by kernel_rfl)))
          have hc := (hK wx hB).cell 1 rfl
          refine op_run (v := .int .i64 (p : Int)) (w' := wx) rfl rfl ?_ ?_
          · clear hp hd; have ec : ∀ v, (fr [6, 7, 8, 9, 10, 11, 12, 13, 14, 15, 16, 17, 18, 19, 20, 21, 22, 23, 24, 25, 26, 27, 28, 29, 30, 31, 32, 33, 34] A t).eval (.const v) = v := fun _ => rfl; generalize (fr [6, 7, 8, 9, 10, 11, 12, 13, 14, 15, 16, 17, 18, 19, 20, 21, 22, 23, 24, 25, 26, 27, 28, 29, 30, 31, 32, 33, 34] A t).eval = ev at ec e31 ⊢; go_simp
          · exact ⟨_, 0, rfl, hB, Below.refl _ _, rfl, .inl rfl⟩
        | 27, _ =>
          have e32 : (fr [6, 7, 8, 9, 10, 11, 12, 13, 14, 15, 16, 17, 18, 19, 20, 21, 22, 23, 24, 25, 26, 27, 28, 29, 30, 31, 32, 33, 34] A t).eval (.tmp 32) = .int .i64 (p : Int) := (fr_eval _ _ _ 32 rfl (by rw [asz]; decide)).trans (hp 26 (pre_mem (by kernel_rfl)))
          refine op_call (f := 39) (args := #[.int .i64 (p : Int)]) rfl rfl ?_ (C33.out wx) ?_
          · have ef : (fr [6, 7, 8, 9, 10, 11, 12, 13, 14, 15, 16, 17, 18, 19, 20, 21, 22, 23, 24, 25, 26, 27, 28, 29, 30, 31, 32, 33, 34] A t).eval (.func 39) = .func (.func 39) #[] #[] := rfl; clear hp hd; have ec : ∀ v, (fr [6, 7, 8, 9, 10, 11, 12, 13, 14, 15, 16, 17, 18, 19, 20, 21, 22, 23, 24, 25, 26, 27, 28, 29, 30, 31, 32, 33, 34] A t).eval (.const v) = v := fun _ => rfl; generalize (fr [6, 7, 8, 9, 10, 11, 12, 13, 14, 15, 16, 17, 18, 19, 20, 21, 22, 23, 24, 25, 26, 27, 28, 29, 30, 31, 32, 33, 34] A t).eval = ev at ec e32 ef ⊢; go_simp
          · rintro e wy ⟨rfl, b2⟩
            exact ⟨_, rfl, _, 0, rfl, hB.trans (b2.mono hB.size), b2, rfl, .inl rfl⟩
        | 28, _ =>
          have e30 : (fr [6, 7, 8, 9, 10, 11, 12, 13, 14, 15, 16, 17, 18, 19, 20, 21, 22, 23, 24, 25, 26, 27, 28, 29, 30, 31, 32, 33, 34] A t).eval (.tmp 30) = .string S30 := (fr_eval _ _ _ 30 rfl (by rw [asz]; decide)).trans (hp 24 (pre_mem (by kernel_rfl)))
          have hv27 := hp 27 (pre_mem (by kernel_rfl))
          have e33 : (fr [6, 7, 8, 9, 10, 11, 12, 13, 14, 15, 16, 17, 18, 19, 20, 21, 22, 23, 24, 25, 26, 27, 28, 29, 30, 31, 32, 33, 34] A t).eval (.tmp 33) = .string S33 := (fr_eval _ _ _ 33 rfl (by rw [asz]; decide)).trans hv27
          refine op_run (v := .string S34) (w' := wx) rfl rfl ?_ ?_
          · clear hp hd; have ec : ∀ v, (fr [6, 7, 8, 9, 10, 11, 12, 13, 14, 15, 16, 17, 18, 19, 20, 21, 22, 23, 24, 25, 26, 27, 28, 29, 30, 31, 32, 33, 34] A t).eval (.const v) = v := fun _ => rfl; generalize (fr [6, 7, 8, 9, 10, 11, 12, 13, 14, 15, 16, 17, 18, 19, 20, 21, 22, 23, 24, 25, 26, 27, 28, 29, 30, 31, 32, 33, 34] A t).eval = ev at ec e30 e33 ⊢; go_simp
          · exact ⟨_, 0, rfl, hB, Below.refl _ _, rfl, .inl rfl⟩
        | n + 29, hi => exact absurd hi (by omega)
      · intro t ρ wx hB hF hne
        have e34 : (fr [6, 7, 8, 9, 10, 11, 12, 13, 14, 15, 16, 17, 18, 19, 20, 21, 22, 23, 24, 25, 26, 27, 28, 29, 30, 31, 32, 33, 34] A t).eval (.tmp 34) = .string S34 := (fr_eval _ _ _ 34 rfl (by rw [asz]; decide)).trans (hF 28 (by decide))
        clear hne
        refine op_wp rfl rfl ?_
        generalize hE : (fr [6, 7, 8, 9, 10, 11, 12, 13, 14, 15, 16, 17, 18, 19, 20, 21, 22, 23, 24, 25, 26, 27, 28, 29, 30, 31, 32, 33, 34] A t).eval = ev at e34
        unfold Oper.wp
        rw [hE]
        go_simp
        refine hMet _ _ (Met.intro (hRJ _ _ ⟨_, t 6, t 7, t 8, t 9, t 10, t 11, t 12, t 13, t 14, t 15, t 16, t 17, t 18, t 19, t 20, t 21, t 22, t 23, t 24, t 25, t 26, t 27, t 28, t 29, t 30, t 31, t 32, t 33, t 34, ⟨rfl, hB⟩, ?_⟩))
        rw [← hA]; rfl
    case rest =>
      obtain ⟨rfl, b9⟩ := hcut
      have B9 : Hid (Below w.heap.size w wc) := B1.out.trans (b9.mono B1.out.size)
      clear b9
      go_wp2
      go_ret
      exact ⟨by rw [HTS.out]; rfl, B9.out⟩
end Go.Proofs.YticfgbfchpnpoaaDoor.AddrT
