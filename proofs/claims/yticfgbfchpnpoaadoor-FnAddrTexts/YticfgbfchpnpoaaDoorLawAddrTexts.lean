/-
  The walk of the law FnAddrTexts: at every code a text that is read as an address is that address's text, and near addresses are apart.
-/
import Derived.Test.YticfgbfchpnpoaaDoorAddrE
import Derived.Test.YticfgbfchpnpoaaDoorAddrK
import Derived.Test.YticfgbfchpnpoaaDoorDrawA
import Derived.Test.YticfgbfchpnpoaaDoorDrawS
import Derived.Test.YticfgbfchpnpoaaDoorBent
namespace Go.Proofs.YticfgbfchpnpoaaDoor.LawAddrTexts
open Go.RowKit Go.Proofs.YticfgbfchpnpoaaDoor.Mem Go.Proofs.YticfgbfchpnpoaaDoor.App Go.Proofs.YticfgbfchpnpoaaDoor.Blk Go.Proofs.YticfgbfchpnpoaaDoor.Str Go.Proofs.YticfgbfchpnpoaaDoor.AddrP Go.Proofs.YticfgbfchpnpoaaDoor.AddrS Go.Proofs.YticfgbfchpnpoaaDoor.AddrT Go.Proofs.YticfgbfchpnpoaaDoor.AddrR Go.Proofs.YticfgbfchpnpoaaDoor.AddrI Go.Proofs.YticfgbfchpnpoaaDoor.AddrJ Go.Proofs.YticfgbfchpnpoaaDoor.AddrK Go.Proofs.YticfgbfchpnpoaaDoor.Itoa Go.Proofs.YticfgbfchpnpoaaDoor.AddrE Go.Proofs.YticfgbfchpnpoaaDoor.DrawA Go.Proofs.YticfgbfchpnpoaaDoor.DrawS Go.Proofs.YticfgbfchpnpoaaDoor.Bent

theorem text_back {s : ByteArray} {x y : Int} (h : Reads (bs s) x y true) : strOfNums (addrI x y) = s := by
  rcases h with ⟨_, _, e⟩ | ⟨e, _⟩
  · rw [e]; exact str_bs s
  · cases e

set_option maxRecDepth 100000 in
set_option maxHeartbeats 4000000 in
theorem small (a : Option Addr) (len cap : Nat) (l : List Int) (w : World) (hT : Pow w) (hl : len = l.length) (hr : Rd w a l) (hb : Bytes l) (hlen : len ≤ 1048576) :
    Calls Tryd.prog 4 #[.slice a len cap] w fun e w' => e = .returned (.bool true) ∧ Below w.heap.size w w' := by
  have HT : Hid (Pow w) := hT
  clear hT
  have HR : Hid (Rd w a l) := hr
  have HL : Hid (len = l.length) := hl
  have HB : Hid (Bytes l) := hb
  clear hr hl hb
  go_enter Tryd.func4, Tryd.ntmps4
  go_wp2_with fail
  refine (bigNo a len cap w hlen).mono ?_
  rintro e w0 ⟨rfl, rfl⟩
  go_wp2_with fail
  refine (drawParseAddr a len cap l w HL.out HR.out HB.out hlen).mono ?_
  rintro e x1 ⟨s, rfl, hs, b1⟩
  have B1 : Hid (Below w.heap.size w x1) := b1
  have HS : Hid (s.size ≤ 1048576) := by show _ ≤ _; omega
  clear b1 hs
  go_wp2_with fail
  refine (implParseAddr s x1 (HT.out.later B1.out)).mono ?_
  rintro e x2 ⟨x, y, ok, rfl, hR, b2⟩
  have HP : Hid (Reads (bs s) x y ok) := hR
  obtain ⟨x3, hx3⟩ : ∃ x3, x2.alloc (.cells #[.int .i64 x, .int .i64 y] 25) = x3 := ⟨_, rfl⟩
  have HW3 : Hid (x2.alloc (.cells #[.int .i64 x, .int .i64 y] 25) = x3) := hx3
  have b2' : Hid (Below x1.heap.size x1 x3) := by rw [← hx3]; exact b2.alloc b2.size _
  have B3 : Hid (Below w.heap.size w x3) := B1.out.trans (b2'.out.mono B1.out.size)
  have K3 : Hid (Blk x3 x2.heap.size 25 [.int .i64 x, .int .i64 y]) := by rw [← hx3]; exact Blk.new x2 _ _
  clear hx3 b2 b2' B1 hR
  unfold addrV
  go_wp2_with fail
  rw [HW3.out]
  generalize x2.heap.size = g2 at *
  clear HW3
  refine (specParseAddr s x3 HS.out).mono ?_
  rintro e x4 ⟨x', y', ok', rfl, hR, b4⟩
  obtain ⟨h1, h2, h3⟩ : x = x' ∧ y = y' ∧ ok = ok' := AddrP.Reads.unique HP.out hR
  subst h1 h2 h3
  obtain ⟨x5, hx5⟩ : ∃ x5, x4.alloc (.cells #[.int .i64 x, .int .i64 y] 25) = x5 := ⟨_, rfl⟩
  have HW5 : Hid (x4.alloc (.cells #[.int .i64 x, .int .i64 y] 25) = x5) := hx5
  have b4' : Hid (Below x3.heap.size x3 x5) := by rw [← hx5]; exact b4.alloc b4.size _
  have B5 : Hid (Below w.heap.size w x5) := B3.out.trans (b4'.out.mono B3.out.size)
  have K5 : Hid (Blk x5 g2 25 [.int .i64 x, .int .i64 y]) := K3.out.later b4'.out
  have L5 : Hid (Blk x5 x4.heap.size 25 [.int .i64 x, .int .i64 y]) := by rw [← hx5]; exact Blk.new x4 _ _
  clear hx5 b4 b4' B3 K3 hR
  unfold addrV
  go_wp2_with fail
  rw [HW5.out]
  generalize x4.heap.size = g4 at *
  clear HW5
  refine (atN a len cap l 2 x5 HL.out (HR.out.later B5.out (Nat.le_refl _)) HB.out hlen (by omega)).mono ?_
  rintro e x6 ⟨i, rfl, i0, i1, rfl⟩
  go_wp2_with fail
  refine (atN a len cap l 3 x5 HL.out (HR.out.later B5.out (Nat.le_refl _)) HB.out hlen (by omega)).mono ?_
  rintro e x6 ⟨k, rfl, k0, k1, rfl⟩
  have c0 := K5.out.cell 0 rfl
  have c1 := K5.out.cell 1 rfl
  have d0 := L5.out.cell 0 rfl
  have d1 := L5.out.cell 1 rfl
  have hq := eqPair x y x y
  have HNI : Hid ((if 0 ≤ i ∧ i ≤ 255 then addrV (167772160 + i) (7000 + i) else addrV 0 0) = addrV (167772160 + i) (7000 + i)) := if_pos ⟨i0, i1⟩
  have HNK : Hid ((if 0 ≤ k ∧ k ≤ 255 then addrV (167772160 + k) (7000 + k) else addrV 0 0) = addrV (167772160 + k) (7000 + k)) := if_pos ⟨k0, k1⟩
  have hqn := eqPair (167772160 + i) (7000 + i) (167772160 + k) (7000 + k)
  have HOK : Hid (addrOk (167772160 + i) (7000 + i) = true) := (addrOk_iff _ _).2 ⟨by omega, by omega, by omega, by omega⟩
  clear HR HB HL
  cases ok with
  | true =>
    have HTX : Hid (strOfNums (addrI x y) = s) := text_back HP.out
    have hss : (s.toList == s.toList) = true := by simp
    go_wp2_with fail
    refine (implAddrText x y x5 (HT.out.later B5.out)).mono ?_
    rw [HTX.out]
    rintro e x7 ⟨rfl, b7⟩
    have B7 : Hid (Below w.heap.size w x7) := B5.out.trans (b7.mono B5.out.size)
    clear b7 B5 K5 L5 c0 c1 d0 d1
    go_wp2_with fail
    refine (implNear i x7).mono ?_
    rw [HNI.out]
    rintro e x8 ⟨rfl, b8⟩
    have B8 : Hid (Below w.heap.size w x8) := B7.out.trans (b8.mono B7.out.size)
    clear b8
    go_wp2_with fail
    refine (implNear k x8).mono ?_
    rw [HNK.out]
    rintro e x9 ⟨rfl, b9⟩
    have B9 : Hid (Below w.heap.size w x9) := B8.out.trans (b9.mono B8.out.size)
    clear b9
    unfold addrV
    by_cases hik : i = k
    · have HIK : Hid (i = k) := hik
      have h1 : (167772160 + i == 167772160 + k && 7000 + i == 7000 + k) = true := by rw [hik]; simp
      have h2 : (i == k) = true := by rw [hik]; simp
      rw [h1] at hqn
      clear hik
      go_wp2_with fail
      refine (implNear i x9).mono ?_
      rw [HNI.out]
      rintro e x10 ⟨rfl, b10⟩
      have B10 : Hid (Below w.heap.size w x10) := B9.out.trans (b10.mono B9.out.size)
      clear b10
      go_wp2_with fail
      refine (implAddrOk _ _ x10).mono ?_
      rw [HOK.out]
      rintro e x11 ⟨rfl, b11⟩
      have B11 : Hid (Below w.heap.size w x11) := B10.out.trans (b11.mono B10.out.size)
      clear b11
      go_wp2
      go_ret
      exact ⟨rfl, B11.out⟩
    · have h1 : (167772160 + i == 167772160 + k && 7000 + i == 7000 + k) = false := by
        have : ¬ (167772160 + i = 167772160 + k) := by omega
        simp [this]
      have h2 : (i == k) = false := by simp [hik]
      rw [h1] at hqn
      clear hik
      go_wp2_with fail
      refine (implNear i x9).mono ?_
      rw [HNI.out]
      rintro e x10 ⟨rfl, b10⟩
      have B10 : Hid (Below w.heap.size w x10) := B9.out.trans (b10.mono B9.out.size)
      clear b10
      go_wp2_with fail
      refine (implAddrOk _ _ x10).mono ?_
      rw [HOK.out]
      rintro e x11 ⟨rfl, b11⟩
      have B11 : Hid (Below w.heap.size w x11) := B10.out.trans (b11.mono B10.out.size)
      clear b11
      go_wp2
      go_ret
      exact ⟨rfl, B11.out⟩
  | false =>
    go_wp2_with fail
    clear K5 L5 c0 c1 d0 d1
    refine (implNear i x5).mono ?_
    rw [HNI.out]
    rintro e x8 ⟨rfl, b8⟩
    have B8 : Hid (Below w.heap.size w x8) := B5.out.trans (b8.mono B5.out.size)
    clear b8
    go_wp2_with fail
    refine (implNear k x8).mono ?_
    rw [HNK.out]
    rintro e x9 ⟨rfl, b9⟩
    have B9 : Hid (Below w.heap.size w x9) := B8.out.trans (b9.mono B8.out.size)
    clear b9
    unfold addrV
    by_cases hik : i = k
    · have HIK : Hid (i = k) := hik
      have h1 : (167772160 + i == 167772160 + k && 7000 + i == 7000 + k) = true := by rw [hik]; simp
      have h2 : (i == k) = true := by rw [hik]; simp
      rw [h1] at hqn
      clear hik
      go_wp2_with fail
      refine (implNear i x9).mono ?_
      rw [HNI.out]
      rintro e x10 ⟨rfl, b10⟩
      have B10 : Hid (Below w.heap.size w x10) := B9.out.trans (b10.mono B9.out.size)
      clear b10
      go_wp2_with fail
      refine (implAddrOk _ _ x10).mono ?_
      rw [HOK.out]
      rintro e x11 ⟨rfl, b11⟩
      have B11 : Hid (Below w.heap.size w x11) := B10.out.trans (b11.mono B10.out.size)
      clear b11
      go_wp2
      go_ret
      exact ⟨rfl, B11.out⟩
    · have h1 : (167772160 + i == 167772160 + k && 7000 + i == 7000 + k) = false := by
        have : ¬ (167772160 + i = 167772160 + k) := by omega
        simp [this]
      have h2 : (i == k) = false := by simp [hik]
      rw [h1] at hqn
      clear hik
      go_wp2_with fail
      refine (implNear i x9).mono ?_
      rw [HNI.out]
      rintro e x10 ⟨rfl, b10⟩
      have B10 : Hid (Below w.heap.size w x10) := B9.out.trans (b10.mono B9.out.size)
      clear b10
      go_wp2_with fail
      refine (implAddrOk _ _ x10).mono ?_
      rw [HOK.out]
      rintro e x11 ⟨rfl, b11⟩
      have B11 : Hid (Below w.heap.size w x11) := B10.out.trans (b11.mono B10.out.size)
      clear b11
      go_wp2
      go_ret
      exact ⟨rfl, B11.out⟩

theorem walk (a : Option Addr) (len cap : Nat) (zs : List Int) (w : World) (hT : Pow w) (h : IsRow .u8 w a len cap zs) :
    Calls Tryd.prog 4 #[.slice a len cap] w fun e w' => e = .returned (.bool true) ∧ Below w.heap.size w w' := by
  obtain ⟨l, h1, h2, _, h4⟩ := h.read
  by_cases hl : len ≤ 1048576
  · exact small a len cap l w hT h1 h2 h4 hl
  · clear h h1 h2 h4
    go_enter Tryd.func4, Tryd.ntmps4
    go_wp2_with fail
    refine (bigYes a len cap w (by omega)).mono ?_
    rintro e w0 ⟨rfl, rfl⟩
    go_wp2
    go_ret
    exact ⟨rfl, Below.refl _ _⟩
end Go.Proofs.YticfgbfchpnpoaaDoor.LawAddrTexts
