/-
  What the laws' own 'at' and 'bent' hand back: a byte's number; a copy in new memory, of which one byte is turned.
  What the laws' own tests of bytes answer of any two slices.
  The walk of the law FnKeys: at every code the key of an epoch is what the one ahead leads to, and the first is of the root; where the table of round words is as the text lays it.
-/
import Derived.Test.YtpenhliaelhnoaaDoorGd11
import Derived.Test.YtpenhliaelhnoaaDoorGd6
import Derived.Deep.CutBlock
import Derived.Deep.RegionWith
import Derived.Test.YtpenhliaelhnoaaDoorFrE
import Derived.Test.YtpenhliaelhnoaaDoorGd3
import Derived.Test.YtpenhliaelhnoaaDoorGd10
import Derived.Test.YtpenhliaelhnoaaDoorKeT
set_option linter.unusedVariables false
namespace Go.Proofs.YtpenhliaelhnoaaDoor.Bent
open Go.RowKit Go.Proofs.YtpenhliaelhnoaaDoor.Mem Go.Proofs.YtpenhliaelhnoaaDoor.App Go.Proofs.YtpenhliaelhnoaaDoor.AppAt Go.Proofs.YtpenhliaelhnoaaDoor.DiffP

set_option maxRecDepth 100000 in
theorem row_set {w : World} {g c : Nat} {l : List Int} (h : Row w g c l) (k : Nat) (z : Int) : Row (w.setCell ⟨g, k, none⟩ (.int .u8 z)) g c (l.set k z) ∧ w.grownBy (w.setCell ⟨g, k, none⟩ (.int .u8 z)) (some g) := by
  have hst := (h.owns (Nat.le_refl g)).stored k (.int .u8 z)
  rw [← List.map_set] at hst
  refine ⟨?_, hst.2⟩
  have e : l.length = (l.set k z).length := by simp
  have := hst.1
  rw [e] at this
  exact (Row.of (l := l.set k z) (n := (l.set k z).length) this).1
set_option maxRecDepth 100000 in
theorem xor_ne (z d : Int) (h1 : 0 ≤ z) (h2 : z ≤ 255) (h3 : 1 ≤ d) (h4 : d ≤ 255) : bits .xor .u8 z d ≠ z := by
  rw [u8_xor z d h1 (by omega) (by omega) (by omega)]
  intro h
  have h5 : z.toNat ^^^ d.toNat = z.toNat := by omega
  have h6 := congrArg (fun x => z.toNat ^^^ x) h5
  simp only [← Nat.xor_assoc, Nat.xor_self, Nat.zero_xor] at h6
  omega
set_option maxRecDepth 100000 in
theorem set_ne (l : List Int) (p : Nat) (v : Int) (hp : p < l.length) (h : v ≠ l.getD p 0) : l.set p v ≠ l := by
  intro e
  apply h
  have : (l.set p v).getD p 0 = v := by simp [List.getD, hp]
  rw [← this, e]
set_option maxRecDepth 100000 in
theorem set_bytes {l : List Int} (h : Bytes l) (p : Nat) (v : Int) (h0 : 0 ≤ v) (h1 : v ≤ 255) : Bytes (l.set p v) := by
  intro z hz
  rcases List.mem_or_eq_of_mem_set hz with h' | rfl
  · exact h z h'
  · exact ⟨h0, h1⟩

end Go.Proofs.YtpenhliaelhnoaaDoor.Bent

namespace Go.Proofs.YtpenhliaelhnoaaDoor.SameV
open Go.RowKit Go.Proofs.YtpenhliaelhnoaaDoor.Mem Go.Proofs.YtpenhliaelhnoaaDoor.Blk Go.Proofs.YtpenhliaelhnoaaDoor.Zone Go.Proofs.YtpenhliaelhnoaaDoor.FrE Go.Proofs.YtpenhliaelhnoaaDoor.Same

set_option maxRecDepth 100000 in
theorem same_raw (s t : Sl) (x y : List Int) (w : World) (h : SRd w s x) (k : SRd w t y) :
    Calls Tryd.prog 12 #[.slice s.a s.n s.c, .slice t.a t.n t.c] w fun e w' => e = .returned (.bool (decide (x = y))) ∧ w = w' := by
  have cv1 := convS h
  have cv2 := convS k
  have HD : Hid (decide (x = y) = ((strOfNums x).toList == (strOfNums y).toList)) := by
    show _ = _
    rw [Lib.strOfNums_toList, Lib.strOfNums_toList]
    by_cases e : x = y
    · subst e; simp
    · have : ¬ Lib.bytesOf x = Lib.bytesOf y := fun q => e (nums_inj h.bytes k.bytes (by unfold strOfNums; rw [show (x.map fun n => UInt8.ofNat n.toNat) = (y.map fun n => UInt8.ofNat n.toNat) from q]))
      simp [e, this]
  clear h k
  generalize strOfNums x = sx at *
  generalize strOfNums y = sy at *
  go_enter Tryd.func12, Tryd.ntmps12
  go_wp2
  go_ret
  exact ⟨by rw [HD.out]; rfl, rfl⟩
set_option maxRecDepth 100000 in
/-- Whether two slices are the same, v. -/
theorem sameV (s t : Sl) (x y : List Int) (v : Bool) (w : World) (h : SRd w s x) (k : SRd w t y) (hv : decide (x = y) = v) :
    Calls Tryd.prog 12 #[.slice s.a s.n s.c, .slice t.a t.n t.c] w fun e w' => e = .returned (.bool v) ∧ w = w' := by
  subst hv; exact same_raw s t x y w h k
set_option maxRecDepth 100000 in
theorem yes {x y : List Int} (h : x = y) : decide (x = y) = true := decide_eq_true h
set_option maxRecDepth 100000 in
theorem no {x y : List Int} (h : x ≠ y) : decide (x = y) = false := decide_eq_false h

set_option maxRecDepth 100000 in
theorem cut_from {w : World} {g o m c k : Nat} {l : List Int} (h : SRd w ⟨some ⟨g, o, none⟩, m, c⟩ l) (hk : k ≤ m) : SRd w ⟨some ⟨g, o + k, none⟩, m - k, c - k⟩ (l.drop k) := by
  have hm : m = l.length := h.len
  have hc : m ≤ c := h.cap
  refine ⟨?_, ?_, (fun e => by cases e), by show m - k ≤ c - k; omega, fun z hz => h.bytes z (List.mem_of_mem_drop hz)⟩
  · show m - k = (l.drop k).length
    rw [List.length_drop]; omega
  · intro i hi
    rw [List.length_drop] at hi
    obtain ⟨b, off, e, h1, h2⟩ := h.rd (k + i) (by omega)
    simp only [Option.some.injEq, Addr.mk.injEq, and_true] at e
    obtain ⟨rfl, rfl⟩ := e
    refine ⟨g, o + k, rfl, h1, ?_⟩
    rw [show o + k + i = o + (k + i) by omega, h2]
    simp [List.getD]
end Go.Proofs.YtpenhliaelhnoaaDoor.SameV

namespace Go.Proofs.YtpenhliaelhnoaaDoor.LawKeys
open Go.RowKit Go.Proofs.YtpenhliaelhnoaaDoor.Mem Go.Proofs.YtpenhliaelhnoaaDoor.App Go.Proofs.YtpenhliaelhnoaaDoor.Blk Go.Proofs.YtpenhliaelhnoaaDoor.Draw Go.Proofs.YtpenhliaelhnoaaDoor.Zone Go.Proofs.YtpenhliaelhnoaaDoor.Res Go.Proofs.YtpenhliaelhnoaaDoor.Comp Go.Proofs.YtpenhliaelhnoaaDoor.KdfP Go.Proofs.YtpenhliaelhnoaaDoor.Str Go.Proofs.YtpenhliaelhnoaaDoor.KeP Go.Proofs.YtpenhliaelhnoaaDoor.KeQ Go.Proofs.YtpenhliaelhnoaaDoor.DrKe Go.Proofs.YtpenhliaelhnoaaDoor.Shp

set_option maxRecDepth 100000 in
theorem chnI_zero (k : List Int) : chnI k 0 = k := rfl
set_option maxRecDepth 100000 in
theorem chnI_out {k : List Int} {n : Int} (h : ¬ (0 ≤ n ∧ n ≤ 64)) : chnI k n = [] := by unfold chnI; rw [if_neg h]
set_option maxRecDepth 100000 in
theorem chnI_succ {k : List Int} {n : Int} (h0 : 1 ≤ n) (h1 : n ≤ 64) : chnI k n = derI (chnI k (n - 1)) (bs ⟨#[114, 101, 107, 101, 121]⟩) := by
  obtain ⟨q, rfl⟩ : ∃ q : Nat, n = (q : Int) + 1 := ⟨(n - 1).toNat, by omega⟩
  unfold chnI
  rw [if_pos (by omega), if_pos (by omega), show ((q : Int) + 1).toNat = q + 1 by omega, show ((q : Int) + 1 - 1).toNat = q by omega]
  rfl
set_option maxRecDepth 100000 in
theorem bigNo (a : Option Addr) (len cap : Nat) (w : World) (h : len ≤ 1048576) :
    Calls Tryd.prog 9 #[.slice a len cap] w fun e w' => e = .returned (.bool false) ∧ w = w' := by
  have h' : ¬ ((1048576 : Int) < (len : Int)) := by omega
  go_enter Tryd.func9, Tryd.ntmps9
  go_wp2
  go_ret
  exact ⟨rfl, rfl⟩
set_option maxRecDepth 100000 in
theorem bigYes (a : Option Addr) (len cap : Nat) (w : World) (h : 1048576 < len) :
    Calls Tryd.prog 9 #[.slice a len cap] w fun e w' => e = .returned (.bool true) ∧ w = w' := by
  have h' : (1048576 : Int) < (len : Int) := by omega
  go_enter Tryd.func9, Tryd.ntmps9
  go_wp2
  go_ret
  exact ⟨rfl, rfl⟩
set_option maxRecDepth 100000 in
set_option maxHeartbeats 16000000 in
theorem small (a : Option Addr) (len cap : Nat) (l : List Int) (w : World) (hT : Tab w) (hl : len = l.length) (hr : Rd w a l) (hb : Bytes l) (hlen : len ≤ 1048576) :
    Calls Tryd.prog 3 #[.slice a len cap] w fun e w' => e = .returned (.bool true) ∧ Below w.heap.size w w' := by
  have HR : Hid (Rd w a l) := hr
  have HL : Hid (len = l.length) := hl
  have HB : Hid (Bytes l) := hb
  clear hr hl hb
  have HT : Hid (Tab w) := hT
  clear hT
  have B0 : Hid (Below w.heap.size w w) := Below.refl _ _
  go_enter Tryd.func3, Tryd.ntmps3
  go_wp2_with fail
  refine (bigNo a len cap w hlen).mono ?_
  rintro e w0 ⟨rfl, rfl⟩
  go_wp2_with fail
  refine (drawEpochKey a len cap l w HL.out (HR.out.later B0.out (Nat.le_refl _)) HB.out hlen).mono ?_
  rintro e x1 ⟨P, lp, C, cn, N, sn, n, rfl, hn, op, oc, on, b⟩
  have L1 : Hid (w.heap.size ≤ x1.heap.size) := b.size
  have B1 : Hid (Below w.heap.size w x1) := B0.out.trans (b.mono B0.out.size)
  clear b B0
  have HN : Hid (-1 ≤ n ∧ n ≤ 65) := hn
  clear hn
  have OP1 : Hid (SRd x1 P lp) := op
  have OC1 : Hid (SRd x1 C cn) := oc
  have ON1 : Hid (SRd x1 N sn) := on
  clear op oc on
  obtain ⟨K, hK⟩ : ∃ z : List Int, epochK lp cn sn n = z := ⟨_, rfl⟩
  have HK : Hid (epochK lp cn sn n = K) := hK
  clear hK
  obtain ⟨F, hF⟩ : ∃ z : List Int, firstK (rootK lp cn sn) = z := ⟨_, rfl⟩
  have HF : Hid (firstK (rootK lp cn sn) = F) := hF
  clear hF
  go_wp2_with fail
  refine (KeJ.implEpochKey P C N lp cn sn n x1 (HT.out.later B1.out) OP1.out OC1.out ON1.out).mono ?_
  unfold AnsB
  rw [HK.out]
  rintro e x2 ⟨U, rfl, o, b⟩
  have L2 : Hid (x1.heap.size ≤ x2.heap.size) := b.size
  have B2 : Hid (Below w.heap.size w x2) := B1.out.trans (b.mono B1.out.size)
  have OP2 : Hid (SRd x2 P lp) := OP1.out.later b
  have OC2 : Hid (SRd x2 C cn) := OC1.out.later b
  have ON2 : Hid (SRd x2 N sn) := ON1.out.later b
  clear b B1 OP1 OC1 ON1
  have OU2 : Hid (SRd x2 U K) := o.rd
  clear o
  go_wp2_with fail
  refine (KeT.specEpochKey P C N lp cn sn n x2 OP2.out OC2.out ON2.out).mono ?_
  unfold AnsB
  rw [HK.out]
  rintro e x3 ⟨V, rfl, o, b⟩
  have L3 : Hid (x2.heap.size ≤ x3.heap.size) := b.size
  have B3 : Hid (Below w.heap.size w x3) := B2.out.trans (b.mono B2.out.size)
  have OP3 : Hid (SRd x3 P lp) := OP2.out.later b
  have OC3 : Hid (SRd x3 C cn) := OC2.out.later b
  have ON3 : Hid (SRd x3 N sn) := ON2.out.later b
  have OU3 : Hid (SRd x3 U K) := OU2.out.later b
  clear b B2 OP2 OC2 ON2 OU2
  have OV3 : Hid (SRd x3 V K) := o.rd
  clear o
  go_wp2_with fail
  refine (SameV.sameV U V K K true x3 OU3.out OV3.out (decide_eq_true rfl)).mono ?_
  rintro e y ⟨rfl, rfl⟩
  clear OV3
  go_wp2_with fail
  refine (KeJ.implRootKey P C N lp cn sn x3 (HT.out.later B3.out) OP3.out OC3.out ON3.out).mono ?_
  unfold AnsB
  rintro e x4 ⟨RT, rfl, o, b⟩
  have L4 : Hid (x3.heap.size ≤ x4.heap.size) := b.size
  have B4 : Hid (Below w.heap.size w x4) := B3.out.trans (b.mono B3.out.size)
  have OP4 : Hid (SRd x4 P lp) := OP3.out.later b
  have OC4 : Hid (SRd x4 C cn) := OC3.out.later b
  have ON4 : Hid (SRd x4 N sn) := ON3.out.later b
  have OU4 : Hid (SRd x4 U K) := OU3.out.later b
  clear b B3 OP3 OC3 ON3 OU3
  have ORT4 : Hid (SRd x4 RT (rootK lp cn sn)) := o.rd
  clear o
  go_wp2_with fail
  refine (KeJ.implFirstKey RT (rootK lp cn sn) x4 (HT.out.later B4.out) ORT4.out).mono ?_
  unfold AnsB
  rw [HF.out]
  rintro e x5 ⟨FT, rfl, o, b⟩
  have L5 : Hid (x4.heap.size ≤ x5.heap.size) := b.size
  have B5 : Hid (Below w.heap.size w x5) := B4.out.trans (b.mono B4.out.size)
  have OP5 : Hid (SRd x5 P lp) := OP4.out.later b
  have OC5 : Hid (SRd x5 C cn) := OC4.out.later b
  have ON5 : Hid (SRd x5 N sn) := ON4.out.later b
  have OU5 : Hid (SRd x5 U K) := OU4.out.later b
  have ORT5 : Hid (SRd x5 RT (rootK lp cn sn)) := ORT4.out.later b
  clear b B4 OP4 OC4 ON4 OU4 ORT4
  have OFT5 : Hid (SRd x5 FT F) := o.rd
  clear o
  clear ORT5
  have HUN : Hid (U.n = K.length) := OU5.out.len
  have HFN : Hid (FT.n = F.length) := OFT5.out.len
  have HCN : Hid (C.n = cn.length ∧ N.n = sn.length) := ⟨OC5.out.len, ON5.out.len⟩
  go_wp2_with fail
  refine (KeI.implPskOk P lp x5 OP5.out).mono ?_
  rintro e y ⟨rfl, rfl⟩
  cases h0 : (pskOk lp.length) with
  | false =>
    have HRF : Hid (rootF lp.length cn.length sn.length = false) := by have e := HCN.out; show rootF _ _ _ = false; unfold rootF; rw [← e.1, ← e.2]; simp [h0]
    have HFE : Hid (F = []) := by show _ = _; rw [← HF.out, rootK_no HRF.out]; rfl
    have HKE : Hid (K = []) := by show _ = _; rw [← HK.out]; exact epochK_no (by rw [HF.out]; exact HFE.out)
    have z1 : ((U.n : Int) == 0) = true := by rw [HUN.out, HKE.out]; rfl
    have z2 : ((FT.n : Int) == 0) = true := by rw [HFN.out, HFE.out]; rfl
    go_wp2
    go_ret
    exact ⟨rfl, B5.out⟩
  | true =>
    cases h1 : ((C.n : Int) == 12) with
    | false =>
      have hne : ((C.n : Int) != 12) = true := by simpa using h1
      have HRF : Hid (rootF lp.length cn.length sn.length = false) := by have e := HCN.out; show rootF _ _ _ = false; unfold rootF; rw [← e.1, ← e.2]; simp [h0, h1]
      have HFE : Hid (F = []) := by show _ = _; rw [← HF.out, rootK_no HRF.out]; rfl
      have HKE : Hid (K = []) := by show _ = _; rw [← HK.out]; exact epochK_no (by rw [HF.out]; exact HFE.out)
      have z1 : ((U.n : Int) == 0) = true := by rw [HUN.out, HKE.out]; rfl
      have z2 : ((FT.n : Int) == 0) = true := by rw [HFN.out, HFE.out]; rfl
      go_wp2
      go_ret
      exact ⟨rfl, B5.out⟩
    | true =>
      have hne1 : ((C.n : Int) != 12) = false := by simpa using h1
      cases h2 : ((N.n : Int) == 12) with
      | false =>
        have hne : ((N.n : Int) != 12) = true := by simpa using h2
        have HRF : Hid (rootF lp.length cn.length sn.length = false) := by have e := HCN.out; show rootF _ _ _ = false; unfold rootF; rw [← e.1, ← e.2]; simp [h0, h1, h2]
        have HFE : Hid (F = []) := by show _ = _; rw [← HF.out, rootK_no HRF.out]; rfl
        have HKE : Hid (K = []) := by show _ = _; rw [← HK.out]; exact epochK_no (by rw [HF.out]; exact HFE.out)
        have z1 : ((U.n : Int) == 0) = true := by rw [HUN.out, HKE.out]; rfl
        have z2 : ((FT.n : Int) == 0) = true := by rw [HFN.out, HFE.out]; rfl
        go_wp2
        go_ret
        exact ⟨rfl, B5.out⟩
      | true =>
        have hne2 : ((N.n : Int) != 12) = false := by simpa using h2
        have HRF : Hid (rootF lp.length cn.length sn.length = true) := by have e := HCN.out; show rootF _ _ _ = true; unfold rootF; rw [← e.1, ← e.2]; simp [h0, h1, h2]
        have HFL : Hid (F.length = 32) := by show _ = _; rw [← HF.out]; exact firstK_len (by rw [rootK_len HRF.out]; rfl)
        have HCH : ∀ m : Int, epochK lp cn sn m = chnI F m := fun m => by rw [epochK_yes (by rw [HF.out, HFL.out]; decide), HF.out]
        have z3 : ((FT.n : Int) != 32) = false := by rw [HFN.out, HFL.out]; rfl
        have HKC : Hid (chnI F n = K) := by show _ = _; rw [← HCH n]; exact HK.out
        clear h0 h1 h2
        go_wp2_with fail
        refine (KeJ.implEpochKey P C N lp cn sn 0 x5 (HT.out.later B5.out) OP5.out OC5.out ON5.out).mono ?_
        unfold AnsB
        rw [HCH 0, chnI_zero]
        rintro e x6 ⟨V, rfl, o, b⟩
        have L6 : Hid (x5.heap.size ≤ x6.heap.size) := b.size
        have B6 : Hid (Below w.heap.size w x6) := B5.out.trans (b.mono B5.out.size)
        have OP6 : Hid (SRd x6 P lp) := OP5.out.later b
        have OC6 : Hid (SRd x6 C cn) := OC5.out.later b
        have ON6 : Hid (SRd x6 N sn) := ON5.out.later b
        have OU6 : Hid (SRd x6 U K) := OU5.out.later b
        have OFT6 : Hid (SRd x6 FT F) := OFT5.out.later b
        clear b B5 OP5 OC5 ON5 OU5 OFT5
        have OV6 : Hid (SRd x6 V F) := o.rd
        clear o
        go_wp2_with fail
        refine (SameV.sameV V FT F F true x6 OV6.out OFT6.out (decide_eq_true rfl)).mono ?_
        rintro e y ⟨rfl, rfl⟩
        clear OV6
        by_cases hlo : n < 1
        case pos =>
          by_cases hz : n = 0
          case pos =>
            subst hz
            have HKF : Hid (K = F) := by show _ = _; rw [← HKC.out, chnI_zero]
            have z4 : ((U.n : Int) == 0) = false := by rw [HUN.out, HKF.out, HFL.out]; rfl
            go_wp2_with fail
            refine (SameV.sameV U FT K F true x6 OU6.out OFT6.out (decide_eq_true HKF.out)).mono ?_
            rintro e y ⟨rfl, rfl⟩
            go_wp2
            go_ret
            exact ⟨rfl, B6.out⟩
          case neg =>
            have HKE : Hid (K = []) := by show _ = _; rw [← HKC.out]; exact chnI_out (by omega)
            have z4 : ((U.n : Int) == 0) = true := by rw [HUN.out, HKE.out]; rfl
            go_wp2
            go_ret
            exact ⟨rfl, B6.out⟩
        case neg =>
          by_cases hhi : n > 64
          case pos =>
            have HKE : Hid (K = []) := by show _ = _; rw [← HKC.out]; exact chnI_out (by omega)
            have z4 : ((U.n : Int) == 0) = true := by rw [HUN.out, HKE.out]; rfl
            go_wp2
            go_ret
            exact ⟨rfl, B6.out⟩
          case neg =>
            have hw : IntKind.i64.wrap (n - 1) = n - 1 := by have := HN.out; rw [IntKind.wrap_i64]; omega
            have HSU : Hid (derI (chnI F (n - 1)) (bs ⟨#[114, 101, 107, 101, 121]⟩) = K) := by show _ = _; rw [← HKC.out]; exact (chnI_succ (by omega) (by omega)).symm
            have HGL : Hid ((chnI F (n - 1)).length ≤ 32) := by show _ ≤ _; have := chnI_most F (n - 1); have := HFL.out; omega
            have HGB : Hid (Bytes (chnI F (n - 1))) := chnI_bytes _ OFT6.out.bytes _
            go_wp2_with fail
            refine (KeJ.implEpochKey P C N lp cn sn (n - 1) x6 (HT.out.later B6.out) OP6.out OC6.out ON6.out).mono ?_
            unfold AnsB
            rw [HCH (n - 1)]
            rintro e x7 ⟨V, rfl, o, b⟩
            have L7 : Hid (x6.heap.size ≤ x7.heap.size) := b.size
            have B7 : Hid (Below w.heap.size w x7) := B6.out.trans (b.mono B6.out.size)
            have OP7 : Hid (SRd x7 P lp) := OP6.out.later b
            have OC7 : Hid (SRd x7 C cn) := OC6.out.later b
            have ON7 : Hid (SRd x7 N sn) := ON6.out.later b
            have OU7 : Hid (SRd x7 U K) := OU6.out.later b
            have OFT7 : Hid (SRd x7 FT F) := OFT6.out.later b
            clear b B6 OP6 OC6 ON6 OU6 OFT6
            have OV7 : Hid (SRd x7 V (chnI F (n - 1))) := o.rd
            clear o
            go_wp2_with fail
            refine (KdfI.implDerive V.a V.n V.c (chnI F (n - 1)) ⟨#[114, 101, 107, 101, 121]⟩ x7 (HT.out.later B7.out) OV7.out.len OV7.out.rd OV7.out.nil HGB.out (by have := OV7.out.len; have := HGL.out; omega) (by decide)).mono ?_
            rw [HSU.out]
            rintro e x8 ⟨g9, m9, c9, rfl, em, kg, rr, b⟩
            have oN : SRd x8 ⟨some ⟨g9, 0, none⟩, m9, c9⟩ K := (SOwn.row (lo := 0) (hi := x8.heap.size) rr em OU7.out.bytes (Nat.zero_le _) rr.lt).rd
            clear em kg rr
            have L8 : Hid (x7.heap.size ≤ x8.heap.size) := b.size
            have B8 : Hid (Below w.heap.size w x8) := B7.out.trans (b.mono B7.out.size)
            have OP8 : Hid (SRd x8 P lp) := OP7.out.later b
            have OC8 : Hid (SRd x8 C cn) := OC7.out.later b
            have ON8 : Hid (SRd x8 N sn) := ON7.out.later b
            have OU8 : Hid (SRd x8 U K) := OU7.out.later b
            have OFT8 : Hid (SRd x8 FT F) := OFT7.out.later b
            have OV8 : Hid (SRd x8 V (chnI F (n - 1))) := OV7.out.later b
            clear b B7 OP7 OC7 ON7 OU7 OFT7 OV7
            have O98 : Hid (SRd x8 ⟨some ⟨g9, 0, none⟩, m9, c9⟩ K) := oN
            clear oN
            go_wp2_with fail
            refine (SameV.sameV U ⟨some ⟨g9, 0, none⟩, m9, c9⟩ K K true x8 OU8.out O98.out (decide_eq_true rfl)).mono ?_
            rintro e y ⟨rfl, rfl⟩
            go_wp2
            go_ret
            exact ⟨rfl, B8.out⟩

set_option maxRecDepth 100000 in
theorem walk (a : Option Addr) (len cap : Nat) (zs : List Int) (w : World) (hT : Tab w) (h : IsRow .u8 w a len cap zs) :
    Calls Tryd.prog 3 #[.slice a len cap] w fun e w' => e = .returned (.bool true) ∧ Below w.heap.size w w' := by
  obtain ⟨l, h1, h2, _, h4⟩ := h.read
  by_cases hl : len ≤ 1048576
  · exact small a len cap l w hT h1 h2 h4 hl
  · clear h h1 h2 h4
    go_enter Tryd.func3, Tryd.ntmps3
    go_wp2_with fail
    refine (bigYes a len cap w (by omega)).mono ?_
    rintro e w0 ⟨rfl, rfl⟩
    go_wp2
    go_ret
    exact ⟨rfl, Below.refl _ _⟩
end Go.Proofs.YtpenhliaelhnoaaDoor.LawKeys
