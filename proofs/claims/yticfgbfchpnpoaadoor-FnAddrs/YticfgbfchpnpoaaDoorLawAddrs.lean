/-
  The walk of the law FnAddrs: at every code an address comes back of its bytes and of its text, and cut bytes are none.
-/
import Derived.Test.YticfgbfchpnpoaaDoorAddrE
import Derived.Test.YticfgbfchpnpoaaDoorAddrK
import Derived.Test.YticfgbfchpnpoaaDoorDrawA
import Derived.Test.YticfgbfchpnpoaaDoorDrawS
import Derived.Test.YticfgbfchpnpoaaDoorSame
import Derived.Test.YticfgbfchpnpoaaDoorNumV
namespace Go.Proofs.YticfgbfchpnpoaaDoor.LawAddrs
open Go.RowKit Go.Proofs.YticfgbfchpnpoaaDoor.Mem Go.Proofs.YticfgbfchpnpoaaDoor.App Go.Proofs.YticfgbfchpnpoaaDoor.Get Go.Proofs.YticfgbfchpnpoaaDoor.Blk Go.Proofs.YticfgbfchpnpoaaDoor.Str Go.Proofs.YticfgbfchpnpoaaDoor.AddrP Go.Proofs.YticfgbfchpnpoaaDoor.AddrS Go.Proofs.YticfgbfchpnpoaaDoor.AddrT Go.Proofs.YticfgbfchpnpoaaDoor.AddrR Go.Proofs.YticfgbfchpnpoaaDoor.AddrI Go.Proofs.YticfgbfchpnpoaaDoor.AddrJ Go.Proofs.YticfgbfchpnpoaaDoor.AddrK Go.Proofs.YticfgbfchpnpoaaDoor.Itoa Go.Proofs.YticfgbfchpnpoaaDoor.AddrE Go.Proofs.YticfgbfchpnpoaaDoor.DrawA Go.Proofs.YticfgbfchpnpoaaDoor.DrawS Go.Proofs.YticfgbfchpnpoaaDoor.Same Go.Proofs.YticfgbfchpnpoaaDoor.NumV Go.Proofs.YticfgbfchpnpoaaDoor.Each Go.Proofs.YticfgbfchpnpoaaDoor.Copy Go.Proofs.YticfgbfchpnpoaaDoor.Ops Go.Proofs.YticfgbfchpnpoaaDoor.ShaP

theorem putA_yes (r : List Int) (x y : Int) (h : addrOk x y = true) : putA r x y = r ++ num x 4 ++ num y 2 := by unfold putA; rw [if_pos h]
theorem putA_no (r : List Int) (x y : Int) (h : addrOk x y = false) : putA r x y = r := by unfold putA; rw [if_neg (by rw [h]; simp)]
theorem back (r : List Int) (x y : Int) (n : Nat) (hn : n = r.length) (h : addrOk x y = true) : gotA (putA r x y) (n : Int) = .tuple #[addrV x y, .int .i64 ((n : Int) + 6), .bool true] := by
  subst hn
  obtain ⟨h0, h1, h2, h3⟩ := (addrOk_iff x y).1 h
  have e1 : piece (r ++ num x 4 ++ num y 2) r.length 4 = num x 4 := piece_mid r (num x 4) (num y 2) 4 (num_length x 4)
  have e2 : piece (r ++ num x 4 ++ num y 2) (r.length + 4) 2 = num y 2 := by
    have := piece_tail (r ++ num x 4) (num y 2) 2 (num_length y 2)
    rwa [List.length_append, num_length] at this
  rw [putA_yes r x y h]
  unfold gotA
  rw [if_pos (there_yes ⟨by omega, by omega, by simp only [List.length_append, num_length]; omega⟩), Int.toNat_natCast, e1, e2, val_num, val_num, Int.emod_eq_of_lt h0 (by omega), Int.emod_eq_of_lt h2 (by omega)]
theorem back_cut (r : List Int) (x y : Int) (n : Nat) (hn : n = r.length) : gotA ((putA r x y).take (n + 5)) (n : Int) = .tuple #[addrV 0 0, .int .i64 0, .bool false] := by
  subst hn
  unfold gotA
  rw [if_neg]
  rw [there_no (by rw [List.length_take]; omega)]
  simp

theorem bytes_app {a b : List Int} (ha : Bytes a) (hb : Bytes b) : Bytes (a ++ b) := by
  intro z hz
  rcases List.mem_append.1 hz with h | h
  · exact ha z h
  · exact hb z h
theorem back_str (x y : Int) : bs (strOfNums (addrI x y)) = addrI x y := str_inj (bs_bytes _) (addrI_bytes x y) (str_bs _)

set_option maxRecDepth 100000 in
set_option maxHeartbeats 4000000 in
theorem small (a : Option Addr) (len cap : Nat) (l : List Int) (w : World) (hT : Pow w) (hl : len = l.length) (hr : Rd w a l) (hb : Bytes l) (hlen : len ≤ 1048576) :
    Calls Tryd.prog 3 #[.slice a len cap] w fun e w' => e = .returned (.bool true) ∧ Below w.heap.size w w' := by
  have HT : Hid (Pow w) := hT
  clear hT
  have HR : Hid (Rd w a l) := hr
  have HL : Hid (len = l.length) := hl
  have HB : Hid (Bytes l) := hb
  clear hr hl hb
  go_enter Tryd.func3, Tryd.ntmps3
  go_wp2_with fail
  refine (bigNo a len cap w hlen).mono ?_
  rintro e w0 ⟨rfl, rfl⟩
  go_wp2_with fail
  refine (drawPutAddr a len cap l w HL.out HR.out HB.out hlen).mono ?_
  rintro e x1 ⟨g, m, c, r, x, y, rfl, em, hm2, yr, kg, rr, b1⟩
  have EM : Hid (m = r.length) := em
  have YR : Hid (Bytes r) := yr
  have hne : r.length ≤ 2 := by omega
  obtain ⟨x2, hx2⟩ : ∃ x2, x1.alloc (.cells #[.int .i64 x, .int .i64 y] 25) = x2 := ⟨_, rfl⟩
  have HW2 : Hid (x1.alloc (.cells #[.int .i64 x, .int .i64 y] 25) = x2) := hx2
  have B2 : Hid (Below w.heap.size w x2) := by rw [← hx2]; exact b1.alloc b1.size _
  have K2 : Hid (Blk x2 x1.heap.size 25 [.int .i64 x, .int .i64 y]) := by rw [← hx2]; exact Blk.new x1 _ _
  have Q2 : Hid (Row x2 g c r) := by rw [← hx2]; exact row_alloc rr _
  clear hx2 b1 rr em yr HR HB HL
  unfold addrV
  go_upto_region 4 with fail
  rw [HW2.out]
  generalize x1.heap.size = g4 at *
  clear HW2
  have c0 := K2.out.cell 0 rfl
  have c1 := K2.out.cell 1 rfl
  go_wp2_with fail
  refine (implPutAddr _ m c r x y x2 EM.out Q2.out.rd (by intro e; cases e) (by omega)).mono ?_
  rintro e x3 ⟨gp, mp, cp, rfl, ep, kp, rp, b3⟩
  have EP : Hid (mp = (putA r x y).length) := ep
  have P3 : Hid (Row x3 gp cp (putA r x y)) := rp
  have B3 : Hid (Below w.heap.size w x3) := B2.out.trans (b3.mono B2.out.size)
  have K3 : Hid (Blk x3 g4 25 [.int .i64 x, .int .i64 y]) := K2.out.later b3
  have Q3 : Hid (Row x3 g c r) := Q2.out.later b3
  clear ep kp rp b3 B2 K2 Q2 c0 c1
  have c0 := K3.out.cell 0 rfl
  have c1 := K3.out.cell 1 rfl
  go_wp2_with fail
  refine (implAddrText x y x3 (HT.out.later B3.out)).mono ?_
  rintro e x4 ⟨rfl, b4⟩
  have P4 : Hid (Row x4 gp cp (putA r x y)) := P3.out.later b4
  have B4 : Hid (Below w.heap.size w x4) := B3.out.trans (b4.mono B3.out.size)
  have K4 : Hid (Blk x4 g4 25 [.int .i64 x, .int .i64 y]) := K3.out.later b4
  have Q4 : Hid (Row x4 g c r) := Q3.out.later b4
  clear b4 P3 B3 K3 Q3 c0 c1
  obtain ⟨s, hs⟩ : ∃ s, strOfNums (addrI x y) = s := ⟨_, rfl⟩
  have HS : Hid (strOfNums (addrI x y) = s) := hs
  rw [hs]
  clear hs
  go_upto_region 6 with fail
  go_cut [31] from 27 to 30 (fun sv wx => sv = .bool false ∧ Below x4.heap.size x4 wx)
  case first =>
    rename_i J K' hRJ hMet
    generalize hA : Act.mk _ _ = A
    have a4' : A.eval (.tmp 4) = .pointer (some ⟨g4, 0, none⟩) := by rw [← hA]; rfl
    have asz : A.tmps.size = 91 := by rw [← hA]; rfl
    have hK : ∀ wx, Below x4.heap.size x4 wx → Blk wx g4 25 [.int .i64 x, .int .i64 y] := fun wx hb => K4.out.later hb
    refine region_each (by kernel_rfl) [27, 28, 29, 30] 4 (fun i => [27, 28, 29, 30].getD i 0) (fun _ => 0)
      (fun i gB v wx => match i with
        | 0 => v = .agg #[.int .i64 x, .int .i64 y]
        | 1 => v = .bool (addrOk x y)
        | 2 => v = .agg #[.int .i64 x, .int .i64 y]
        | 3 => v = .bool (addrOk x y)
        | _ => False) (fun wx => Below x4.heap.size x4 wx) (by kernel_rfl) (Below.refl _ _).drew ?_ ?_ ?_
    · intro i gB v wx wy hi hF hb _
      match i, hi with
      | 0, _ => exact hF
      | 1, _ => exact hF
      | 2, _ => exact hF
      | 3, _ => exact hF
    · intro i hi t ρ wx hB hp hd
      match i, hi with
      | 0, _ =>
        have e4 : (fr [27, 28, 29, 30] A t).eval (.tmp 4) = .pointer (some ⟨g4, 0, none⟩) := (fr_eval_old _ _ _ 4 rfl).trans a4'
        have hc0 := (hK wx hB).cell 0 rfl
        have hc1 := (hK wx hB).cell 1 rfl
        refine op_run (v := .agg #[.int .i64 x, .int .i64 y]) (w' := wx) rfl rfl ?_ ?_
        · clear hp hd; have ec : ∀ v, (fr [27, 28, 29, 30] A t).eval (.const v) = v := fun _ => rfl; generalize (fr [27, 28, 29, 30] A t).eval = ev at ec e4 ⊢; go_simp
        · exact ⟨_, 0, rfl, hB, Below.refl _ _, rfl, .inl rfl⟩
      | 1, _ =>
        have e27 : (fr [27, 28, 29, 30] A t).eval (.tmp 27) = .agg #[.int .i64 x, .int .i64 y] := (fr_eval _ _ _ 27 rfl (by rw [asz]; decide)).trans (hp 0 (pre_mem (by kernel_rfl)))
        refine op_call (f := 11) (args := #[.agg #[.int .i64 x, .int .i64 y]]) rfl rfl ?_ (implAddrOk x y wx) ?_
        · have ef : (fr [27, 28, 29, 30] A t).eval (.func 11) = .func (.func 11) #[] #[] := rfl; clear hp hd; have ec : ∀ v, (fr [27, 28, 29, 30] A t).eval (.const v) = v := fun _ => rfl; generalize (fr [27, 28, 29, 30] A t).eval = ev at ec e27 ef ⊢; go_simp
        · rintro e wy ⟨rfl, b1⟩
          exact ⟨_, rfl, _, wx.heap.size, rfl, hB.trans (b1.mono hB.size), b1, rfl, .inl rfl⟩
      | 2, _ =>
        have e4 : (fr [27, 28, 29, 30] A t).eval (.tmp 4) = .pointer (some ⟨g4, 0, none⟩) := (fr_eval_old _ _ _ 4 rfl).trans a4'
        have hc0 := (hK wx hB).cell 0 rfl
        have hc1 := (hK wx hB).cell 1 rfl
        refine op_run (v := .agg #[.int .i64 x, .int .i64 y]) (w' := wx) rfl rfl ?_ ?_
        · clear hp hd; have ec : ∀ v, (fr [27, 28, 29, 30] A t).eval (.const v) = v := fun _ => rfl; generalize (fr [27, 28, 29, 30] A t).eval = ev at ec e4 ⊢; go_simp
        · exact ⟨_, 0, rfl, hB, Below.refl _ _, rfl, .inl rfl⟩
      | 3, _ =>
        have e29 : (fr [27, 28, 29, 30] A t).eval (.tmp 29) = .agg #[.int .i64 x, .int .i64 y] := (fr_eval _ _ _ 29 rfl (by rw [asz]; decide)).trans (hp 2 (pre_mem (by kernel_rfl)))
        refine op_call (f := 12) (args := #[.agg #[.int .i64 x, .int .i64 y]]) rfl rfl ?_ (specAddrOk x y wx) ?_
        · have ef : (fr [27, 28, 29, 30] A t).eval (.func 12) = .func (.func 12) #[] #[] := rfl; clear hp hd; have ec : ∀ v, (fr [27, 28, 29, 30] A t).eval (.const v) = v := fun _ => rfl; generalize (fr [27, 28, 29, 30] A t).eval = ev at ec e29 ef ⊢; go_simp
        · rintro e wy ⟨rfl, b1⟩
          exact ⟨_, rfl, _, wx.heap.size, rfl, hB.trans (b1.mono hB.size), b1, rfl, .inl rfl⟩
    · intro t ρ wx hB hF hne
      have hv1 := hF 1 (by decide)
      have e28 : (fr [27, 28, 29, 30] A t).eval (.tmp 28) = .bool (addrOk x y) := (fr_eval _ _ _ 28 rfl (by rw [asz]; decide)).trans hv1
      have hv3 := hF 3 (by decide)
      have e30 : (fr [27, 28, 29, 30] A t).eval (.tmp 30) = .bool (addrOk x y) := (fr_eval _ _ _ 30 rfl (by rw [asz]; decide)).trans hv3
      clear hne
      refine op_wp rfl rfl ?_
      generalize hE : (fr [27, 28, 29, 30] A t).eval = ev at e28 e30
      unfold Oper.wp
      rw [hE]
      have hbb : (addrOk x y != addrOk x y) = false := by simp
      clear hv1 hv3
      go_simp
      refine hMet _ _ (Met.intro (hRJ _ _ ⟨t 27, t 28, t 29, t 30, _, ⟨rfl, hB⟩, ?_⟩))
      rw [← hA]; rfl
  case rest =>
    obtain ⟨x5, hq5⟩ : ∃ x5, x5 = wc := ⟨_, rfl⟩
    subst hq5
    obtain ⟨rfl, b5⟩ := hcut
    have P5 : Hid (Row x5 gp cp (putA r x y)) := P4.out.later b5
    have B5 : Hid (Below w.heap.size w x5) := B4.out.trans (b5.mono B4.out.size)
    have K5 : Hid (Blk x5 g4 25 [.int .i64 x, .int .i64 y]) := K4.out.later b5
    have Q5 : Hid (Row x5 g c r) := Q4.out.later b5
    clear b5 P4 B4 K4 Q4
    have c0 := K5.out.cell 0 rfl
    have c1 := K5.out.cell 1 rfl
    go_wp2_with fail
    refine (implAddrOk x y x5).mono ?_
    rintro e x6 ⟨rfl, b6⟩
    have P6 : Hid (Row x6 gp cp (putA r x y)) := P5.out.later b6
    have B6 : Hid (Below w.heap.size w x6) := B5.out.trans (b6.mono B5.out.size)
    have K6 : Hid (Blk x6 g4 25 [.int .i64 x, .int .i64 y]) := K5.out.later b6
    have Q6 : Hid (Row x6 g c r) := Q5.out.later b6
    clear b6 P5 B5 K5 Q5 c0 c1
    cases hok : addrOk x y with
    | false =>
      have HPA : Hid (putA r x y = r) := putA_no r x y hok
      obtain rfl : s = ⟨#[]⟩ := by rw [← HS.out]; unfold addrI; rw [if_neg (by rw [hok]; simp), str_nil]
      clear hok HS
      rw [HPA.out] at P6 EP
      go_wp2_with fail
      refine (same_yes gp cp mp g c m r x6 EP.out EM.out P6.out.rd Q6.out.rd).mono ?_
      rintro e x7 ⟨rfl, rfl⟩
      go_wp2
      go_ret
      exact ⟨by simp, B6.out⟩
    | true =>
      have HG1 : Hid (gotA (putA r x y) (m : Int) = .tuple #[addrV x y, .int .i64 ((m : Int) + 6), .bool true]) := back r x y m EM.out hok
      have HG2 : Hid (gotA ((putA r x y).take (m + 5)) (m : Int) = .tuple #[addrV 0 0, .int .i64 0, .bool false]) := back_cut r x y m EM.out
      have HMP : Hid (mp = m + 6) := by show _ = _; rw [EP.out, putA_yes r x y hok]; simp only [List.length_append, num_length]; have := EM.out; omega
      have HYP : Hid (Bytes (putA r x y)) := by show Bytes _; rw [putA_yes r x y hok]; exact bytes_app (bytes_app YR.out (num_bytes x 4)) (num_bytes y 2)
      have HRS : Hid (∀ h q b, Reads (bs s) h q b → h = x ∧ q = y ∧ b = true) := by
        intro h q b hR
        rw [← HS.out, back_str x y] at hR
        obtain ⟨h1, h2, h3⟩ := AddrP.Reads.unique hR (.inl ⟨rfl, hok, rfl⟩)
        exact ⟨h1, h2, h3⟩
      have HSZ : Hid (s.size ≤ 1048576) := by show _ ≤ _; rw [← HS.out, strOfNums_size]; have := addrI_len x y; omega
      have HCP : Hid (mp ≤ cp) := by have := P6.out.1; rw [← EP.out] at this; exact this
      clear hok HS
      go_wp2_with fail
      refine (implGetAddr _ mp cp (putA r x y) (m : Int) x6 EP.out P6.out.rd HYP.out HCP.out (by have := HMP.out; omega) (by omega)).mono ?_
      rw [HG1.out]
      rintro e x7 ⟨rfl, b7⟩
      obtain ⟨x8, hx8⟩ : ∃ x8, x7.alloc (.cells #[.int .i64 x, .int .i64 y] 25) = x8 := ⟨_, rfl⟩
      have HW8 : Hid (x7.alloc (.cells #[.int .i64 x, .int .i64 y] 25) = x8) := hx8
      have b7' : Hid (Below x6.heap.size x6 x8) := by rw [← hx8]; exact b7.alloc b7.size _
      have P8 : Hid (Row x8 gp cp (putA r x y)) := P6.out.later b7'.out
      have B8 : Hid (Below w.heap.size w x8) := B6.out.trans (b7'.out.mono B6.out.size)
      have K8 : Hid (Blk x8 g4 25 [.int .i64 x, .int .i64 y]) := K6.out.later b7'.out
      have L8 : Hid (Blk x8 x7.heap.size 25 [.int .i64 x, .int .i64 y]) := by rw [← hx8]; exact Blk.new x7 _ _
      clear hx8 b7 b7' P6 B6 K6 Q6
      have hw1 : IntKind.i64.wrap ((mp : Int) - 1) = ((m + 5 : Nat) : Int) := by have := HMP.out; rw [IntKind.wrap_i64]; omega
      have i0 : (0 : Int) ≤ ((m + 5 : Nat) : Int) := by omega
      have i1 : ((m + 5 : Nat) : Int) ≤ (cp : Int) := by have := HCP.out; have := HMP.out; omega
      obtain ⟨n5, hn5⟩ : ∃ n5, m + 5 = n5 := ⟨_, rfl⟩
      rw [hn5] at hw1 i0 i1
      have HN5 : Hid (n5 = ((putA r x y).take n5).length) := by show _ = _; rw [List.length_take, ← EP.out]; have := HMP.out; omega
      rw [hn5] at HG2
      have hn5' : n5 ≤ 8 := by omega
      have HC5 : Hid (n5 ≤ cp) := by have := HCP.out; have := HMP.out; show _ ≤ _; omega
      have R5 : Hid (Rd x8 (some ⟨gp, 0, none⟩) ((putA r x y).take n5)) := by
        have h1 := P8.out.rd
        intro i hi
        rw [List.length_take] at hi
        obtain ⟨b', off, e, hb', hh⟩ := h1 i (by omega)
        refine ⟨b', off, e, hb', ?_⟩
        rw [hh]
        have : i < n5 := by omega
        simp [List.getD, this]
      have Y5 : Hid (Bytes ((putA r x y).take n5)) := fun z hz => HYP.out z (List.mem_of_mem_take hz)
      clear hn5
      unfold addrV
      go_wp2_with fail
      rw [HW8.out]
      generalize x7.heap.size = g7 at *
      clear HW8
      refine (implGetAddr _ n5 cp ((putA r x y).take n5) (m : Int) x8 HN5.out R5.out Y5.out HC5.out (by omega) (by omega)).mono ?_
      rw [HG2.out]
      rintro e x9 ⟨rfl, b9⟩
      obtain ⟨x10, hx10⟩ : ∃ x10, x9.alloc (.cells #[.int .i64 0, .int .i64 0] 25) = x10 := ⟨_, rfl⟩
      have HW10 : Hid (x9.alloc (.cells #[.int .i64 0, .int .i64 0] 25) = x10) := hx10
      have b9' : Hid (Below x8.heap.size x8 x10) := by rw [← hx10]; exact b9.alloc b9.size _
      have B10 : Hid (Below w.heap.size w x10) := B8.out.trans (b9'.out.mono B8.out.size)
      have K10 : Hid (Blk x10 g4 25 [.int .i64 x, .int .i64 y]) := K8.out.later b9'.out
      have L10 : Hid (Blk x10 g7 25 [.int .i64 x, .int .i64 y]) := L8.out.later b9'.out
      clear hx10 b9 b9' P8 B8 K8 L8 R5 Y5
      unfold addrV
      go_wp2_with fail
      rw [HW10.out]
      generalize x9.heap.size = g9 at *
      clear HW10
      refine (implParseAddr s x10 (HT.out.later B10.out)).mono ?_
      rintro e x11 ⟨x', y', ok', rfl, hR, b11⟩
      obtain ⟨h1, h2, h3⟩ := HRS.out x' y' ok' hR
      subst h1 h2 h3
      obtain ⟨x12, hx12⟩ : ∃ x12, x11.alloc (.cells #[.int .i64 x', .int .i64 y'] 25) = x12 := ⟨_, rfl⟩
      have HW12 : Hid (x11.alloc (.cells #[.int .i64 x', .int .i64 y'] 25) = x12) := hx12
      have b11' : Hid (Below x10.heap.size x10 x12) := by rw [← hx12]; exact b11.alloc b11.size _
      have B12 : Hid (Below w.heap.size w x12) := B10.out.trans (b11'.out.mono B10.out.size)
      have K12 : Hid (Blk x12 g4 25 [.int .i64 x', .int .i64 y']) := K10.out.later b11'.out
      have L12 : Hid (Blk x12 g7 25 [.int .i64 x', .int .i64 y']) := L10.out.later b11'.out
      have M12 : Hid (Blk x12 x11.heap.size 25 [.int .i64 x', .int .i64 y']) := by rw [← hx12]; exact Blk.new x11 _ _
      clear hx12 b11 b11' B10 K10 L10 hR HRS
      unfold addrV
      go_upto_region 13 with fail
      rw [HW12.out]
      generalize x11.heap.size = g11 at *
      clear HW12
      have c0 := K12.out.cell 0 rfl
      have c1 := K12.out.cell 1 rfl
      have d0 := L12.out.cell 0 rfl
      have d1 := L12.out.cell 1 rfl
      have e0 := M12.out.cell 0 rfl
      have e1 := M12.out.cell 1 rfl
      have hq := eqPair x' y' x' y'
      have hmm : ((m : Int) + 6 == (mp : Int)) = true := by have := HMP.out; simp; omega
      go_wp2
      go_ret
      exact ⟨rfl, B12.out⟩

theorem walk (a : Option Addr) (len cap : Nat) (zs : List Int) (w : World) (hT : Pow w) (h : IsRow .u8 w a len cap zs) :
    Calls Tryd.prog 3 #[.slice a len cap] w fun e w' => e = .returned (.bool true) ∧ Below w.heap.size w w' := by
  obtain ⟨l, h1, h2, _, h4⟩ := h.read
  by_cases hl : len ≤ 1048576
  · exact small a len cap l w hT h1 h2 h4 hl
  · clear h h1 h2 h4
    go_enter Tryd.func3, Tryd.ntmps3
    go_wp2_with fail
    refine (bigYes a len cap w (by omega)).mono ?_
    rintro e w0 ⟨rfl, rfl⟩
    go_wp2
    go_ret
    exact ⟨rfl, Below.refl _ _⟩
end Go.Proofs.YticfgbfchpnpoaaDoor.LawAddrs
