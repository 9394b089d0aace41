/-
  What spec's FinishKey, RootKey, FirstKey, EpochKey and Proof answer.
-/
import Derived.Test.YtpenhliaelhnoaaDoorGd6
import Derived.Test.YtpenhliaelhnoaaDoorGd10
import Derived.Test.YtpenhliaelhnoaaDoorGd11
import Derived.Test.YtpenhliaelhnoaaDoorGd2
import Derived.Lib.SlBytesConst
namespace Go.Proofs.YtpenhliaelhnoaaDoor.KeT
open Go.RowKit Go.Proofs.YtpenhliaelhnoaaDoor.Mem Go.Proofs.YtpenhliaelhnoaaDoor.App Go.Proofs.YtpenhliaelhnoaaDoor.Blk Go.Proofs.YtpenhliaelhnoaaDoor.Words Go.Proofs.YtpenhliaelhnoaaDoor.Zone Go.Proofs.YtpenhliaelhnoaaDoor.Res Go.Proofs.YtpenhliaelhnoaaDoor.KeP Go.Proofs.YtpenhliaelhnoaaDoor.Shp Go.Proofs.YtpenhliaelhnoaaDoor.KeQ Go.Proofs.YtpenhliaelhnoaaDoor.MacP Go.Proofs.YtpenhliaelhnoaaDoor.KdfP Go.Proofs.YtpenhliaelhnoaaDoor.Str Go.Proofs.YtpenhliaelhnoaaDoor.MacS

set_option maxRecDepth 100000 in
theorem nil_ans {w x : World} (b : Below w.heap.size w x) : AnsB [] w (.returned (.slice (some ⟨x.heap.size, 0, none⟩) 0 0)) (x.alloc (.cells #[] 5)) :=
  ⟨⟨some ⟨x.heap.size, 0, none⟩, 0, 0⟩, rfl, SOwn.row (row_new x [] (by simp)) rfl (fun z hz => by cases hz) b.size (by rw [World.size_alloc]; exact Nat.lt_succ_self _), b.alloc b.size _⟩

set_option maxRecDepth 100000 in
theorem tagN (k t : Sl) (lk l : List Int) (w : World) (hk : SRd w k lk) (h : SRd w t l) (h1 : lk.length ≤ 2000000) (h2 : l.length ≤ 2000000) :
    Calls Tryd.prog 43 #[.slice k.a k.n k.c, .slice t.a t.n t.c] w (AnsB (tagI lk l) w) := (specTag k.a k.n k.c t.a t.n t.c lk l w hk.len h.len hk.rd h.rd hk.nil h.nil hk.bytes h.bytes (by rw [hk.len]; omega) (by rw [h.len]; omega)).mono fun _ _ h' => AnsB.of (tagI_bytes _ _) h'

set_option maxRecDepth 100000 in
theorem roam_rd (x : World) : Rd (x.alloc (.cells #[.int .u8 114, .int .u8 111, .int .u8 97, .int .u8 109] 5 (4, 5))) (some ⟨x.heap.size, 0, none⟩) (bs roamB) := by
  intro i hi
  rw [bs_length] at hi
  refine ⟨x.heap.size, 0, rfl, by rw [World.size_alloc]; exact Nat.lt_succ_self _, ?_⟩
  rw [Nat.zero_add, World.cell?_alloc_mark, bs_roam]
  match i, hi with
  | 0, _ => rfl
  | 1, _ => rfl
  | 2, _ => rfl
  | 3, _ => rfl

set_option maxRecDepth 100000 in
set_option maxHeartbeats 8000000 in
theorem specFinishKey (s : Sl) (l : List Int) (w : World) (h : SRd w s l) :
    Calls Tryd.prog 18 #[.slice s.a s.n s.c] w (AnsB (finK l) w) := by
  have HS : Hid (SRd w s l) := h
  have HN : Hid (s.n = l.length) := h.len
  obtain ⟨R, hR⟩ : ∃ R, finK l = R := ⟨_, rfl⟩
  have HRD : Hid (finK l = R) := hR
  rw [hR]
  clear h hR
  go_enter Tryd.func18, Tryd.ntmps18
  have B0 : Hid (Below w.heap.size w w) := Below.refl _ _
  go_wp2_with fail
  refine (KeS.specPskOk s l w HS.out).mono ?_
  rintro e y ⟨rfl, rfl⟩
  cases h0 : pskOk l.length with
  | false =>
    obtain rfl : R = [] := by rw [← HRD.out]; exact finK_no h0
    go_wp2
    go_ret
    exact nil_ans (Below.refl _ _)
  | true =>
    have HL : Hid (l.length ≤ 32) := (pskOk_iff.1 h0).2
    obtain rfl : R = derI (hmacI (bs roamB) l) (bs finishB) := by rw [← HRD.out]; exact finK_yes h0
    have kc := Lib.run_convert_bytes_const (P := Tryd.prog) w 22 5 #[.int .u8 114, .int .u8 111, .int .u8 97, .int .u8 109] 4 4 Tryd.underlying22 Tryd.underlying5
    obtain ⟨x1, hx1⟩ : ∃ zz, w.alloc (.cells #[.int .u8 114, .int .u8 111, .int .u8 97, .int .u8 109] 5 (4, 5)) = zz := ⟨_, rfl⟩
    have HW : Hid (w.alloc (.cells #[.int .u8 114, .int .u8 111, .int .u8 97, .int .u8 109] 5 (4, 5)) = x1) := hx1
    have b : Below w.heap.size w x1 := by rw [← hx1]; exact (Below.refl _ _).alloc (Nat.le_refl _) _
    have RR : Hid (Rd x1 (some ⟨w.heap.size, 0, none⟩) (bs roamB)) := by rw [← hx1]; exact roam_rd w
    clear hx1
    go_wp2_with fail
    rw [HW.out]
    clear HW kc
    have L1 : Hid (w.heap.size ≤ x1.heap.size) := b.size
    have B1 : Hid (Below w.heap.size w x1) := B0.out.trans (b.mono B0.out.size)
    clear b B0
    refine (KdfS.specExtract (some ⟨w.heap.size, 0, none⟩) 4 4 s.a s.n s.c (bs roamB) l x1 (by rw [bs_roam]; rfl) HN.out RR.out (HS.out.later B1.out).rd (by intro e; cases e) HS.out.nil (bs_bytes _) HS.out.bytes (by omega) (by have := HN.out; have := HL.out; omega)).mono ?_
    rintro e x2 ⟨g1, m1, c1, rfl, em, kg, rr, b⟩
    have oN : SOwn x2 x1.heap.size x2.heap.size ⟨some ⟨g1, 0, none⟩, m1, c1⟩ (hmacI (bs roamB) l) := SOwn.row rr em (hmacI_bytes _ _) kg rr.lt
    have HM1 : Hid (m1 ≤ 32) := by rw [em]; exact hmacI_le _ _
    clear em kg rr RR
    have L2 : Hid (x1.heap.size ≤ x2.heap.size) := b.size
    have B2 : Hid (Below w.heap.size w x2) := B1.out.trans (b.mono B1.out.size)
    clear b B1
    have O1_2 : Hid (SOwn x2 x1.heap.size x2.heap.size ⟨some ⟨g1, 0, none⟩, m1, c1⟩ (hmacI (bs roamB) l)) := oN
    clear oN
    go_wp2_with fail
    refine (KdfS.specDerive (some ⟨g1, 0, none⟩) m1 c1 (hmacI (bs roamB) l) finishB x2 O1_2.out.len O1_2.out.rd.rd (by intro e; cases e) (hmacI_bytes _ _) (by have := HM1.out; omega) (by decide)).mono ?_
    rintro e x3 ⟨g2, m2, c2, rfl, em, kg, rr, b⟩
    have oN : SOwn x3 x2.heap.size x3.heap.size ⟨some ⟨g2, 0, none⟩, m2, c2⟩ (derI (hmacI (bs roamB) l) (bs finishB)) := SOwn.row rr em (derI_bytes _ _) kg rr.lt
    clear em kg rr
    have L3 : Hid (x2.heap.size ≤ x3.heap.size) := b.size
    have B3 : Hid (Below w.heap.size w x3) := B2.out.trans (b.mono B2.out.size)
    have O1_3 : Hid (SOwn x3 x1.heap.size x2.heap.size ⟨some ⟨g1, 0, none⟩, m1, c1⟩ (hmacI (bs roamB) l)) := O1_2.out.later b
    clear b B2 O1_2
    have O2_3 : Hid (SOwn x3 x2.heap.size x3.heap.size ⟨some ⟨g2, 0, none⟩, m2, c2⟩ (derI (hmacI (bs roamB) l) (bs finishB))) := oN
    clear oN
    go_wp2
    go_ret
    exact ⟨⟨some ⟨g2, 0, none⟩, m2, c2⟩, rfl, O2_3.out.mono (by have := L1.out; have := L2.out; have := L3.out; have := B3.out.size; omega) (Nat.le_refl _), B3.out⟩

set_option maxRecDepth 100000 in
set_option maxHeartbeats 8000000 in
theorem specRootKey (q c s : Sl) (l cn sn : List Int) (w : World) (hq : SRd w q l) (hc : SRd w c cn) (hs : SRd w s sn) :
    Calls Tryd.prog 24 #[.slice q.a q.n q.c, .slice c.a c.n c.c, .slice s.a s.n s.c] w (AnsB (rootK l cn sn) w) := by
  have HQ : Hid (SRd w q l) := hq
  have HNQ : Hid (q.n = l.length) := hq.len
  have HZQ : Hid (q.a = none → q.c = 0) := hq.nil
  have HC : Hid (SRd w c cn) := hc
  have HNC : Hid (c.n = cn.length) := hc.len
  have HZC : Hid (c.a = none → c.c = 0) := hc.nil
  have HS : Hid (SRd w s sn) := hs
  have HNS : Hid (s.n = sn.length) := hs.len
  have HZS : Hid (s.a = none → s.c = 0) := hs.nil
  obtain ⟨R, hR⟩ : ∃ R, rootK l cn sn = R := ⟨_, rfl⟩
  have HRD : Hid (rootK l cn sn = R) := hR
  rw [hR]
  clear hq hc hs hR
  obtain ⟨ca, cN, cc⟩ := c
  obtain ⟨sa, sN, sc⟩ := s
  go_enter Tryd.func24, Tryd.ntmps24
  have B0 : Hid (Below w.heap.size w w) := Below.refl _ _
  go_wp2_with fail
  refine (KeS.specPskOk q l w HQ.out).mono ?_
  rintro e y ⟨rfl, rfl⟩
  cases h0 : (pskOk l.length) with
  | false =>
    obtain rfl : R = [] := by rw [← HRD.out]; exact rootK_no (by have e1 := HNC.out; have e2 := HNS.out; unfold rootF; rw [← e1, ← e2]; simp [h0])
    go_wp2
    go_ret
    exact nil_ans (Below.refl _ _)
  | true =>
    cases h1 : ((cN : Int) == 12) with
    | false =>
      have hne : ((cN : Int) != 12) = true := by simpa using h1
      obtain rfl : R = [] := by rw [← HRD.out]; exact rootK_no (by have e1 := HNC.out; have e2 := HNS.out; unfold rootF; rw [← e1, ← e2]; simp [h0, h1])
      go_wp2
      go_ret
      exact nil_ans (Below.refl _ _)
    | true =>
      have hne1 : ((cN : Int) != 12) = false := by simpa using h1
      cases h2 : ((sN : Int) == 12) with
      | false =>
        have hne : ((sN : Int) != 12) = true := by simpa using h2
        obtain rfl : R = [] := by rw [← HRD.out]; exact rootK_no (by have e1 := HNC.out; have e2 := HNS.out; unfold rootF; rw [← e1, ← e2]; simp [h0, h1, h2])
        go_wp2
        go_ret
        exact nil_ans (Below.refl _ _)
      | true =>
        have hne2 : ((sN : Int) != 12) = false := by simpa using h2
        have HF : Hid (rootF l.length cn.length sn.length = true) := by have e1 := HNC.out; have e2 := HNS.out; show rootF _ _ _ = true; unfold rootF; rw [← e1, ← e2]; simp [h0, h1, h2]
        have HP := rootF_parts HF.out
        have HL : Hid (l.length ≤ 32 ∧ cn.length = 12 ∧ sn.length = 12) := ⟨HP.1.2, HP.2.1, HP.2.2⟩
        have HQE : Hid (hmacI (cn ++ sn) l = R) := by show _ = _; rw [← HRD.out]; exact (rootK_yes HF.out).symm
        clear HP h0 h1 h2
        have A1 : Hid (Below w.heap.size w (w.alloc (.cells #[] 5))) := (Below.refl _ _).alloc (Nat.le_refl _) _
        have Q1 : Hid (Row (w.alloc (.cells #[] 5)) w.heap.size 0 []) := row_new w [] (by simp)
        go_wp2_with (first | (at_builtin; refine wpList_app _ rfl (.tmp 21) (.tmp 22) rfl w.heap.size w.heap.size 0 0 ([]) (cn) rfl rfl Q1.out (Nat.le_refl _) ca cN cc rfl HNC.out ((HC.out.rd).later A1.out (Nat.le_refl _)) HZC.out (by rw [HL.out.2.1]; simp) ?_; intro g2 c2 y2 rr bb ll gr; have R2 : Hid (Row y2 g2 c2 cn) := (List.nil_append cn) ▸ rr; have G2 : Hid (w.heap.size ≤ g2) := bb; have B2_ : Hid (Below w.heap.size w y2) := A1.out.grown gr A1.out.size (fun k h => by cases h; exact (Nat.le_refl _)); clear rr bb ll gr) | (at_builtin; refine wpList_app _ rfl (.tmp 23) (.tmp 24) rfl w.heap.size g2 cN c2 (cn) (sn) rfl HNC.out R2.out G2.out sa sN sc rfl HNS.out ((HS.out.rd).later B2_.out (Nat.le_refl _)) HZS.out (by rw [HL.out.2.1, HL.out.2.2]; simp) ?_; intro g3 c3 y3 rr bb ll gr; have R3 : Hid (Row y3 g3 c3 (cn ++ sn)) := rr; have G3 : Hid (w.heap.size ≤ g3) := bb; have B3_ : Hid (Below w.heap.size w y3) := B2_.out.grown gr B2_.out.size (fun k h => by cases h; exact G2.out); clear rr bb ll gr))
        have HCS : Hid (cN + sN = (cn ++ sn).length) := by show _ = _; rw [List.length_append, HNC.out, HNS.out]
        refine (KdfS.specExtract (some ⟨g3, 0, none⟩) (cN + sN) c3 q.a q.n q.c (cn ++ sn) l y3 HCS.out HNQ.out R3.out.rd ((HQ.out.rd).later B3_.out (Nat.le_refl _)) (by intro e; cases e) HZQ.out (app_bytes HC.out.bytes HS.out.bytes) HQ.out.bytes (by have e1 := HNC.out; have e2 := HNS.out; have := HL.out; omega) (by have := HNQ.out; have := HL.out; omega)).mono ?_
        rw [HQE.out]
        rintro e y4 ⟨g4, m4, c4, rfl, em, kg, rr, b⟩
        have E4 : Hid (m4 = R.length) := em
        have R4 : Hid (Row y4 g4 c4 R) := rr
        have G4 : Hid (w.heap.size ≤ g4) := Nat.le_trans B3_.out.size kg
        have B4_ : Hid (Below w.heap.size w y4) := B3_.out.trans (b.mono B3_.out.size)
        have HRB : Hid (Bytes R) := by rw [← HRD.out]; exact rootK_bytes _ _ _
        clear em kg rr b
        go_wp2
        go_ret
        exact ⟨⟨some ⟨g4, 0, none⟩, m4, c4⟩, rfl, SOwn.row R4.out E4.out HRB.out G4.out R4.out.lt, B4_.out⟩

set_option maxRecDepth 100000 in
set_option maxHeartbeats 8000000 in
theorem specFirstKey (s : Sl) (l : List Int) (w : World) (h : SRd w s l) :
    Calls Tryd.prog 25 #[.slice s.a s.n s.c] w (AnsB (firstK l) w) := by
  have HS : Hid (SRd w s l) := h
  have HN : Hid (s.n = l.length) := h.len
  obtain ⟨R, hR⟩ : ∃ R, firstK l = R := ⟨_, rfl⟩
  have HRD : Hid (firstK l = R) := hR
  rw [hR]
  clear h hR
  go_enter Tryd.func25, Tryd.ntmps25
  have B0 : Hid (Below w.heap.size w w) := Below.refl _ _
  cases h0 : ((s.n : Int) == 32) with
  | false =>
    have hne : ((s.n : Int) != 32) = true := by simpa using h0
    obtain rfl : R = [] := by rw [← HRD.out]; exact firstK_no (by rw [← HN.out]; exact h0)
    go_wp2
    go_ret
    exact nil_ans (Below.refl _ _)
  | true =>
    have hne : ((s.n : Int) != 32) = false := by simpa using h0
    have HL : Hid (s.n = 32) := by show _ = _; simp at h0; omega
    obtain rfl : R = derI l (bs epochB) := by rw [← HRD.out]; exact firstK_yes (by rw [← HN.out]; exact h0)
    go_wp2_with fail
    refine (KdfS.specDerive s.a s.n s.c l epochB w HN.out (HS.out.later B0.out).rd HS.out.nil HS.out.bytes (by have := HL.out; omega) (by decide)).mono ?_
    rintro e x1 ⟨g1, m1, c1, rfl, em, kg, rr, b⟩
    have oN : SOwn x1 w.heap.size x1.heap.size ⟨some ⟨g1, 0, none⟩, m1, c1⟩ (derI l (bs epochB)) := SOwn.row rr em (derI_bytes _ _) kg rr.lt
    clear em kg rr
    have L1 : Hid (w.heap.size ≤ x1.heap.size) := b.size
    have B1 : Hid (Below w.heap.size w x1) := B0.out.trans (b.mono B0.out.size)
    clear b B0
    have O1_1 : Hid (SOwn x1 w.heap.size x1.heap.size ⟨some ⟨g1, 0, none⟩, m1, c1⟩ (derI l (bs epochB))) := oN
    clear oN
    go_wp2
    go_ret
    exact ⟨⟨some ⟨g1, 0, none⟩, m1, c1⟩, rfl, O1_1.out.mono (by have := L1.out; have := B1.out.size; omega) (Nat.le_refl _), B1.out⟩

set_option maxRecDepth 100000 in
set_option maxHeartbeats 8000000 in
theorem specEpochKey (q c s : Sl) (l cn sn : List Int) (n : Int) (w : World) (hq : SRd w q l) (hc : SRd w c cn) (hs : SRd w s sn) :
    Calls Tryd.prog 13 #[.slice q.a q.n q.c, .slice c.a c.n c.c, .slice s.a s.n s.c, .int .i64 n] w (AnsB (epochK l cn sn n) w) := by
  have HQ : Hid (SRd w q l) := hq
  have HC : Hid (SRd w c cn) := hc
  have HS : Hid (SRd w s sn) := hs
  obtain ⟨R, hR⟩ : ∃ R, epochK l cn sn n = R := ⟨_, rfl⟩
  have HRD : Hid (epochK l cn sn n = R) := hR
  obtain ⟨F, hF⟩ : ∃ F, firstK (rootK l cn sn) = F := ⟨_, rfl⟩
  have HF : Hid (firstK (rootK l cn sn) = F) := hF
  have HFL : Hid (F.length ≤ 32) := by rw [← hF]; exact firstK_le _
  have HFB : Hid (Bytes F) := by rw [← hF]; exact firstK_bytes _
  rw [hR]
  clear hq hc hs hR hF
  go_enter Tryd.func13, Tryd.ntmps13
  have B0 : Hid (Below w.heap.size w w) := Below.refl _ _
  go_wp2_with fail
  refine (specRootKey q c s l cn sn w HQ.out HC.out HS.out).mono ?_
  unfold AnsB
  rintro e x1 ⟨T, rfl, o, b⟩
  have L1 : Hid (w.heap.size ≤ x1.heap.size) := b.size
  have B1 : Hid (Below w.heap.size w x1) := B0.out.trans (b.mono B0.out.size)
  clear b B0
  have OT1 : Hid (SOwn x1 w.heap.size x1.heap.size T (rootK l cn sn)) := o
  clear o
  go_wp2_with fail
  refine (specFirstKey T (rootK l cn sn) x1 OT1.out.rd).mono ?_
  unfold AnsB
  rw [HF.out]
  rintro e x2 ⟨U, rfl, o, b⟩
  have L2 : Hid (x1.heap.size ≤ x2.heap.size) := b.size
  have B2 : Hid (Below w.heap.size w x2) := B1.out.trans (b.mono B1.out.size)
  have OT2 : Hid (SOwn x2 w.heap.size x1.heap.size T (rootK l cn sn)) := OT1.out.later b
  clear b B1 OT1
  have OU2 : Hid (SOwn x2 x1.heap.size x2.heap.size U F) := o
  clear o
  have HUN : Hid (U.n = F.length) := OU2.out.len
  cases h0 : ((U.n : Int) == 0) with
  | true =>
    have HF0 : Hid (F = []) := by have := HUN.out; simp at h0; exact List.eq_nil_of_length_eq_zero (by omega)
    obtain rfl : F = R := by rw [← HRD.out, epochK_no (by rw [HF.out]; exact HF0.out), HF0.out]
    go_wp2
    go_ret
    exact ⟨U, rfl, OU2.out.mono (by have := B2.out.size; have := L1.out; have := L2.out; omega) (Nat.le_refl _), B2.out⟩
  | false =>
    have HCH : Hid (chnI F n = R) := by show _ = _; rw [← HRD.out, epochK_yes (by rw [HF.out]; have := HUN.out; simp at h0; omega), HF.out]
    go_wp2_with fail
    refine (KdfS.specChain U.a U.n U.c F n x2 HUN.out OU2.out.rd.rd OU2.out.rd.nil HFB.out (by have := HUN.out; have := HFL.out; omega)).mono ?_
    rintro e x3 ⟨g1, m1, c1, rfl, em, kg, rr, b⟩
    have oN : SOwn x3 x2.heap.size x3.heap.size ⟨some ⟨g1, 0, none⟩, m1, c1⟩ (chnI F n) := SOwn.row rr em (chnI_bytes _ HFB.out _) kg rr.lt
    clear em kg rr
    have L3 : Hid (x2.heap.size ≤ x3.heap.size) := b.size
    have B3 : Hid (Below w.heap.size w x3) := B2.out.trans (b.mono B2.out.size)
    have OT3 : Hid (SOwn x3 w.heap.size x1.heap.size T (rootK l cn sn)) := OT2.out.later b
    have OU3 : Hid (SOwn x3 x1.heap.size x2.heap.size U F) := OU2.out.later b
    clear b B2 OT2 OU2
    have O1_3 : Hid (SOwn x3 x2.heap.size x3.heap.size ⟨some ⟨g1, 0, none⟩, m1, c1⟩ (chnI F n)) := oN
    clear oN
    have OR : SOwn x3 x2.heap.size x3.heap.size ⟨some ⟨g1, 0, none⟩, m1, c1⟩ R := by rw [← HCH.out]; exact O1_3.out
    have LB : w.heap.size ≤ x2.heap.size := by have := L1.out; have := L2.out; have := L3.out; omega
    go_wp2
    go_ret
    exact ⟨⟨some ⟨g1, 0, none⟩, m1, c1⟩, rfl, OR.mono LB (Nat.le_refl _), B3.out⟩

set_option maxRecDepth 100000 in
set_option maxHeartbeats 8000000 in
theorem specProof (q : Sl) (l : List Int) (id : Int) (c s : Sl) (cn sn : List Int) (tick : Int) (k : Sl) (ck : List Int) (w : World) (hq : SRd w q l) (hc : SRd w c cn) (hs : SRd w s sn) (hk : SRd w k ck) :
    Calls Tryd.prog 26 #[.slice q.a q.n q.c, .int .i64 id, .slice c.a c.n c.c, .slice s.a s.n s.c, .int .i64 tick, .slice k.a k.n k.c] w (AnsB (proofK l id cn sn tick ck) w) := by
  have HQ : Hid (SRd w q l) := hq
  have HC : Hid (SRd w c cn) := hc
  have HS : Hid (SRd w s sn) := hs
  have HK : Hid (SRd w k ck) := hk
  obtain ⟨R, hR⟩ : ∃ R, proofK l id cn sn tick ck = R := ⟨_, rfl⟩
  have HRD : Hid (proofK l id cn sn tick ck = R) := hR
  obtain ⟨F, hF⟩ : ∃ F, finK l = F := ⟨_, rfl⟩
  have HF : Hid (finK l = F) := hF
  obtain ⟨M, hM⟩ : ∃ M, proofL id cn sn tick ck = M := ⟨_, rfl⟩
  have HM : Hid (proofL id cn sn tick ck = M) := hM
  rw [hR]
  clear hq hc hs hk hR hF hM
  go_enter Tryd.func26, Tryd.ntmps26
  have B0 : Hid (Below w.heap.size w w) := Below.refl _ _
  go_wp2_with fail
  refine (specFinishKey q l w HQ.out).mono ?_
  unfold AnsB
  rw [HF.out]
  rintro e x1 ⟨T, rfl, o, b⟩
  have L1 : Hid (w.heap.size ≤ x1.heap.size) := b.size
  have B1 : Hid (Below w.heap.size w x1) := B0.out.trans (b.mono B0.out.size)
  clear b B0
  have OT1 : Hid (SOwn x1 w.heap.size x1.heap.size T F) := o
  clear o
  go_wp2_with fail
  refine (KeS.specProofBody id c s cn sn tick k ck x1 (HC.out.later B1.out) (HS.out.later B1.out) (HK.out.later B1.out)).mono ?_
  unfold AnsB
  rw [HM.out]
  rintro e x2 ⟨U, rfl, o, b⟩
  have L2 : Hid (x1.heap.size ≤ x2.heap.size) := b.size
  have B2 : Hid (Below w.heap.size w x2) := B1.out.trans (b.mono B1.out.size)
  have OT2 : Hid (SOwn x2 w.heap.size x1.heap.size T F) := OT1.out.later b
  clear b B1 OT1
  have OU2 : Hid (SOwn x2 x1.heap.size x2.heap.size U M) := o
  clear o
  cases h0 : pskOk l.length with
  | false =>
    obtain rfl : R = [] := by rw [← HRD.out]; exact proofK_no (by unfold proofB; rw [h0]; rfl)
    have hz : ((T.n : Int) == 0) = true := by have q := OT2.out.len; rw [← HF.out, finK_no h0] at q; simp at q; simp [q]
    go_wp2
    go_ret
    exact nil_ans B2.out
  | true =>
    have HTN : Hid (T.n = 32) := by have q := OT2.out.len; rw [← HF.out, finK_len h0] at q; exact q
    have hz : ((T.n : Int) == 0) = false := by have := HTN.out; simp; omega
    cases h1 : proofF id cn.length sn.length tick ck.length with
    | false =>
      obtain rfl : R = [] := by rw [← HRD.out]; exact proofK_no (by unfold proofB; rw [h0, h1]; rfl)
      have hu : ((U.n : Int) == 0) = true := by have q := OU2.out.len; rw [← HM.out, proofL_no h1] at q; simp at q; simp [q]
      go_wp2
      go_ret
      exact nil_ans B2.out
    | true =>
      have HUN : Hid (U.n = 46) := by have q := OU2.out.len; rw [← HM.out, proofL_len h1] at q; exact q
      have hu : ((U.n : Int) == 0) = false := by have := HUN.out; simp; omega
      have HTG : Hid (tagI F M = R) := by show _ = _; rw [← HRD.out, ← HF.out, ← HM.out]; exact (proofK_yes (by unfold proofB; rw [h0, h1]; rfl)).symm
      have HLF : Hid (F.length = 32 ∧ M.length = 46) := by have q := OT2.out.len; have q2 := OU2.out.len; have := HTN.out; have := HUN.out; exact ⟨by omega, by omega⟩
      go_wp2_with fail
      refine (tagN T U F M x2 OT2.out.rd OU2.out.rd (by have := HLF.out; omega) (by have := HLF.out; omega)).mono ?_
      unfold AnsB
      rw [HTG.out]
      rintro e x3 ⟨V, rfl, o, b⟩
      have LO : w.heap.size ≤ x2.heap.size := B2.out.size
      have L3 : Hid (x2.heap.size ≤ x3.heap.size) := b.size
      have B3 : Hid (Below w.heap.size w x3) := B2.out.trans (b.mono B2.out.size)
      have OT3 : Hid (SOwn x3 w.heap.size x1.heap.size T F) := OT2.out.later b
      have OU3 : Hid (SOwn x3 x1.heap.size x2.heap.size U M) := OU2.out.later b
      clear b B2 OT2 OU2
      go_wp2
      go_ret
      exact ⟨V, rfl, o.mono LO (Nat.le_refl _), B3.out⟩
end Go.Proofs.YtpenhliaelhnoaaDoor.KeT
