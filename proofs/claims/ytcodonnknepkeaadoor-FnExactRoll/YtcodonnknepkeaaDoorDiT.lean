/-
  What spec's DiceAt and Roll answer.
-/
import Derived.Test.YtcodonnknepkeaaDoorDiQ
import Derived.Test.YtcodonnknepkeaaDoorDiS
import Derived.Test.YtcodonnknepkeaaDoorMacS
import Derived.Test.YtcodonnknepkeaaDoorAppAt
import Derived.Test.YtcodonnknepkeaaDoorShp
import Derived.Lib.SlBytesConst
import Derived.Lib.SmallJoins
import Derived.Deep.RegionHeld3
namespace Go.Proofs.YtcodonnknepkeaaDoor.DiT
open Go.RowKit Go.Proofs.YtcodonnknepkeaaDoor.Mem Go.Proofs.YtcodonnknepkeaaDoor.App Go.Proofs.YtcodonnknepkeaaDoor.Blk Go.Proofs.YtcodonnknepkeaaDoor.Words Go.Proofs.YtcodonnknepkeaaDoor.Zone Go.Proofs.YtcodonnknepkeaaDoor.Res Go.Proofs.YtcodonnknepkeaaDoor.DiZ Go.Proofs.YtcodonnknepkeaaDoor.DiL Go.Proofs.YtcodonnknepkeaaDoor.DiP Go.Proofs.YtcodonnknepkeaaDoor.DiQ Go.Proofs.YtcodonnknepkeaaDoor.MacP Go.Proofs.YtcodonnknepkeaaDoor.Str Go.Proofs.YtcodonnknepkeaaDoor.Shp Go.Proofs.YtcodonnknepkeaaDoor.Each Go.Proofs.YtcodonnknepkeaaDoor.Copy Go.Proofs.YtcodonnknepkeaaDoor.Ops Go.Proofs.YtcodonnknepkeaaDoor.MacS Go.Proofs.YtcodonnknepkeaaDoor.AppAt Go.Proofs.YtcodonnknepkeaaDoor.DiS

set_option maxRecDepth 100000 in
theorem nil_ans {w x : World} (b : Below w.heap.size w x) : AnsB [] w (.returned (.slice (some ⟨x.heap.size, 0, none⟩) 0 0)) (x.alloc (.cells #[] 5)) :=
  ⟨⟨some ⟨x.heap.size, 0, none⟩, 0, 0⟩, rfl, SOwn.row (row_new x [] (by simp)) rfl (fun z hz => by cases hz) b.size (by rw [World.size_alloc]; exact Nat.lt_succ_self _), b.alloc b.size _⟩
set_option maxRecDepth 100000 in
theorem bs_roll : bs rollB = [114, 111, 108, 108] := rfl
set_option maxRecDepth 100000 in
theorem roll_rd (x : World) : Rd (x.alloc (.cells #[.int .u8 114, .int .u8 111, .int .u8 108, .int .u8 108] 5 (4, 5))) (some ⟨x.heap.size, 0, none⟩) (bs rollB) := by
  intro i hi
  rw [roll_len] at hi
  refine ⟨x.heap.size, 0, rfl, by rw [World.size_alloc]; exact Nat.lt_succ_self _, ?_⟩
  rw [Nat.zero_add, World.cell?_alloc_mark, bs_roll]
  match i, hi with
  | 0, _ => rfl
  | 1, _ => rfl
  | 2, _ => rfl
  | 3, _ => rfl
set_option maxRecDepth 100000 in
theorem row_pre {w : World} {g k : Nat} {l : List Int} (h : Rd w (some ⟨g, 0, none⟩) l) (hk : k ≤ l.length) : Rd w (some ⟨g, 0, none⟩) (l.take k) := by
  intro i hi
  rw [List.length_take] at hi
  obtain ⟨b', off, e, hb', hh⟩ := h i (by omega)
  refine ⟨b', off, e, hb', ?_⟩
  rw [hh]
  have : i < k := by omega
  simp [List.getD, this]

set_option maxRecDepth 100000 in
theorem hide {p : Prop} (h : p) : Hid p := h
set_option maxRecDepth 100000 in
theorem own_new (x : World) : SOwn (x.alloc (.cells #[] 5)) x.heap.size (x.heap.size + 1) ⟨some ⟨x.heap.size, 0, none⟩, 0, 0⟩ [] := SOwn.row (row_new x [] (by simp)) rfl (fun z hz => by cases hz) (Nat.le_refl _) (Nat.lt_succ_self _)
set_option maxRecDepth 100000 in
theorem own_top {w : World} {lo hi : Nat} {s : Sl} {l : List Int} (h : SOwn w lo hi s l) : SOwn w lo w.heap.size s l := ⟨h.1, h.2.elim .inl (fun ⟨g, h1, h2, h3, _, h5⟩ => .inr ⟨g, h1, h2, h3, h5.lt, h5⟩)⟩

set_option maxRecDepth 100000 in
set_option maxHeartbeats 8000000 in
theorem specDiceAt (s : Sl) (l : List Int) (n : Int) (w : World) (h : SRd w s l) :
    Calls Tryd.prog 14 #[.slice s.a s.n s.c, .int .i64 n] w (AnsB (atL l n) w) := by
  have HR : Hid (SRd w s l) := h
  have HN : Hid (s.n = l.length) := h.len
  obtain ⟨R, hR⟩ : ∃ R, atL l n = R := ⟨_, rfl⟩
  have HRD : Hid (atL l n = R) := hR
  rw [hR]
  clear h hR
  go_enter Tryd.func14, Tryd.ntmps14
  go_wp2_with fail
  refine (Words.l1In (s.n : Int) 1 32 w).mono ?_
  rintro e y ⟨rfl, rfl⟩
  cases h0 : seedOk s.n with
  | false =>
    obtain rfl : R = [] := by rw [← HRD.out]; exact at_no (by unfold atB; rw [← HN.out, h0]; rfl)
    have h0' : isIn (s.n : Int) 1 32 = false := h0
    go_wp2
    go_ret
    exact nil_ans (Below.refl _ _)
  | true =>
    have h0' : isIn (s.n : Int) 1 32 = true := h0
    go_wp2_with fail
    refine (Words.l1In n 0 10000 w).mono ?_
    rintro e y ⟨rfl, rfl⟩
    cases h1 : rollOk n with
    | false =>
      obtain rfl : R = [] := by rw [← HRD.out]; exact at_no (by unfold atB; rw [← HN.out, h0, h1]; rfl)
      have h1' : isIn n 0 10000 = false := h1
      go_wp2
      go_ret
      exact nil_ans (Below.refl _ _)
    | true =>
      have HB : Hid (atB l n = true) := by show atB l n = true; unfold atB; rw [← HN.out, h0, h1]; rfl
      have h1' : isIn n 0 10000 = true := h1
      have HQ : Hid ((hmacI l (ofN n)).take 12 = R) := by show _ = _; rw [← HRD.out, at_yes HB.out]
      have HL : Hid (l.length ≤ 32) := (seedOk_iff.1 (Bool.and_eq_true_iff.1 HB.out).1).2
      have HM : Hid ((hmacI l (ofN n)).length = 32) := hm_len HB.out
      obtain ⟨x1, hx1⟩ : ∃ x1, (w.alloc (.cells #[] 5)).alloc (.cells #[.int .u8 114, .int .u8 111, .int .u8 108, .int .u8 108] 5 (4, 5)) = x1 := ⟨_, rfl⟩
      have HW1 : Hid ((w.alloc (.cells #[] 5)).alloc (.cells #[.int .u8 114, .int .u8 111, .int .u8 108, .int .u8 108] 5 (4, 5)) = x1) := hx1
      have B1 : Hid (Below w.heap.size w x1) := by rw [← hx1]; exact ((Below.refl _ _).alloc (Nat.le_refl _) _).alloc (by simp) _
      have N1 : Hid (Row x1 w.heap.size 0 []) := by rw [← hx1]; exact row_alloc (row_new w [] (by simp)) _
      have R1 : Hid (Rd x1 (some ⟨w.heap.size + 1, 0, none⟩) (bs rollB)) := by
        have q := roll_rd (w.alloc (.cells #[] 5))
        rw [World.size_alloc] at q
        rw [← hx1]; exact q
      have kc := Joins.run_convert_bytes_const_at (P := Tryd.prog) (w.alloc (.cells #[] 5)) 22 5 #[.int .u8 114, .int .u8 111, .int .u8 108, .int .u8 108] 4 4 (w.heap.size + 1) (by simp) Tryd.underlying22 Tryd.underlying5
      clear hx1
      go_wp2_with fail
      rw [HW1.out]
      clear kc HW1
      refine (specPutN (some ⟨w.heap.size + 1, 0, none⟩) 4 4 (bs rollB) n 4 x1 roll_len.symm R1.out (by intro e; cases e) (by rw [roll_len]; omega)).mono ?_
      rintro e x2 ⟨g2, m2, c2, rfl, em, kg, rr, b⟩
      have E2 : Hid (m2 = (ofN n).length) := em
      have R2 : Hid (Row x2 g2 c2 (ofN n)) := rr
      have B2 : Hid (Below w.heap.size w x2) := B1.out.trans (b.mono B1.out.size)
      have N2 : Hid (Row x2 w.heap.size 0 []) := N1.out.later b
      have hm2 : m2 ≤ 10 := by rw [em]; exact ofN_len n
      clear em kg rr b
      go_wp2_with fail
      refine (specHmac s.a s.n s.c (some ⟨g2, 0, none⟩) m2 c2 l (ofN n) x2 HN.out E2.out (HR.out.later B2.out).rd R2.out.rd HR.out.nil (by intro e; cases e) HR.out.bytes (ofN_bytes n) (by have := HN.out; have := HL.out; omega) (by omega)).mono ?_
      rintro e x3 ⟨g3, m3, c3, rfl, em, kg, rr, b⟩
      obtain rfl : 32 = m3 := by rw [em, HM.out]
      have R3 : Hid (Row x3 g3 c3 (hmacI l (ofN n))) := rr
      have T3 : Hid (Rd x3 (some ⟨g3, 0, none⟩) R) := by rw [← HQ.out]; exact row_pre rr.rd (by rw [HM.out]; omega)
      have TL : Hid (12 = R.length) := by rw [← HQ.out]; show _ = _; rw [List.length_take, HM.out]; rfl
      have B3 : Hid (Below w.heap.size w x3) := B2.out.trans (b.mono B2.out.size)
      have N3 : Hid (Row x3 w.heap.size 0 []) := N2.out.later b
      have hc3 : (32 : Int) ≤ (c3 : Int) := by have := rr.1; rw [HM.out] at this; omega
      have HRB : Hid (Bytes R) := by rw [← HQ.out]; exact fun z hz => hmacI_bytes _ _ z (List.mem_of_mem_take hz)
      clear em kg rr b
      go_wp2_with (at_builtin; refine wpList_app _ rfl (.tmp 15) (.tmp 22) rfl w.heap.size w.heap.size 0 0 [] R rfl rfl N3.out (Nat.le_refl _) (some ⟨g3, 0, none⟩) 12 c3 rfl TL.out T3.out (by intro e; cases e) (by rw [← TL.out]; simp) ?_; intro g4 c4 x4 r4 k4 l4 gr4; have R4 : Hid (Row x4 g4 c4 R) := (List.nil_append R) ▸ r4; have G4 : Hid (w.heap.size ≤ g4) := k4; have B4 : Hid (Below w.heap.size w x4) := B3.out.grown gr4 B3.out.size (fun k h => by cases h; exact Nat.le_refl _); clear r4 k4 l4 gr4)
      go_ret
      exact ⟨⟨some ⟨g4, 0, none⟩, 12, c4⟩, rfl, SOwn.row R4.out TL.out HRB.out G4.out R4.out.lt, B4.out⟩

set_option maxRecDepth 100000 in
set_option maxHeartbeats 8000000 in
theorem specRoll (S : DiS) (D : DiD) (w : World) (h : DiRd w S D) (hl : D.seed.length ≤ 4194304) :
    Calls Tryd.prog 20 #[diV D S] w (AnsR (rollD D) (rollL D) w) := by
  have HR : Hid (DiRd w S D) := h
  have HLL : Hid (D.seed.length ≤ 4194304) := hl
  obtain ⟨R, hR⟩ : ∃ R, rollD D = R := ⟨_, rfl⟩
  have HRD : Hid (rollD D = R) := hR
  obtain ⟨Q, hQ⟩ : ∃ Q, rollL D = Q := ⟨_, rfl⟩
  have HRL : Hid (rollL D = Q) := hQ
  rw [hR, hQ]
  clear h hl hR hQ
  obtain ⟨x0, hx0⟩ : ∃ x0, (w.alloc (.cells #[.slice S.seed.a S.seed.n S.seed.c, .int .i64 D.num] 25)).alloc (.cells #[.slice none 0 0, .int .i64 0] 25) = x0 := ⟨_, rfl⟩
  have HW0 : Hid ((w.alloc (.cells #[.slice S.seed.a S.seed.n S.seed.c, .int .i64 D.num] 25)).alloc (.cells #[.slice none 0 0, .int .i64 0] 25) = x0) := hx0
  have B0 : Hid (Below w.heap.size w x0) := by rw [← hx0]; exact ((Below.refl _ _).alloc (Nat.le_refl _) _).alloc (by simp) _
  have KA : Hid (Blk x0 w.heap.size 25 [.slice S.seed.a S.seed.n S.seed.c, .int .i64 D.num]) := by rw [← hx0]; exact (Blk.new w _ _).alloc _
  have KO : Hid (Blk x0 (w.heap.size + 1) 25 [.slice none 0 0, .int .i64 0]) := by
    have := Blk.new (w.alloc (.cells #[.slice S.seed.a S.seed.n S.seed.c, .int .i64 D.num] 25)) 25 [.slice none 0 0, .int .i64 0]
    rw [World.size_alloc] at this
    rw [← hx0]; exact this
  have HSZ : Hid (w.heap.size + 2 ≤ x0.heap.size) := by rw [← hx0]; show _ ≤ _; simp
  clear hx0
  unfold diV
  go_enter Tryd.func20, Tryd.ntmps20
  go_upto_region 1 with fail
  rw [HW0.out]
  obtain ⟨ga, hga⟩ : ∃ g, w.heap.size = g := ⟨_, rfl⟩
  obtain ⟨go, hgo⟩ : ∃ g, w.heap.size + 1 = g := ⟨_, rfl⟩
  have HG : Hid (w.heap.size = ga ∧ ga + 1 = go ∧ go < x0.heap.size) := ⟨hga, by omega, by have := HSZ.out; omega⟩
  rw [hga] at KA
  rw [hgo] at KO
  rw [hgo, hga]
  clear hga hgo HW0
  have d0 := KA.out.cell 0 rfl
  have d1 := KA.out.cell 1 rfl
  go_wp2_with fail
  refine (specCopy S D x0 (HR.out.later B0.out) HLL.out).mono ?_
  rintro e x1 ⟨S1, rfl, o, b⟩
  have O1 : Hid (DiOwn x1 x0.heap.size x1.heap.size S1 D) := o
  have B1 : Hid (Below w.heap.size w x1) := B0.out.trans (b.mono B0.out.size)
  have KA1 : Hid (Blk x1 ga 25 [.slice S.seed.a S.seed.n S.seed.c, .int .i64 D.num]) := KA.out.later b
  have KO1 : Hid (Blk x1 go 25 [.slice none 0 0, .int .i64 0]) := KO.out.later b
  have L1 : Hid (x0.heap.size ≤ x1.heap.size) := b.size
  obtain ⟨x2, hx2⟩ : ∃ x2, x1.alloc (.cells #[.slice S1.seed.a S1.seed.n S1.seed.c, .int .i64 D.num] 25) = x2 := ⟨_, rfl⟩
  have HW2 : Hid (x1.alloc (.cells #[.slice S1.seed.a S1.seed.n S1.seed.c, .int .i64 D.num] 25) = x2) := hx2
  have b2 : Below x1.heap.size x1 x2 := by rw [← hx2]; exact (Below.refl _ _).alloc (Nat.le_refl _) _
  have KN : Hid (Blk x2 x1.heap.size 25 [.slice S1.seed.a S1.seed.n S1.seed.c, .int .i64 D.num]) := by rw [← hx2]; exact Blk.new x1 _ _
  have O2 : Hid (DiOwn x2 x0.heap.size x1.heap.size S1 D) := O1.out.later b2
  have B2 : Hid (Below w.heap.size w x2) := B1.out.trans (b2.mono B1.out.size)
  have KA2 : Hid (Blk x2 ga 25 [.slice S.seed.a S.seed.n S.seed.c, .int .i64 D.num]) := KA1.out.later b2
  have KO2 : Hid (Blk x2 go 25 [.slice none 0 0, .int .i64 0]) := KO1.out.later b2
  have L2 : Hid (x2.heap.size = x1.heap.size + 1) := by rw [← hx2]; show _ = _; simp
  clear o b hx2 b2 d0 d1 O1 B1 KA1 KO1
  unfold diV
  go_upto_region 2 with fail
  rw [HW2.out]
  obtain ⟨gn, hgn⟩ : ∃ g, x1.heap.size = g := ⟨_, rfl⟩
  have HGN : Hid (x1.heap.size = gn) := hgn
  rw [hgn] at KN O2 ⊢
  clear hgn HW2
  have d0 := KA2.out.cell 0 rfl
  have d1 := KA2.out.cell 1 rfl
  go_wp2_with fail
  refine (specDiceOk S D x2 (HR.out.later B2.out)).mono ?_
  rintro e x3 ⟨rfl, b⟩
  have O3 : Hid (DiOwn x3 x0.heap.size gn S1 D) := O2.out.later b
  have B3 : Hid (Below w.heap.size w x3) := B2.out.trans (b.mono B2.out.size)
  have KA3 : Hid (Blk x3 ga 25 [.slice S.seed.a S.seed.n S.seed.c, .int .i64 D.num]) := KA2.out.later b
  have KO3 : Hid (Blk x3 go 25 [.slice none 0 0, .int .i64 0]) := KO2.out.later b
  have KN3 : Hid (Blk x3 gn 25 [.slice S1.seed.a S1.seed.n S1.seed.c, .int .i64 D.num]) := KN.out.later b
  have L3 : Hid (x2.heap.size ≤ x3.heap.size) := b.size
  clear b d0 d1 KA2 KO2 KN O2 B2
  cases h0 : diOk D with
  | false =>
    have HNO : Hid (mayRoll D = false) := (by show mayRoll D = false; unfold mayRoll; rw [h0]; rfl)
    obtain rfl : Q = [] := by rw [← HRL.out]; exact rollL_no HNO.out
    obtain rfl : R = D := by rw [← HRD.out]; exact rollD_no HNO.out
    have KX : Hid (Blk (x3.alloc (.cells #[] 5)) go 25 [.slice none 0 0, .int .i64 0]) := KO3.out.alloc _
    have OX : Hid (DiOwn (x3.alloc (.cells #[] 5)) x0.heap.size gn S1 R) := O3.out.later ((Below.refl _ _).alloc (Nat.le_refl _) _)
    have NX : Hid (SOwn (x3.alloc (.cells #[] 5)) x3.heap.size (x3.heap.size + 1) ⟨some ⟨x3.heap.size, 0, none⟩, 0, 0⟩ []) := own_new x3
    have BX : Hid (Below w.heap.size w (x3.alloc (.cells #[] 5))) := B3.out.alloc B3.out.size _
    have SZX : Hid (w.heap.size ≤ go ∧ w.heap.size ≤ x0.heap.size ∧ go + 1 ≤ x0.heap.size ∧ x0.heap.size ≤ gn ∧ gn ≤ x3.heap.size ∧ w.heap.size ≤ x3.heap.size ∧ go + 1 ≤ x3.heap.size) := by have := HG.out; have := L1.out; have := HGN.out; have := L2.out; have := L3.out; show _ ∧ _; omega
    have n0 := KN3.out.cell 0 rfl
    have n1 := KN3.out.cell 1 rfl
    have a1 := KA3.out.cell 1 rfl
    have q0 := KX.out.cell 0 rfl
    have q1 := KX.out.cell 1 rfl
    have f0 := KX.out.frozen 0
    have f1 := KX.out.frozen 1
    have p0 := KO3.out.cell 0 rfl
    have p1 := KO3.out.cell 1 rfl
    go_wp2
    obtain ⟨k1, k2, k3⟩ := di_stored (D := R) (S := S1) KX.out OX.out (.inl (by have := SZX.out; omega))
    refine bodyPost_ret (v := .tuple #[diV R S1, .slice (some ⟨x3.heap.size, 0, none⟩) 0 0]) (res2 rfl (is_cell rfl k1 aggDi) (is_tmp rfl)) rfl ⟨S1, ⟨some ⟨x3.heap.size, 0, none⟩, 0, 0⟩, x0.heap.size, gn, x3.heap.size, x3.heap.size + 1, rfl, k2, NX.out.carry (di_kept _ _ _ _) (.inr (by have := SZX.out; omega)), ?_, k3 _ _ (by have := SZX.out; omega) BX.out⟩
    rw [di_size, World.size_alloc]; have := SZX.out; omega
  | true =>
    cases h1 : (D.num == 10000) with
    | true =>
        have HNO : Hid (mayRoll D = false) := (by show mayRoll D = false; unfold mayRoll; rw [h0, show D.num = 10000 by simpa using h1]; rfl)
        obtain rfl : Q = [] := by rw [← HRL.out]; exact rollL_no HNO.out
        obtain rfl : R = D := by rw [← HRD.out]; exact rollD_no HNO.out
        have KX : Hid (Blk (x3.alloc (.cells #[] 5)) go 25 [.slice none 0 0, .int .i64 0]) := KO3.out.alloc _
        have OX : Hid (DiOwn (x3.alloc (.cells #[] 5)) x0.heap.size gn S1 R) := O3.out.later ((Below.refl _ _).alloc (Nat.le_refl _) _)
        have NX : Hid (SOwn (x3.alloc (.cells #[] 5)) x3.heap.size (x3.heap.size + 1) ⟨some ⟨x3.heap.size, 0, none⟩, 0, 0⟩ []) := own_new x3
        have BX : Hid (Below w.heap.size w (x3.alloc (.cells #[] 5))) := B3.out.alloc B3.out.size _
        have SZX : Hid (w.heap.size ≤ go ∧ w.heap.size ≤ x0.heap.size ∧ go + 1 ≤ x0.heap.size ∧ x0.heap.size ≤ gn ∧ gn ≤ x3.heap.size ∧ w.heap.size ≤ x3.heap.size ∧ go + 1 ≤ x3.heap.size) := by have := HG.out; have := L1.out; have := HGN.out; have := L2.out; have := L3.out; show _ ∧ _; omega
        have n0 := KN3.out.cell 0 rfl
        have n1 := KN3.out.cell 1 rfl
        have a1 := KA3.out.cell 1 rfl
        have q0 := KX.out.cell 0 rfl
        have q1 := KX.out.cell 1 rfl
        have f0 := KX.out.frozen 0
        have f1 := KX.out.frozen 1
        have p0 := KO3.out.cell 0 rfl
        have p1 := KO3.out.cell 1 rfl
        go_wp2
        obtain ⟨k1, k2, k3⟩ := di_stored (D := R) (S := S1) KX.out OX.out (.inl (by have := SZX.out; omega))
        refine bodyPost_ret (v := .tuple #[diV R S1, .slice (some ⟨x3.heap.size, 0, none⟩) 0 0]) (res2 rfl (is_cell rfl k1 aggDi) (is_tmp rfl)) rfl ⟨S1, ⟨some ⟨x3.heap.size, 0, none⟩, 0, 0⟩, x0.heap.size, gn, x3.heap.size, x3.heap.size + 1, rfl, k2, NX.out.carry (di_kept _ _ _ _) (.inr (by have := SZX.out; omega)), ?_, k3 _ _ (by have := SZX.out; omega) BX.out⟩
        rw [di_size, World.size_alloc]; have := SZX.out; omega
    | false =>
      have HM : Hid (mayRoll D = true) := by
        have q := (rollOk_iff.1 (Bool.and_eq_true_iff.1 h0).2).2
        have q2 : D.num ≠ 10000 := by simpa using h1
        show mayRoll D = true
        unfold mayRoll; rw [h0, decide_eq_true (by omega : D.num < 10000)]; rfl
      obtain rfl : R = ⟨D.seed, D.num + 1⟩ := by rw [← HRD.out]; exact rollD_yes HM.out
      have HQ : Hid (atL D.seed D.num = Q) := by show _ = _; rw [← HRL.out, rollL_yes HM.out]
      have HNN : Hid (0 ≤ D.num ∧ D.num < 10000) := (may_parts HM.out).2
      have hwr : IntKind.i64.wrap (D.num + 1) = D.num + 1 := by have := HNN.out; rw [IntKind.wrap_i64]; omega
      obtain ⟨x4, hx4⟩ : ∃ x4, x3.setCell ⟨gn, 1, none⟩ (.int .i64 (D.num + 1)) = x4 := ⟨_, rfl⟩
      have HW4 : Hid (x3.setCell ⟨gn, 1, none⟩ (.int .i64 (D.num + 1)) = x4) := hx4
      have NE : Hid (gn ≠ go ∧ gn ≠ ga ∧ w.heap.size ≤ gn ∧ go + 1 ≤ x0.heap.size ∧ x0.heap.size ≤ gn ∧ gn + 1 ≤ x3.heap.size ∧ w.heap.size ≤ go) := by have := HG.out; have := L1.out; have := HGN.out; have := L2.out; have := L3.out; show _ ∧ _; omega
      have KN4 : Hid (Blk x4 gn 25 [.slice S1.seed.a S1.seed.n S1.seed.c, .int .i64 (D.num + 1)]) := by rw [← hx4]; exact KN3.out.set 1 _ (by simp [maxLen])
      have KO4 : Hid (Blk x4 go 25 [.slice none 0 0, .int .i64 0]) := by rw [← hx4]; exact KO3.out.other (by have := NE.out; exact Ne.symm this.1) _
      have KA4 : Hid (Blk x4 ga 25 [.slice S.seed.a S.seed.n S.seed.c, .int .i64 D.num]) := by rw [← hx4]; exact KA3.out.other (by have := NE.out; exact Ne.symm this.2.1) _
      have O4 : Hid (DiOwn x4 x0.heap.size gn S1 D) := by rw [← hx4]; exact O3.out.carry (Kept.setCell x3 gn 1 (.int .i64 (D.num + 1))) (.inl (Nat.le_refl _))
      have B4 : Hid (Below w.heap.size w x4) := by rw [← hx4]; exact B3.out.setCell (by have := NE.out; exact this.2.2.1) _
      have L4 : Hid (x4.heap.size = x3.heap.size) := by rw [← hx4]; show _ = _; simp
      clear hx4
      have q1 := KN3.out.cell 1 rfl
      have f1 := KN3.out.frozen 1
      have a0 := KA3.out.cell 0 rfl
      have a1 := KA3.out.cell 1 rfl
      go_upto_region 5 with fail
      rw [HW4.out]
      clear HW4 q1 f1 a0 a1
      have NNO : gn ≠ go := NE.out.1
      have ANO : ga ≠ go := by have := HG.out; omega
      have TXD : Hid (Below x4.heap.size x4 x4.drew) := (Below.refl _ _).drew
      have BXD : Hid (Below w.heap.size w x4.drew) := B4.out.drew
      have n0 := KN4.out.cell 0 rfl
      have n1 := KN4.out.cell 1 rfl
      have a0 := KA4.out.cell 0 rfl
      have a1 := KA4.out.cell 1 rfl
      have xn0 := hide ((KN4.out.later TXD.out).cell 0 rfl)
      have xn1 := hide ((KN4.out.later TXD.out).cell 1 rfl)
      have xa0 := hide ((KA4.out.later TXD.out).cell 0 rfl)
      have xa1 := hide ((KA4.out.later TXD.out).cell 1 rfl)
      go_region_held3 (fun w' => w'.cell? ⟨gn, 0, none⟩ = some (.slice S1.seed.a S1.seed.n S1.seed.c) ∧ w'.cell? ⟨gn, 1, none⟩ = some (.int .i64 (D.num + 1)) ∧ w'.cell? ⟨ga, 0, none⟩ = some (.slice S.seed.a S.seed.n S.seed.c) ∧ w'.cell? ⟨ga, 1, none⟩ = some (.int .i64 D.num)) (first | with_reducible exact ⟨n0, n1, a0, a1⟩ | with_reducible exact ⟨xn0.out, xn1.out, xa0.out, xa1.out⟩ | with_reducible exact ⟨yn0, yn1, ya0, ya1⟩ | with_reducible exact ⟨zn0.out, zn1.out, za0.out, za1.out⟩ | fail)
        ((go_at_call 14; refine (specDiceAt S.seed D.seed D.num x4.drew (HR.out.later BXD.out).seed).mono ?_; rintro e y1 ⟨T, rfl, o, b⟩; have T1 : Hid (Below x4.heap.size x4 y1) := TXD.out.trans (b.mono TXD.out.size); have OT : Hid (SOwn y1 x4.heap.size y1.heap.size T Q) := (by show SOwn _ _ _ _ _; rw [← HQ.out]; exact o); have KNy : Hid (Blk y1 gn 25 [.slice S1.seed.a S1.seed.n S1.seed.c, .int .i64 (D.num + 1)]) := KN4.out.later T1.out; have KAy : Hid (Blk y1 ga 25 [.slice S.seed.a S.seed.n S.seed.c, .int .i64 D.num]) := KA4.out.later T1.out; have KOy : Hid (Blk y1 go 25 [.slice none 0 0, .int .i64 0]) := KO4.out.later T1.out; have yn0 := KNy.out.cell 0 rfl; have yn1 := KNy.out.cell 1 rfl; have ya0 := KAy.out.cell 0 rfl; have ya1 := KAy.out.cell 1 rfl; have yo0 := KOy.out.cell 0 rfl; have yo1 := KOy.out.cell 1 rfl; have yf0 := KOy.out.frozen 0; have yf1 := KOy.out.frozen 1; have zN := di_other KNy.out NNO (.slice S1.seed.a S1.seed.n S1.seed.c) (.int .i64 (D.num + 1)); have zA := di_other KAy.out ANO (.slice S1.seed.a S1.seed.n S1.seed.c) (.int .i64 (D.num + 1)); have zn0 := hide (zN.cell 0 rfl); have zn1 := hide (zN.cell 1 rfl); have za0 := hide (zA.cell 0 rfl); have za1 := hide (zA.cell 1 rfl); clear zN zA o b))
      have OX : Hid (DiOwn y1 x0.heap.size gn S1 ⟨D.seed, D.num + 1⟩) := by have q := O4.out.later T1.out; exact ⟨q.seed, q.apart⟩
      have BX : Hid (Below w.heap.size w y1) := B4.out.trans (T1.out.mono B4.out.size)
      have SZX : Hid (w.heap.size ≤ go ∧ w.heap.size ≤ x0.heap.size ∧ go + 1 ≤ x0.heap.size ∧ x0.heap.size ≤ gn ∧ gn ≤ x4.heap.size ∧ w.heap.size ≤ x4.heap.size ∧ go + 1 ≤ x4.heap.size ∧ x4.heap.size ≤ y1.heap.size) := by have := HG.out; have := L4.out; have := NE.out; have := T1.out.size; show _ ∧ _; omega
      go_wp2
      obtain ⟨k1, k2, k3⟩ := di_stored (D := ⟨D.seed, D.num + 1⟩) (S := S1) KOy.out OX.out (.inl (by have := SZX.out; omega))
      refine bodyPost_ret (v := .tuple #[diV ⟨D.seed, D.num + 1⟩ S1, .slice T.a T.n T.c]) (res2 rfl (is_cell rfl k1 aggDi) (is_tmp rfl)) rfl ⟨S1, T, x0.heap.size, gn, x4.heap.size, y1.heap.size, rfl, k2, OT.out.carry (di_kept _ _ _ _) (.inr (by have := SZX.out; omega)), ?_, k3 _ _ (by have := SZX.out; omega) BX.out⟩
      rw [di_size]; have := SZX.out; omega
end Go.Proofs.YtcodonnknepkeaaDoor.DiT
