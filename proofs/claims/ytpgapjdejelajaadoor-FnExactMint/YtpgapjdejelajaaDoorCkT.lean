/-
  What spec's JarNew and Mint answer.
-/
import Derived.Test.YtpgapjdejelajaaDoorCkQ
import Derived.Test.YtpgapjdejelajaaDoorCkS
import Derived.Test.YtpgapjdejelajaaDoorKdfS
import Derived.Test.YtpgapjdejelajaaDoorShp
import Derived.Test.YtpgapjdejelajaaDoorCa1
namespace Go.Proofs.YtpgapjdejelajaaDoor.CkT
open Go.RowKit Go.Proofs.YtpgapjdejelajaaDoor.Mem Go.Proofs.YtpgapjdejelajaaDoor.App Go.Proofs.YtpgapjdejelajaaDoor.Blk Go.Proofs.YtpgapjdejelajaaDoor.Words Go.Proofs.YtpgapjdejelajaaDoor.Zone Go.Proofs.YtpgapjdejelajaaDoor.Res Go.Proofs.YtpgapjdejelajaaDoor.AddrP Go.Proofs.YtpgapjdejelajaaDoor.AddrS Go.Proofs.YtpgapjdejelajaaDoor.JaZ Go.Proofs.YtpgapjdejelajaaDoor.JaL Go.Proofs.YtpgapjdejelajaaDoor.CkP Go.Proofs.YtpgapjdejelajaaDoor.Shp Go.Proofs.YtpgapjdejelajaaDoor.CkQ Go.Proofs.YtpgapjdejelajaaDoor.MacP Go.Proofs.YtpgapjdejelajaaDoor.KdfP Go.Proofs.YtpgapjdejelajaaDoor.Str Go.Proofs.YtpgapjdejelajaaDoor.MacS

set_option maxRecDepth 100000 in
theorem nil_ans {w x : World} (b : Below w.heap.size w x) : AnsB [] w (.returned (.slice (some ⟨x.heap.size, 0, none⟩) 0 0)) (x.alloc (.cells #[] 5)) :=
  ⟨⟨some ⟨x.heap.size, 0, none⟩, 0, 0⟩, rfl, SOwn.row (row_new x [] (by simp)) rfl (fun z hz => by cases hz) b.size (by rw [World.size_alloc]; exact Nat.lt_succ_self _), b.alloc b.size _⟩

/-- A jar in memory of its own. -/
def AnsJ (D : JaD) (w : World) : Ending → World → Prop := fun e w' => ∃ S0 : JaS, e = .returned (jaV D S0) ∧ JaOwn w' w.heap.size w'.heap.size S0 D ∧ Below w.heap.size w w'
set_option maxRecDepth 100000 in
theorem nil_own (w : World) (lo hi : Nat) : JaOwn w lo hi ⟨⟨none, 0, 0⟩⟩ ⟨[]⟩ := ⟨SOwn.nil _ _ _, ⟨⟩⟩
set_option maxRecDepth 100000 in
theorem tagN (k t : Sl) (lk l : List Int) (w : World) (hk : SRd w k lk) (h : SRd w t l) (h1 : lk.length ≤ 2000000) (h2 : l.length ≤ 2000000) :
    Calls Tryd.prog 25 #[.slice k.a k.n k.c, .slice t.a t.n t.c] w (AnsB (tagI lk l) w) := (specTag k.a k.n k.c t.a t.n t.c lk l w hk.len h.len hk.rd h.rd hk.nil h.nil hk.bytes h.bytes (by rw [hk.len]; omega) (by rw [h.len]; omega)).mono fun _ _ h' => AnsB.of (tagI_bytes _ _) h'

set_option maxRecDepth 100000 in
set_option maxHeartbeats 8000000 in
theorem specJarNew (s : Sl) (l : List Int) (w : World) (h : SRd w s l) :
    Calls Tryd.prog 5 #[.slice s.a s.n s.c] w (AnsJ (newJ l) w) := by
  have HR : Hid (SRd w s l) := h
  have HN : Hid (((s.n : Int) == 12) = ((l.length : Int) == 12)) := by show _ = _; rw [h.len]
  have HZ : Hid (s.n = l.length) := h.len
  obtain ⟨R, hR⟩ : ∃ R, newJ l = R := ⟨_, rfl⟩
  have HRD : Hid (newJ l = R) := hR
  rw [hR]
  clear h hR
  go_enter Tryd.func5, Tryd.ntmps5
  obtain ⟨x1, hx1⟩ : ∃ x1, w.alloc (.cells #[.slice none 0 0] 24) = x1 := ⟨_, rfl⟩
  have HW1 : Hid (w.alloc (.cells #[.slice none 0 0] 24) = x1) := hx1
  have b1 : Below w.heap.size w x1 := by rw [← hx1]; exact (Below.refl _ _).alloc (Nat.le_refl _) _
  have KN : Blk x1 w.heap.size 24 [.slice none 0 0] := by rw [← hx1]; exact Blk.new w _ _
  have HSZ1 : Hid (x1.heap.size = w.heap.size + 1) := by rw [← hx1]; show _ = _; simp
  clear hx1
  have L1 : Hid (w.heap.size ≤ x1.heap.size) := b1.size
  have B1 : Hid (Below w.heap.size w x1) := b1
  clear b1
  go_upto_region 1 with fail
  rw [HW1.out]
  obtain ⟨go, hgo⟩ : ∃ g, w.heap.size = g := ⟨_, rfl⟩
  have Ggo : Hid (w.heap.size = go ∧ x1.heap.size = go + 1) := ⟨hgo, by rw [← hgo]; exact HSZ1.out⟩
  rw [hgo] at KN ⊢
  clear HW1 HSZ1 hgo
  have KO1 : Hid (Blk x1 go 24 [.slice none 0 0]) := KN
  clear KN
  cases h0 : ((s.n : Int) == 12) with
  | false =>
    have hne : ((s.n : Int) != 12) = true := by simpa using h0
    obtain rfl : R = ⟨[]⟩ := by rw [← HRD.out]; exact newJ_no (by rw [← HN.out]; exact h0)
    have c0 := KO1.out.cell 0 rfl
    have f0 := KO1.out.frozen 0
    go_wp2
    obtain ⟨k1, k2, k3⟩ := ja_stored (D := ⟨[]⟩) (S := ⟨⟨none, 0, 0⟩⟩) KO1.out (nil_own x1 x1.heap.size x1.heap.size) (.inl (by have := L1.out; have := Ggo.out; omega))
    exact bodyPost_ret (v := jaV ⟨[]⟩ ⟨⟨none, 0, 0⟩⟩) (res1 rfl (is_cell rfl k1 aggJa)) rfl ⟨⟨⟨none, 0, 0⟩⟩, rfl, nil_own _ _ _, k3 _ _ (by have := L1.out; have := Ggo.out; omega) B1.out⟩
  | true =>
    have hne : ((s.n : Int) != 12) = false := by simpa using h0
    have hne : ((s.n : Int) != 12) = false := by simpa using h0
    have HL : Hid (s.n = 12) := by show _ = _; simp at h0; omega
    obtain rfl : R = ⟨derI l (bs jarB)⟩ := by rw [← HRD.out]; exact newJ_yes (by rw [← HN.out]; exact h0)
    go_wp2_with fail
    refine (KdfS.specDerive s.a s.n s.c l jarB x1 HZ.out (HR.out.later B1.out).rd HR.out.nil HR.out.bytes (by have := HL.out; omega) (by decide)).mono ?_
    rintro e x2 ⟨g1, m1, c1, rfl, em, kg, rr, b⟩
    have oN : SOwn x2 x1.heap.size x2.heap.size ⟨some ⟨g1, 0, none⟩, m1, c1⟩ (derI l (bs jarB)) := SOwn.row rr em (derI_bytes _ _) kg rr.lt
    clear em kg rr
    have L2 : Hid (x1.heap.size ≤ x2.heap.size) := b.size
    have B2 : Hid (Below w.heap.size w x2) := B1.out.trans (b.mono B1.out.size)
    have KO2 : Hid (Blk x2 go 24 [.slice none 0 0]) := KO1.out.later b
    clear b B1 KO1
    have O12 : Hid (SOwn x2 x1.heap.size x2.heap.size ⟨some ⟨g1, 0, none⟩, m1, c1⟩ (derI l (bs jarB))) := oN
    clear oN
    have c0 := KO2.out.cell 0 rfl
    have f0 := KO2.out.frozen 0
    go_wp2
    have oJ : JaOwn x2 x1.heap.size x2.heap.size ⟨⟨some ⟨g1, 0, none⟩, m1, c1⟩⟩ ⟨derI l (bs jarB)⟩ := ⟨O12.out, ⟨⟩⟩
    obtain ⟨k1, k2, k3⟩ := ja_stored (D := ⟨derI l (bs jarB)⟩) (S := ⟨⟨some ⟨g1, 0, none⟩, m1, c1⟩⟩) KO2.out oJ (.inl (by have := L1.out; have := Ggo.out; have := L2.out; omega))
    exact bodyPost_ret (v := jaV ⟨derI l (bs jarB)⟩ ⟨⟨some ⟨g1, 0, none⟩, m1, c1⟩⟩) (res1 rfl (is_cell rfl k1 aggJa)) rfl ⟨⟨⟨some ⟨g1, 0, none⟩, m1, c1⟩⟩, rfl, k2.mono (by have := L1.out; have := Ggo.out; have := L2.out; omega) (by rw [ja_size]; exact Nat.le_refl _), k3 _ _ (by have := L1.out; have := Ggo.out; have := L2.out; omega) B2.out⟩

set_option maxRecDepth 100000 in
set_option maxHeartbeats 8000000 in
theorem specMint (S : JaS) (D : JaD) (h p id : Int) (c s : Sl) (cn sn : List Int) (tick : Int) (w : World) (hj : JaRd w S D) (hc : SRd w c cn) (hs : SRd w s sn) :
    Calls Tryd.prog 14 #[jaV D S, addrV h p, .int .i64 id, .slice c.a c.n c.c, .slice s.a s.n s.c, .int .i64 tick] w (AnsB (mint D h p id cn sn tick) w) := by
  have HJ : Hid (JaRd w S D) := hj
  have HC : Hid (SRd w c cn) := hc
  have HS : Hid (SRd w s sn) := hs
  obtain ⟨R, hR⟩ : ∃ R, mint D h p id cn sn tick = R := ⟨_, rfl⟩
  have HRD : Hid (mint D h p id cn sn tick = R) := hR
  obtain ⟨M, hM⟩ : ∃ M, mintL h p id cn sn tick = M := ⟨_, rfl⟩
  have HM : Hid (mintL h p id cn sn tick = M) := hM
  rw [hR]
  clear hj hc hs hR hM
  obtain ⟨x1, hx1⟩ : ∃ zz, (w.alloc (.cells #[.slice S.secret.a S.secret.n S.secret.c] 24)).alloc (.cells #[.int .i64 h, .int .i64 p] 38) = zz := ⟨_, rfl⟩
  have HWA : Hid ((w.alloc (.cells #[.slice S.secret.a S.secret.n S.secret.c] 24)).alloc (.cells #[.int .i64 h, .int .i64 p] 38) = x1) := hx1
  have b1 : Below w.heap.size w x1 := by rw [← hx1]; exact (((Below.refl _ _).alloc (Nat.le_refl _) _).alloc (by simp) _)
  have KJN : Blk x1 (w.heap.size) 24 [.slice S.secret.a S.secret.n S.secret.c] := by
    have q := (Blk.new (w) 24 [.slice S.secret.a S.secret.n S.secret.c])
    skip
    rw [← hx1]; exact q.alloc _
  have KAN : Blk x1 (w.heap.size + 1) 38 [.int .i64 h, .int .i64 p] := by
    have q := (Blk.new ((w.alloc (.cells #[.slice S.secret.a S.secret.n S.secret.c] 24))) 38 [.int .i64 h, .int .i64 p])
    rw [World.size_alloc] at q
    rw [← hx1]; exact q
  have SZA : x1.heap.size = w.heap.size + 2 := by rw [← hx1]; simp
  clear hx1
  have L1 : Hid (w.heap.size ≤ x1.heap.size) := b1.size
  have B1 : Hid (Below w.heap.size w x1) := b1
  clear b1
  unfold jaV addrV
  go_enter Tryd.func14, Tryd.ntmps14
  go_upto_region 1 with fail
  rw [HWA.out]
  obtain ⟨gj, hgj⟩ : ∃ g, w.heap.size = g := ⟨_, rfl⟩
  obtain ⟨ga, hga⟩ : ∃ g, w.heap.size + 1 = g := ⟨_, rfl⟩
  have GA : Hid (w.heap.size = gj ∧ gj + 1 = ga ∧ x1.heap.size = gj + 2) := ⟨hgj, by omega, by omega⟩
  rw [hgj] at KJN
  rw [hga] at KAN
  rw [hga, hgj]
  clear HWA SZA hgj hga
  have KJ1 : Hid (Blk x1 gj 24 [.slice S.secret.a S.secret.n S.secret.c]) := KJN
  have KA1 : Hid (Blk x1 ga 38 [.int .i64 h, .int .i64 p]) := KAN
  clear KJN KAN
  have d0 := KA1.out.cell 0 rfl
  have d1 := KA1.out.cell 1 rfl
  go_wp2_with fail
  refine (CkS.specMintBody h p id c s cn sn tick x1 (HC.out.later B1.out) (HS.out.later B1.out)).mono ?_
  unfold AnsB
  rw [HM.out]
  rintro e x2 ⟨T, rfl, o, b⟩
  clear d0 d1
  have L2 : Hid (x1.heap.size ≤ x2.heap.size) := b.size
  have B2 : Hid (Below w.heap.size w x2) := B1.out.trans (b.mono B1.out.size)
  have KJ2 : Hid (Blk x2 gj 24 [.slice S.secret.a S.secret.n S.secret.c]) := KJ1.out.later b
  have KA2 : Hid (Blk x2 ga 38 [.int .i64 h, .int .i64 p]) := KA1.out.later b
  clear b B1 KJ1 KA1
  have OT2 : Hid (SOwn x2 x1.heap.size x2.heap.size T M) := o
  clear o
  clear KA2
  have d0 := KJ2.out.cell 0 rfl
  go_wp2_with fail
  refine (CkS.specJarOk S D x2 (HJ.out.later B2.out)).mono ?_
  rintro e x3 ⟨rfl, b⟩
  have L3 : Hid (x2.heap.size ≤ x3.heap.size) := b.size
  have B3 : Hid (Below w.heap.size w x3) := B2.out.trans (b.mono B2.out.size)
  have KJ3 : Hid (Blk x3 gj 24 [.slice S.secret.a S.secret.n S.secret.c]) := KJ2.out.later b
  have OT3 : Hid (SOwn x3 x1.heap.size x2.heap.size T M) := OT2.out.later b
  clear b B2 KJ2 OT2
  clear d0
  cases h0 : jarOk D with
  | false =>
    obtain rfl : R = [] := by rw [← HRD.out]; exact mint_no (by unfold mintB; rw [h0]; rfl)
    go_wp2
    go_ret
    exact nil_ans B3.out
  | true =>
    cases h1 : mintF h p id cn.length sn.length tick with
    | false =>
      obtain rfl : R = [] := by rw [← HRD.out]; exact mint_no (by unfold mintB; rw [h0, h1]; rfl)
      have hz : ((T.n : Int) == 0) = true := by have q := OT3.out.len; rw [← HM.out, mintL_no h1] at q; simp at q; simp [q]
      go_wp2
      go_ret
      exact nil_ans B3.out
    | true =>
      have HTL : Hid (T.n = 36) := by have q := OT3.out.len; rw [← HM.out, mintL_len h1] at q; exact q
      have hz : ((T.n : Int) == 0) = false := by have := HTL.out; simp; omega
      have HK : Hid (D.secret.length = 32) := jarOk_iff.1 h0
      have HQ : Hid (tagI D.secret M = R) := by show _ = _; rw [← HRD.out, ← HM.out]; exact (mint_yes (by unfold mintB; rw [h0, h1]; rfl)).symm
      have HML : Hid (M.length = 36) := by rw [← HM.out]; exact mintL_len h1
      have d0 := KJ3.out.cell 0 rfl
      go_wp2_with fail
      refine (tagN S.secret T D.secret M x3 (HJ.out.later B3.out).secret OT3.out.rd (by have := HK.out; omega) (by have := HML.out; omega)).mono ?_
      unfold AnsB
      rw [HQ.out]
      rintro e x4 ⟨U, rfl, o, b⟩
      clear d0
      have LO : Hid (w.heap.size ≤ x3.heap.size) := B3.out.size
      have L4 : Hid (x3.heap.size ≤ x4.heap.size) := b.size
      have B4 : Hid (Below w.heap.size w x4) := B3.out.trans (b.mono B3.out.size)
      have KJ4 : Hid (Blk x4 gj 24 [.slice S.secret.a S.secret.n S.secret.c]) := KJ3.out.later b
      have OT4 : Hid (SOwn x4 x1.heap.size x2.heap.size T M) := OT3.out.later b
      clear b B3 KJ3 OT3
      go_wp2
      go_ret
      exact ⟨U, rfl, o.mono LO.out (Nat.le_refl _), B4.out⟩
end Go.Proofs.YtpgapjdejelajaaDoor.CkT
