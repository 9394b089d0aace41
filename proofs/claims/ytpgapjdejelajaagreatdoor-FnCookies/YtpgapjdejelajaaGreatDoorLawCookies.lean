/-
  The walk of the law FnCookies: at every code a cookie is known again where it was minted, for as long as it lives, and with a byte turned it is not; where the table of round words is as the text lays it.
-/
import Derived.Test.YtpgapjdejelajaaGreatDoorDrCk
import Derived.Test.YtpgapjdejelajaaGreatDoorGr14
import Derived.Test.YtpgapjdejelajaaGreatDoorGr17
import Derived.Test.YtpgapjdejelajaaGreatDoorGr9
import Derived.Test.YtpgapjdejelajaaGreatDoorSameV
import Derived.Test.YtpgapjdejelajaaGreatDoorGr4
import Derived.Test.YtpgapjdejelajaaGreatDoorGr12
namespace Go.Proofs.YtpgapjdejelajaaGreatDoor.LawCookies
open Go.RowKit Go.Proofs.YtpgapjdejelajaaGreatDoor.Mem Go.Proofs.YtpgapjdejelajaaGreatDoor.App Go.Proofs.YtpgapjdejelajaaGreatDoor.Blk Go.Proofs.YtpgapjdejelajaaGreatDoor.Draw Go.Proofs.YtpgapjdejelajaaGreatDoor.Zone Go.Proofs.YtpgapjdejelajaaGreatDoor.Res Go.Proofs.YtpgapjdejelajaaGreatDoor.Comp Go.Proofs.YtpgapjdejelajaaGreatDoor.Words Go.Proofs.YtpgapjdejelajaaGreatDoor.AddrP Go.Proofs.YtpgapjdejelajaaGreatDoor.AddrS Go.Proofs.YtpgapjdejelajaaGreatDoor.JaZ Go.Proofs.YtpgapjdejelajaaGreatDoor.JaL Go.Proofs.YtpgapjdejelajaaGreatDoor.CkP Go.Proofs.YtpgapjdejelajaaGreatDoor.CkQ Go.Proofs.YtpgapjdejelajaaGreatDoor.DiffP Go.Proofs.YtpgapjdejelajaaGreatDoor.FrZ Go.Proofs.YtpgapjdejelajaaGreatDoor.FrP Go.Proofs.YtpgapjdejelajaaGreatDoor.DrCk Go.Proofs.YtpgapjdejelajaaGreatDoor.Bent Go.Proofs.YtpgapjdejelajaaGreatDoor.Shp Go.Proofs.YtpgapjdejelajaaGreatDoor.Each Go.Proofs.YtpgapjdejelajaaGreatDoor.Copy Go.Proofs.YtpgapjdejelajaaGreatDoor.Ops

set_option maxRecDepth 100000 in
theorem okJ (S : JaS) (D : JaD) (w : World) (h : JaRd w S D) : Calls Tryz.prog 11 #[jaV D S] w fun e w' => e = .returned (.bool (jarOk D)) ∧ Below w.heap.size w w' := CkI.implJarOk S D w h
set_option maxRecDepth 100000 in
theorem finish_ok {ah ap id tick : Int} {cn sn y m : List Int} (h : addrOk ah ap = true ∧ (1 ≤ id ∧ id ≤ 9) ∧ cn.length = 12 ∧ sn.length = 12 ∧ (0 ≤ tick ∧ tick ≤ 1000000)) (hy : y.length = 16) (hm : m.length = 16) : frameOk (⟨3, id, cn, sn, tick, y, m, 0, 0, [], []⟩ : FrD) = true := by
  obtain ⟨_, ⟨h1, h2⟩, h3, h4, h5, h6⟩ := h
  rw [FrB.ok_iff]
  exact .inr ⟨rfl, rfl, rfl, rfl, h3, .inr (.inr ⟨rfl, h1, h2, h4, h5, h6, hy, hm⟩)⟩
set_option maxRecDepth 100000 in
theorem judge_f {D : JaD} {now h p : Int} {F : FrD} (h0 : jarOk D = true) (h1 : 0 ≤ now ∧ now ≤ 1000000) (h2 : addrOk h p = true) (h3 : frameOk F = true) (h4 : F.kind = 3 := by rfl) : judgeF D now h p F = true := by
  unfold judgeF; rw [h0, isIn_yes h1, h2, h3, h4]; rfl
set_option maxRecDepth 100000 in
theorem bigNo (a : Option Addr) (len cap : Nat) (w : World) (h : len ≤ 1048576) :
    Calls Tryz.prog 6 #[.slice a len cap] w fun e w' => e = .returned (.bool false) ∧ w = w' := by
  have h' : ¬ ((1048576 : Int) < (len : Int)) := by omega
  go_enter Tryz.func6, Tryz.ntmps6
  go_wp2
  go_ret
  exact ⟨rfl, rfl⟩
set_option maxRecDepth 100000 in
theorem bigYes (a : Option Addr) (len cap : Nat) (w : World) (h : 1048576 < len) :
    Calls Tryz.prog 6 #[.slice a len cap] w fun e w' => e = .returned (.bool true) ∧ w = w' := by
  have h' : (1048576 : Int) < (len : Int) := by omega
  go_enter Tryz.func6, Tryz.ntmps6
  go_wp2
  go_ret
  exact ⟨rfl, rfl⟩
set_option maxRecDepth 100000 in
set_option maxHeartbeats 16000000 in
theorem small (a : Option Addr) (len cap : Nat) (l : List Int) (w : World) (hT : Tab w) (hl : len = l.length) (hr : Rd w a l) (hb : Bytes l) (hlen : len ≤ 1048576) :
    Calls Tryz.prog 3 #[.slice a len cap] w fun e w' => e = .returned (.bool true) ∧ Below w.heap.size w w' := by
  have HR : Hid (Rd w a l) := hr
  have HL : Hid (len = l.length) := hl
  have HB : Hid (Bytes l) := hb
  clear hr hl hb
  have HT : Hid (Tab w) := hT
  clear hT
  have B0 : Hid (Below w.heap.size w w) := Below.refl _ _
  go_enter Tryz.func3, Tryz.ntmps3
  go_wp2_with fail
  refine (bigNo a len cap w hlen).mono ?_
  rintro e w0 ⟨rfl, rfl⟩
  go_wp2_with fail
  refine (drawMint a len cap l w HL.out (HR.out.later B0.out (Nat.le_refl _)) HB.out hlen).mono ?_
  rintro e x1 ⟨D, S, ah, ap, id, C, cn, N, sn, tick, rfl, sh, oj, oc, on, ht, b⟩
  have L1 : Hid (w.heap.size ≤ x1.heap.size) := b.size
  have B1 : Hid (Below w.heap.size w x1) := B0.out.trans (b.mono B0.out.size)
  clear b B0
  have HTI : Hid (-1 ≤ tick ∧ tick ≤ 1000000) := ht
  clear sh ht
  have OJ1 : Hid (JaRd x1 S D) := oj
  have OC1 : Hid (SRd x1 C cn) := oc
  have ON1 : Hid (SRd x1 N sn) := on
  clear oj oc on
  obtain ⟨x2, hx2⟩ : ∃ zz, (x1.alloc (.cells #[.slice S.secret.a S.secret.n S.secret.c] 25)).alloc (.cells #[.int .i64 ah, .int .i64 ap] 27) = zz := ⟨_, rfl⟩
  have HWA : Hid ((x1.alloc (.cells #[.slice S.secret.a S.secret.n S.secret.c] 25)).alloc (.cells #[.int .i64 ah, .int .i64 ap] 27) = x2) := hx2
  have b2 : Below x1.heap.size x1 x2 := by rw [← hx2]; exact (((Below.refl _ _).alloc (Nat.le_refl _) _).alloc (by simp) _)
  have KJN : Blk x2 (x1.heap.size) 25 [.slice S.secret.a S.secret.n S.secret.c] := by
    have q := Blk.new (x1) 25 [.slice S.secret.a S.secret.n S.secret.c]
    skip
    rw [← hx2]; exact q.alloc _
  have KAN : Blk x2 (x1.heap.size + 1) 27 [.int .i64 ah, .int .i64 ap] := by
    have q := Blk.new ((x1.alloc (.cells #[.slice S.secret.a S.secret.n S.secret.c] 25))) 27 [.int .i64 ah, .int .i64 ap]
    rw [World.size_alloc] at q
    rw [← hx2]; exact q
  have SZA : x2.heap.size = x1.heap.size + 2 := by rw [← hx2]; simp
  clear hx2
  have L2 : Hid (x1.heap.size ≤ x2.heap.size) := b2.size
  have B2 : Hid (Below w.heap.size w x2) := B1.out.trans (b2.mono B1.out.size)
  have OJ2 : Hid (JaRd x2 S D) := OJ1.out.later b2
  have OC2 : Hid (SRd x2 C cn) := OC1.out.later b2
  have ON2 : Hid (SRd x2 N sn) := ON1.out.later b2
  clear b2 B1 OJ1 OC1 ON1
  unfold jaV addrV
  go_upto_region 4 with fail
  rw [HWA.out]
  obtain ⟨gj, hgj⟩ : ∃ g, x1.heap.size = g := ⟨_, rfl⟩
  obtain ⟨ga, hga⟩ : ∃ g, x1.heap.size + 1 = g := ⟨_, rfl⟩
  have Ggj_ : Hid (x1.heap.size = gj ∧ gj + 1 = ga ∧ x2.heap.size = gj + 2) := ⟨hgj, by omega, by omega⟩
  rw [hgj] at KJN
  rw [hga] at KAN
  rw [hga, hgj]
  clear HWA SZA hgj hga
  have KJ2 : Hid (Blk x2 gj 25 [.slice S.secret.a S.secret.n S.secret.c]) := KJN
  have KA2 : Hid (Blk x2 ga 27 [.int .i64 ah, .int .i64 ap]) := KAN
  clear KJN KAN
  obtain ⟨M, hM⟩ : ∃ z : List Int, mint D ah ap id cn sn tick = z := ⟨_, rfl⟩
  have HM : Hid (mint D ah ap id cn sn tick = M) := hM
  clear hM
  have d0 := KJ2.out.cell 0 rfl
  have e0 := KA2.out.cell 0 rfl
  have e1 := KA2.out.cell 1 rfl
  go_wp2_with fail
  refine (CkJ.implMint S D ah ap id C N cn sn tick x2 (HT.out.later B2.out) OJ2.out OC2.out ON2.out).mono ?_
  unfold AnsB
  rw [HM.out]
  rintro e x3 ⟨T, rfl, o, b⟩
  clear d0
  clear e0 e1
  have L3 : Hid (x2.heap.size ≤ x3.heap.size) := b.size
  have B3 : Hid (Below w.heap.size w x3) := B2.out.trans (b.mono B2.out.size)
  have OJ3 : Hid (JaRd x3 S D) := OJ2.out.later b
  have OC3 : Hid (SRd x3 C cn) := OC2.out.later b
  have ON3 : Hid (SRd x3 N sn) := ON2.out.later b
  have KJ3 : Hid (Blk x3 gj 25 [.slice S.secret.a S.secret.n S.secret.c]) := KJ2.out.later b
  have KA3 : Hid (Blk x3 ga 27 [.int .i64 ah, .int .i64 ap]) := KA2.out.later b
  clear b B2 OJ2 OC2 ON2 KJ2 KA2
  have OT3 : Hid (SRd x3 T M) := o.rd
  clear o
  have d0 := KJ3.out.cell 0 rfl
  have e0 := KA3.out.cell 0 rfl
  have e1 := KA3.out.cell 1 rfl
  go_wp2_with fail
  refine (CkT.specMint S D ah ap id C N cn sn tick x3 OJ3.out OC3.out ON3.out).mono ?_
  unfold AnsB
  rw [HM.out]
  rintro e x4 ⟨U, rfl, o, b⟩
  clear d0
  clear e0 e1
  have L4 : Hid (x3.heap.size ≤ x4.heap.size) := b.size
  have B4 : Hid (Below w.heap.size w x4) := B3.out.trans (b.mono B3.out.size)
  have OJ4 : Hid (JaRd x4 S D) := OJ3.out.later b
  have OC4 : Hid (SRd x4 C cn) := OC3.out.later b
  have ON4 : Hid (SRd x4 N sn) := ON3.out.later b
  have KJ4 : Hid (Blk x4 gj 25 [.slice S.secret.a S.secret.n S.secret.c]) := KJ3.out.later b
  have KA4 : Hid (Blk x4 ga 27 [.int .i64 ah, .int .i64 ap]) := KA3.out.later b
  have OT4 : Hid (SRd x4 T M) := OT3.out.later b
  clear b B3 OJ3 OC3 ON3 KJ3 KA3 OT3
  have OU4 : Hid (SRd x4 U M) := o.rd
  clear o
  go_wp2_with fail
  refine (SameV.sameV T U M M true x4 OT4.out OU4.out (decide_eq_true rfl)).mono ?_
  rintro e y ⟨rfl, rfl⟩
  clear OU4
  have HTN : Hid (T.n = M.length) := OT4.out.len
  cases h0 : mintB D ah ap id cn.length sn.length tick with
  | false =>
    have hz : ((T.n : Int) == 0) = true := by have q := HTN.out; rw [← HM.out, mint_no h0] at q; simp at q; simp [q]
    have d0 := KJ4.out.cell 0 rfl
    have e0 := KA4.out.cell 0 rfl
    have e1 := KA4.out.cell 1 rfl
    go_wp2_with fail
    refine (okJ S D x4 OJ4.out).mono ?_
    rintro e x5 ⟨rfl, b⟩
    have L5 : Hid (x4.heap.size ≤ x5.heap.size) := b.size
    have B5 : Hid (Below w.heap.size w x5) := B4.out.trans (b.mono B4.out.size)
    have OJ5 : Hid (JaRd x5 S D) := OJ4.out.later b
    have OC5 : Hid (SRd x5 C cn) := OC4.out.later b
    have ON5 : Hid (SRd x5 N sn) := ON4.out.later b
    have KJ5 : Hid (Blk x5 gj 25 [.slice S.secret.a S.secret.n S.secret.c]) := KJ4.out.later b
    have KA5 : Hid (Blk x5 ga 27 [.int .i64 ah, .int .i64 ap]) := KA4.out.later b
    have OT5 : Hid (SRd x5 T M) := OT4.out.later b
    clear b B4 OJ4 OC4 ON4 KJ4 KA4 OT4
    clear d0
    clear e0 e1
    cases h1 : jarOk D with
    | false =>
      go_wp2
      go_ret
      exact ⟨rfl, B5.out⟩
    | true =>
      have HF : Hid (mintF ah ap id cn.length sn.length tick = false) := by unfold mintB at h0; rw [h1] at h0; exact h0
      have d0 := KJ5.out.cell 0 rfl
      have e0 := KA5.out.cell 0 rfl
      have e1 := KA5.out.cell 1 rfl
      go_wp2_with fail
      refine (CkI.implMintBody ah ap id C N cn sn tick x5 OC5.out ON5.out).mono ?_
      unfold CkL.AnsL
      rw [mintL_no HF.out]
      rintro e x6 ⟨V, rfl, o, b⟩
      clear d0
      clear e0 e1
      have hv : ((V.n : Int) == 0) = true := by have q := o.len; simp at q; simp [q]
      clear o
      have L6 : Hid (x5.heap.size ≤ x6.heap.size) := b.size
      have B6 : Hid (Below w.heap.size w x6) := B5.out.trans (b.mono B5.out.size)
      have OJ6 : Hid (JaRd x6 S D) := OJ5.out.later b
      have OC6 : Hid (SRd x6 C cn) := OC5.out.later b
      have ON6 : Hid (SRd x6 N sn) := ON5.out.later b
      have KJ6 : Hid (Blk x6 gj 25 [.slice S.secret.a S.secret.n S.secret.c]) := KJ5.out.later b
      have KA6 : Hid (Blk x6 ga 27 [.int .i64 ah, .int .i64 ap]) := KA5.out.later b
      have OT6 : Hid (SRd x6 T M) := OT5.out.later b
      clear b B5 OJ5 OC5 ON5 KJ5 KA5 OT5
      go_wp2
      go_ret
      exact ⟨rfl, B6.out⟩
  | true =>
    have HML : Hid (M.length = 16) := by show _ = _; rw [← HM.out]; exact mint_len h0
    have hz : ((T.n : Int) == 0) = false := by have := HML.out; have := HTN.out; simp; omega
    have HJO : Hid (jarOk D = true) := (Bool.and_eq_true_iff.1 h0).1
    have HP : Hid (addrOk ah ap = true ∧ (1 ≤ id ∧ id ≤ 9) ∧ cn.length = 12 ∧ sn.length = 12 ∧ (0 ≤ tick ∧ tick ≤ 1000000)) := mintF_parts (Bool.and_eq_true_iff.1 h0).2
    go_upto_region 9 with fail
    obtain ⟨x5, hx5⟩ : ∃ x5, x4.alloc (.cells #[.int .i64 3, .int .i64 id, .slice C.a C.n C.c, .slice N.a N.n N.c, .int .i64 tick, .slice T.a T.n T.c, .slice T.a T.n T.c, .int .i64 0, .int .i64 0, .slice none 0 0, .slice none 0 0] 35) = x5 := ⟨_, rfl⟩
    have HW5 : Hid (x4.alloc (.cells #[.int .i64 3, .int .i64 id, .slice C.a C.n C.c, .slice N.a N.n N.c, .int .i64 tick, .slice T.a T.n T.c, .slice T.a T.n T.c, .int .i64 0, .int .i64 0, .slice none 0 0, .slice none 0 0] 35) = x5) := hx5
    have b5 : Below x4.heap.size x4 x5 := by rw [← hx5]; exact (Below.refl _ _).alloc (Nat.le_refl _) _
    have KN : Blk x5 x4.heap.size 35 [.int .i64 3, .int .i64 id, .slice C.a C.n C.c, .slice N.a N.n N.c, .int .i64 tick, .slice T.a T.n T.c, .slice T.a T.n T.c, .int .i64 0, .int .i64 0, .slice none 0 0, .slice none 0 0] := by rw [← hx5]; exact Blk.new x4 _ _
    have HSZ5 : Hid (x5.heap.size = x4.heap.size + 1) := by rw [← hx5]; show _ = _; simp
    clear hx5
    have L5 : Hid (x4.heap.size ≤ x5.heap.size) := b5.size
    have B5 : Hid (Below w.heap.size w x5) := B4.out.trans (b5.mono B4.out.size)
    have OJ5 : Hid (JaRd x5 S D) := OJ4.out.later b5
    have OC5 : Hid (SRd x5 C cn) := OC4.out.later b5
    have ON5 : Hid (SRd x5 N sn) := ON4.out.later b5
    have KJ5 : Hid (Blk x5 gj 25 [.slice S.secret.a S.secret.n S.secret.c]) := KJ4.out.later b5
    have KA5 : Hid (Blk x5 ga 27 [.int .i64 ah, .int .i64 ap]) := KA4.out.later b5
    have OT5 : Hid (SRd x5 T M) := OT4.out.later b5
    clear b5 B4 OJ4 OC4 ON4 KJ4 KA4 OT4
    go_upto_region 10 with fail
    rw [HW5.out]
    obtain ⟨gf, hgf⟩ : ∃ g, x4.heap.size = g := ⟨_, rfl⟩
    have Ggf : Hid (x4.heap.size = gf ∧ x5.heap.size = gf + 1) := ⟨hgf, by rw [← hgf]; exact HSZ5.out⟩
    rw [hgf] at KN ⊢
    clear HW5 HSZ5 hgf
    have KF5 : Hid (Blk x5 gf 35 [.int .i64 3, .int .i64 id, .slice C.a C.n C.c, .slice N.a N.n N.c, .int .i64 tick, .slice T.a T.n T.c, .slice T.a T.n T.c, .int .i64 0, .int .i64 0, .slice none 0 0, .slice none 0 0]) := KN
    clear KN
    have SOJ : Hid (JaRd x5 S D) := OJ5.out
    have SOC : Hid (SRd x5 C cn) := OC5.out
    have SON : Hid (SRd x5 N sn) := ON5.out
    have SOT : Hid (SRd x5 T M) := OT5.out
    have SKJ : Hid (Blk x5 gj 25 [.slice S.secret.a S.secret.n S.secret.c]) := KJ5.out
    have SKA : Hid (Blk x5 ga 27 [.int .i64 ah, .int .i64 ap]) := KA5.out
    have SKF : Hid (Blk x5 gf 35 [.int .i64 3, .int .i64 id, .slice C.a C.n C.c, .slice N.a N.n N.c, .int .i64 tick, .slice T.a T.n T.c, .slice T.a T.n T.c, .int .i64 0, .int .i64 0, .slice none 0 0, .slice none 0 0]) := KF5.out
    have BE5 : Hid (Below x5.heap.size x5 x5) := Below.refl _ _
    have f0 := KF5.out.cell 0 rfl
    have f1 := KF5.out.cell 1 rfl
    have f2 := KF5.out.cell 2 rfl
    have f3 := KF5.out.cell 3 rfl
    have f4 := KF5.out.cell 4 rfl
    have f5 := KF5.out.cell 5 rfl
    have f6 := KF5.out.cell 6 rfl
    have f7 := KF5.out.cell 7 rfl
    have f8 := KF5.out.cell 8 rfl
    have f9 := KF5.out.cell 9 rfl
    have f10 := KF5.out.cell 10 rfl
    obtain ⟨x6, hx6⟩ : ∃ x6, x5.alloc (.cells #[.int .i64 3, .int .i64 id, .slice C.a C.n C.c, .slice N.a N.n N.c, .int .i64 tick, .slice T.a T.n T.c, .slice T.a T.n T.c, .int .i64 0, .int .i64 0, .slice none 0 0, .slice none 0 0] 35) = x6 := ⟨_, rfl⟩
    have HW6 : Hid (x5.alloc (.cells #[.int .i64 3, .int .i64 id, .slice C.a C.n C.c, .slice N.a N.n N.c, .int .i64 tick, .slice T.a T.n T.c, .slice T.a T.n T.c, .int .i64 0, .int .i64 0, .slice none 0 0, .slice none 0 0] 35) = x6) := hx6
    have b6 : Below x5.heap.size x5 x6 := by rw [← hx6]; exact (Below.refl _ _).alloc (Nat.le_refl _) _
    have KN : Blk x6 x5.heap.size 35 [.int .i64 3, .int .i64 id, .slice C.a C.n C.c, .slice N.a N.n N.c, .int .i64 tick, .slice T.a T.n T.c, .slice T.a T.n T.c, .int .i64 0, .int .i64 0, .slice none 0 0, .slice none 0 0] := by rw [← hx6]; exact Blk.new x5 _ _
    have HSZ6 : Hid (x6.heap.size = x5.heap.size + 1) := by rw [← hx6]; show _ = _; simp
    clear hx6
    have L6 : Hid (x5.heap.size ≤ x6.heap.size) := b6.size
    have B6 : Hid (Below w.heap.size w x6) := B5.out.trans (b6.mono B5.out.size)
    have OJ6 : Hid (JaRd x6 S D) := OJ5.out.later b6
    have OC6 : Hid (SRd x6 C cn) := OC5.out.later b6
    have ON6 : Hid (SRd x6 N sn) := ON5.out.later b6
    have KJ6 : Hid (Blk x6 gj 25 [.slice S.secret.a S.secret.n S.secret.c]) := KJ5.out.later b6
    have KA6 : Hid (Blk x6 ga 27 [.int .i64 ah, .int .i64 ap]) := KA5.out.later b6
    have OT6 : Hid (SRd x6 T M) := OT5.out.later b6
    have KF6 : Hid (Blk x6 gf 35 [.int .i64 3, .int .i64 id, .slice C.a C.n C.c, .slice N.a N.n N.c, .int .i64 tick, .slice T.a T.n T.c, .slice T.a T.n T.c, .int .i64 0, .int .i64 0, .slice none 0 0, .slice none 0 0]) := KF5.out.later b6
    have BE6 : Hid (Below x5.heap.size x5 x6) := BE5.out.trans (b6.mono BE5.out.size)
    clear b6 B5 OJ5 OC5 ON5 KJ5 KA5 OT5 KF5 BE5
    go_upto_region 11 with fail
    rw [HW6.out]
    obtain ⟨gg, hgg⟩ : ∃ g, x5.heap.size = g := ⟨_, rfl⟩
    have Ggg : Hid (x5.heap.size = gg ∧ x6.heap.size = gg + 1) := ⟨hgg, by rw [← hgg]; exact HSZ6.out⟩
    rw [hgg] at KN ⊢
    clear HW6 HSZ6 hgg
    have KG6 : Hid (Blk x6 gg 35 [.int .i64 3, .int .i64 id, .slice C.a C.n C.c, .slice N.a N.n N.c, .int .i64 tick, .slice T.a T.n T.c, .slice T.a T.n T.c, .int .i64 0, .int .i64 0, .slice none 0 0, .slice none 0 0]) := KN
    clear KN
    clear f0 f1 f2 f3 f4 f5 f6 f7 f8 f9 f10
    go_wp2_with fail
    refine (bent a len cap l T.a T.n T.c M x6 HL.out (HR.out.later B6.out (Nat.le_refl _)) HB.out hlen HTN.out OT6.out.rd OT6.out.nil OT6.out.bytes (by have := HTN.out; have := HML.out; omega)).mono ?_
    rintro e x7 ⟨gy, cy, y, rfl, ey, hy, ney, ky, rw, b⟩
    have HYL : Hid (y.length = 16 ∧ y ≠ M ∧ T.n = 16 ∧ x6.heap.size ≤ gy) := by have := HTN.out; have := HML.out; exact ⟨by omega, ney (by omega), by omega, ky⟩
    have HYB : Hid (Bytes y) := hy
    have HYN : Hid (T.n = y.length) := ey
    clear ey hy ney ky
    have L7 : Hid (x6.heap.size ≤ x7.heap.size) := b.size
    have B7 : Hid (Below w.heap.size w x7) := B6.out.trans (b.mono B6.out.size)
    have OJ7 : Hid (JaRd x7 S D) := OJ6.out.later b
    have OC7 : Hid (SRd x7 C cn) := OC6.out.later b
    have ON7 : Hid (SRd x7 N sn) := ON6.out.later b
    have KJ7 : Hid (Blk x7 gj 25 [.slice S.secret.a S.secret.n S.secret.c]) := KJ6.out.later b
    have KA7 : Hid (Blk x7 ga 27 [.int .i64 ah, .int .i64 ap]) := KA6.out.later b
    have OT7 : Hid (SRd x7 T M) := OT6.out.later b
    have KF7 : Hid (Blk x7 gf 35 [.int .i64 3, .int .i64 id, .slice C.a C.n C.c, .slice N.a N.n N.c, .int .i64 tick, .slice T.a T.n T.c, .slice T.a T.n T.c, .int .i64 0, .int .i64 0, .slice none 0 0, .slice none 0 0]) := KF6.out.later b
    have BE7 : Hid (Below x5.heap.size x5 x7) := BE6.out.trans (b.mono BE6.out.size)
    have KG7 : Hid (Blk x7 gg 35 [.int .i64 3, .int .i64 id, .slice C.a C.n C.c, .slice N.a N.n N.c, .int .i64 tick, .slice T.a T.n T.c, .slice T.a T.n T.c, .int .i64 0, .int .i64 0, .slice none 0 0, .slice none 0 0]) := KG6.out.later b
    clear b B6 OJ6 OC6 ON6 KJ6 KA6 OT6 KF6 BE6 KG6
    have RY : Hid (Row x7 gy cy y) := rw
    clear rw
    have z5 := KG7.out.cell 5 rfl
    have y5 := KG7.out.frozen 5
    obtain ⟨x8, hx8⟩ : ∃ zz, x7.setCell ⟨gg, 5, none⟩ (.slice (some ⟨gy, 0, none⟩) T.n cy) = zz := ⟨_, rfl⟩
    have HW8 : Hid (x7.setCell ⟨gg, 5, none⟩ (.slice (some ⟨gy, 0, none⟩) T.n cy) = x8) := hx8
    have KS : Blk x8 gg 35 [.int .i64 3, .int .i64 id, .slice C.a C.n C.c, .slice N.a N.n N.c, .int .i64 tick, .slice (some ⟨gy, 0, none⟩) T.n cy, .slice T.a T.n T.c, .int .i64 0, .int .i64 0, .slice none 0 0, .slice none 0 0] := by rw [← hx8]; exact KG7.out.set 5 _ (by simp [maxLen])
    have LS : Hid (x8.heap.size = x7.heap.size) := by rw [← hx8]; show _ = _; simp
    have B8 : Hid (Below w.heap.size w x8) := by rw [← hx8]; exact B7.out.setCell (by show _ ≤ gg; have := L1.out; have := L2.out; have := Ggj_.out; have := L3.out; have := L4.out; have := L5.out; have := Ggf.out; have := L6.out; have := Ggg.out; have := L7.out; omega) _
    have BE8 : Hid (Below x5.heap.size x5 x8) := by rw [← hx8]; exact BE7.out.setCell (by show _ ≤ gg; have := L1.out; have := L2.out; have := Ggj_.out; have := L3.out; have := L4.out; have := L5.out; have := Ggf.out; have := L6.out; have := Ggg.out; have := L7.out; omega) _
    have RY8 : Row x8 gy cy y := by rw [← hx8]; exact RY.out.keep (Below.heap_setCell _ _ _ _ (by show gy ≠ gg; have := HYL.out; have := L1.out; have := L2.out; have := Ggj_.out; have := L3.out; have := L4.out; have := L5.out; have := Ggf.out; have := L6.out; have := Ggg.out; have := L7.out; omega))
    have oy : SRd x8 ⟨some ⟨gy, 0, none⟩, T.n, cy⟩ y := (SOwn.row (lo := 0) (hi := x8.heap.size) RY8 HYN.out HYB.out (Nat.zero_le _) RY8.lt).rd
    clear hx8 RY RY8
    clear B7 OJ7 OC7 ON7 KJ7 KA7 OT7 KF7 BE7 KG7
    have OJ8 : Hid (JaRd x8 S D) := SOJ.out.later BE8.out
    have OC8 : Hid (SRd x8 C cn) := SOC.out.later BE8.out
    have ON8 : Hid (SRd x8 N sn) := SON.out.later BE8.out
    have OT8 : Hid (SRd x8 T M) := SOT.out.later BE8.out
    have KJ8 : Hid (Blk x8 gj 25 [.slice S.secret.a S.secret.n S.secret.c]) := SKJ.out.later BE8.out
    have KA8 : Hid (Blk x8 ga 27 [.int .i64 ah, .int .i64 ap]) := SKA.out.later BE8.out
    have KF8 : Hid (Blk x8 gf 35 [.int .i64 3, .int .i64 id, .slice C.a C.n C.c, .slice N.a N.n N.c, .int .i64 tick, .slice T.a T.n T.c, .slice T.a T.n T.c, .int .i64 0, .int .i64 0, .slice none 0 0, .slice none 0 0]) := SKF.out.later BE8.out
    have KG8 : Hid (Blk x8 gg 35 [.int .i64 3, .int .i64 id, .slice C.a C.n C.c, .slice N.a N.n N.c, .int .i64 tick, .slice (some ⟨gy, 0, none⟩) T.n cy, .slice T.a T.n T.c, .int .i64 0, .int .i64 0, .slice none 0 0, .slice none 0 0]) := KS
    have OY8 : Hid (SRd x8 ⟨some ⟨gy, 0, none⟩, T.n, cy⟩ y) := oy
    clear KS oy
    clear BE8
    go_upto_region 12 with fail
    rw [HW8.out]
    clear HW8 z5 y5
    have OF8 : Hid (FrRd x8 (⟨C, N, T, T, ⟨none, 0, 0⟩, ⟨none, 0, 0⟩⟩ : FrS) (⟨3, id, cn, sn, tick, M, M, 0, 0, [], []⟩ : FrD)) := ⟨OC8.out, ON8.out, OT8.out, OT8.out, (SOwn.nil x8 0 0).rd, (SOwn.nil x8 0 0).rd⟩
    have OG8 : Hid (FrRd x8 (⟨C, N, ⟨some ⟨gy, 0, none⟩, T.n, cy⟩, T, ⟨none, 0, 0⟩, ⟨none, 0, 0⟩⟩ : FrS) (⟨3, id, cn, sn, tick, y, M, 0, 0, [], []⟩ : FrD)) := ⟨OC8.out, ON8.out, OY8.out, OT8.out, (SOwn.nil x8 0 0).rd, (SOwn.nil x8 0 0).rd⟩
    go_wp2_with fail
    refine (atN a len cap l 5 x8 HL.out (HR.out.later B8.out (Nat.le_refl _)) HB.out hlen (by omega)).mono ?_
    rintro e y0 ⟨e5, rfl, ea, eb, rfl⟩
    obtain ⟨m14, hm⟩ : ∃ z, e5.tmod 14 = z := ⟨_, rfl⟩
    have HM14 : Hid (0 ≤ m14 ∧ m14 ≤ 13) := by show _ ∧ _; rw [← hm, Int.tmod_eq_emod_of_nonneg ea]; omega
    have hw : IntKind.i64.wrap (tick + m14) = tick + m14 := by have := HM14.out; have := HP.out.2.2.2.2; rw [IntKind.wrap_i64]; omega
    obtain ⟨now, hnow⟩ : ∃ z, tick + m14 = z := ⟨_, rfl⟩
    have HNW : Hid (tick ≤ now ∧ now ≤ tick + 13) := by have := HM14.out; show _ ∧ _; omega
    rw [hnow] at hw
    have hwx := hnow
    clear ea eb
    have HOF : Hid (frameOk (⟨3, id, cn, sn, tick, M, M, 0, 0, [], []⟩ : FrD) = true) := finish_ok HP.out HML.out HML.out
    have HOG : Hid (frameOk (⟨3, id, cn, sn, tick, y, M, 0, 0, [], []⟩ : FrD) = true) := finish_ok HP.out HYL.out.1 HML.out
    by_cases hbig : now > 1000000
    case pos =>
      have d0 := KJ8.out.cell 0 rfl
      have e0 := KA8.out.cell 0 rfl
      have e1 := KA8.out.cell 1 rfl
      have f0 := KF8.out.cell 0 rfl
      have f1 := KF8.out.cell 1 rfl
      have f2 := KF8.out.cell 2 rfl
      have f3 := KF8.out.cell 3 rfl
      have f4 := KF8.out.cell 4 rfl
      have f5 := KF8.out.cell 5 rfl
      have f6 := KF8.out.cell 6 rfl
      have f7 := KF8.out.cell 7 rfl
      have f8 := KF8.out.cell 8 rfl
      have f9 := KF8.out.cell 9 rfl
      have f10 := KF8.out.cell 10 rfl
      go_wp2_with fail
      refine (CkV.implJudge S D now ah ap (⟨C, N, T, T, ⟨none, 0, 0⟩, ⟨none, 0, 0⟩⟩ : FrS) (⟨3, id, cn, sn, tick, M, M, 0, 0, [], []⟩ : FrD) x8 (HT.out.later B8.out) OJ8.out OF8.out).mono ?_
      rw [show judgeC D now ah ap (⟨3, id, cn, sn, tick, M, M, 0, 0, [], []⟩ : FrD) = 1 from judge_1 (by unfold judgeF; rw [isIn_no (a := 0) (b := 1000000) (x := now) (fun h => by omega)]; simp)]
      rintro e x9 ⟨rfl, b⟩
      clear d0
      clear e0 e1
      clear f0 f1 f2 f3 f4 f5 f6 f7 f8 f9 f10
      have L9 : Hid (x8.heap.size ≤ x9.heap.size) := b.size
      have B9 : Hid (Below w.heap.size w x9) := B8.out.trans (b.mono B8.out.size)
      have OJ9 : Hid (JaRd x9 S D) := OJ8.out.later b
      have OC9 : Hid (SRd x9 C cn) := OC8.out.later b
      have ON9 : Hid (SRd x9 N sn) := ON8.out.later b
      have OT9 : Hid (SRd x9 T M) := OT8.out.later b
      have KJ9 : Hid (Blk x9 gj 25 [.slice S.secret.a S.secret.n S.secret.c]) := KJ8.out.later b
      have KA9 : Hid (Blk x9 ga 27 [.int .i64 ah, .int .i64 ap]) := KA8.out.later b
      have KF9 : Hid (Blk x9 gf 35 [.int .i64 3, .int .i64 id, .slice C.a C.n C.c, .slice N.a N.n N.c, .int .i64 tick, .slice T.a T.n T.c, .slice T.a T.n T.c, .int .i64 0, .int .i64 0, .slice none 0 0, .slice none 0 0]) := KF8.out.later b
      have KG9 : Hid (Blk x9 gg 35 [.int .i64 3, .int .i64 id, .slice C.a C.n C.c, .slice N.a N.n N.c, .int .i64 tick, .slice (some ⟨gy, 0, none⟩) T.n cy, .slice T.a T.n T.c, .int .i64 0, .int .i64 0, .slice none 0 0, .slice none 0 0]) := KG8.out.later b
      have OY9 : Hid (SRd x9 ⟨some ⟨gy, 0, none⟩, T.n, cy⟩ y) := OY8.out.later b
      have OF9 : Hid (FrRd x9 (⟨C, N, T, T, ⟨none, 0, 0⟩, ⟨none, 0, 0⟩⟩ : FrS) (⟨3, id, cn, sn, tick, M, M, 0, 0, [], []⟩ : FrD)) := OF8.out.later b
      have OG9 : Hid (FrRd x9 (⟨C, N, ⟨some ⟨gy, 0, none⟩, T.n, cy⟩, T, ⟨none, 0, 0⟩, ⟨none, 0, 0⟩⟩ : FrS) (⟨3, id, cn, sn, tick, y, M, 0, 0, [], []⟩ : FrD)) := OG8.out.later b
      clear b B8 OJ8 OC8 ON8 OT8 KJ8 KA8 KF8 KG8 OY8 OF8 OG8
      go_wp2
      go_ret
      exact ⟨rfl, B9.out⟩
    case neg =>
      have HJF : Hid (judgeF D now ah ap (⟨3, id, cn, sn, tick, M, M, 0, 0, [], []⟩ : FrD) = true) := judge_f HJO.out (by have := HNW.out; have := HP.out.2.2.2.2; omega) HP.out.1 HOF.out
      have HJG : Hid (judgeF D now ah ap (⟨3, id, cn, sn, tick, y, M, 0, 0, [], []⟩ : FrD) = true) := judge_f HJO.out (by have := HNW.out; have := HP.out.2.2.2.2; omega) HP.out.1 HOG.out
      have hw2 : IntKind.i64.wrap (tick + 10) = tick + 10 := by have := HP.out.2.2.2.2; rw [IntKind.wrap_i64]; omega
      by_cases hst : now > tick + 10
      case pos =>
        have HFR : Hid (freshB now tick = false) := by show _ = _; rw [Bool.eq_false_iff]; intro h; have := (freshB_iff.1 h).2.2; omega
        have d0 := KJ8.out.cell 0 rfl
        have e0 := KA8.out.cell 0 rfl
        have e1 := KA8.out.cell 1 rfl
        have f0 := KF8.out.cell 0 rfl
        have f1 := KF8.out.cell 1 rfl
        have f2 := KF8.out.cell 2 rfl
        have f3 := KF8.out.cell 3 rfl
        have f4 := KF8.out.cell 4 rfl
        have f5 := KF8.out.cell 5 rfl
        have f6 := KF8.out.cell 6 rfl
        have f7 := KF8.out.cell 7 rfl
        have f8 := KF8.out.cell 8 rfl
        have f9 := KF8.out.cell 9 rfl
        have f10 := KF8.out.cell 10 rfl
        go_wp2_with fail
        refine (CkV.implJudge S D now ah ap (⟨C, N, T, T, ⟨none, 0, 0⟩, ⟨none, 0, 0⟩⟩ : FrS) (⟨3, id, cn, sn, tick, M, M, 0, 0, [], []⟩ : FrD) x8 (HT.out.later B8.out) OJ8.out OF8.out).mono ?_
        rw [show judgeC D now ah ap (⟨3, id, cn, sn, tick, M, M, 0, 0, [], []⟩ : FrD) = 9 from judge_9 HJF.out HFR.out]
        rintro e x9 ⟨rfl, b⟩
        clear d0
        clear e0 e1
        clear f0 f1 f2 f3 f4 f5 f6 f7 f8 f9 f10
        have L9 : Hid (x8.heap.size ≤ x9.heap.size) := b.size
        have B9 : Hid (Below w.heap.size w x9) := B8.out.trans (b.mono B8.out.size)
        have OJ9 : Hid (JaRd x9 S D) := OJ8.out.later b
        have OC9 : Hid (SRd x9 C cn) := OC8.out.later b
        have ON9 : Hid (SRd x9 N sn) := ON8.out.later b
        have OT9 : Hid (SRd x9 T M) := OT8.out.later b
        have KJ9 : Hid (Blk x9 gj 25 [.slice S.secret.a S.secret.n S.secret.c]) := KJ8.out.later b
        have KA9 : Hid (Blk x9 ga 27 [.int .i64 ah, .int .i64 ap]) := KA8.out.later b
        have KF9 : Hid (Blk x9 gf 35 [.int .i64 3, .int .i64 id, .slice C.a C.n C.c, .slice N.a N.n N.c, .int .i64 tick, .slice T.a T.n T.c, .slice T.a T.n T.c, .int .i64 0, .int .i64 0, .slice none 0 0, .slice none 0 0]) := KF8.out.later b
        have KG9 : Hid (Blk x9 gg 35 [.int .i64 3, .int .i64 id, .slice C.a C.n C.c, .slice N.a N.n N.c, .int .i64 tick, .slice (some ⟨gy, 0, none⟩) T.n cy, .slice T.a T.n T.c, .int .i64 0, .int .i64 0, .slice none 0 0, .slice none 0 0]) := KG8.out.later b
        have OY9 : Hid (SRd x9 ⟨some ⟨gy, 0, none⟩, T.n, cy⟩ y) := OY8.out.later b
        have OF9 : Hid (FrRd x9 (⟨C, N, T, T, ⟨none, 0, 0⟩, ⟨none, 0, 0⟩⟩ : FrS) (⟨3, id, cn, sn, tick, M, M, 0, 0, [], []⟩ : FrD)) := OF8.out.later b
        have OG9 : Hid (FrRd x9 (⟨C, N, ⟨some ⟨gy, 0, none⟩, T.n, cy⟩, T, ⟨none, 0, 0⟩, ⟨none, 0, 0⟩⟩ : FrS) (⟨3, id, cn, sn, tick, y, M, 0, 0, [], []⟩ : FrD)) := OG8.out.later b
        clear b B8 OJ8 OC8 ON8 OT8 KJ8 KA8 KF8 KG8 OY8 OF8 OG8
        go_wp2_with fail
        refine (CkI.implFresh now tick x9).mono ?_
        rw [HFR.out]
        rintro e yy ⟨rfl, rfl⟩
        go_wp2
        go_ret
        exact ⟨rfl, B9.out⟩
      case neg =>
        have HFR : Hid (freshB now tick = true) := freshB_iff.2 (by have := HNW.out; have := HP.out.2.2.2.2; exact ⟨by omega, by omega, by omega, by omega⟩)
        have HSA : Hid (sameI M (mint D ah ap id cn sn tick) = true) := by show _ = _; rw [HM.out, UnsS.same_dec OT8.out.bytes OT8.out.bytes HML.out, decide_eq_true rfl]
        have HSB : Hid (sameI y (mint D ah ap id cn sn tick) = false) := by show _ = _; rw [HM.out, UnsS.same_dec HYB.out OT8.out.bytes HYL.out.1, decide_eq_false HYL.out.2.1]
        have d0 := KJ8.out.cell 0 rfl
        have e0 := KA8.out.cell 0 rfl
        have e1 := KA8.out.cell 1 rfl
        have f0 := KF8.out.cell 0 rfl
        have f1 := KF8.out.cell 1 rfl
        have f2 := KF8.out.cell 2 rfl
        have f3 := KF8.out.cell 3 rfl
        have f4 := KF8.out.cell 4 rfl
        have f5 := KF8.out.cell 5 rfl
        have f6 := KF8.out.cell 6 rfl
        have f7 := KF8.out.cell 7 rfl
        have f8 := KF8.out.cell 8 rfl
        have f9 := KF8.out.cell 9 rfl
        have f10 := KF8.out.cell 10 rfl
        go_wp2_with fail
        refine (CkV.implJudge S D now ah ap (⟨C, N, T, T, ⟨none, 0, 0⟩, ⟨none, 0, 0⟩⟩ : FrS) (⟨3, id, cn, sn, tick, M, M, 0, 0, [], []⟩ : FrD) x8 (HT.out.later B8.out) OJ8.out OF8.out).mono ?_
        rw [show judgeC D now ah ap (⟨3, id, cn, sn, tick, M, M, 0, 0, [], []⟩ : FrD) = 0 from judge_0 HJF.out HFR.out HSA.out]
        rintro e x9 ⟨rfl, b⟩
        clear d0
        clear e0 e1
        clear f0 f1 f2 f3 f4 f5 f6 f7 f8 f9 f10
        have L9 : Hid (x8.heap.size ≤ x9.heap.size) := b.size
        have B9 : Hid (Below w.heap.size w x9) := B8.out.trans (b.mono B8.out.size)
        have OJ9 : Hid (JaRd x9 S D) := OJ8.out.later b
        have OC9 : Hid (SRd x9 C cn) := OC8.out.later b
        have ON9 : Hid (SRd x9 N sn) := ON8.out.later b
        have OT9 : Hid (SRd x9 T M) := OT8.out.later b
        have KJ9 : Hid (Blk x9 gj 25 [.slice S.secret.a S.secret.n S.secret.c]) := KJ8.out.later b
        have KA9 : Hid (Blk x9 ga 27 [.int .i64 ah, .int .i64 ap]) := KA8.out.later b
        have KF9 : Hid (Blk x9 gf 35 [.int .i64 3, .int .i64 id, .slice C.a C.n C.c, .slice N.a N.n N.c, .int .i64 tick, .slice T.a T.n T.c, .slice T.a T.n T.c, .int .i64 0, .int .i64 0, .slice none 0 0, .slice none 0 0]) := KF8.out.later b
        have KG9 : Hid (Blk x9 gg 35 [.int .i64 3, .int .i64 id, .slice C.a C.n C.c, .slice N.a N.n N.c, .int .i64 tick, .slice (some ⟨gy, 0, none⟩) T.n cy, .slice T.a T.n T.c, .int .i64 0, .int .i64 0, .slice none 0 0, .slice none 0 0]) := KG8.out.later b
        have OY9 : Hid (SRd x9 ⟨some ⟨gy, 0, none⟩, T.n, cy⟩ y) := OY8.out.later b
        have OF9 : Hid (FrRd x9 (⟨C, N, T, T, ⟨none, 0, 0⟩, ⟨none, 0, 0⟩⟩ : FrS) (⟨3, id, cn, sn, tick, M, M, 0, 0, [], []⟩ : FrD)) := OF8.out.later b
        have OG9 : Hid (FrRd x9 (⟨C, N, ⟨some ⟨gy, 0, none⟩, T.n, cy⟩, T, ⟨none, 0, 0⟩, ⟨none, 0, 0⟩⟩ : FrS) (⟨3, id, cn, sn, tick, y, M, 0, 0, [], []⟩ : FrD)) := OG8.out.later b
        clear b B8 OJ8 OC8 ON8 OT8 KJ8 KA8 KF8 KG8 OY8 OF8 OG8
        go_wp2_with fail
        refine (CkI.implFresh now tick x9).mono ?_
        rw [HFR.out]
        rintro e yy ⟨rfl, rfl⟩
        have d0 := KJ9.out.cell 0 rfl
        have e0 := KA9.out.cell 0 rfl
        have e1 := KA9.out.cell 1 rfl
        have f0 := KG9.out.cell 0 rfl
        have f1 := KG9.out.cell 1 rfl
        have f2 := KG9.out.cell 2 rfl
        have f3 := KG9.out.cell 3 rfl
        have f4 := KG9.out.cell 4 rfl
        have f5 := KG9.out.cell 5 rfl
        have f6 := KG9.out.cell 6 rfl
        have f7 := KG9.out.cell 7 rfl
        have f8 := KG9.out.cell 8 rfl
        have f9 := KG9.out.cell 9 rfl
        have f10 := KG9.out.cell 10 rfl
        go_wp2_with fail
        refine (CkV.implJudge S D now ah ap (⟨C, N, ⟨some ⟨gy, 0, none⟩, T.n, cy⟩, T, ⟨none, 0, 0⟩, ⟨none, 0, 0⟩⟩ : FrS) (⟨3, id, cn, sn, tick, y, M, 0, 0, [], []⟩ : FrD) x9 (HT.out.later B9.out) OJ9.out OG9.out).mono ?_
        rw [show judgeC D now ah ap (⟨3, id, cn, sn, tick, y, M, 0, 0, [], []⟩ : FrD) = 2 from judge_2 HJG.out HFR.out HSB.out]
        rintro e x10 ⟨rfl, b⟩
        clear d0
        clear e0 e1
        clear f0 f1 f2 f3 f4 f5 f6 f7 f8 f9 f10
        have L10 : Hid (x9.heap.size ≤ x10.heap.size) := b.size
        have B10 : Hid (Below w.heap.size w x10) := B9.out.trans (b.mono B9.out.size)
        have OJ10 : Hid (JaRd x10 S D) := OJ9.out.later b
        have OC10 : Hid (SRd x10 C cn) := OC9.out.later b
        have ON10 : Hid (SRd x10 N sn) := ON9.out.later b
        have OT10 : Hid (SRd x10 T M) := OT9.out.later b
        have KJ10 : Hid (Blk x10 gj 25 [.slice S.secret.a S.secret.n S.secret.c]) := KJ9.out.later b
        have KA10 : Hid (Blk x10 ga 27 [.int .i64 ah, .int .i64 ap]) := KA9.out.later b
        have KF10 : Hid (Blk x10 gf 35 [.int .i64 3, .int .i64 id, .slice C.a C.n C.c, .slice N.a N.n N.c, .int .i64 tick, .slice T.a T.n T.c, .slice T.a T.n T.c, .int .i64 0, .int .i64 0, .slice none 0 0, .slice none 0 0]) := KF9.out.later b
        have KG10 : Hid (Blk x10 gg 35 [.int .i64 3, .int .i64 id, .slice C.a C.n C.c, .slice N.a N.n N.c, .int .i64 tick, .slice (some ⟨gy, 0, none⟩) T.n cy, .slice T.a T.n T.c, .int .i64 0, .int .i64 0, .slice none 0 0, .slice none 0 0]) := KG9.out.later b
        have OY10 : Hid (SRd x10 ⟨some ⟨gy, 0, none⟩, T.n, cy⟩ y) := OY9.out.later b
        have OF10 : Hid (FrRd x10 (⟨C, N, T, T, ⟨none, 0, 0⟩, ⟨none, 0, 0⟩⟩ : FrS) (⟨3, id, cn, sn, tick, M, M, 0, 0, [], []⟩ : FrD)) := OF9.out.later b
        have OG10 : Hid (FrRd x10 (⟨C, N, ⟨some ⟨gy, 0, none⟩, T.n, cy⟩, T, ⟨none, 0, 0⟩, ⟨none, 0, 0⟩⟩ : FrS) (⟨3, id, cn, sn, tick, y, M, 0, 0, [], []⟩ : FrD)) := OG9.out.later b
        clear b B9 OJ9 OC9 ON9 OT9 KJ9 KA9 KF9 KG9 OY9 OF9 OG9
        go_wp2
        go_ret
        exact ⟨rfl, B10.out⟩

set_option maxRecDepth 100000 in
theorem walk (a : Option Addr) (len cap : Nat) (zs : List Int) (w : World) (hT : Tab w) (h : IsRow .u8 w a len cap zs) :
    Calls Tryz.prog 3 #[.slice a len cap] w fun e w' => e = .returned (.bool true) ∧ Below w.heap.size w w' := by
  obtain ⟨l, h1, h2, _, h4⟩ := h.read
  by_cases hl : len ≤ 1048576
  · exact small a len cap l w hT h1 h2 h4 hl
  · clear h h1 h2 h4
    go_enter Tryz.func3, Tryz.ntmps3
    go_wp2_with fail
    refine (bigYes a len cap w (by omega)).mono ?_
    rintro e w0 ⟨rfl, rfl⟩
    go_wp2
    go_ret
    exact ⟨rfl, Below.refl _ _⟩
end Go.Proofs.YtpgapjdejelajaaGreatDoor.LawCookies
