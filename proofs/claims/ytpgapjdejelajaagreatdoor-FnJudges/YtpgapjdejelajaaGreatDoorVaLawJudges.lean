/-
  The walk of the law FnJudges: at every code finishes, bent or not, are judged as the specification judges them; where the table of round words is as the text lays it.
-/
import Derived.Test.YtpgapjdejelajaaGreatDoorVaDrCl
import Derived.Test.YtpgapjdejelajaaGreatDoorVaGr14
import Derived.Test.YtpgapjdejelajaaGreatDoorVaGr17
import Derived.Test.YtpgapjdejelajaaGreatDoorVaCkU
import Derived.Test.YtpgapjdejelajaaGreatDoorVaGr12
import Derived.Test.YtpgapjdejelajaaGreatDoorVaGr4
import Derived.Test.YtpgapjdejelajaaGreatDoorVaGr16
set_option maxRecDepth 100000
namespace Go.Proofs.YtpgapjdejelajaaGreatDoor.LawJudges
open Go.RowKit Mem App Blk Draw Zone Res Comp Words AddrP AddrS JaZ JaL CkP CkQ FrZ FrP DrCk Shp Each Copy Ops Guard

theorem okJ (S : JaS) (D : JaD) (v : Bool) (w : World) (h : JaRd w S D) (hv : jarOk D = v) : Calls Tryz.prog 11 #[jaV D S] w fun e w' => e = .returned (.bool v) ∧ Below w.heap.size w w' := by
 subst hv; exact CkI.implJarOk S D w h
theorem judgeI (S : JaS) (D : JaD) (now h p : Int) (SF : FrS) (F : FrD) (c : Int) (w : World) (hT : Tab w) (hj : JaRd w S D) (hf : FrRd w SF F) (hc : judgeC D now h p F = c) : Calls Tryz.prog 15 #[jaV D S, .int .i64 now, addrV h p, frV F SF] w fun e w' => e = .returned (.int .i64 c) ∧ Below w.heap.size w w' := by
 subst hc; exact CkV.implJudge S D now h p SF F w hT hj hf
theorem judgeS (S : JaS) (D : JaD) (now h p : Int) (SF : FrS) (F : FrD) (c : Int) (w : World) (hj : JaRd w S D) (hf : FrRd w SF F) (hc : judgeC D now h p F = c) : Calls Tryz.prog 20 #[jaV D S, .int .i64 now, addrV h p, frV F SF] w fun e w' => e = .returned (.int .i64 c) ∧ Below w.heap.size w w' := by
 subst hc; exact CkU.specJudge S D now h p SF F w hj hf
theorem freshI (x y : Int) (v : Bool) (w : World) (hv : freshB x y = v) : Calls Tryz.prog 16 #[.int .i64 x, .int .i64 y] w fun e w' => e = .returned (.bool v) ∧ Below w.heap.size w w' := by
 subst hv; exact (CkI.implFresh x y w).mono fun _ _ h => ⟨h.1, h.2 ▸ Below.refl _ _⟩
theorem freshS (x y : Int) (v : Bool) (w : World) (hv : freshB x y = v) : Calls Tryz.prog 21 #[.int .i64 x, .int .i64 y] w fun e w' => e = .returned (.bool v) ∧ Below w.heap.size w w' := by
 subst hv; exact (CkS.specFresh x y w).mono fun _ _ h => ⟨h.1, h.2 ▸ Below.refl _ _⟩
theorem bigNo (a : Option Addr) (len cap : Nat) (w : World) (h : len ≤ 1048576) :
  Calls Tryz.prog 6 #[.slice a len cap] w fun e w' => e = .returned (.bool false) ∧ w = w' := by
 have h' : ¬ ((1048576 : Int) < (len : Int)) := by omega
 go_enter Tryz.func6, Tryz.ntmps6
 go_wp2
 go_ret
 exact ⟨rfl, rfl⟩
theorem bigYes (a : Option Addr) (len cap : Nat) (w : World) (h : 1048576 < len) :
  Calls Tryz.prog 6 #[.slice a len cap] w fun e w' => e = .returned (.bool true) ∧ w = w' := by
 have h' : (1048576 : Int) < (len : Int) := by omega
 go_enter Tryz.func6, Tryz.ntmps6
 go_wp2
 go_ret
 exact ⟨rfl, rfl⟩
abbrev DL1 : List Nat := [26, 27, 28, 29, 30, 31, 32, 33, 34, 35, 36, 37, 38, 39, 40, 41, 42, 43, 44, 45, 46, 47, 48, 49, 50, 51, 52, 53, 54]
set_option maxHeartbeats 16000000 in
theorem small (a : Option Addr) (len cap : Nat) (l : List Int) (w : World) (hT : Tab w) (hl : len = l.length) (hr : Rd w a l) (hb : Bytes l) (hlen : len ≤ 1048576) :
  Calls Tryz.prog 4 #[.slice a len cap] w fun e w' => e = .returned (.bool true) ∧ Below w.heap.size w w' := by
 have HR := hid (hr)
 have HL : Hid (len = l.length) := hl
 have HB := hid (hb)
 clear hr hl hb
 have HT := hid (hT)
 clear hT
 have B0 : Hid (Below w.heap.size w w) := Below.refl _ _
 go_enter Tryz.func4, Tryz.ntmps4
 go_wp2_with fail
 refine (bigNo a len cap w hlen).mono ?_
 rintro e w0 ⟨rfl, rfl⟩
 go_wp2_with fail
 refine (DrCl.drawJudge a len cap l w HL.out (HR.out.later B0.out (Nat.le_refl _)) HB.out hlen).mono ?_
 rintro e x1 ⟨D, S, now, ah, ap, SF, F, rfl, _, oj, of, b⟩
 have L1 := hid (b.size)
 have B1 := hid (B0.out.trans (b.mono B0.out.size))
 clear b B0
 have OJ1 : Hid (JaRd x1 S D) := oj
 have OF1 := hid (of)
 clear oj of
 obtain ⟨x2, hx2⟩ : ∃ zz, ((x1.alloc (.cells #[.slice S.secret.a S.secret.n S.secret.c] 25)).alloc (.cells #[.int .i64 ah, .int .i64 ap] 27)).alloc (.cells #[.int .i64 F.kind, .int .i64 F.id, .slice SF.cn.a SF.cn.n SF.cn.c, .slice SF.sn.a SF.sn.n SF.sn.c, .int .i64 F.tick, .slice SF.cookie.a SF.cookie.n SF.cookie.c, .slice SF.proof.a SF.proof.n SF.proof.c, .int .i64 F.epoch, .int .i64 F.seq, .slice SF.body.a SF.body.n SF.body.c, .slice SF.tag.a SF.tag.n SF.tag.c] 35) = zz := ⟨_, rfl⟩
 have HWA := hid (hx2)
 have b2 : Below x1.heap.size x1 x2 := by rw [← hx2]; exact ((((Below.refl _ _).alloc (Nat.le_refl _) _).alloc (by simp) _).alloc (by simp; omega) _)
 have KJN : Blk x2 (x1.heap.size) 25 [.slice S.secret.a S.secret.n S.secret.c] := by
  have q := Blk.new (x1) 25 [.slice S.secret.a S.secret.n S.secret.c]
  skip
  rw [← hx2]; exact (q.alloc _).alloc _
 have KAN : Blk x2 (x1.heap.size + 1) 27 [.int .i64 ah, .int .i64 ap] := by
  have q := Blk.new ((x1.alloc (.cells #[.slice S.secret.a S.secret.n S.secret.c] 25))) 27 [.int .i64 ah, .int .i64 ap]
  rw [World.size_alloc] at q
  rw [← hx2]; exact q.alloc _
 have KFN : Blk x2 (x1.heap.size + 1 + 1) 35 [.int .i64 F.kind, .int .i64 F.id, .slice SF.cn.a SF.cn.n SF.cn.c, .slice SF.sn.a SF.sn.n SF.sn.c, .int .i64 F.tick, .slice SF.cookie.a SF.cookie.n SF.cookie.c, .slice SF.proof.a SF.proof.n SF.proof.c, .int .i64 F.epoch, .int .i64 F.seq, .slice SF.body.a SF.body.n SF.body.c, .slice SF.tag.a SF.tag.n SF.tag.c] := by
  have q := Blk.new (((x1.alloc (.cells #[.slice S.secret.a S.secret.n S.secret.c] 25)).alloc (.cells #[.int .i64 ah, .int .i64 ap] 27))) 35 [.int .i64 F.kind, .int .i64 F.id, .slice SF.cn.a SF.cn.n SF.cn.c, .slice SF.sn.a SF.sn.n SF.sn.c, .int .i64 F.tick, .slice SF.cookie.a SF.cookie.n SF.cookie.c, .slice SF.proof.a SF.proof.n SF.proof.c, .int .i64 F.epoch, .int .i64 F.seq, .slice SF.body.a SF.body.n SF.body.c, .slice SF.tag.a SF.tag.n SF.tag.c]
  rw [World.size_alloc, World.size_alloc] at q
  rw [← hx2]; exact q
 have SZA : x2.heap.size = x1.heap.size + 3 := by rw [← hx2]; simp
 clear hx2
 have L2 := hid (b2.size)
 have B2 := hid (B1.out.trans (b2.mono B1.out.size))
 have OJ2 := hid (OJ1.out.later b2)
 have OF2 := hid (OF1.out.later b2)
 clear b2 B1 OJ1 OF1
 unfold jaV addrV frV
 go_upto_region 4 with fail
 rw [HWA.out]
 obtain ⟨gj, hgj⟩ : ∃ g, x1.heap.size = g := ⟨_, rfl⟩
 obtain ⟨ga, hga⟩ : ∃ g, x1.heap.size + 1 = g := ⟨_, rfl⟩
 obtain ⟨gf, hgf⟩ : ∃ g, x1.heap.size + 1 + 1 = g := ⟨_, rfl⟩
 have Ggj_ : Hid (x1.heap.size = gj ∧ gj + 1 = ga ∧ ga + 1 = gf ∧ x2.heap.size = gj + 3) := ⟨hgj, by omega, by omega, by omega⟩
 rw [hgj] at KJN
 rw [hga] at KAN
 rw [hgf] at KFN
 rw [hgf, hga, hgj]
 clear HWA SZA hgj hga hgf
 have KJ2 := hid (KJN)
 have KA2 := hid (KAN)
 have KF2 := hid (KFN)
 clear KJN KAN KFN
 go_wp2_with fail
 refine (drawFresh a len cap l x2 HL.out (HR.out.later B2.out (Nat.le_refl _)) HB.out hlen).mono ?_
 rintro e x3 ⟨fx, fy, rfl, b⟩
 have L3 := hid (b.size)
 have B3 := hid (B2.out.trans (b.mono B2.out.size))
 have OJ3 := hid (OJ2.out.later b)
 have OF3 := hid (OF2.out.later b)
 have KJ3 := hid (KJ2.out.later b)
 have KA3 := hid (KA2.out.later b)
 have KF3 := hid (KF2.out.later b)
 clear b B2 OJ2 OF2 KJ2 KA2 KF2
 go_wp2_with fail
 refine (drawJarNew a len cap l x3 HL.out (HR.out.later B3.out (Nat.le_refl _)) HB.out hlen).mono ?_
 rintro e x4 ⟨RS, rl, rfl, _, o, b⟩
 have L4 := hid (b.size)
 have B4 := hid (B3.out.trans (b.mono B3.out.size))
 have OJ4 := hid (OJ3.out.later b)
 have OF4 := hid (OF3.out.later b)
 have KJ4 := hid (KJ3.out.later b)
 have KA4 := hid (KA3.out.later b)
 have KF4 := hid (KF3.out.later b)
 clear b B3 OJ3 OF3 KJ3 KA3 KF3
 have OR4 := hid (o)
 clear o
 obtain ⟨cj, hcj⟩ : ∃ z : Int, judgeC D now ah ap F = z := ⟨_, rfl⟩
 have HCJ : Hid (judgeC D now ah ap F = cj) := hcj
 clear hcj
 obtain ⟨fv, hfv⟩ : ∃ z : Bool, freshB fx fy = z := ⟨_, rfl⟩
 have HFV : Hid (freshB fx fy = fv) := hfv
 clear hfv
 obtain ⟨jv, hjv⟩ : ∃ z : Bool, jarOk (newJ rl) = z := ⟨_, rfl⟩
 have HJV : Hid (jarOk (newJ rl) = jv) := hjv
 clear hjv
 have hcc : (cj == cj) = true := by simp
 have hff : (fv == fv) = true := by simp
 have hjj : (jv == jv) = true := by simp
 have hrn : ((RS.n : Int) == 12) = jv := by rw [← HJV.out, newJ_ok, OR4.out.len]
 go_upto_region 6 with fail
 go_cut [2] from 26 to 54 (fun sv wx => sv = .bool true ∧ Below x4.heap.size x4 wx)
 case first =>
  rename_i J K' hRJ hMet
  generalize hA : Act.mk _ _ = A
  have a3' : A.eval (.tmp 3) = .pointer (some ⟨gj, 0, none⟩) := by rw [← hA]; rfl
  have a4' : A.eval (.tmp 4) = .int .i64 now := by rw [← hA]; rfl
  have a5' : A.eval (.tmp 5) = .pointer (some ⟨ga, 0, none⟩) := by rw [← hA]; rfl
  have a6' : A.eval (.tmp 6) = .pointer (some ⟨gf, 0, none⟩) := by rw [← hA]; rfl
  have a7' : A.eval (.tmp 7) = .int .i64 fx := by rw [← hA]; rfl
  have a8' : A.eval (.tmp 8) = .int .i64 fy := by rw [← hA]; rfl
  have a9' : A.eval (.tmp 9) = .slice RS.a RS.n RS.c := by rw [← hA]; rfl
  have asz : A.tmps.size = 55 := by rw [← hA]; rfl
  have hKJ : ∀ wx, Below x4.heap.size x4 wx → Blk wx gj 25 [.slice S.secret.a S.secret.n S.secret.c] := fun wx hb => KJ4.out.later hb
  have hKA : ∀ wx, Below x4.heap.size x4 wx → Blk wx ga 27 [.int .i64 ah, .int .i64 ap] := fun wx hb => KA4.out.later hb
  have hKF : ∀ wx, Below x4.heap.size x4 wx → Blk wx gf 35 [.int .i64 F.kind, .int .i64 F.id, .slice SF.cn.a SF.cn.n SF.cn.c, .slice SF.sn.a SF.sn.n SF.sn.c, .int .i64 F.tick, .slice SF.cookie.a SF.cookie.n SF.cookie.c, .slice SF.proof.a SF.proof.n SF.proof.c, .int .i64 F.epoch, .int .i64 F.seq, .slice SF.body.a SF.body.n SF.body.c, .slice SF.tag.a SF.tag.n SF.tag.c] := fun wx hb => KF4.out.later hb
  have hOJ : ∀ wx, Below x4.heap.size x4 wx → JaRd wx S D := fun wx hb => OJ4.out.later hb
  have hOF : ∀ wx, Below x4.heap.size x4 wx → FrRd wx SF F := fun wx hb => OF4.out.later hb
  have hOR : ∀ wx, Below x4.heap.size x4 wx → SRd wx RS rl := fun wx hb => OR4.out.later hb
  have hTT : ∀ wx, Below x4.heap.size x4 wx → Tab wx := fun wx hb => HT.out.later (B4.out.trans (hb.mono B4.out.size))
  refine region_each (by kernel_rfl) DL1 29 (fun i => DL1.getD i 0) (fun _ => 0)
   (fun i gB v wx => match i with
    | 0 => v = .agg #[.slice S.secret.a S.secret.n S.secret.c]
    | 1 => v = .int .i64 now
    | 2 => v = .agg #[.int .i64 ah, .int .i64 ap]
    | 3 => v = .agg #[.int .i64 F.kind, .int .i64 F.id, .slice SF.cn.a SF.cn.n SF.cn.c, .slice SF.sn.a SF.sn.n SF.sn.c, .int .i64 F.tick, .slice SF.cookie.a SF.cookie.n SF.cookie.c, .slice SF.proof.a SF.proof.n SF.proof.c, .int .i64 F.epoch, .int .i64 F.seq, .slice SF.body.a SF.body.n SF.body.c, .slice SF.tag.a SF.tag.n SF.tag.c]
    | 4 => v = .int .i64 cj
    | 5 => v = .agg #[.slice S.secret.a S.secret.n S.secret.c]
    | 6 => v = .int .i64 now
    | 7 => v = .agg #[.int .i64 ah, .int .i64 ap]
    | 8 => v = .agg #[.int .i64 F.kind, .int .i64 F.id, .slice SF.cn.a SF.cn.n SF.cn.c, .slice SF.sn.a SF.sn.n SF.sn.c, .int .i64 F.tick, .slice SF.cookie.a SF.cookie.n SF.cookie.c, .slice SF.proof.a SF.proof.n SF.proof.c, .int .i64 F.epoch, .int .i64 F.seq, .slice SF.body.a SF.body.n SF.body.c, .slice SF.tag.a SF.tag.n SF.tag.c]
    | 9 => v = .int .i64 cj
    | 10 => v = .bool true
    | 11 => v = .bool true
    | 12 => v = .int .i64 fx
    | 13 => v = .int .i64 fy
    | 14 => v = .bool fv
    | 15 => v = .int .i64 fx
    | 16 => v = .int .i64 fy
    | 17 => v = .bool fv
    | 18 => v = .bool true
    | 19 => v = .bool true
    | 20 => v = .bool true
    | 21 => v = .slice RS.a RS.n RS.c
    | 22 => ∃ s9, v = jaV (newJ rl) s9 ∧ JaRd wx s9 (newJ rl)
    | 23 => v = .bool jv
    | 24 => v = .slice RS.a RS.n RS.c
    | 25 => v = .int .i64 (RS.n : Int)
    | 26 => v = .bool jv
    | 27 => v = .bool true
    | 28 => v = .bool true
    | _ => False) (fun wx => Below x4.heap.size x4 wx) (by kernel_rfl) (Below.refl _ _).drew ?_ ?_ ?_
  ·
   intro i gB v wx wy hi hF hb _
   match i, hi with
   | 0, _ => exact hF
   | 1, _ => exact hF
   | 2, _ => exact hF
   | 3, _ => exact hF
   | 4, _ => exact hF
   | 5, _ => exact hF
   | 6, _ => exact hF
   | 7, _ => exact hF
   | 8, _ => exact hF
   | 9, _ => exact hF
   | 10, _ => exact hF
   | 11, _ => exact hF
   | 12, _ => exact hF
   | 13, _ => exact hF
   | 14, _ => exact hF
   | 15, _ => exact hF
   | 16, _ => exact hF
   | 17, _ => exact hF
   | 18, _ => exact hF
   | 19, _ => exact hF
   | 20, _ => exact hF
   | 21, _ => exact hF
   | 22, _ => obtain ⟨s9, h0, h1⟩ := hF; exact ⟨s9, h0, h1.later hb⟩
   | 23, _ => exact hF
   | 24, _ => exact hF
   | 25, _ => exact hF
   | 26, _ => exact hF
   | 27, _ => exact hF
   | 28, _ => exact hF
   | n + 29, hi => exact absurd hi (by omega)
  ·
   intro i hi t ρ wx hB hp hd
   match i, hi with
   | 0, _ =>
    have e3 : (fr DL1 A t).eval (.tmp 3) = .pointer (some ⟨gj, 0, none⟩) := (fr_eval_old _ _ _ 3 rfl).trans a3'
    have hc := (hKJ wx hB).cell 0 rfl
    refine op_run (v := .agg #[.slice S.secret.a S.secret.n S.secret.c]) (w' := wx) rfl rfl ?_ ?_
    ·
     clear hp hd; have ec : ∀ v, (fr DL1 A t).eval (.const v) = v := fun _ => rfl; generalize (fr DL1 A t).eval = ev at ec e3 ⊢; go_simp
    ·
     exact ⟨_, 0, rfl, hB, Below.refl _ _, rfl, .inl rfl⟩
   | 1, _ =>
    have e4 : (fr DL1 A t).eval (.tmp 4) = .int .i64 now := (fr_eval_old _ _ _ 4 rfl).trans a4'
    refine op_run (v := .int .i64 now) (w' := wx) rfl rfl ?_ ?_
    ·
     clear hp hd; have ec : ∀ v, (fr DL1 A t).eval (.const v) = v := fun _ => rfl; generalize (fr DL1 A t).eval = ev at ec e4 ⊢; go_simp
    ·
     exact ⟨_, 0, rfl, hB, Below.refl _ _, rfl, .inl rfl⟩
   | 2, _ =>
    have e5 : (fr DL1 A t).eval (.tmp 5) = .pointer (some ⟨ga, 0, none⟩) := (fr_eval_old _ _ _ 5 rfl).trans a5'
    have hc0 := (hKA wx hB).cell 0 rfl
    have hc1 := (hKA wx hB).cell 1 rfl
    refine op_run (v := .agg #[.int .i64 ah, .int .i64 ap]) (w' := wx) rfl rfl ?_ ?_
    ·
     clear hp hd; have ec : ∀ v, (fr DL1 A t).eval (.const v) = v := fun _ => rfl; generalize (fr DL1 A t).eval = ev at ec e5 ⊢; go_simp
    ·
     exact ⟨_, 0, rfl, hB, Below.refl _ _, rfl, .inl rfl⟩
   | 3, _ =>
    have e6 : (fr DL1 A t).eval (.tmp 6) = .pointer (some ⟨gf, 0, none⟩) := (fr_eval_old _ _ _ 6 rfl).trans a6'
    obtain ⟨hc0, hc1, hc2, hc3, hc4, hc5, hc6, hc7, hc8, hc9, hc10⟩ := cells11 (hKF wx hB)
    refine op_run (v := .agg #[.int .i64 F.kind, .int .i64 F.id, .slice SF.cn.a SF.cn.n SF.cn.c, .slice SF.sn.a SF.sn.n SF.sn.c, .int .i64 F.tick, .slice SF.cookie.a SF.cookie.n SF.cookie.c, .slice SF.proof.a SF.proof.n SF.proof.c, .int .i64 F.epoch, .int .i64 F.seq, .slice SF.body.a SF.body.n SF.body.c, .slice SF.tag.a SF.tag.n SF.tag.c]) (w' := wx) rfl rfl ?_ ?_
    ·
     clear hp hd; have ec : ∀ v, (fr DL1 A t).eval (.const v) = v := fun _ => rfl; generalize (fr DL1 A t).eval = ev at ec e6 ⊢; go_simp
    ·
     exact ⟨_, 0, rfl, hB, Below.refl _ _, rfl, .inl rfl⟩
   | 4, _ =>
    have e26 : (fr DL1 A t).eval (.tmp 26) = .agg #[.slice S.secret.a S.secret.n S.secret.c] := (fr_eval _ _ _ 26 rfl (by rw [asz]; decide)).trans (hp 0 (pre_mem (by kernel_rfl)))
    have e27 : (fr DL1 A t).eval (.tmp 27) = .int .i64 now := (fr_eval _ _ _ 27 rfl (by rw [asz]; decide)).trans (hp 1 (pre_mem (by kernel_rfl)))
    have e28 : (fr DL1 A t).eval (.tmp 28) = .agg #[.int .i64 ah, .int .i64 ap] := (fr_eval _ _ _ 28 rfl (by rw [asz]; decide)).trans (hp 2 (pre_mem (by kernel_rfl)))
    have e29 : (fr DL1 A t).eval (.tmp 29) = .agg #[.int .i64 F.kind, .int .i64 F.id, .slice SF.cn.a SF.cn.n SF.cn.c, .slice SF.sn.a SF.sn.n SF.sn.c, .int .i64 F.tick, .slice SF.cookie.a SF.cookie.n SF.cookie.c, .slice SF.proof.a SF.proof.n SF.proof.c, .int .i64 F.epoch, .int .i64 F.seq, .slice SF.body.a SF.body.n SF.body.c, .slice SF.tag.a SF.tag.n SF.tag.c] := (fr_eval _ _ _ 29 rfl (by rw [asz]; decide)).trans (hp 3 (pre_mem (by kernel_rfl)))
    refine op_call (f := 15) (args := #[.agg #[.slice S.secret.a S.secret.n S.secret.c], .int .i64 now, .agg #[.int .i64 ah, .int .i64 ap], .agg #[.int .i64 F.kind, .int .i64 F.id, .slice SF.cn.a SF.cn.n SF.cn.c, .slice SF.sn.a SF.sn.n SF.sn.c, .int .i64 F.tick, .slice SF.cookie.a SF.cookie.n SF.cookie.c, .slice SF.proof.a SF.proof.n SF.proof.c, .int .i64 F.epoch, .int .i64 F.seq, .slice SF.body.a SF.body.n SF.body.c, .slice SF.tag.a SF.tag.n SF.tag.c]]) rfl rfl ?_ (judgeI S D now ah ap SF F cj wx (hTT wx hB) (hOJ wx hB) (hOF wx hB) HCJ.out) ?_
    ·
     have ef : (fr DL1 A t).eval (.func 15) = .func (.func 15) #[] #[] := rfl; clear hp hd; have ec : ∀ v, (fr DL1 A t).eval (.const v) = v := fun _ => rfl; generalize (fr DL1 A t).eval = ev at ec e26 e27 e28 e29 ef ⊢; go_simp
    ·
     rintro e wy ⟨rfl, b1⟩
     exact ⟨_, rfl, _, 0, rfl, hB.trans (b1.mono hB.size), b1, rfl, .inl rfl⟩
   | 5, _ =>
    have e3 : (fr DL1 A t).eval (.tmp 3) = .pointer (some ⟨gj, 0, none⟩) := (fr_eval_old _ _ _ 3 rfl).trans a3'
    have hc := (hKJ wx hB).cell 0 rfl
    refine op_run (v := .agg #[.slice S.secret.a S.secret.n S.secret.c]) (w' := wx) rfl rfl ?_ ?_
    ·
     clear hp hd; have ec : ∀ v, (fr DL1 A t).eval (.const v) = v := fun _ => rfl; generalize (fr DL1 A t).eval = ev at ec e3 ⊢; go_simp
    ·
     exact ⟨_, 0, rfl, hB, Below.refl _ _, rfl, .inl rfl⟩
   | 6, _ =>
    have e4 : (fr DL1 A t).eval (.tmp 4) = .int .i64 now := (fr_eval_old _ _ _ 4 rfl).trans a4'
    refine op_run (v := .int .i64 now) (w' := wx) rfl rfl ?_ ?_
    ·
     clear hp hd; have ec : ∀ v, (fr DL1 A t).eval (.const v) = v := fun _ => rfl; generalize (fr DL1 A t).eval = ev at ec e4 ⊢; go_simp
    ·
     exact ⟨_, 0, rfl, hB, Below.refl _ _, rfl, .inl rfl⟩
   | 7, _ =>
    have e5 : (fr DL1 A t).eval (.tmp 5) = .pointer (some ⟨ga, 0, none⟩) := (fr_eval_old _ _ _ 5 rfl).trans a5'
    have hc0 := (hKA wx hB).cell 0 rfl
    have hc1 := (hKA wx hB).cell 1 rfl
    refine op_run (v := .agg #[.int .i64 ah, .int .i64 ap]) (w' := wx) rfl rfl ?_ ?_
    ·
     clear hp hd; have ec : ∀ v, (fr DL1 A t).eval (.const v) = v := fun _ => rfl; generalize (fr DL1 A t).eval = ev at ec e5 ⊢; go_simp
    ·
     exact ⟨_, 0, rfl, hB, Below.refl _ _, rfl, .inl rfl⟩
   | 8, _ =>
    have e6 : (fr DL1 A t).eval (.tmp 6) = .pointer (some ⟨gf, 0, none⟩) := (fr_eval_old _ _ _ 6 rfl).trans a6'
    obtain ⟨hc0, hc1, hc2, hc3, hc4, hc5, hc6, hc7, hc8, hc9, hc10⟩ := cells11 (hKF wx hB)
    refine op_run (v := .agg #[.int .i64 F.kind, .int .i64 F.id, .slice SF.cn.a SF.cn.n SF.cn.c, .slice SF.sn.a SF.sn.n SF.sn.c, .int .i64 F.tick, .slice SF.cookie.a SF.cookie.n SF.cookie.c, .slice SF.proof.a SF.proof.n SF.proof.c, .int .i64 F.epoch, .int .i64 F.seq, .slice SF.body.a SF.body.n SF.body.c, .slice SF.tag.a SF.tag.n SF.tag.c]) (w' := wx) rfl rfl ?_ ?_
    ·
     clear hp hd; have ec : ∀ v, (fr DL1 A t).eval (.const v) = v := fun _ => rfl; generalize (fr DL1 A t).eval = ev at ec e6 ⊢; go_simp
    ·
     exact ⟨_, 0, rfl, hB, Below.refl _ _, rfl, .inl rfl⟩
   | 9, _ =>
    have e31 : (fr DL1 A t).eval (.tmp 31) = .agg #[.slice S.secret.a S.secret.n S.secret.c] := (fr_eval _ _ _ 31 rfl (by rw [asz]; decide)).trans (hp 5 (pre_mem (by kernel_rfl)))
    have e32 : (fr DL1 A t).eval (.tmp 32) = .int .i64 now := (fr_eval _ _ _ 32 rfl (by rw [asz]; decide)).trans (hp 6 (pre_mem (by kernel_rfl)))
    have e33 : (fr DL1 A t).eval (.tmp 33) = .agg #[.int .i64 ah, .int .i64 ap] := (fr_eval _ _ _ 33 rfl (by rw [asz]; decide)).trans (hp 7 (pre_mem (by kernel_rfl)))
    have e34 : (fr DL1 A t).eval (.tmp 34) = .agg #[.int .i64 F.kind, .int .i64 F.id, .slice SF.cn.a SF.cn.n SF.cn.c, .slice SF.sn.a SF.sn.n SF.sn.c, .int .i64 F.tick, .slice SF.cookie.a SF.cookie.n SF.cookie.c, .slice SF.proof.a SF.proof.n SF.proof.c, .int .i64 F.epoch, .int .i64 F.seq, .slice SF.body.a SF.body.n SF.body.c, .slice SF.tag.a SF.tag.n SF.tag.c] := (fr_eval _ _ _ 34 rfl (by rw [asz]; decide)).trans (hp 8 (pre_mem (by kernel_rfl)))
    refine op_call (f := 20) (args := #[.agg #[.slice S.secret.a S.secret.n S.secret.c], .int .i64 now, .agg #[.int .i64 ah, .int .i64 ap], .agg #[.int .i64 F.kind, .int .i64 F.id, .slice SF.cn.a SF.cn.n SF.cn.c, .slice SF.sn.a SF.sn.n SF.sn.c, .int .i64 F.tick, .slice SF.cookie.a SF.cookie.n SF.cookie.c, .slice SF.proof.a SF.proof.n SF.proof.c, .int .i64 F.epoch, .int .i64 F.seq, .slice SF.body.a SF.body.n SF.body.c, .slice SF.tag.a SF.tag.n SF.tag.c]]) rfl rfl ?_ (judgeS S D now ah ap SF F cj wx (hOJ wx hB) (hOF wx hB) HCJ.out) ?_
    ·
     have ef : (fr DL1 A t).eval (.func 20) = .func (.func 20) #[] #[] := rfl; clear hp hd; have ec : ∀ v, (fr DL1 A t).eval (.const v) = v := fun _ => rfl; generalize (fr DL1 A t).eval = ev at ec e31 e32 e33 e34 ef ⊢; go_simp
    ·
     rintro e wy ⟨rfl, b1⟩
     exact ⟨_, rfl, _, 0, rfl, hB.trans (b1.mono hB.size), b1, rfl, .inl rfl⟩
   | 10, _ =>
    have hv4 := hp 4 (pre_mem (by kernel_rfl))
    have e30 : (fr DL1 A t).eval (.tmp 30) = .int .i64 cj := (fr_eval _ _ _ 30 rfl (by rw [asz]; decide)).trans hv4
    have hv9 := hp 9 (pre_mem (by kernel_rfl))
    have e35 : (fr DL1 A t).eval (.tmp 35) = .int .i64 cj := (fr_eval _ _ _ 35 rfl (by rw [asz]; decide)).trans hv9
    have hh := hcc
    refine op_run (v := .bool true) (w' := wx) rfl rfl ?_ ?_
    ·
     clear hp hd; have ec : ∀ v, (fr DL1 A t).eval (.const v) = v := fun _ => rfl; generalize (fr DL1 A t).eval = ev at ec e30 e35 ⊢; go_simp
    ·
     exact ⟨_, 0, rfl, hB, Below.refl _ _, rfl, .inl rfl⟩
   | 11, _ =>
    have e36 : (fr DL1 A t).eval (.tmp 36) = .bool true := (fr_eval _ _ _ 36 rfl (by rw [asz]; decide)).trans (hp 10 (pre_mem (by kernel_rfl)))
    refine op_run (v := .bool true) (w' := wx) rfl rfl ?_ ?_
    ·
     clear hp hd; have ec : ∀ v, (fr DL1 A t).eval (.const v) = v := fun _ => rfl; generalize (fr DL1 A t).eval = ev at ec e36 ⊢; go_simp
    ·
     exact ⟨_, 0, rfl, hB, Below.refl _ _, rfl, .inl rfl⟩
   | 12, _ =>
    have e7 : (fr DL1 A t).eval (.tmp 7) = .int .i64 fx := (fr_eval_old _ _ _ 7 rfl).trans a7'
    have e37 : (fr DL1 A t).eval (.tmp 37) = .bool true := (fr_eval _ _ _ 37 rfl (by rw [asz]; decide)).trans (hp 11 (pre_mem (by kernel_rfl)))
    refine op_run_g (v := .int .i64 fx) (w' := wx) rfl (wanted_true rfl rfl e37) ?_ ?_
    ·
     clear hp hd; have ec : ∀ v, (fr DL1 A t).eval (.const v) = v := fun _ => rfl; generalize (fr DL1 A t).eval = ev at ec e7 e37 ⊢; go_simp
    ·
     exact ⟨_, 0, rfl, hB, Below.refl _ _, rfl, .inl rfl⟩
   | 13, _ =>
    have e8 : (fr DL1 A t).eval (.tmp 8) = .int .i64 fy := (fr_eval_old _ _ _ 8 rfl).trans a8'
    have e37 : (fr DL1 A t).eval (.tmp 37) = .bool true := (fr_eval _ _ _ 37 rfl (by rw [asz]; decide)).trans (hp 11 (pre_mem (by kernel_rfl)))
    refine op_run_g (v := .int .i64 fy) (w' := wx) rfl (wanted_true rfl rfl e37) ?_ ?_
    ·
     clear hp hd; have ec : ∀ v, (fr DL1 A t).eval (.const v) = v := fun _ => rfl; generalize (fr DL1 A t).eval = ev at ec e8 e37 ⊢; go_simp
    ·
     exact ⟨_, 0, rfl, hB, Below.refl _ _, rfl, .inl rfl⟩
   | 14, _ =>
    have e38 : (fr DL1 A t).eval (.tmp 38) = .int .i64 fx := (fr_eval _ _ _ 38 rfl (by rw [asz]; decide)).trans (hp 12 (pre_mem (by kernel_rfl)))
    have e39 : (fr DL1 A t).eval (.tmp 39) = .int .i64 fy := (fr_eval _ _ _ 39 rfl (by rw [asz]; decide)).trans (hp 13 (pre_mem (by kernel_rfl)))
    have e37 : (fr DL1 A t).eval (.tmp 37) = .bool true := (fr_eval _ _ _ 37 rfl (by rw [asz]; decide)).trans (hp 11 (pre_mem (by kernel_rfl)))
    refine op_call_g (f := 16) (args := #[.int .i64 fx, .int .i64 fy]) rfl (wanted_true rfl rfl e37) ?_ (freshI fx fy fv wx HFV.out) ?_
    ·
     have ef : (fr DL1 A t).eval (.func 16) = .func (.func 16) #[] #[] := rfl; clear hp hd; have ec : ∀ v, (fr DL1 A t).eval (.const v) = v := fun _ => rfl; generalize (fr DL1 A t).eval = ev at ec e38 e39 e37 ef ⊢; go_simp
    ·
     rintro e wy ⟨rfl, b1⟩
     exact ⟨_, rfl, _, 0, rfl, hB.trans (b1.mono hB.size), b1, rfl, .inl rfl⟩
   | 15, _ =>
    have e7 : (fr DL1 A t).eval (.tmp 7) = .int .i64 fx := (fr_eval_old _ _ _ 7 rfl).trans a7'
    have e37 : (fr DL1 A t).eval (.tmp 37) = .bool true := (fr_eval _ _ _ 37 rfl (by rw [asz]; decide)).trans (hp 11 (pre_mem (by kernel_rfl)))
    refine op_run_g (v := .int .i64 fx) (w' := wx) rfl (wanted_true rfl rfl e37) ?_ ?_
    ·
     clear hp hd; have ec : ∀ v, (fr DL1 A t).eval (.const v) = v := fun _ => rfl; generalize (fr DL1 A t).eval = ev at ec e7 e37 ⊢; go_simp
    ·
     exact ⟨_, 0, rfl, hB, Below.refl _ _, rfl, .inl rfl⟩
   | 16, _ =>
    have e8 : (fr DL1 A t).eval (.tmp 8) = .int .i64 fy := (fr_eval_old _ _ _ 8 rfl).trans a8'
    have e37 : (fr DL1 A t).eval (.tmp 37) = .bool true := (fr_eval _ _ _ 37 rfl (by rw [asz]; decide)).trans (hp 11 (pre_mem (by kernel_rfl)))
    refine op_run_g (v := .int .i64 fy) (w' := wx) rfl (wanted_true rfl rfl e37) ?_ ?_
    ·
     clear hp hd; have ec : ∀ v, (fr DL1 A t).eval (.const v) = v := fun _ => rfl; generalize (fr DL1 A t).eval = ev at ec e8 e37 ⊢; go_simp
    ·
     exact ⟨_, 0, rfl, hB, Below.refl _ _, rfl, .inl rfl⟩
   | 17, _ =>
    have e41 : (fr DL1 A t).eval (.tmp 41) = .int .i64 fx := (fr_eval _ _ _ 41 rfl (by rw [asz]; decide)).trans (hp 15 (pre_mem (by kernel_rfl)))
    have e42 : (fr DL1 A t).eval (.tmp 42) = .int .i64 fy := (fr_eval _ _ _ 42 rfl (by rw [asz]; decide)).trans (hp 16 (pre_mem (by kernel_rfl)))
    have e37 : (fr DL1 A t).eval (.tmp 37) = .bool true := (fr_eval _ _ _ 37 rfl (by rw [asz]; decide)).trans (hp 11 (pre_mem (by kernel_rfl)))
    refine op_call_g (f := 21) (args := #[.int .i64 fx, .int .i64 fy]) rfl (wanted_true rfl rfl e37) ?_ (freshS fx fy fv wx HFV.out) ?_
    ·
     have ef : (fr DL1 A t).eval (.func 21) = .func (.func 21) #[] #[] := rfl; clear hp hd; have ec : ∀ v, (fr DL1 A t).eval (.const v) = v := fun _ => rfl; generalize (fr DL1 A t).eval = ev at ec e41 e42 e37 ef ⊢; go_simp
    ·
     rintro e wy ⟨rfl, b1⟩
     exact ⟨_, rfl, _, 0, rfl, hB.trans (b1.mono hB.size), b1, rfl, .inl rfl⟩
   | 18, _ =>
    have hv14 := hp 14 (pre_mem (by kernel_rfl))
    have e40 : (fr DL1 A t).eval (.tmp 40) = .bool fv := (fr_eval _ _ _ 40 rfl (by rw [asz]; decide)).trans hv14
    have hv17 := hp 17 (pre_mem (by kernel_rfl))
    have e43 : (fr DL1 A t).eval (.tmp 43) = .bool fv := (fr_eval _ _ _ 43 rfl (by rw [asz]; decide)).trans hv17
    have e37 : (fr DL1 A t).eval (.tmp 37) = .bool true := (fr_eval _ _ _ 37 rfl (by rw [asz]; decide)).trans (hp 11 (pre_mem (by kernel_rfl)))
    have hh := hff
    refine op_run_g (v := .bool true) (w' := wx) rfl (wanted_true rfl rfl e37) ?_ ?_
    ·
     clear hp hd; have ec : ∀ v, (fr DL1 A t).eval (.const v) = v := fun _ => rfl; generalize (fr DL1 A t).eval = ev at ec e40 e43 e37 ⊢; go_simp
    ·
     exact ⟨_, 0, rfl, hB, Below.refl _ _, rfl, .inl rfl⟩
   | 19, _ =>
    have e37 : (fr DL1 A t).eval (.tmp 37) = .bool true := (fr_eval _ _ _ 37 rfl (by rw [asz]; decide)).trans (hp 11 (pre_mem (by kernel_rfl)))
    have e44 : (fr DL1 A t).eval (.tmp 44) = .bool true := (fr_eval _ _ _ 44 rfl (by rw [asz]; decide)).trans (hp 18 (pre_mem (by kernel_rfl)))
    refine op_run (v := .bool true) (w' := wx) rfl rfl ?_ ?_
    ·
     clear hp hd; have ec : ∀ v, (fr DL1 A t).eval (.const v) = v := fun _ => rfl; generalize (fr DL1 A t).eval = ev at ec e37 e44 ⊢; go_simp
    ·
     exact ⟨_, 0, rfl, hB, Below.refl _ _, rfl, .inl rfl⟩
   | 20, _ =>
    have e45 : (fr DL1 A t).eval (.tmp 45) = .bool true := (fr_eval _ _ _ 45 rfl (by rw [asz]; decide)).trans (hp 19 (pre_mem (by kernel_rfl)))
    refine op_run (v := .bool true) (w' := wx) rfl rfl ?_ ?_
    ·
     clear hp hd; have ec : ∀ v, (fr DL1 A t).eval (.const v) = v := fun _ => rfl; generalize (fr DL1 A t).eval = ev at ec e45 ⊢; go_simp
    ·
     exact ⟨_, 0, rfl, hB, Below.refl _ _, rfl, .inl rfl⟩
   | 21, _ =>
    have e9 : (fr DL1 A t).eval (.tmp 9) = .slice RS.a RS.n RS.c := (fr_eval_old _ _ _ 9 rfl).trans a9'
    have e46 : (fr DL1 A t).eval (.tmp 46) = .bool true := (fr_eval _ _ _ 46 rfl (by rw [asz]; decide)).trans (hp 20 (pre_mem (by kernel_rfl)))
    refine op_run_g (v := .slice RS.a RS.n RS.c) (w' := wx) rfl (wanted_true rfl rfl e46) ?_ ?_
    ·
     clear hp hd; have ec : ∀ v, (fr DL1 A t).eval (.const v) = v := fun _ => rfl; generalize (fr DL1 A t).eval = ev at ec e9 e46 ⊢; go_simp
    ·
     exact ⟨_, 0, rfl, hB, Below.refl _ _, rfl, .inl rfl⟩
   | 22, _ =>
    have e47 : (fr DL1 A t).eval (.tmp 47) = .slice RS.a RS.n RS.c := (fr_eval _ _ _ 47 rfl (by rw [asz]; decide)).trans (hp 21 (pre_mem (by kernel_rfl)))
    have e46 : (fr DL1 A t).eval (.tmp 46) = .bool true := (fr_eval _ _ _ 46 rfl (by rw [asz]; decide)).trans (hp 20 (pre_mem (by kernel_rfl)))
    refine op_call_g (f := 22) (args := #[.slice RS.a RS.n RS.c]) rfl (wanted_true rfl rfl e46) ?_ (CkJ.implJarNew RS rl wx (hTT wx hB) (hOR wx hB)) ?_
    ·
     have ef : (fr DL1 A t).eval (.func 22) = .func (.func 22) #[] #[] := rfl; clear hp hd; have ec : ∀ v, (fr DL1 A t).eval (.const v) = v := fun _ => rfl; generalize (fr DL1 A t).eval = ev at ec e47 e46 ef ⊢; go_simp
    ·
     rintro e wy ⟨s9, rfl, o1, b1⟩
     exact ⟨_, rfl, _, 0, rfl, hB.trans (b1.mono hB.size), b1, ⟨s9, rfl, o1.rd⟩, .inl rfl⟩
   | 23, _ =>
    obtain ⟨s922, hv22, q22_0⟩ := hp 22 (pre_mem (by kernel_rfl))
    have e48 : (fr DL1 A t).eval (.tmp 48) = jaV (newJ rl) s922 := (fr_eval _ _ _ 48 rfl (by rw [asz]; decide)).trans hv22
    have e46 : (fr DL1 A t).eval (.tmp 46) = .bool true := (fr_eval _ _ _ 46 rfl (by rw [asz]; decide)).trans (hp 20 (pre_mem (by kernel_rfl)))
    refine op_call_g (f := 11) (args := #[jaV (newJ rl) s922]) rfl (wanted_true rfl rfl e46) ?_ (okJ s922 (newJ rl) jv wx q22_0 HJV.out) ?_
    ·
     have ef : (fr DL1 A t).eval (.func 11) = .func (.func 11) #[] #[] := rfl; clear hp hd q22_0; have ec : ∀ v, (fr DL1 A t).eval (.const v) = v := fun _ => rfl; generalize (fr DL1 A t).eval = ev at ec e48 e46 ef ⊢; go_simp
    ·
     rintro e wy ⟨rfl, b1⟩
     exact ⟨_, rfl, _, 0, rfl, hB.trans (b1.mono hB.size), b1, rfl, .inl rfl⟩
   | 24, _ =>
    have e9 : (fr DL1 A t).eval (.tmp 9) = .slice RS.a RS.n RS.c := (fr_eval_old _ _ _ 9 rfl).trans a9'
    have e46 : (fr DL1 A t).eval (.tmp 46) = .bool true := (fr_eval _ _ _ 46 rfl (by rw [asz]; decide)).trans (hp 20 (pre_mem (by kernel_rfl)))
    refine op_run_g (v := .slice RS.a RS.n RS.c) (w' := wx) rfl (wanted_true rfl rfl e46) ?_ ?_
    ·
     clear hp hd; have ec : ∀ v, (fr DL1 A t).eval (.const v) = v := fun _ => rfl; generalize (fr DL1 A t).eval = ev at ec e9 e46 ⊢; go_simp
    ·
     exact ⟨_, 0, rfl, hB, Below.refl _ _, rfl, .inl rfl⟩
   | 25, _ =>
    have e50 : (fr DL1 A t).eval (.tmp 50) = .slice RS.a RS.n RS.c := (fr_eval _ _ _ 50 rfl (by rw [asz]; decide)).trans (hp 24 (pre_mem (by kernel_rfl)))
    have e46 : (fr DL1 A t).eval (.tmp 46) = .bool true := (fr_eval _ _ _ 46 rfl (by rw [asz]; decide)).trans (hp 20 (pre_mem (by kernel_rfl)))
    refine op_run_g (v := .int .i64 (RS.n : Int)) (w' := wx) rfl (wanted_true rfl rfl e46) ?_ ?_
    ·
     clear hp hd; have ec : ∀ v, (fr DL1 A t).eval (.const v) = v := fun _ => rfl; generalize (fr DL1 A t).eval = ev at ec e50 e46 ⊢; go_simp
    ·
     exact ⟨_, 0, rfl, hB, Below.refl _ _, rfl, .inl rfl⟩
   | 26, _ =>
    have e51 : (fr DL1 A t).eval (.tmp 51) = .int .i64 (RS.n : Int) := (fr_eval _ _ _ 51 rfl (by rw [asz]; decide)).trans (hp 25 (pre_mem (by kernel_rfl)))
    have e46 : (fr DL1 A t).eval (.tmp 46) = .bool true := (fr_eval _ _ _ 46 rfl (by rw [asz]; decide)).trans (hp 20 (pre_mem (by kernel_rfl)))
    have hh := hrn
    refine op_run_g (v := .bool jv) (w' := wx) rfl (wanted_true rfl rfl e46) ?_ ?_
    ·
     clear hp hd; have ec : ∀ v, (fr DL1 A t).eval (.const v) = v := fun _ => rfl; generalize (fr DL1 A t).eval = ev at ec e51 e46 ⊢; go_simp
    ·
     exact ⟨_, 0, rfl, hB, Below.refl _ _, rfl, .inl rfl⟩
   | 27, _ =>
    have hv23 := hp 23 (pre_mem (by kernel_rfl))
    have e49 : (fr DL1 A t).eval (.tmp 49) = .bool jv := (fr_eval _ _ _ 49 rfl (by rw [asz]; decide)).trans hv23
    have e52 : (fr DL1 A t).eval (.tmp 52) = .bool jv := (fr_eval _ _ _ 52 rfl (by rw [asz]; decide)).trans (hp 26 (pre_mem (by kernel_rfl)))
    have e46 : (fr DL1 A t).eval (.tmp 46) = .bool true := (fr_eval _ _ _ 46 rfl (by rw [asz]; decide)).trans (hp 20 (pre_mem (by kernel_rfl)))
    have hh := hjj
    refine op_run_g (v := .bool true) (w' := wx) rfl (wanted_true rfl rfl e46) ?_ ?_
    ·
     clear hp hd; have ec : ∀ v, (fr DL1 A t).eval (.const v) = v := fun _ => rfl; generalize (fr DL1 A t).eval = ev at ec e49 e52 e46 ⊢; go_simp
    ·
     exact ⟨_, 0, rfl, hB, Below.refl _ _, rfl, .inl rfl⟩
   | 28, _ =>
    have e46 : (fr DL1 A t).eval (.tmp 46) = .bool true := (fr_eval _ _ _ 46 rfl (by rw [asz]; decide)).trans (hp 20 (pre_mem (by kernel_rfl)))
    have e53 : (fr DL1 A t).eval (.tmp 53) = .bool true := (fr_eval _ _ _ 53 rfl (by rw [asz]; decide)).trans (hp 27 (pre_mem (by kernel_rfl)))
    refine op_run (v := .bool true) (w' := wx) rfl rfl ?_ ?_
    ·
     clear hp hd; have ec : ∀ v, (fr DL1 A t).eval (.const v) = v := fun _ => rfl; generalize (fr DL1 A t).eval = ev at ec e46 e53 ⊢; go_simp
    ·
     exact ⟨_, 0, rfl, hB, Below.refl _ _, rfl, .inl rfl⟩
   | n + 29, hi => exact absurd hi (by omega)
  ·
   intro t ρ wx hB hF hne
   have e54 : (fr DL1 A t).eval (.tmp 54) = .bool true := (fr_eval _ _ _ 54 rfl (by rw [asz]; decide)).trans (hF 28 (by decide))
   clear hne
   refine op_wp rfl rfl ?_
   generalize hE : (fr DL1 A t).eval = ev at e54
   unfold Oper.wp
   rw [hE]
   go_simp
   refine hMet _ _ (Met.intro (hRJ _ _ ⟨_, t 26, t 27, t 28, t 29, t 30, t 31, t 32, t 33, t 34, t 35, t 36, t 37, t 38, t 39, t 40, t 41, t 42, t 43, t 44, t 45, t 46, t 47, t 48, t 49, t 50, t 51, t 52, t 53, t 54, ⟨rfl, hB⟩, ?_⟩))
   rw [← hA]; rfl
 case rest =>
  obtain ⟨x5, hxc⟩ : ∃ zz, zz = wc := ⟨_, rfl⟩
  subst hxc
  obtain ⟨rfl, b⟩ := hcut
  go_wp2
  go_ret
  exact ⟨rfl, B4.out.trans (b.mono B4.out.size)⟩

theorem walk (a : Option Addr) (len cap : Nat) (zs : List Int) (w : World) (hT : Tab w) (h : IsRow .u8 w a len cap zs) :
  Calls Tryz.prog 4 #[.slice a len cap] w fun e w' => e = .returned (.bool true) ∧ Below w.heap.size w w' := by
 obtain ⟨l, h1, h2, _, h4⟩ := h.read
 by_cases hl : len ≤ 1048576
 ·
  exact small a len cap l w hT h1 h2 h4 hl
 ·
  clear h h1 h2 h4
  go_enter Tryz.func4, Tryz.ntmps4
  go_wp2_with fail
  refine (bigYes a len cap w (by omega)).mono ?_
  rintro e w0 ⟨rfl, rfl⟩
  go_wp2
  go_ret
  exact ⟨rfl, Below.refl _ _⟩
end Go.Proofs.YtpgapjdejelajaaGreatDoor.LawJudges
