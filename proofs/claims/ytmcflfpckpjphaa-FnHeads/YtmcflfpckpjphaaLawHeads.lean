/-
  The walk of the law FnHeads: at every code heads of unlike epochs, numbers or roles are unlike, and what a tag is of begins with its head.
-/
import Derived.Test.YtmcflfpckpjphaaDrHd
import Derived.Test.YtmcflfpckpjphaaHs10
import Derived.Test.YtmcflfpckpjphaaHs8
import Derived.Test.YtmcflfpckpjphaaHs9
namespace Go.Proofs.Ytmcflfpckpjphaa.LawHeads
open Go.RowKit Go.Proofs.Ytmcflfpckpjphaa.Mem Go.Proofs.Ytmcflfpckpjphaa.App Go.Proofs.Ytmcflfpckpjphaa.Blk Go.Proofs.Ytmcflfpckpjphaa.Draw Go.Proofs.Ytmcflfpckpjphaa.Zone Go.Proofs.Ytmcflfpckpjphaa.Res Go.Proofs.Ytmcflfpckpjphaa.FrZ Go.Proofs.Ytmcflfpckpjphaa.FrP Go.Proofs.Ytmcflfpckpjphaa.FrG Go.Proofs.Ytmcflfpckpjphaa.FrQ Go.Proofs.Ytmcflfpckpjphaa.FrL Go.Proofs.Ytmcflfpckpjphaa.DrHd Go.Proofs.Ytmcflfpckpjphaa.HdP Go.Proofs.Ytmcflfpckpjphaa.SlP Go.Proofs.Ytmcflfpckpjphaa.SameV Go.Proofs.Ytmcflfpckpjphaa.Bent Go.Proofs.Ytmcflfpckpjphaa.Shp Go.Proofs.Ytmcflfpckpjphaa.Each Go.Proofs.Ytmcflfpckpjphaa.Copy Go.Proofs.Ytmcflfpckpjphaa.Ops Go.Proofs.Ytmcflfpckpjphaa.Guard

set_option maxRecDepth 100000 in
theorem wanted_undef {ops : Array Oper} {o : Oper} {a : Act} {j d : Nat} {want : Bool} (hg : o.guard = some (j, want)) (hd : (ops[j]?).bind (·.dst) = some d) (hv : a.eval (.tmp d) = undef) :
    Region.wanted o (yielded ops a.tmps) = false := by
  have hy : yielded ops a.tmps j = none := by
    unfold yielded
    generalize hx : (ops[j]?).bind (·.dst) = x at *
    subst hd
    have hv' : a.tmps.getD d undef = undef := hv
    cases h : a.tmps[d]? with
    | none => simp [h]
    | some v =>
      rw [Array.getD_eq_getD_getElem?, h] at hv'
      have hv2 : v = undef := hv'
      subst hv2
      simp [h]
      rfl
  unfold Region.wanted
  rw [hg]
  show (yielded ops a.tmps j == some want) = _
  rw [hy]
  rfl
set_option maxRecDepth 100000 in
theorem headN (role : Int) (s : Sl) (l : List Int) (epoch seq : Int) (w : World) (h : SRd w s l) :
    Calls Try.prog 20 #[.int .i64 role, .slice s.a s.n s.c, .int .i64 epoch, .int .i64 seq] w (AnsB (headL role l epoch seq) w) := (SlI.implHeadOf role s l epoch seq w h).mono fun _ _ h' => AnsB.of (headL_bytes _ _ _ _ h.bytes) h'
set_option maxRecDepth 100000 in
theorem startsN (g o n c : Nat) (t : Sl) (z x : List Int) (w : World) (h : SRd w ⟨some ⟨g, o, none⟩, n, c⟩ z) (k : SRd w t x) (hz : z.take t.n = x) (hle : t.n ≤ n) :
    Calls Try.prog 26 #[.slice (some ⟨g, o, none⟩) n c, .slice t.a t.n t.c] w fun e w' => e = .returned (.bool true) ∧ Below w.heap.size w w' := by
  refine (startsV g o n c t z x w h k hz hle).mono ?_
  rintro e w' ⟨rfl, m, rfl⟩
  exact ⟨rfl, ⟨rfl, rfl, rfl, Nat.le_refl _, fun _ _ => rfl⟩⟩
set_option maxRecDepth 100000 in
theorem bigNo (a : Option Addr) (len cap : Nat) (w : World) (h : len ≤ 1048576) :
    Calls Try.prog 9 #[.slice a len cap] w fun e w' => e = .returned (.bool false) ∧ w = w' := by
  have h' : ¬ ((1048576 : Int) < (len : Int)) := by omega
  go_enter Try.func9, Try.ntmps9
  go_wp2
  go_ret
  exact ⟨rfl, rfl⟩
set_option maxRecDepth 100000 in
theorem bigYes (a : Option Addr) (len cap : Nat) (w : World) (h : 1048576 < len) :
    Calls Try.prog 9 #[.slice a len cap] w fun e w' => e = .returned (.bool true) ∧ w = w' := by
  have h' : (1048576 : Int) < (len : Int) := by omega
  go_enter Try.func9, Try.ntmps9
  go_wp2
  go_ret
  exact ⟨rfl, rfl⟩
set_option maxRecDepth 100000 in
set_option maxHeartbeats 16000000 in
theorem small (a : Option Addr) (len cap : Nat) (l : List Int) (w : World) (hl : len = l.length) (hr : Rd w a l) (hb : Bytes l) (hlen : len ≤ 1048576) :
    Calls Try.prog 4 #[.slice a len cap] w fun e w' => e = .returned (.bool true) ∧ Below w.heap.size w w' := by
  have HR : Hid (Rd w a l) := hr
  have HL : Hid (len = l.length) := hl
  have HB : Hid (Bytes l) := hb
  clear hr hl hb
  have B0 : Hid (Below w.heap.size w w) := Below.refl _ _
  go_enter Try.func4, Try.ntmps4
  go_wp2_with fail
  refine (bigNo a len cap w hlen).mono ?_
  rintro e w0 ⟨rfl, rfl⟩
  go_wp2_with fail
  refine (drawHeadOf a len cap l w HL.out (HR.out.later B0.out (Nat.le_refl _)) HB.out hlen).mono ?_
  rintro e x1 ⟨role, sn, ls, ep, sq, rfl, os, b⟩
  have L1 : Hid (w.heap.size ≤ x1.heap.size) := b.size
  have B1 : Hid (Below w.heap.size w x1) := B0.out.trans (b.mono B0.out.size)
  clear b B0
  have OS1 : Hid (SRd x1 sn ls) := os
  clear os
  go_wp2_with fail
  refine (SlI.implHeadOf role sn ls ep sq x1 OS1.out).mono ?_
  rintro e x2 ⟨gh, mh, ch, rfl, em, kg, rr, b⟩
  have oN : SOwn x2 x1.heap.size x2.heap.size ⟨some ⟨gh, 0, none⟩, mh, ch⟩ (headL role ls ep sq) := SOwn.row rr em (headL_bytes _ _ _ _ OS1.out.bytes) kg rr.lt
  clear em kg rr
  have L2 : Hid (x1.heap.size ≤ x2.heap.size) := b.size
  have B2 : Hid (Below w.heap.size w x2) := B1.out.trans (b.mono B1.out.size)
  have OS2 : Hid (SRd x2 sn ls) := OS1.out.later b
  clear b B1 OS1
  have Oh_2 : Hid (SOwn x2 x1.heap.size x2.heap.size ⟨some ⟨gh, 0, none⟩, mh, ch⟩ (headL role ls ep sq)) := oN
  clear oN
  go_wp2_with fail
  refine (drawTagInput a len cap l x2 HL.out (HR.out.later B2.out (Nat.le_refl _)) HB.out hlen).mono ?_
  rintro e x3 ⟨ro, DF, SF, rfl, of, b⟩
  have L3 : Hid (x2.heap.size ≤ x3.heap.size) := b.size
  have B3 : Hid (Below w.heap.size w x3) := B2.out.trans (b.mono B2.out.size)
  have OS3 : Hid (SRd x3 sn ls) := OS2.out.later b
  have Oh_3 : Hid (SOwn x3 x1.heap.size x2.heap.size ⟨some ⟨gh, 0, none⟩, mh, ch⟩ (headL role ls ep sq)) := Oh_2.out.later b
  clear b B2 OS2 Oh_2
  have OF3 : Hid (FrRd x3 SF DF) := of
  clear of
  obtain ⟨x4, hx4⟩ : ∃ x4, x3.alloc (.cells #[.int .i64 DF.kind, .int .i64 DF.id, .slice SF.cn.a SF.cn.n SF.cn.c, .slice SF.sn.a SF.sn.n SF.sn.c, .int .i64 DF.tick, .slice SF.cookie.a SF.cookie.n SF.cookie.c, .slice SF.proof.a SF.proof.n SF.proof.c, .int .i64 DF.epoch, .int .i64 DF.seq, .slice SF.body.a SF.body.n SF.body.c, .slice SF.tag.a SF.tag.n SF.tag.c] 39) = x4 := ⟨_, rfl⟩
  have HW4 : Hid (x3.alloc (.cells #[.int .i64 DF.kind, .int .i64 DF.id, .slice SF.cn.a SF.cn.n SF.cn.c, .slice SF.sn.a SF.sn.n SF.sn.c, .int .i64 DF.tick, .slice SF.cookie.a SF.cookie.n SF.cookie.c, .slice SF.proof.a SF.proof.n SF.proof.c, .int .i64 DF.epoch, .int .i64 DF.seq, .slice SF.body.a SF.body.n SF.body.c, .slice SF.tag.a SF.tag.n SF.tag.c] 39) = x4) := hx4
  have b4 : Below x3.heap.size x3 x4 := by rw [← hx4]; exact (Below.refl _ _).alloc (Nat.le_refl _) _
  have KN : Blk x4 x3.heap.size 39 [.int .i64 DF.kind, .int .i64 DF.id, .slice SF.cn.a SF.cn.n SF.cn.c, .slice SF.sn.a SF.sn.n SF.sn.c, .int .i64 DF.tick, .slice SF.cookie.a SF.cookie.n SF.cookie.c, .slice SF.proof.a SF.proof.n SF.proof.c, .int .i64 DF.epoch, .int .i64 DF.seq, .slice SF.body.a SF.body.n SF.body.c, .slice SF.tag.a SF.tag.n SF.tag.c] := by rw [← hx4]; exact Blk.new x3 _ _
  have HSZ4 : Hid (x4.heap.size = x3.heap.size + 1) := by rw [← hx4]; show _ = _; simp
  clear hx4
  have L4 : Hid (x3.heap.size ≤ x4.heap.size) := b4.size
  have B4 : Hid (Below w.heap.size w x4) := B3.out.trans (b4.mono B3.out.size)
  have OS4 : Hid (SRd x4 sn ls) := OS3.out.later b4
  have Oh_4 : Hid (SOwn x4 x1.heap.size x2.heap.size ⟨some ⟨gh, 0, none⟩, mh, ch⟩ (headL role ls ep sq)) := Oh_3.out.later b4
  have OF4 : Hid (FrRd x4 SF DF) := OF3.out.later b4
  clear b4 B3 OS3 Oh_3 OF3
  unfold frV
  go_upto_region 6 with fail
  rw [HW4.out]
  obtain ⟨gf, hgf⟩ : ∃ g, x3.heap.size = g := ⟨_, rfl⟩
  have Ggf : Hid (x3.heap.size = gf ∧ x4.heap.size = gf + 1) := ⟨hgf, by rw [← hgf]; exact HSZ4.out⟩
  rw [hgf] at KN ⊢
  clear HW4 HSZ4 hgf
  have KF4 : Hid (Blk x4 gf 39 [.int .i64 DF.kind, .int .i64 DF.id, .slice SF.cn.a SF.cn.n SF.cn.c, .slice SF.sn.a SF.sn.n SF.sn.c, .int .i64 DF.tick, .slice SF.cookie.a SF.cookie.n SF.cookie.c, .slice SF.proof.a SF.proof.n SF.proof.c, .int .i64 DF.epoch, .int .i64 DF.seq, .slice SF.body.a SF.body.n SF.body.c, .slice SF.tag.a SF.tag.n SF.tag.c]) := KN
  clear KN
  have d0 := KF4.out.cell 0 rfl
  have d1 := KF4.out.cell 1 rfl
  have d2 := KF4.out.cell 2 rfl
  have d3 := KF4.out.cell 3 rfl
  have d4 := KF4.out.cell 4 rfl
  have d5 := KF4.out.cell 5 rfl
  have d6 := KF4.out.cell 6 rfl
  have d7 := KF4.out.cell 7 rfl
  have d8 := KF4.out.cell 8 rfl
  have d9 := KF4.out.cell 9 rfl
  have d10 := KF4.out.cell 10 rfl
  go_wp2_with fail
  refine (SlI.implTagInput ro SF DF x4 OF4.out).mono ?_
  rintro e x5 ⟨gi, mi, ci, rfl, em, kg, rr, b⟩
  have oN : SOwn x5 x4.heap.size x5.heap.size ⟨some ⟨gi, 0, none⟩, mi, ci⟩ (tagIn ro DF) := SOwn.row rr em (tagIn_bytes _ _ OF4.out.sn.bytes OF4.out.body.bytes) kg rr.lt
  clear em kg rr
  have L5 : Hid (x4.heap.size ≤ x5.heap.size) := b.size
  have B5 : Hid (Below w.heap.size w x5) := B4.out.trans (b.mono B4.out.size)
  have OS5 : Hid (SRd x5 sn ls) := OS4.out.later b
  have Oh_5 : Hid (SOwn x5 x1.heap.size x2.heap.size ⟨some ⟨gh, 0, none⟩, mh, ch⟩ (headL role ls ep sq)) := Oh_4.out.later b
  have OF5 : Hid (FrRd x5 SF DF) := OF4.out.later b
  have KF5 : Hid (Blk x5 gf 39 [.int .i64 DF.kind, .int .i64 DF.id, .slice SF.cn.a SF.cn.n SF.cn.c, .slice SF.sn.a SF.sn.n SF.sn.c, .int .i64 DF.tick, .slice SF.cookie.a SF.cookie.n SF.cookie.c, .slice SF.proof.a SF.proof.n SF.proof.c, .int .i64 DF.epoch, .int .i64 DF.seq, .slice SF.body.a SF.body.n SF.body.c, .slice SF.tag.a SF.tag.n SF.tag.c]) := KF4.out.later b
  clear b B4 OS4 Oh_4 OF4 KF4
  have Oi_5 : Hid (SOwn x5 x4.heap.size x5.heap.size ⟨some ⟨gi, 0, none⟩, mi, ci⟩ (tagIn ro DF)) := oN
  clear oN
  clear d0 d1 d2 d3 d4 d5 d6 d7 d8 d9 d10
  go_wp2_with fail
  refine (SlS.specHeadOf role sn ls ep sq x5 OS5.out).mono ?_
  rintro e x6 ⟨gw, mw, cw, rfl, em, kg, rr, b⟩
  have oN : SOwn x6 x5.heap.size x6.heap.size ⟨some ⟨gw, 0, none⟩, mw, cw⟩ (headL role ls ep sq) := SOwn.row rr em (headL_bytes _ _ _ _ OS5.out.bytes) kg rr.lt
  clear em kg rr
  have L6 : Hid (x5.heap.size ≤ x6.heap.size) := b.size
  have B6 : Hid (Below w.heap.size w x6) := B5.out.trans (b.mono B5.out.size)
  have OS6 : Hid (SRd x6 sn ls) := OS5.out.later b
  have Oh_6 : Hid (SOwn x6 x1.heap.size x2.heap.size ⟨some ⟨gh, 0, none⟩, mh, ch⟩ (headL role ls ep sq)) := Oh_5.out.later b
  have OF6 : Hid (FrRd x6 SF DF) := OF5.out.later b
  have KF6 : Hid (Blk x6 gf 39 [.int .i64 DF.kind, .int .i64 DF.id, .slice SF.cn.a SF.cn.n SF.cn.c, .slice SF.sn.a SF.sn.n SF.sn.c, .int .i64 DF.tick, .slice SF.cookie.a SF.cookie.n SF.cookie.c, .slice SF.proof.a SF.proof.n SF.proof.c, .int .i64 DF.epoch, .int .i64 DF.seq, .slice SF.body.a SF.body.n SF.body.c, .slice SF.tag.a SF.tag.n SF.tag.c]) := KF5.out.later b
  have Oi_6 : Hid (SOwn x6 x4.heap.size x5.heap.size ⟨some ⟨gi, 0, none⟩, mi, ci⟩ (tagIn ro DF)) := Oi_5.out.later b
  clear b B5 OS5 Oh_5 OF5 KF5 Oi_5
  have Ow_6 : Hid (SOwn x6 x5.heap.size x6.heap.size ⟨some ⟨gw, 0, none⟩, mw, cw⟩ (headL role ls ep sq)) := oN
  clear oN
  go_wp2_with fail
  refine (sameV ⟨some ⟨gh, 0, none⟩, mh, ch⟩ ⟨some ⟨gw, 0, none⟩, mw, cw⟩ (headL role ls ep sq) (headL role ls ep sq) true x6 Oh_6.out.rd Ow_6.out.rd (yes rfl)).mono ?_
  rintro e y ⟨rfl, rfl⟩
  have d0 := KF6.out.cell 0 rfl
  have d1 := KF6.out.cell 1 rfl
  have d2 := KF6.out.cell 2 rfl
  have d3 := KF6.out.cell 3 rfl
  have d4 := KF6.out.cell 4 rfl
  have d5 := KF6.out.cell 5 rfl
  have d6 := KF6.out.cell 6 rfl
  have d7 := KF6.out.cell 7 rfl
  have d8 := KF6.out.cell 8 rfl
  have d9 := KF6.out.cell 9 rfl
  have d10 := KF6.out.cell 10 rfl
  go_wp2_with fail
  refine (SlS.specTagInput ro SF DF x6 OF6.out).mono ?_
  rintro e x7 ⟨gj, mj, cj, rfl, em, kg, rr, b⟩
  have oN : SOwn x7 x6.heap.size x7.heap.size ⟨some ⟨gj, 0, none⟩, mj, cj⟩ (tagIn ro DF) := SOwn.row rr em (tagIn_bytes _ _ OF6.out.sn.bytes OF6.out.body.bytes) kg rr.lt
  clear em kg rr
  have L7 : Hid (x6.heap.size ≤ x7.heap.size) := b.size
  have B7 : Hid (Below w.heap.size w x7) := B6.out.trans (b.mono B6.out.size)
  have OS7 : Hid (SRd x7 sn ls) := OS6.out.later b
  have Oh_7 : Hid (SOwn x7 x1.heap.size x2.heap.size ⟨some ⟨gh, 0, none⟩, mh, ch⟩ (headL role ls ep sq)) := Oh_6.out.later b
  have OF7 : Hid (FrRd x7 SF DF) := OF6.out.later b
  have KF7 : Hid (Blk x7 gf 39 [.int .i64 DF.kind, .int .i64 DF.id, .slice SF.cn.a SF.cn.n SF.cn.c, .slice SF.sn.a SF.sn.n SF.sn.c, .int .i64 DF.tick, .slice SF.cookie.a SF.cookie.n SF.cookie.c, .slice SF.proof.a SF.proof.n SF.proof.c, .int .i64 DF.epoch, .int .i64 DF.seq, .slice SF.body.a SF.body.n SF.body.c, .slice SF.tag.a SF.tag.n SF.tag.c]) := KF6.out.later b
  have Oi_7 : Hid (SOwn x7 x4.heap.size x5.heap.size ⟨some ⟨gi, 0, none⟩, mi, ci⟩ (tagIn ro DF)) := Oi_6.out.later b
  have Ow_7 : Hid (SOwn x7 x5.heap.size x6.heap.size ⟨some ⟨gw, 0, none⟩, mw, cw⟩ (headL role ls ep sq)) := Ow_6.out.later b
  clear b B6 OS6 Oh_6 OF6 KF6 Oi_6 Ow_6
  have Oj_7 : Hid (SOwn x7 x6.heap.size x7.heap.size ⟨some ⟨gj, 0, none⟩, mj, cj⟩ (tagIn ro DF)) := oN
  clear oN
  clear d0 d1 d2 d3 d4 d5 d6 d7 d8 d9 d10
  go_wp2_with fail
  refine (sameV ⟨some ⟨gi, 0, none⟩, mi, ci⟩ ⟨some ⟨gj, 0, none⟩, mj, cj⟩ (tagIn ro DF) (tagIn ro DF) true x7 Oi_7.out.rd Oj_7.out.rd (yes rfl)).mono ?_
  rintro e y ⟨rfl, rfl⟩
  clear Ow_7 Oj_7
  have HIN : Hid (mi = (tagIn ro DF).length) := Oi_7.out.len
  have HHN : Hid (mh = (headL role ls ep sq).length) := Oh_7.out.len
  have rest : ∀ xc, Below x7.heap.size x7 xc → True := fun _ _ => trivial
  clear rest
  have REST : ∀ xc : World, True := fun _ => trivial
  clear REST
  cases hct : canTag ro DF with
  | false =>
    have HMZ : Hid (mi = 0) := by have q := (tagIn_nil ro DF).2 hct; have := HIN.out; show _ = _; omega
    go_upto_region 9 with fail
    go_cut [76] from 51 to 75 (fun sv wx => sv = .bool false ∧ Below x7.heap.size x7 wx)
    case first =>
      rename_i J K' hRJ hMet
      generalize hA : Act.mk _ _ = A
      have a10' : A.eval (.tmp 10) = .slice (some ⟨gi, 0, none⟩) mi ci := by rw [← hA]; rfl
      have a8' : A.eval (.tmp 8) = .int .i64 ro := by rw [← hA]; rfl
      have a9' : A.eval (.tmp 9) = .pointer (some ⟨gf, 0, none⟩) := by rw [← hA]; rfl
      have asz : A.tmps.size = 143 := by rw [← hA]; rfl
      have hKF : ∀ wx, Below x7.heap.size x7 wx → Blk wx gf 39 [.int .i64 DF.kind, .int .i64 DF.id, .slice SF.cn.a SF.cn.n SF.cn.c, .slice SF.sn.a SF.sn.n SF.sn.c, .int .i64 DF.tick, .slice SF.cookie.a SF.cookie.n SF.cookie.c, .slice SF.proof.a SF.proof.n SF.proof.c, .int .i64 DF.epoch, .int .i64 DF.seq, .slice SF.body.a SF.body.n SF.body.c, .slice SF.tag.a SF.tag.n SF.tag.c] := fun wx hb => KF7.out.later hb
      have hOF : ∀ wx, Below x7.heap.size x7 wx → FrRd wx SF DF := fun wx hb => OF7.out.later hb
      have hOI : ∀ wx, Below x7.heap.size x7 wx → SRd wx ⟨some ⟨gi, 0, none⟩, mi, ci⟩ (tagIn ro DF) := fun wx hb => (Oi_7.out.later hb).rd
      refine region_each (by kernel_rfl) [51, 52, 53, 54, 55, 56, 57, 58, 59, 60, 61, 62, 63, 64, 65, 66, 67, 68, 69, 70, 71, 72, 73, 74, 75] 25 (fun i => [51, 52, 53, 54, 55, 56, 57, 58, 59, 60, 61, 62, 63, 64, 65, 66, 67, 68, 69, 70, 71, 72, 73, 74, 75].getD i 0) (fun _ => 0)
        (fun i gB v wx => match i with
          | 0 => v = .slice (some ⟨gi, 0, none⟩) mi ci
          | 1 => v = .int .i64 (mi : Int)
          | 2 => v = .bool false
          | 3 => v = .bool false
          | 4 => v = undef
          | 5 => v = undef
          | 6 => v = undef
          | 7 => v = undef
          | 8 => v = undef
          | 9 => v = undef
          | 10 => v = undef
          | 11 => v = undef
          | 12 => v = undef
          | 13 => v = undef
          | 14 => v = undef
          | 15 => v = undef
          | 16 => v = undef
          | 17 => v = undef
          | 18 => v = undef
          | 19 => v = undef
          | 20 => v = undef
          | 21 => v = undef
          | 22 => v = undef
          | 23 => v = undef
          | 24 => v = undef
          | _ => False) (fun wx => Below x7.heap.size x7 wx) (by kernel_rfl) (Below.refl _ _).drew ?_ ?_ ?_
      · intro i gB v wx wy hi hF hb _
        match i, hi with
        | 0, _ => exact hF
        | 1, _ => exact hF
        | 2, _ => exact hF
        | 3, _ => exact hF
        | 4, _ => exact hF
        | 5, _ => exact hF
        | 6, _ => exact hF
        | 7, _ => exact hF
        | 8, _ => exact hF
        | 9, _ => exact hF
        | 10, _ => exact hF
        | 11, _ => exact hF
        | 12, _ => exact hF
        | 13, _ => exact hF
        | 14, _ => exact hF
        | 15, _ => exact hF
        | 16, _ => exact hF
        | 17, _ => exact hF
        | 18, _ => exact hF
        | 19, _ => exact hF
        | 20, _ => exact hF
        | 21, _ => exact hF
        | 22, _ => exact hF
        | 23, _ => exact hF
        | 24, _ => exact hF
        | n + 25, hi => exact absurd hi (by omega)
      · intro i hi t ρ wx hB hp hd
        match i, hi with
        | 0, _ =>
          have e10 : (fr [51, 52, 53, 54, 55, 56, 57, 58, 59, 60, 61, 62, 63, 64, 65, 66, 67, 68, 69, 70, 71, 72, 73, 74, 75] A t).eval (.tmp 10) = .slice (some ⟨gi, 0, none⟩) mi ci := (fr_eval_old _ _ _ 10 rfl).trans a10'
          refine op_run (v := .slice (some ⟨gi, 0, none⟩) mi ci) (w' := wx) rfl rfl ?_ ?_
          · clear hp hd; have ec : ∀ v, (fr [51, 52, 53, 54, 55, 56, 57, 58, 59, 60, 61, 62, 63, 64, 65, 66, 67, 68, 69, 70, 71, 72, 73, 74, 75] A t).eval (.const v) = v := fun _ => rfl; generalize (fr [51, 52, 53, 54, 55, 56, 57, 58, 59, 60, 61, 62, 63, 64, 65, 66, 67, 68, 69, 70, 71, 72, 73, 74, 75] A t).eval = ev at ec e10 ⊢; go_simp
          · exact ⟨_, 0, rfl, hB, Below.refl _ _, rfl, .inl rfl⟩
        | 1, _ =>
          have e51 : (fr [51, 52, 53, 54, 55, 56, 57, 58, 59, 60, 61, 62, 63, 64, 65, 66, 67, 68, 69, 70, 71, 72, 73, 74, 75] A t).eval (.tmp 51) = .slice (some ⟨gi, 0, none⟩) mi ci := (fr_eval _ _ _ 51 rfl (by rw [asz]; decide)).trans (hp 0 (pre_mem (by kernel_rfl)))
          refine op_run (v := .int .i64 (mi : Int)) (w' := wx) rfl rfl ?_ ?_
          · clear hp hd; have ec : ∀ v, (fr [51, 52, 53, 54, 55, 56, 57, 58, 59, 60, 61, 62, 63, 64, 65, 66, 67, 68, 69, 70, 71, 72, 73, 74, 75] A t).eval (.const v) = v := fun _ => rfl; generalize (fr [51, 52, 53, 54, 55, 56, 57, 58, 59, 60, 61, 62, 63, 64, 65, 66, 67, 68, 69, 70, 71, 72, 73, 74, 75] A t).eval = ev at ec e51 ⊢; go_simp
          · exact ⟨_, 0, rfl, hB, Below.refl _ _, rfl, .inl rfl⟩
        | 2, _ =>
          have e52 : (fr [51, 52, 53, 54, 55, 56, 57, 58, 59, 60, 61, 62, 63, 64, 65, 66, 67, 68, 69, 70, 71, 72, 73, 74, 75] A t).eval (.tmp 52) = .int .i64 (mi : Int) := (fr_eval _ _ _ 52 rfl (by rw [asz]; decide)).trans (hp 1 (pre_mem (by kernel_rfl)))
          have hh : mi = 0 := HMZ.out
          refine op_run (v := .bool false) (w' := wx) rfl rfl ?_ ?_
          · clear hp hd; have ec : ∀ v, (fr [51, 52, 53, 54, 55, 56, 57, 58, 59, 60, 61, 62, 63, 64, 65, 66, 67, 68, 69, 70, 71, 72, 73, 74, 75] A t).eval (.const v) = v := fun _ => rfl; generalize (fr [51, 52, 53, 54, 55, 56, 57, 58, 59, 60, 61, 62, 63, 64, 65, 66, 67, 68, 69, 70, 71, 72, 73, 74, 75] A t).eval = ev at ec e52 ⊢; go_simp
          · exact ⟨_, 0, rfl, hB, Below.refl _ _, rfl, .inl rfl⟩
        | 3, _ =>
          have e53 : (fr [51, 52, 53, 54, 55, 56, 57, 58, 59, 60, 61, 62, 63, 64, 65, 66, 67, 68, 69, 70, 71, 72, 73, 74, 75] A t).eval (.tmp 53) = .bool false := (fr_eval _ _ _ 53 rfl (by rw [asz]; decide)).trans (hp 2 (pre_mem (by kernel_rfl)))
          refine op_run (v := .bool false) (w' := wx) rfl rfl ?_ ?_
          · clear hp hd; have ec : ∀ v, (fr [51, 52, 53, 54, 55, 56, 57, 58, 59, 60, 61, 62, 63, 64, 65, 66, 67, 68, 69, 70, 71, 72, 73, 74, 75] A t).eval (.const v) = v := fun _ => rfl; generalize (fr [51, 52, 53, 54, 55, 56, 57, 58, 59, 60, 61, 62, 63, 64, 65, 66, 67, 68, 69, 70, 71, 72, 73, 74, 75] A t).eval = ev at ec e53 ⊢; go_simp
          · exact ⟨_, 0, rfl, hB, Below.refl _ _, rfl, .inl rfl⟩
        | 4, _ =>
          have e54 : (fr [51, 52, 53, 54, 55, 56, 57, 58, 59, 60, 61, 62, 63, 64, 65, 66, 67, 68, 69, 70, 71, 72, 73, 74, 75] A t).eval (.tmp 54) = .bool false := (fr_eval _ _ _ 54 rfl (by rw [asz]; decide)).trans (hp 3 (pre_mem (by kernel_rfl)))
          refine op_skip rfl (wanted_false rfl rfl e54 rfl) ?_
          exact ⟨_, 0, rfl, hB, Below.refl _ _, rfl, .inl rfl⟩
        | 5, _ =>
          have e54 : (fr [51, 52, 53, 54, 55, 56, 57, 58, 59, 60, 61, 62, 63, 64, 65, 66, 67, 68, 69, 70, 71, 72, 73, 74, 75] A t).eval (.tmp 54) = .bool false := (fr_eval _ _ _ 54 rfl (by rw [asz]; decide)).trans (hp 3 (pre_mem (by kernel_rfl)))
          refine op_skip rfl (wanted_false rfl rfl e54 rfl) ?_
          exact ⟨_, 0, rfl, hB, Below.refl _ _, rfl, .inl rfl⟩
        | 6, _ =>
          have e54 : (fr [51, 52, 53, 54, 55, 56, 57, 58, 59, 60, 61, 62, 63, 64, 65, 66, 67, 68, 69, 70, 71, 72, 73, 74, 75] A t).eval (.tmp 54) = .bool false := (fr_eval _ _ _ 54 rfl (by rw [asz]; decide)).trans (hp 3 (pre_mem (by kernel_rfl)))
          refine op_skip rfl (wanted_false rfl rfl e54 rfl) ?_
          exact ⟨_, 0, rfl, hB, Below.refl _ _, rfl, .inl rfl⟩
        | 7, _ =>
          have e54 : (fr [51, 52, 53, 54, 55, 56, 57, 58, 59, 60, 61, 62, 63, 64, 65, 66, 67, 68, 69, 70, 71, 72, 73, 74, 75] A t).eval (.tmp 54) = .bool false := (fr_eval _ _ _ 54 rfl (by rw [asz]; decide)).trans (hp 3 (pre_mem (by kernel_rfl)))
          refine op_skip rfl (wanted_false rfl rfl e54 rfl) ?_
          exact ⟨_, 0, rfl, hB, Below.refl _ _, rfl, .inl rfl⟩
        | 8, _ =>
          have e54 : (fr [51, 52, 53, 54, 55, 56, 57, 58, 59, 60, 61, 62, 63, 64, 65, 66, 67, 68, 69, 70, 71, 72, 73, 74, 75] A t).eval (.tmp 54) = .bool false := (fr_eval _ _ _ 54 rfl (by rw [asz]; decide)).trans (hp 3 (pre_mem (by kernel_rfl)))
          refine op_skip rfl (wanted_false rfl rfl e54 rfl) ?_
          exact ⟨_, 0, rfl, hB, Below.refl _ _, rfl, .inl rfl⟩
        | 9, _ =>
          have e54 : (fr [51, 52, 53, 54, 55, 56, 57, 58, 59, 60, 61, 62, 63, 64, 65, 66, 67, 68, 69, 70, 71, 72, 73, 74, 75] A t).eval (.tmp 54) = .bool false := (fr_eval _ _ _ 54 rfl (by rw [asz]; decide)).trans (hp 3 (pre_mem (by kernel_rfl)))
          refine op_skip rfl (wanted_false rfl rfl e54 rfl) ?_
          exact ⟨_, 0, rfl, hB, Below.refl _ _, rfl, .inl rfl⟩
        | 10, _ =>
          have e54 : (fr [51, 52, 53, 54, 55, 56, 57, 58, 59, 60, 61, 62, 63, 64, 65, 66, 67, 68, 69, 70, 71, 72, 73, 74, 75] A t).eval (.tmp 54) = .bool false := (fr_eval _ _ _ 54 rfl (by rw [asz]; decide)).trans (hp 3 (pre_mem (by kernel_rfl)))
          refine op_skip rfl (wanted_false rfl rfl e54 rfl) ?_
          exact ⟨_, 0, rfl, hB, Below.refl _ _, rfl, .inl rfl⟩
        | 11, _ =>
          have e54 : (fr [51, 52, 53, 54, 55, 56, 57, 58, 59, 60, 61, 62, 63, 64, 65, 66, 67, 68, 69, 70, 71, 72, 73, 74, 75] A t).eval (.tmp 54) = .bool false := (fr_eval _ _ _ 54 rfl (by rw [asz]; decide)).trans (hp 3 (pre_mem (by kernel_rfl)))
          refine op_skip rfl (wanted_false rfl rfl e54 rfl) ?_
          exact ⟨_, 0, rfl, hB, Below.refl _ _, rfl, .inl rfl⟩
        | 12, _ =>
          have e54 : (fr [51, 52, 53, 54, 55, 56, 57, 58, 59, 60, 61, 62, 63, 64, 65, 66, 67, 68, 69, 70, 71, 72, 73, 74, 75] A t).eval (.tmp 54) = .bool false := (fr_eval _ _ _ 54 rfl (by rw [asz]; decide)).trans (hp 3 (pre_mem (by kernel_rfl)))
          refine op_skip rfl (wanted_false rfl rfl e54 rfl) ?_
          exact ⟨_, 0, rfl, hB, Below.refl _ _, rfl, .inl rfl⟩
        | 13, _ =>
          have e54 : (fr [51, 52, 53, 54, 55, 56, 57, 58, 59, 60, 61, 62, 63, 64, 65, 66, 67, 68, 69, 70, 71, 72, 73, 74, 75] A t).eval (.tmp 54) = .bool false := (fr_eval _ _ _ 54 rfl (by rw [asz]; decide)).trans (hp 3 (pre_mem (by kernel_rfl)))
          refine op_skip rfl (wanted_false rfl rfl e54 rfl) ?_
          exact ⟨_, 0, rfl, hB, Below.refl _ _, rfl, .inl rfl⟩
        | 14, _ =>
          have e54 : (fr [51, 52, 53, 54, 55, 56, 57, 58, 59, 60, 61, 62, 63, 64, 65, 66, 67, 68, 69, 70, 71, 72, 73, 74, 75] A t).eval (.tmp 54) = .bool false := (fr_eval _ _ _ 54 rfl (by rw [asz]; decide)).trans (hp 3 (pre_mem (by kernel_rfl)))
          refine op_skip rfl (wanted_false rfl rfl e54 rfl) ?_
          exact ⟨_, 0, rfl, hB, Below.refl _ _, rfl, .inl rfl⟩
        | 15, _ =>
          have e54 : (fr [51, 52, 53, 54, 55, 56, 57, 58, 59, 60, 61, 62, 63, 64, 65, 66, 67, 68, 69, 70, 71, 72, 73, 74, 75] A t).eval (.tmp 54) = .bool false := (fr_eval _ _ _ 54 rfl (by rw [asz]; decide)).trans (hp 3 (pre_mem (by kernel_rfl)))
          refine op_skip rfl (wanted_false rfl rfl e54 rfl) ?_
          exact ⟨_, 0, rfl, hB, Below.refl _ _, rfl, .inl rfl⟩
        | 16, _ =>
          have e54 : (fr [51, 52, 53, 54, 55, 56, 57, 58, 59, 60, 61, 62, 63, 64, 65, 66, 67, 68, 69, 70, 71, 72, 73, 74, 75] A t).eval (.tmp 54) = .bool false := (fr_eval _ _ _ 54 rfl (by rw [asz]; decide)).trans (hp 3 (pre_mem (by kernel_rfl)))
          refine op_skip rfl (wanted_false rfl rfl e54 rfl) ?_
          exact ⟨_, 0, rfl, hB, Below.refl _ _, rfl, .inl rfl⟩
        | 17, _ =>
          have e67 : (fr [51, 52, 53, 54, 55, 56, 57, 58, 59, 60, 61, 62, 63, 64, 65, 66, 67, 68, 69, 70, 71, 72, 73, 74, 75] A t).eval (.tmp 67) = undef := (fr_eval _ _ _ 67 rfl (by rw [asz]; decide)).trans (hp 16 (pre_mem (by kernel_rfl)))
          refine op_skip rfl (wanted_undef rfl rfl e67) ?_
          exact ⟨_, 0, rfl, hB, Below.refl _ _, rfl, .inl rfl⟩
        | 18, _ =>
          have e67 : (fr [51, 52, 53, 54, 55, 56, 57, 58, 59, 60, 61, 62, 63, 64, 65, 66, 67, 68, 69, 70, 71, 72, 73, 74, 75] A t).eval (.tmp 67) = undef := (fr_eval _ _ _ 67 rfl (by rw [asz]; decide)).trans (hp 16 (pre_mem (by kernel_rfl)))
          refine op_skip rfl (wanted_undef rfl rfl e67) ?_
          exact ⟨_, 0, rfl, hB, Below.refl _ _, rfl, .inl rfl⟩
        | 19, _ =>
          have e67 : (fr [51, 52, 53, 54, 55, 56, 57, 58, 59, 60, 61, 62, 63, 64, 65, 66, 67, 68, 69, 70, 71, 72, 73, 74, 75] A t).eval (.tmp 67) = undef := (fr_eval _ _ _ 67 rfl (by rw [asz]; decide)).trans (hp 16 (pre_mem (by kernel_rfl)))
          refine op_skip rfl (wanted_undef rfl rfl e67) ?_
          exact ⟨_, 0, rfl, hB, Below.refl _ _, rfl, .inl rfl⟩
        | 20, _ =>
          have e67 : (fr [51, 52, 53, 54, 55, 56, 57, 58, 59, 60, 61, 62, 63, 64, 65, 66, 67, 68, 69, 70, 71, 72, 73, 74, 75] A t).eval (.tmp 67) = undef := (fr_eval _ _ _ 67 rfl (by rw [asz]; decide)).trans (hp 16 (pre_mem (by kernel_rfl)))
          refine op_skip rfl (wanted_undef rfl rfl e67) ?_
          exact ⟨_, 0, rfl, hB, Below.refl _ _, rfl, .inl rfl⟩
        | 21, _ =>
          have e67 : (fr [51, 52, 53, 54, 55, 56, 57, 58, 59, 60, 61, 62, 63, 64, 65, 66, 67, 68, 69, 70, 71, 72, 73, 74, 75] A t).eval (.tmp 67) = undef := (fr_eval _ _ _ 67 rfl (by rw [asz]; decide)).trans (hp 16 (pre_mem (by kernel_rfl)))
          refine op_skip rfl (wanted_undef rfl rfl e67) ?_
          exact ⟨_, 0, rfl, hB, Below.refl _ _, rfl, .inl rfl⟩
        | 22, _ =>
          have e67 : (fr [51, 52, 53, 54, 55, 56, 57, 58, 59, 60, 61, 62, 63, 64, 65, 66, 67, 68, 69, 70, 71, 72, 73, 74, 75] A t).eval (.tmp 67) = undef := (fr_eval _ _ _ 67 rfl (by rw [asz]; decide)).trans (hp 16 (pre_mem (by kernel_rfl)))
          refine op_skip rfl (wanted_undef rfl rfl e67) ?_
          exact ⟨_, 0, rfl, hB, Below.refl _ _, rfl, .inl rfl⟩
        | 23, _ =>
          have e67 : (fr [51, 52, 53, 54, 55, 56, 57, 58, 59, 60, 61, 62, 63, 64, 65, 66, 67, 68, 69, 70, 71, 72, 73, 74, 75] A t).eval (.tmp 67) = undef := (fr_eval _ _ _ 67 rfl (by rw [asz]; decide)).trans (hp 16 (pre_mem (by kernel_rfl)))
          refine op_skip rfl (wanted_undef rfl rfl e67) ?_
          exact ⟨_, 0, rfl, hB, Below.refl _ _, rfl, .inl rfl⟩
        | 24, _ =>
          have e54 : (fr [51, 52, 53, 54, 55, 56, 57, 58, 59, 60, 61, 62, 63, 64, 65, 66, 67, 68, 69, 70, 71, 72, 73, 74, 75] A t).eval (.tmp 54) = .bool false := (fr_eval _ _ _ 54 rfl (by rw [asz]; decide)).trans (hp 3 (pre_mem (by kernel_rfl)))
          refine op_skip rfl (wanted_false rfl rfl e54 rfl) ?_
          exact ⟨_, 0, rfl, hB, Below.refl _ _, rfl, .inl rfl⟩
        | n + 25, hi => exact absurd hi (by omega)
      · intro t ρ wx hB hF hne
        have e54 : (fr [51, 52, 53, 54, 55, 56, 57, 58, 59, 60, 61, 62, 63, 64, 65, 66, 67, 68, 69, 70, 71, 72, 73, 74, 75] A t).eval (.tmp 54) = .bool false := (fr_eval _ _ _ 54 rfl (by rw [asz]; decide)).trans (hF 3 (by decide))
        have e75 : (fr [51, 52, 53, 54, 55, 56, 57, 58, 59, 60, 61, 62, 63, 64, 65, 66, 67, 68, 69, 70, 71, 72, 73, 74, 75] A t).eval (.tmp 75) = undef := (fr_eval _ _ _ 75 rfl (by rw [asz]; decide)).trans (hF 24 (by decide))
        clear hne
        refine op_wp rfl rfl ?_
        have ec : ∀ v, (fr [51, 52, 53, 54, 55, 56, 57, 58, 59, 60, 61, 62, 63, 64, 65, 66, 67, 68, 69, 70, 71, 72, 73, 74, 75] A t).eval (.const v) = v := fun _ => rfl
        generalize hE : (fr [51, 52, 53, 54, 55, 56, 57, 58, 59, 60, 61, 62, 63, 64, 65, 66, 67, 68, 69, 70, 71, 72, 73, 74, 75] A t).eval = ev at ec e54 e75
        unfold Oper.wp
        rw [hE]
        go_simp
        refine hMet _ _ (Met.intro (hRJ _ _ ⟨t 51, t 52, t 53, t 54, t 55, t 56, t 57, t 58, t 59, t 60, t 61, t 62, t 63, t 64, t 65, t 66, t 67, t 68, t 69, t 70, t 71, t 72, t 73, t 74, t 75, _, ⟨rfl, hB⟩, ?_⟩))
        rw [← hA]; rfl
    case rest =>
      obtain ⟨x8, hxc⟩ : ∃ z, z = wc := ⟨_, rfl⟩
      subst hxc
      obtain ⟨rfl, b⟩ := hcut
      have L8 : Hid (x7.heap.size ≤ x8.heap.size) := b.size
      have B8 : Hid (Below w.heap.size w x8) := B7.out.trans (b.mono B7.out.size)
      have OS8 : Hid (SRd x8 sn ls) := OS7.out.later b
      have Oh_8 : Hid (SOwn x8 x1.heap.size x2.heap.size ⟨some ⟨gh, 0, none⟩, mh, ch⟩ (headL role ls ep sq)) := Oh_7.out.later b
      have OF8 : Hid (FrRd x8 SF DF) := OF7.out.later b
      have KF8 : Hid (Blk x8 gf 39 [.int .i64 DF.kind, .int .i64 DF.id, .slice SF.cn.a SF.cn.n SF.cn.c, .slice SF.sn.a SF.sn.n SF.sn.c, .int .i64 DF.tick, .slice SF.cookie.a SF.cookie.n SF.cookie.c, .slice SF.proof.a SF.proof.n SF.proof.c, .int .i64 DF.epoch, .int .i64 DF.seq, .slice SF.body.a SF.body.n SF.body.c, .slice SF.tag.a SF.tag.n SF.tag.c]) := KF7.out.later b
      have Oi_8 : Hid (SOwn x8 x4.heap.size x5.heap.size ⟨some ⟨gi, 0, none⟩, mi, ci⟩ (tagIn ro DF)) := Oi_7.out.later b
      clear b B7 OS7 Oh_7 OF7 KF7 Oi_7
      cases h0 : headOk role ls.length ep sq with
      | false =>
        have hm0 : ((mh : Int) == 0) = true := by have q := (headL_nil role ls ep sq).2 h0; have := HHN.out; simp; omega
        have HSN : Hid (sn.n = ls.length) := OS8.out.len
        have hz : ((sn.n : Int) != 12) = true ∨ ((sn.n : Int) != 12) = false := by cases ((sn.n : Int) != 12) <;> simp
        by_cases qa0 : role < 0
        · go_wp2
          go_ret
          exact ⟨rfl, B8.out⟩
        by_cases qb1 : role > 1
        · go_wp2
          go_ret
          exact ⟨rfl, B8.out⟩
        rcases hz with hz | hz
        · go_wp2
          go_ret
          exact ⟨rfl, B8.out⟩
        by_cases qc0 : ep < 0
        · go_wp2
          go_ret
          exact ⟨rfl, B8.out⟩
        by_cases qc1 : ep > 4294967295
        · go_wp2
          go_ret
          exact ⟨rfl, B8.out⟩
        by_cases qc2 : sq < 0
        · go_wp2
          go_ret
          exact ⟨rfl, B8.out⟩
        by_cases qc3 : sq ≥ 281474976710656
        · go_wp2
          go_ret
          exact ⟨rfl, B8.out⟩
        exfalso
        have hs : (sn.n : Int) = 12 := by simpa using hz
        have := HSN.out
        rcases headNot h0 with h | h | h | h | h | h | h <;> omega
      | true =>
        have hm0 : ((mh : Int) == 0) = false := by have q := headL_len role ls ep sq h0; have := HHN.out; simp; omega
        have hm1 : ((mh : Int) == 23) = true := by have q := headL_len role ls ep sq h0; have := HHN.out; simp; omega
        have HOK : Hid (headOk role ls.length ep sq = true) := h0
        have hr1 : 0 ≤ role ∧ role ≤ 1 := ((headOk_iff _ _ _ _).1 h0).1
        go_wp2_with fail
        refine (atN a len cap l 2 x8 HL.out (HR.out.later B8.out (Nat.le_refl _)) HB.out hlen (by omega)).mono ?_
        rintro e y ⟨e2, rfl, ea, eb, rfl⟩
        have HE2 : Hid (0 ≤ e2 ∧ e2 ≤ 255) := ⟨ea, eb⟩
        clear ea eb
        go_wp2_with fail
        refine (atN a len cap l 3 x8 HL.out (HR.out.later B8.out (Nat.le_refl _)) HB.out hlen (by omega)).mono ?_
        rintro e y ⟨s2, rfl, ea, eb, rfl⟩
        have HS2 : Hid (0 ≤ s2 ∧ s2 ≤ 255) := ⟨ea, eb⟩
        clear ea eb
        go_wp2_with fail
        refine (SlI.implHeadOf (1 - role) sn ls ep sq x8 OS8.out).mono ?_
        rintro e x9 ⟨gk, mk, ck, rfl, em, kg, rr, b⟩
        have oN : SOwn x9 x8.heap.size x9.heap.size ⟨some ⟨gk, 0, none⟩, mk, ck⟩ (headL (1 - role) ls ep sq) := SOwn.row rr em (headL_bytes _ _ _ _ OS8.out.bytes) kg rr.lt
        clear em kg rr
        have L9 : Hid (x8.heap.size ≤ x9.heap.size) := b.size
        have B9 : Hid (Below w.heap.size w x9) := B8.out.trans (b.mono B8.out.size)
        have OS9 : Hid (SRd x9 sn ls) := OS8.out.later b
        have Oh_9 : Hid (SOwn x9 x1.heap.size x2.heap.size ⟨some ⟨gh, 0, none⟩, mh, ch⟩ (headL role ls ep sq)) := Oh_8.out.later b
        have OF9 : Hid (FrRd x9 SF DF) := OF8.out.later b
        have KF9 : Hid (Blk x9 gf 39 [.int .i64 DF.kind, .int .i64 DF.id, .slice SF.cn.a SF.cn.n SF.cn.c, .slice SF.sn.a SF.sn.n SF.sn.c, .int .i64 DF.tick, .slice SF.cookie.a SF.cookie.n SF.cookie.c, .slice SF.proof.a SF.proof.n SF.proof.c, .int .i64 DF.epoch, .int .i64 DF.seq, .slice SF.body.a SF.body.n SF.body.c, .slice SF.tag.a SF.tag.n SF.tag.c]) := KF8.out.later b
        have Oi_9 : Hid (SOwn x9 x4.heap.size x5.heap.size ⟨some ⟨gi, 0, none⟩, mi, ci⟩ (tagIn ro DF)) := Oi_8.out.later b
        clear b B8 OS8 Oh_8 OF8 KF8 Oi_8
        have Ok_9 : Hid (SOwn x9 x8.heap.size x9.heap.size ⟨some ⟨gk, 0, none⟩, mk, ck⟩ (headL (1 - role) ls ep sq)) := oN
        clear oN
        go_wp2_with fail
        refine (sameV ⟨some ⟨gh, 0, none⟩, mh, ch⟩ ⟨some ⟨gk, 0, none⟩, mk, ck⟩ (headL role ls ep sq) (headL (1 - role) ls ep sq) false x9 Oh_9.out.rd Ok_9.out.rd (no (head_turn HOK.out))).mono ?_
        rintro e y ⟨rfl, rfl⟩
        go_wp2_with fail
        refine (SlI.implHeadOf role sn ls e2 s2 x9 OS9.out).mono ?_
        rintro e x10 ⟨gm, mm, cm, rfl, em, kg, rr, b⟩
        have oN : SOwn x10 x9.heap.size x10.heap.size ⟨some ⟨gm, 0, none⟩, mm, cm⟩ (headL role ls e2 s2) := SOwn.row rr em (headL_bytes _ _ _ _ OS9.out.bytes) kg rr.lt
        clear em kg rr
        have L10 : Hid (x9.heap.size ≤ x10.heap.size) := b.size
        have B10 : Hid (Below w.heap.size w x10) := B9.out.trans (b.mono B9.out.size)
        have OS10 : Hid (SRd x10 sn ls) := OS9.out.later b
        have Oh_10 : Hid (SOwn x10 x1.heap.size x2.heap.size ⟨some ⟨gh, 0, none⟩, mh, ch⟩ (headL role ls ep sq)) := Oh_9.out.later b
        have OF10 : Hid (FrRd x10 SF DF) := OF9.out.later b
        have KF10 : Hid (Blk x10 gf 39 [.int .i64 DF.kind, .int .i64 DF.id, .slice SF.cn.a SF.cn.n SF.cn.c, .slice SF.sn.a SF.sn.n SF.sn.c, .int .i64 DF.tick, .slice SF.cookie.a SF.cookie.n SF.cookie.c, .slice SF.proof.a SF.proof.n SF.proof.c, .int .i64 DF.epoch, .int .i64 DF.seq, .slice SF.body.a SF.body.n SF.body.c, .slice SF.tag.a SF.tag.n SF.tag.c]) := KF9.out.later b
        have Oi_10 : Hid (SOwn x10 x4.heap.size x5.heap.size ⟨some ⟨gi, 0, none⟩, mi, ci⟩ (tagIn ro DF)) := Oi_9.out.later b
        have Ok_10 : Hid (SOwn x10 x8.heap.size x9.heap.size ⟨some ⟨gk, 0, none⟩, mk, ck⟩ (headL (1 - role) ls ep sq)) := Ok_9.out.later b
        clear b B9 OS9 Oh_9 OF9 KF9 Oi_9 Ok_9
        have Om_10 : Hid (SOwn x10 x9.heap.size x10.heap.size ⟨some ⟨gm, 0, none⟩, mm, cm⟩ (headL role ls e2 s2)) := oN
        clear oN
        cases q1 : (e2 == ep) with
        | true =>
          cases q2 : (s2 == sq) with
          | true =>
            go_wp2_with fail
            refine (sameV ⟨some ⟨gh, 0, none⟩, mh, ch⟩ ⟨some ⟨gm, 0, none⟩, mm, cm⟩ (headL role ls ep sq) (headL role ls e2 s2) true x10 Oh_10.out.rd Om_10.out.rd (by rw [head_other HOK.out HE2.out HS2.out, q1, q2]; rfl)).mono ?_
            rintro e y ⟨rfl, rfl⟩
            go_wp2
            go_ret
            exact ⟨rfl, B10.out⟩
          | false =>
            go_wp2_with fail
            refine (sameV ⟨some ⟨gh, 0, none⟩, mh, ch⟩ ⟨some ⟨gm, 0, none⟩, mm, cm⟩ (headL role ls ep sq) (headL role ls e2 s2) false x10 Oh_10.out.rd Om_10.out.rd (by rw [head_other HOK.out HE2.out HS2.out, q1, q2]; rfl)).mono ?_
            rintro e y ⟨rfl, rfl⟩
            go_wp2
            go_ret
            exact ⟨rfl, B10.out⟩
        | false =>
          cases q2 : (s2 == sq) with
          | true =>
            go_wp2_with fail
            refine (sameV ⟨some ⟨gh, 0, none⟩, mh, ch⟩ ⟨some ⟨gm, 0, none⟩, mm, cm⟩ (headL role ls ep sq) (headL role ls e2 s2) false x10 Oh_10.out.rd Om_10.out.rd (by rw [head_other HOK.out HE2.out HS2.out, q1, q2]; rfl)).mono ?_
            rintro e y ⟨rfl, rfl⟩
            go_wp2
            go_ret
            exact ⟨rfl, B10.out⟩
          | false =>
            go_wp2_with fail
            refine (sameV ⟨some ⟨gh, 0, none⟩, mh, ch⟩ ⟨some ⟨gm, 0, none⟩, mm, cm⟩ (headL role ls ep sq) (headL role ls e2 s2) false x10 Oh_10.out.rd Om_10.out.rd (by rw [head_other HOK.out HE2.out HS2.out, q1, q2]; rfl)).mono ?_
            rintro e y ⟨rfl, rfl⟩
            go_wp2
            go_ret
            exact ⟨rfl, B10.out⟩
  | true =>
    have HCT : Hid (canTag ro DF = true) := hct
    have HMI : Hid (mi = 25 + DF.body.length) := by show _ = _; rw [HIN.out]; exact tagIn_len hct
    have HCI : Hid (mi ≤ ci) := Oi_7.out.rd.cap
    have HBN : Hid (SF.body.n = DF.body.length ∧ DF.body.length ≤ 40) := ⟨OF7.out.body.len, canTag_body hct⟩
    have HMZ : Hid (0 < mi) := by have := HMI.out; show _ < _; omega
    have hi1 : (0 : Int) ≤ 1 := by decide
    have hi2 : (1 : Int) ≤ (mi : Int) := by have := HMI.out; omega
    have hi3 : (mi : Int) ≤ (ci : Int) := by have := HCI.out; omega
    have hi4 : (1 : Int) ≤ (ci : Int) := by omega
    have hbn : IntKind.i64.wrap (25 + (SF.body.n : Int)) = 25 + (SF.body.n : Int) := by rw [IntKind.wrap_i64]; have := HBN.out; omega
    have hne2 : ((mi : Int) != 25 + (SF.body.n : Int)) = false := by have := HBN.out; have := HMI.out; simp; omega
    go_upto_region 9 with fail
    go_cut [76] from 51 to 75 (fun sv wx => sv = .bool false ∧ Below x7.heap.size x7 wx)
    case first =>
      rename_i J K' hRJ hMet
      generalize hA : Act.mk _ _ = A
      have a10' : A.eval (.tmp 10) = .slice (some ⟨gi, 0, none⟩) mi ci := by rw [← hA]; rfl
      have a8' : A.eval (.tmp 8) = .int .i64 ro := by rw [← hA]; rfl
      have a9' : A.eval (.tmp 9) = .pointer (some ⟨gf, 0, none⟩) := by rw [← hA]; rfl
      have asz : A.tmps.size = 143 := by rw [← hA]; rfl
      have hKF : ∀ wx, Below x7.heap.size x7 wx → Blk wx gf 39 [.int .i64 DF.kind, .int .i64 DF.id, .slice SF.cn.a SF.cn.n SF.cn.c, .slice SF.sn.a SF.sn.n SF.sn.c, .int .i64 DF.tick, .slice SF.cookie.a SF.cookie.n SF.cookie.c, .slice SF.proof.a SF.proof.n SF.proof.c, .int .i64 DF.epoch, .int .i64 DF.seq, .slice SF.body.a SF.body.n SF.body.c, .slice SF.tag.a SF.tag.n SF.tag.c] := fun wx hb => KF7.out.later hb
      have hOF : ∀ wx, Below x7.heap.size x7 wx → FrRd wx SF DF := fun wx hb => OF7.out.later hb
      have hOI : ∀ wx, Below x7.heap.size x7 wx → SRd wx ⟨some ⟨gi, 0, none⟩, mi, ci⟩ (tagIn ro DF) := fun wx hb => (Oi_7.out.later hb).rd
      refine region_each (by kernel_rfl) [51, 52, 53, 54, 55, 56, 57, 58, 59, 60, 61, 62, 63, 64, 65, 66, 67, 68, 69, 70, 71, 72, 73, 74, 75] 25 (fun i => [51, 52, 53, 54, 55, 56, 57, 58, 59, 60, 61, 62, 63, 64, 65, 66, 67, 68, 69, 70, 71, 72, 73, 74, 75].getD i 0) (fun _ => 0)
        (fun i gB v wx => match i with
          | 0 => v = .slice (some ⟨gi, 0, none⟩) mi ci
          | 1 => v = .int .i64 (mi : Int)
          | 2 => v = .bool true
          | 3 => v = .bool true
          | 4 => v = .slice (some ⟨gi, 0, none⟩) mi ci
          | 5 => v = .slice (some ⟨gi, 1, none⟩) (mi - 1) (ci - 1)
          | 6 => v = .int .i64 ro
          | 7 => v = .pointer (some ⟨gf, 3, none⟩)
          | 8 => v = .slice SF.sn.a SF.sn.n SF.sn.c
          | 9 => v = .pointer (some ⟨gf, 7, none⟩)
          | 10 => v = .int .i64 DF.epoch
          | 11 => v = .pointer (some ⟨gf, 8, none⟩)
          | 12 => v = .int .i64 DF.seq
          | 13 => ∃ s2, v = .slice s2.a s2.n s2.c ∧ SRd wx s2 (headL ro DF.sn DF.epoch DF.seq)
          | 14 => v = .bool true
          | 15 => v = .bool false
          | 16 => v = .bool false
          | 17 => v = .slice (some ⟨gi, 0, none⟩) mi ci
          | 18 => v = .int .i64 (mi : Int)
          | 19 => v = .pointer (some ⟨gf, 9, none⟩)
          | 20 => v = .slice SF.body.a SF.body.n SF.body.c
          | 21 => v = .int .i64 (SF.body.n : Int)
          | 22 => v = .int .i64 (25 + (SF.body.n : Int))
          | 23 => v = .bool false
          | 24 => v = .bool false
          | _ => False) (fun wx => Below x7.heap.size x7 wx) (by kernel_rfl) (Below.refl _ _).drew ?_ ?_ ?_
      · intro i gB v wx wy hi hF hb _
        match i, hi with
        | 0, _ => exact hF
        | 1, _ => exact hF
        | 2, _ => exact hF
        | 3, _ => exact hF
        | 4, _ => exact hF
        | 5, _ => exact hF
        | 6, _ => exact hF
        | 7, _ => exact hF
        | 8, _ => exact hF
        | 9, _ => exact hF
        | 10, _ => exact hF
        | 11, _ => exact hF
        | 12, _ => exact hF
        | 13, _ => obtain ⟨s2, h0, h1⟩ := hF; exact ⟨s2, h0, h1.later hb⟩
        | 14, _ => exact hF
        | 15, _ => exact hF
        | 16, _ => exact hF
        | 17, _ => exact hF
        | 18, _ => exact hF
        | 19, _ => exact hF
        | 20, _ => exact hF
        | 21, _ => exact hF
        | 22, _ => exact hF
        | 23, _ => exact hF
        | 24, _ => exact hF
        | n + 25, hi => exact absurd hi (by omega)
      · intro i hi t ρ wx hB hp hd
        match i, hi with
        | 0, _ =>
          have e10 : (fr [51, 52, 53, 54, 55, 56, 57, 58, 59, 60, 61, 62, 63, 64, 65, 66, 67, 68, 69, 70, 71, 72, 73, 74, 75] A t).eval (.tmp 10) = .slice (some ⟨gi, 0, none⟩) mi ci := (fr_eval_old _ _ _ 10 rfl).trans a10'
          refine op_run (v := .slice (some ⟨gi, 0, none⟩) mi ci) (w' := wx) rfl rfl ?_ ?_
          · clear hp hd; have ec : ∀ v, (fr [51, 52, 53, 54, 55, 56, 57, 58, 59, 60, 61, 62, 63, 64, 65, 66, 67, 68, 69, 70, 71, 72, 73, 74, 75] A t).eval (.const v) = v := fun _ => rfl; generalize (fr [51, 52, 53, 54, 55, 56, 57, 58, 59, 60, 61, 62, 63, 64, 65, 66, 67, 68, 69, 70, 71, 72, 73, 74, 75] A t).eval = ev at ec e10 ⊢; go_simp
          · exact ⟨_, 0, rfl, hB, Below.refl _ _, rfl, .inl rfl⟩
        | 1, _ =>
          have e51 : (fr [51, 52, 53, 54, 55, 56, 57, 58, 59, 60, 61, 62, 63, 64, 65, 66, 67, 68, 69, 70, 71, 72, 73, 74, 75] A t).eval (.tmp 51) = .slice (some ⟨gi, 0, none⟩) mi ci := (fr_eval _ _ _ 51 rfl (by rw [asz]; decide)).trans (hp 0 (pre_mem (by kernel_rfl)))
          refine op_run (v := .int .i64 (mi : Int)) (w' := wx) rfl rfl ?_ ?_
          · clear hp hd; have ec : ∀ v, (fr [51, 52, 53, 54, 55, 56, 57, 58, 59, 60, 61, 62, 63, 64, 65, 66, 67, 68, 69, 70, 71, 72, 73, 74, 75] A t).eval (.const v) = v := fun _ => rfl; generalize (fr [51, 52, 53, 54, 55, 56, 57, 58, 59, 60, 61, 62, 63, 64, 65, 66, 67, 68, 69, 70, 71, 72, 73, 74, 75] A t).eval = ev at ec e51 ⊢; go_simp
          · exact ⟨_, 0, rfl, hB, Below.refl _ _, rfl, .inl rfl⟩
        | 2, _ =>
          have e52 : (fr [51, 52, 53, 54, 55, 56, 57, 58, 59, 60, 61, 62, 63, 64, 65, 66, 67, 68, 69, 70, 71, 72, 73, 74, 75] A t).eval (.tmp 52) = .int .i64 (mi : Int) := (fr_eval _ _ _ 52 rfl (by rw [asz]; decide)).trans (hp 1 (pre_mem (by kernel_rfl)))
          have hh : 0 < mi := HMZ.out
          refine op_run (v := .bool true) (w' := wx) rfl rfl ?_ ?_
          · clear hp hd; have ec : ∀ v, (fr [51, 52, 53, 54, 55, 56, 57, 58, 59, 60, 61, 62, 63, 64, 65, 66, 67, 68, 69, 70, 71, 72, 73, 74, 75] A t).eval (.const v) = v := fun _ => rfl; generalize (fr [51, 52, 53, 54, 55, 56, 57, 58, 59, 60, 61, 62, 63, 64, 65, 66, 67, 68, 69, 70, 71, 72, 73, 74, 75] A t).eval = ev at ec e52 ⊢; go_simp
          · exact ⟨_, 0, rfl, hB, Below.refl _ _, rfl, .inl rfl⟩
        | 3, _ =>
          have e53 : (fr [51, 52, 53, 54, 55, 56, 57, 58, 59, 60, 61, 62, 63, 64, 65, 66, 67, 68, 69, 70, 71, 72, 73, 74, 75] A t).eval (.tmp 53) = .bool true := (fr_eval _ _ _ 53 rfl (by rw [asz]; decide)).trans (hp 2 (pre_mem (by kernel_rfl)))
          refine op_run (v := .bool true) (w' := wx) rfl rfl ?_ ?_
          · clear hp hd; have ec : ∀ v, (fr [51, 52, 53, 54, 55, 56, 57, 58, 59, 60, 61, 62, 63, 64, 65, 66, 67, 68, 69, 70, 71, 72, 73, 74, 75] A t).eval (.const v) = v := fun _ => rfl; generalize (fr [51, 52, 53, 54, 55, 56, 57, 58, 59, 60, 61, 62, 63, 64, 65, 66, 67, 68, 69, 70, 71, 72, 73, 74, 75] A t).eval = ev at ec e53 ⊢; go_simp
          · exact ⟨_, 0, rfl, hB, Below.refl _ _, rfl, .inl rfl⟩
        | 4, _ =>
          have e10 : (fr [51, 52, 53, 54, 55, 56, 57, 58, 59, 60, 61, 62, 63, 64, 65, 66, 67, 68, 69, 70, 71, 72, 73, 74, 75] A t).eval (.tmp 10) = .slice (some ⟨gi, 0, none⟩) mi ci := (fr_eval_old _ _ _ 10 rfl).trans a10'
          have e54 : (fr [51, 52, 53, 54, 55, 56, 57, 58, 59, 60, 61, 62, 63, 64, 65, 66, 67, 68, 69, 70, 71, 72, 73, 74, 75] A t).eval (.tmp 54) = .bool true := (fr_eval _ _ _ 54 rfl (by rw [asz]; decide)).trans (hp 3 (pre_mem (by kernel_rfl)))
          refine op_run_g (v := .slice (some ⟨gi, 0, none⟩) mi ci) (w' := wx) rfl (wanted_true rfl rfl e54) ?_ ?_
          · clear hp hd; have ec : ∀ v, (fr [51, 52, 53, 54, 55, 56, 57, 58, 59, 60, 61, 62, 63, 64, 65, 66, 67, 68, 69, 70, 71, 72, 73, 74, 75] A t).eval (.const v) = v := fun _ => rfl; generalize (fr [51, 52, 53, 54, 55, 56, 57, 58, 59, 60, 61, 62, 63, 64, 65, 66, 67, 68, 69, 70, 71, 72, 73, 74, 75] A t).eval = ev at ec e10 e54 ⊢; go_simp
          · exact ⟨_, 0, rfl, hB, Below.refl _ _, rfl, .inl rfl⟩
        | 5, _ =>
          have e55 : (fr [51, 52, 53, 54, 55, 56, 57, 58, 59, 60, 61, 62, 63, 64, 65, 66, 67, 68, 69, 70, 71, 72, 73, 74, 75] A t).eval (.tmp 55) = .slice (some ⟨gi, 0, none⟩) mi ci := (fr_eval _ _ _ 55 rfl (by rw [asz]; decide)).trans (hp 4 (pre_mem (by kernel_rfl)))
          have e54 : (fr [51, 52, 53, 54, 55, 56, 57, 58, 59, 60, 61, 62, 63, 64, 65, 66, 67, 68, 69, 70, 71, 72, 73, 74, 75] A t).eval (.tmp 54) = .bool true := (fr_eval _ _ _ 54 rfl (by rw [asz]; decide)).trans (hp 3 (pre_mem (by kernel_rfl)))
          have hh1 := hi1; have hh2 := hi2; have hh3 := hi3; have hh4 := hi4; have hh5 : ¬ ci = 1 := by have := HMI.out; have := HCI.out; omega
          refine op_run_g (v := .slice (some ⟨gi, 1, none⟩) (mi - 1) (ci - 1)) (w' := wx) rfl (wanted_true rfl rfl e54) ?_ ?_
          · clear hp hd; have ec : ∀ v, (fr [51, 52, 53, 54, 55, 56, 57, 58, 59, 60, 61, 62, 63, 64, 65, 66, 67, 68, 69, 70, 71, 72, 73, 74, 75] A t).eval (.const v) = v := fun _ => rfl; generalize (fr [51, 52, 53, 54, 55, 56, 57, 58, 59, 60, 61, 62, 63, 64, 65, 66, 67, 68, 69, 70, 71, 72, 73, 74, 75] A t).eval = ev at ec e55 e54 ⊢; go_simp
          · exact ⟨_, 0, rfl, hB, Below.refl _ _, rfl, .inl rfl⟩
        | 6, _ =>
          have e8 : (fr [51, 52, 53, 54, 55, 56, 57, 58, 59, 60, 61, 62, 63, 64, 65, 66, 67, 68, 69, 70, 71, 72, 73, 74, 75] A t).eval (.tmp 8) = .int .i64 ro := (fr_eval_old _ _ _ 8 rfl).trans a8'
          have e54 : (fr [51, 52, 53, 54, 55, 56, 57, 58, 59, 60, 61, 62, 63, 64, 65, 66, 67, 68, 69, 70, 71, 72, 73, 74, 75] A t).eval (.tmp 54) = .bool true := (fr_eval _ _ _ 54 rfl (by rw [asz]; decide)).trans (hp 3 (pre_mem (by kernel_rfl)))
          refine op_run_g (v := .int .i64 ro) (w' := wx) rfl (wanted_true rfl rfl e54) ?_ ?_
          · clear hp hd; have ec : ∀ v, (fr [51, 52, 53, 54, 55, 56, 57, 58, 59, 60, 61, 62, 63, 64, 65, 66, 67, 68, 69, 70, 71, 72, 73, 74, 75] A t).eval (.const v) = v := fun _ => rfl; generalize (fr [51, 52, 53, 54, 55, 56, 57, 58, 59, 60, 61, 62, 63, 64, 65, 66, 67, 68, 69, 70, 71, 72, 73, 74, 75] A t).eval = ev at ec e8 e54 ⊢; go_simp
          · exact ⟨_, 0, rfl, hB, Below.refl _ _, rfl, .inl rfl⟩
        | 7, _ =>
          have e9 : (fr [51, 52, 53, 54, 55, 56, 57, 58, 59, 60, 61, 62, 63, 64, 65, 66, 67, 68, 69, 70, 71, 72, 73, 74, 75] A t).eval (.tmp 9) = .pointer (some ⟨gf, 0, none⟩) := (fr_eval_old _ _ _ 9 rfl).trans a9'
          have e54 : (fr [51, 52, 53, 54, 55, 56, 57, 58, 59, 60, 61, 62, 63, 64, 65, 66, 67, 68, 69, 70, 71, 72, 73, 74, 75] A t).eval (.tmp 54) = .bool true := (fr_eval _ _ _ 54 rfl (by rw [asz]; decide)).trans (hp 3 (pre_mem (by kernel_rfl)))
          refine op_run_g (v := .pointer (some ⟨gf, 3, none⟩)) (w' := wx) rfl (wanted_true rfl rfl e54) ?_ ?_
          · clear hp hd; have ec : ∀ v, (fr [51, 52, 53, 54, 55, 56, 57, 58, 59, 60, 61, 62, 63, 64, 65, 66, 67, 68, 69, 70, 71, 72, 73, 74, 75] A t).eval (.const v) = v := fun _ => rfl; generalize (fr [51, 52, 53, 54, 55, 56, 57, 58, 59, 60, 61, 62, 63, 64, 65, 66, 67, 68, 69, 70, 71, 72, 73, 74, 75] A t).eval = ev at ec e9 e54 ⊢; go_simp
          · exact ⟨_, 0, rfl, hB, Below.refl _ _, rfl, .inl rfl⟩
        | 8, _ =>
          have e58 : (fr [51, 52, 53, 54, 55, 56, 57, 58, 59, 60, 61, 62, 63, 64, 65, 66, 67, 68, 69, 70, 71, 72, 73, 74, 75] A t).eval (.tmp 58) = .pointer (some ⟨gf, 3, none⟩) := (fr_eval _ _ _ 58 rfl (by rw [asz]; decide)).trans (hp 7 (pre_mem (by kernel_rfl)))
          have e54 : (fr [51, 52, 53, 54, 55, 56, 57, 58, 59, 60, 61, 62, 63, 64, 65, 66, 67, 68, 69, 70, 71, 72, 73, 74, 75] A t).eval (.tmp 54) = .bool true := (fr_eval _ _ _ 54 rfl (by rw [asz]; decide)).trans (hp 3 (pre_mem (by kernel_rfl)))
          have hc0 := (hKF wx hB).cell 0 rfl
          have hc1 := (hKF wx hB).cell 1 rfl
          have hc2 := (hKF wx hB).cell 2 rfl
          have hc3 := (hKF wx hB).cell 3 rfl
          have hc4 := (hKF wx hB).cell 4 rfl
          have hc5 := (hKF wx hB).cell 5 rfl
          have hc6 := (hKF wx hB).cell 6 rfl
          have hc7 := (hKF wx hB).cell 7 rfl
          have hc8 := (hKF wx hB).cell 8 rfl
          have hc9 := (hKF wx hB).cell 9 rfl
          have hc10 := (hKF wx hB).cell 10 rfl
          refine op_run_g (v := .slice SF.sn.a SF.sn.n SF.sn.c) (w' := wx) rfl (wanted_true rfl rfl e54) ?_ ?_
          · clear hp hd; have ec : ∀ v, (fr [51, 52, 53, 54, 55, 56, 57, 58, 59, 60, 61, 62, 63, 64, 65, 66, 67, 68, 69, 70, 71, 72, 73, 74, 75] A t).eval (.const v) = v := fun _ => rfl; generalize (fr [51, 52, 53, 54, 55, 56, 57, 58, 59, 60, 61, 62, 63, 64, 65, 66, 67, 68, 69, 70, 71, 72, 73, 74, 75] A t).eval = ev at ec e58 e54 ⊢; go_simp
          · exact ⟨_, 0, rfl, hB, Below.refl _ _, rfl, .inl rfl⟩
        | 9, _ =>
          have e9 : (fr [51, 52, 53, 54, 55, 56, 57, 58, 59, 60, 61, 62, 63, 64, 65, 66, 67, 68, 69, 70, 71, 72, 73, 74, 75] A t).eval (.tmp 9) = .pointer (some ⟨gf, 0, none⟩) := (fr_eval_old _ _ _ 9 rfl).trans a9'
          have e54 : (fr [51, 52, 53, 54, 55, 56, 57, 58, 59, 60, 61, 62, 63, 64, 65, 66, 67, 68, 69, 70, 71, 72, 73, 74, 75] A t).eval (.tmp 54) = .bool true := (fr_eval _ _ _ 54 rfl (by rw [asz]; decide)).trans (hp 3 (pre_mem (by kernel_rfl)))
          refine op_run_g (v := .pointer (some ⟨gf, 7, none⟩)) (w' := wx) rfl (wanted_true rfl rfl e54) ?_ ?_
          · clear hp hd; have ec : ∀ v, (fr [51, 52, 53, 54, 55, 56, 57, 58, 59, 60, 61, 62, 63, 64, 65, 66, 67, 68, 69, 70, 71, 72, 73, 74, 75] A t).eval (.const v) = v := fun _ => rfl; generalize (fr [51, 52, 53, 54, 55, 56, 57, 58, 59, 60, 61, 62, 63, 64, 65, 66, 67, 68, 69, 70, 71, 72, 73, 74, 75] A t).eval = ev at ec e9 e54 ⊢; go_simp
          · exact ⟨_, 0, rfl, hB, Below.refl _ _, rfl, .inl rfl⟩
        | 10, _ =>
          have e60 : (fr [51, 52, 53, 54, 55, 56, 57, 58, 59, 60, 61, 62, 63, 64, 65, 66, 67, 68, 69, 70, 71, 72, 73, 74, 75] A t).eval (.tmp 60) = .pointer (some ⟨gf, 7, none⟩) := (fr_eval _ _ _ 60 rfl (by rw [asz]; decide)).trans (hp 9 (pre_mem (by kernel_rfl)))
          have e54 : (fr [51, 52, 53, 54, 55, 56, 57, 58, 59, 60, 61, 62, 63, 64, 65, 66, 67, 68, 69, 70, 71, 72, 73, 74, 75] A t).eval (.tmp 54) = .bool true := (fr_eval _ _ _ 54 rfl (by rw [asz]; decide)).trans (hp 3 (pre_mem (by kernel_rfl)))
          have hc0 := (hKF wx hB).cell 0 rfl
          have hc1 := (hKF wx hB).cell 1 rfl
          have hc2 := (hKF wx hB).cell 2 rfl
          have hc3 := (hKF wx hB).cell 3 rfl
          have hc4 := (hKF wx hB).cell 4 rfl
          have hc5 := (hKF wx hB).cell 5 rfl
          have hc6 := (hKF wx hB).cell 6 rfl
          have hc7 := (hKF wx hB).cell 7 rfl
          have hc8 := (hKF wx hB).cell 8 rfl
          have hc9 := (hKF wx hB).cell 9 rfl
          have hc10 := (hKF wx hB).cell 10 rfl
          refine op_run_g (v := .int .i64 DF.epoch) (w' := wx) rfl (wanted_true rfl rfl e54) ?_ ?_
          · clear hp hd; have ec : ∀ v, (fr [51, 52, 53, 54, 55, 56, 57, 58, 59, 60, 61, 62, 63, 64, 65, 66, 67, 68, 69, 70, 71, 72, 73, 74, 75] A t).eval (.const v) = v := fun _ => rfl; generalize (fr [51, 52, 53, 54, 55, 56, 57, 58, 59, 60, 61, 62, 63, 64, 65, 66, 67, 68, 69, 70, 71, 72, 73, 74, 75] A t).eval = ev at ec e60 e54 ⊢; go_simp
          · exact ⟨_, 0, rfl, hB, Below.refl _ _, rfl, .inl rfl⟩
        | 11, _ =>
          have e9 : (fr [51, 52, 53, 54, 55, 56, 57, 58, 59, 60, 61, 62, 63, 64, 65, 66, 67, 68, 69, 70, 71, 72, 73, 74, 75] A t).eval (.tmp 9) = .pointer (some ⟨gf, 0, none⟩) := (fr_eval_old _ _ _ 9 rfl).trans a9'
          have e54 : (fr [51, 52, 53, 54, 55, 56, 57, 58, 59, 60, 61, 62, 63, 64, 65, 66, 67, 68, 69, 70, 71, 72, 73, 74, 75] A t).eval (.tmp 54) = .bool true := (fr_eval _ _ _ 54 rfl (by rw [asz]; decide)).trans (hp 3 (pre_mem (by kernel_rfl)))
          refine op_run_g (v := .pointer (some ⟨gf, 8, none⟩)) (w' := wx) rfl (wanted_true rfl rfl e54) ?_ ?_
          · clear hp hd; have ec : ∀ v, (fr [51, 52, 53, 54, 55, 56, 57, 58, 59, 60, 61, 62, 63, 64, 65, 66, 67, 68, 69, 70, 71, 72, 73, 74, 75] A t).eval (.const v) = v := fun _ => rfl; generalize (fr [51, 52, 53, 54, 55, 56, 57, 58, 59, 60, 61, 62, 63, 64, 65, 66, 67, 68, 69, 70, 71, 72, 73, 74, 75] A t).eval = ev at ec e9 e54 ⊢; go_simp
          · exact ⟨_, 0, rfl, hB, Below.refl _ _, rfl, .inl rfl⟩
        | 12, _ =>
          have e62 : (fr [51, 52, 53, 54, 55, 56, 57, 58, 59, 60, 61, 62, 63, 64, 65, 66, 67, 68, 69, 70, 71, 72, 73, 74, 75] A t).eval (.tmp 62) = .pointer (some ⟨gf, 8, none⟩) := (fr_eval _ _ _ 62 rfl (by rw [asz]; decide)).trans (hp 11 (pre_mem (by kernel_rfl)))
          have e54 : (fr [51, 52, 53, 54, 55, 56, 57, 58, 59, 60, 61, 62, 63, 64, 65, 66, 67, 68, 69, 70, 71, 72, 73, 74, 75] A t).eval (.tmp 54) = .bool true := (fr_eval _ _ _ 54 rfl (by rw [asz]; decide)).trans (hp 3 (pre_mem (by kernel_rfl)))
          have hc0 := (hKF wx hB).cell 0 rfl
          have hc1 := (hKF wx hB).cell 1 rfl
          have hc2 := (hKF wx hB).cell 2 rfl
          have hc3 := (hKF wx hB).cell 3 rfl
          have hc4 := (hKF wx hB).cell 4 rfl
          have hc5 := (hKF wx hB).cell 5 rfl
          have hc6 := (hKF wx hB).cell 6 rfl
          have hc7 := (hKF wx hB).cell 7 rfl
          have hc8 := (hKF wx hB).cell 8 rfl
          have hc9 := (hKF wx hB).cell 9 rfl
          have hc10 := (hKF wx hB).cell 10 rfl
          refine op_run_g (v := .int .i64 DF.seq) (w' := wx) rfl (wanted_true rfl rfl e54) ?_ ?_
          · clear hp hd; have ec : ∀ v, (fr [51, 52, 53, 54, 55, 56, 57, 58, 59, 60, 61, 62, 63, 64, 65, 66, 67, 68, 69, 70, 71, 72, 73, 74, 75] A t).eval (.const v) = v := fun _ => rfl; generalize (fr [51, 52, 53, 54, 55, 56, 57, 58, 59, 60, 61, 62, 63, 64, 65, 66, 67, 68, 69, 70, 71, 72, 73, 74, 75] A t).eval = ev at ec e62 e54 ⊢; go_simp
          · exact ⟨_, 0, rfl, hB, Below.refl _ _, rfl, .inl rfl⟩
        | 13, _ =>
          have e57 : (fr [51, 52, 53, 54, 55, 56, 57, 58, 59, 60, 61, 62, 63, 64, 65, 66, 67, 68, 69, 70, 71, 72, 73, 74, 75] A t).eval (.tmp 57) = .int .i64 ro := (fr_eval _ _ _ 57 rfl (by rw [asz]; decide)).trans (hp 6 (pre_mem (by kernel_rfl)))
          have e59 : (fr [51, 52, 53, 54, 55, 56, 57, 58, 59, 60, 61, 62, 63, 64, 65, 66, 67, 68, 69, 70, 71, 72, 73, 74, 75] A t).eval (.tmp 59) = .slice SF.sn.a SF.sn.n SF.sn.c := (fr_eval _ _ _ 59 rfl (by rw [asz]; decide)).trans (hp 8 (pre_mem (by kernel_rfl)))
          have e61 : (fr [51, 52, 53, 54, 55, 56, 57, 58, 59, 60, 61, 62, 63, 64, 65, 66, 67, 68, 69, 70, 71, 72, 73, 74, 75] A t).eval (.tmp 61) = .int .i64 DF.epoch := (fr_eval _ _ _ 61 rfl (by rw [asz]; decide)).trans (hp 10 (pre_mem (by kernel_rfl)))
          have e63 : (fr [51, 52, 53, 54, 55, 56, 57, 58, 59, 60, 61, 62, 63, 64, 65, 66, 67, 68, 69, 70, 71, 72, 73, 74, 75] A t).eval (.tmp 63) = .int .i64 DF.seq := (fr_eval _ _ _ 63 rfl (by rw [asz]; decide)).trans (hp 12 (pre_mem (by kernel_rfl)))
          have e54 : (fr [51, 52, 53, 54, 55, 56, 57, 58, 59, 60, 61, 62, 63, 64, 65, 66, 67, 68, 69, 70, 71, 72, 73, 74, 75] A t).eval (.tmp 54) = .bool true := (fr_eval _ _ _ 54 rfl (by rw [asz]; decide)).trans (hp 3 (pre_mem (by kernel_rfl)))
          refine op_call_g (f := 20) (args := #[.int .i64 ro, .slice SF.sn.a SF.sn.n SF.sn.c, .int .i64 DF.epoch, .int .i64 DF.seq]) rfl (wanted_true rfl rfl e54) ?_ (headN ro SF.sn DF.sn DF.epoch DF.seq wx (hOF wx hB).sn) ?_
          · have ef : (fr [51, 52, 53, 54, 55, 56, 57, 58, 59, 60, 61, 62, 63, 64, 65, 66, 67, 68, 69, 70, 71, 72, 73, 74, 75] A t).eval (.func 20) = .func (.func 20) #[] #[] := rfl; clear hp hd; have ec : ∀ v, (fr [51, 52, 53, 54, 55, 56, 57, 58, 59, 60, 61, 62, 63, 64, 65, 66, 67, 68, 69, 70, 71, 72, 73, 74, 75] A t).eval (.const v) = v := fun _ => rfl; generalize (fr [51, 52, 53, 54, 55, 56, 57, 58, 59, 60, 61, 62, 63, 64, 65, 66, 67, 68, 69, 70, 71, 72, 73, 74, 75] A t).eval = ev at ec e57 e59 e61 e63 e54 ef ⊢; go_simp
          · rintro e wy ⟨s2, rfl, o2, b1⟩
            exact ⟨_, rfl, _, 0, rfl, hB.trans (b1.mono hB.size), b1, ⟨s2, rfl, o2.rd⟩, .inl rfl⟩
        | 14, _ =>
          have e56 : (fr [51, 52, 53, 54, 55, 56, 57, 58, 59, 60, 61, 62, 63, 64, 65, 66, 67, 68, 69, 70, 71, 72, 73, 74, 75] A t).eval (.tmp 56) = .slice (some ⟨gi, 1, none⟩) (mi - 1) (ci - 1) := (fr_eval _ _ _ 56 rfl (by rw [asz]; decide)).trans (hp 5 (pre_mem (by kernel_rfl)))
          obtain ⟨s213, hv13, q13_0⟩ := hp 13 (pre_mem (by kernel_rfl))
          have e64 : (fr [51, 52, 53, 54, 55, 56, 57, 58, 59, 60, 61, 62, 63, 64, 65, 66, 67, 68, 69, 70, 71, 72, 73, 74, 75] A t).eval (.tmp 64) = .slice s213.a s213.n s213.c := (fr_eval _ _ _ 64 rfl (by rw [asz]; decide)).trans hv13
          have e54 : (fr [51, 52, 53, 54, 55, 56, 57, 58, 59, 60, 61, 62, 63, 64, 65, 66, 67, 68, 69, 70, 71, 72, 73, 74, 75] A t).eval (.tmp 54) = .bool true := (fr_eval _ _ _ 54 rfl (by rw [asz]; decide)).trans (hp 3 (pre_mem (by kernel_rfl)))
          refine op_call_g (f := 26) (args := #[.slice (some ⟨gi, 1, none⟩) (mi - 1) (ci - 1), .slice s213.a s213.n s213.c]) rfl (wanted_true rfl rfl e54) ?_ (startsN gi 1 (mi - 1) (ci - 1) s213 ((tagIn ro DF).drop 1) (headL ro DF.sn DF.epoch DF.seq) wx (cut_from (k := 1) (hOI wx hB) (by have := HMI.out; omega)) q13_0 (by rw [q13_0.len]; exact tag_starts HCT.out) (by have q1 := q13_0.len; have := HMI.out; have := headL_le ro DF.sn DF.epoch DF.seq; omega)) ?_
          · have ef : (fr [51, 52, 53, 54, 55, 56, 57, 58, 59, 60, 61, 62, 63, 64, 65, 66, 67, 68, 69, 70, 71, 72, 73, 74, 75] A t).eval (.func 26) = .func (.func 26) #[] #[] := rfl; clear hp hd q13_0; have ec : ∀ v, (fr [51, 52, 53, 54, 55, 56, 57, 58, 59, 60, 61, 62, 63, 64, 65, 66, 67, 68, 69, 70, 71, 72, 73, 74, 75] A t).eval (.const v) = v := fun _ => rfl; generalize (fr [51, 52, 53, 54, 55, 56, 57, 58, 59, 60, 61, 62, 63, 64, 65, 66, 67, 68, 69, 70, 71, 72, 73, 74, 75] A t).eval = ev at ec e56 e64 e54 ef ⊢; go_simp
          · rintro e wy ⟨rfl, b1⟩
            exact ⟨_, rfl, _, 0, rfl, hB.trans (b1.mono hB.size), b1, rfl, .inl rfl⟩
        | 15, _ =>
          have hv14 := hp 14 (pre_mem (by kernel_rfl))
          have e65 : (fr [51, 52, 53, 54, 55, 56, 57, 58, 59, 60, 61, 62, 63, 64, 65, 66, 67, 68, 69, 70, 71, 72, 73, 74, 75] A t).eval (.tmp 65) = .bool true := (fr_eval _ _ _ 65 rfl (by rw [asz]; decide)).trans hv14
          have e54 : (fr [51, 52, 53, 54, 55, 56, 57, 58, 59, 60, 61, 62, 63, 64, 65, 66, 67, 68, 69, 70, 71, 72, 73, 74, 75] A t).eval (.tmp 54) = .bool true := (fr_eval _ _ _ 54 rfl (by rw [asz]; decide)).trans (hp 3 (pre_mem (by kernel_rfl)))
          refine op_run_g (v := .bool false) (w' := wx) rfl (wanted_true rfl rfl e54) ?_ ?_
          · clear hp hd; have ec : ∀ v, (fr [51, 52, 53, 54, 55, 56, 57, 58, 59, 60, 61, 62, 63, 64, 65, 66, 67, 68, 69, 70, 71, 72, 73, 74, 75] A t).eval (.const v) = v := fun _ => rfl; generalize (fr [51, 52, 53, 54, 55, 56, 57, 58, 59, 60, 61, 62, 63, 64, 65, 66, 67, 68, 69, 70, 71, 72, 73, 74, 75] A t).eval = ev at ec e65 e54 ⊢; go_simp
          · exact ⟨_, 0, rfl, hB, Below.refl _ _, rfl, .inl rfl⟩
        | 16, _ =>
          have e66 : (fr [51, 52, 53, 54, 55, 56, 57, 58, 59, 60, 61, 62, 63, 64, 65, 66, 67, 68, 69, 70, 71, 72, 73, 74, 75] A t).eval (.tmp 66) = .bool false := (fr_eval _ _ _ 66 rfl (by rw [asz]; decide)).trans (hp 15 (pre_mem (by kernel_rfl)))
          have e54 : (fr [51, 52, 53, 54, 55, 56, 57, 58, 59, 60, 61, 62, 63, 64, 65, 66, 67, 68, 69, 70, 71, 72, 73, 74, 75] A t).eval (.tmp 54) = .bool true := (fr_eval _ _ _ 54 rfl (by rw [asz]; decide)).trans (hp 3 (pre_mem (by kernel_rfl)))
          refine op_run_g (v := .bool false) (w' := wx) rfl (wanted_true rfl rfl e54) ?_ ?_
          · clear hp hd; have ec : ∀ v, (fr [51, 52, 53, 54, 55, 56, 57, 58, 59, 60, 61, 62, 63, 64, 65, 66, 67, 68, 69, 70, 71, 72, 73, 74, 75] A t).eval (.const v) = v := fun _ => rfl; generalize (fr [51, 52, 53, 54, 55, 56, 57, 58, 59, 60, 61, 62, 63, 64, 65, 66, 67, 68, 69, 70, 71, 72, 73, 74, 75] A t).eval = ev at ec e66 e54 ⊢; go_simp
          · exact ⟨_, 0, rfl, hB, Below.refl _ _, rfl, .inl rfl⟩
        | 17, _ =>
          have e10 : (fr [51, 52, 53, 54, 55, 56, 57, 58, 59, 60, 61, 62, 63, 64, 65, 66, 67, 68, 69, 70, 71, 72, 73, 74, 75] A t).eval (.tmp 10) = .slice (some ⟨gi, 0, none⟩) mi ci := (fr_eval_old _ _ _ 10 rfl).trans a10'
          have e67 : (fr [51, 52, 53, 54, 55, 56, 57, 58, 59, 60, 61, 62, 63, 64, 65, 66, 67, 68, 69, 70, 71, 72, 73, 74, 75] A t).eval (.tmp 67) = .bool false := (fr_eval _ _ _ 67 rfl (by rw [asz]; decide)).trans (hp 16 (pre_mem (by kernel_rfl)))
          refine op_run_g (v := .slice (some ⟨gi, 0, none⟩) mi ci) (w' := wx) rfl (wanted_true rfl rfl e67) ?_ ?_
          · clear hp hd; have ec : ∀ v, (fr [51, 52, 53, 54, 55, 56, 57, 58, 59, 60, 61, 62, 63, 64, 65, 66, 67, 68, 69, 70, 71, 72, 73, 74, 75] A t).eval (.const v) = v := fun _ => rfl; generalize (fr [51, 52, 53, 54, 55, 56, 57, 58, 59, 60, 61, 62, 63, 64, 65, 66, 67, 68, 69, 70, 71, 72, 73, 74, 75] A t).eval = ev at ec e10 e67 ⊢; go_simp
          · exact ⟨_, 0, rfl, hB, Below.refl _ _, rfl, .inl rfl⟩
        | 18, _ =>
          have e68 : (fr [51, 52, 53, 54, 55, 56, 57, 58, 59, 60, 61, 62, 63, 64, 65, 66, 67, 68, 69, 70, 71, 72, 73, 74, 75] A t).eval (.tmp 68) = .slice (some ⟨gi, 0, none⟩) mi ci := (fr_eval _ _ _ 68 rfl (by rw [asz]; decide)).trans (hp 17 (pre_mem (by kernel_rfl)))
          have e67 : (fr [51, 52, 53, 54, 55, 56, 57, 58, 59, 60, 61, 62, 63, 64, 65, 66, 67, 68, 69, 70, 71, 72, 73, 74, 75] A t).eval (.tmp 67) = .bool false := (fr_eval _ _ _ 67 rfl (by rw [asz]; decide)).trans (hp 16 (pre_mem (by kernel_rfl)))
          refine op_run_g (v := .int .i64 (mi : Int)) (w' := wx) rfl (wanted_true rfl rfl e67) ?_ ?_
          · clear hp hd; have ec : ∀ v, (fr [51, 52, 53, 54, 55, 56, 57, 58, 59, 60, 61, 62, 63, 64, 65, 66, 67, 68, 69, 70, 71, 72, 73, 74, 75] A t).eval (.const v) = v := fun _ => rfl; generalize (fr [51, 52, 53, 54, 55, 56, 57, 58, 59, 60, 61, 62, 63, 64, 65, 66, 67, 68, 69, 70, 71, 72, 73, 74, 75] A t).eval = ev at ec e68 e67 ⊢; go_simp
          · exact ⟨_, 0, rfl, hB, Below.refl _ _, rfl, .inl rfl⟩
        | 19, _ =>
          have e9 : (fr [51, 52, 53, 54, 55, 56, 57, 58, 59, 60, 61, 62, 63, 64, 65, 66, 67, 68, 69, 70, 71, 72, 73, 74, 75] A t).eval (.tmp 9) = .pointer (some ⟨gf, 0, none⟩) := (fr_eval_old _ _ _ 9 rfl).trans a9'
          have e67 : (fr [51, 52, 53, 54, 55, 56, 57, 58, 59, 60, 61, 62, 63, 64, 65, 66, 67, 68, 69, 70, 71, 72, 73, 74, 75] A t).eval (.tmp 67) = .bool false := (fr_eval _ _ _ 67 rfl (by rw [asz]; decide)).trans (hp 16 (pre_mem (by kernel_rfl)))
          refine op_run_g (v := .pointer (some ⟨gf, 9, none⟩)) (w' := wx) rfl (wanted_true rfl rfl e67) ?_ ?_
          · clear hp hd; have ec : ∀ v, (fr [51, 52, 53, 54, 55, 56, 57, 58, 59, 60, 61, 62, 63, 64, 65, 66, 67, 68, 69, 70, 71, 72, 73, 74, 75] A t).eval (.const v) = v := fun _ => rfl; generalize (fr [51, 52, 53, 54, 55, 56, 57, 58, 59, 60, 61, 62, 63, 64, 65, 66, 67, 68, 69, 70, 71, 72, 73, 74, 75] A t).eval = ev at ec e9 e67 ⊢; go_simp
          · exact ⟨_, 0, rfl, hB, Below.refl _ _, rfl, .inl rfl⟩
        | 20, _ =>
          have e70 : (fr [51, 52, 53, 54, 55, 56, 57, 58, 59, 60, 61, 62, 63, 64, 65, 66, 67, 68, 69, 70, 71, 72, 73, 74, 75] A t).eval (.tmp 70) = .pointer (some ⟨gf, 9, none⟩) := (fr_eval _ _ _ 70 rfl (by rw [asz]; decide)).trans (hp 19 (pre_mem (by kernel_rfl)))
          have e67 : (fr [51, 52, 53, 54, 55, 56, 57, 58, 59, 60, 61, 62, 63, 64, 65, 66, 67, 68, 69, 70, 71, 72, 73, 74, 75] A t).eval (.tmp 67) = .bool false := (fr_eval _ _ _ 67 rfl (by rw [asz]; decide)).trans (hp 16 (pre_mem (by kernel_rfl)))
          have hc0 := (hKF wx hB).cell 0 rfl
          have hc1 := (hKF wx hB).cell 1 rfl
          have hc2 := (hKF wx hB).cell 2 rfl
          have hc3 := (hKF wx hB).cell 3 rfl
          have hc4 := (hKF wx hB).cell 4 rfl
          have hc5 := (hKF wx hB).cell 5 rfl
          have hc6 := (hKF wx hB).cell 6 rfl
          have hc7 := (hKF wx hB).cell 7 rfl
          have hc8 := (hKF wx hB).cell 8 rfl
          have hc9 := (hKF wx hB).cell 9 rfl
          have hc10 := (hKF wx hB).cell 10 rfl
          refine op_run_g (v := .slice SF.body.a SF.body.n SF.body.c) (w' := wx) rfl (wanted_true rfl rfl e67) ?_ ?_
          · clear hp hd; have ec : ∀ v, (fr [51, 52, 53, 54, 55, 56, 57, 58, 59, 60, 61, 62, 63, 64, 65, 66, 67, 68, 69, 70, 71, 72, 73, 74, 75] A t).eval (.const v) = v := fun _ => rfl; generalize (fr [51, 52, 53, 54, 55, 56, 57, 58, 59, 60, 61, 62, 63, 64, 65, 66, 67, 68, 69, 70, 71, 72, 73, 74, 75] A t).eval = ev at ec e70 e67 ⊢; go_simp
          · exact ⟨_, 0, rfl, hB, Below.refl _ _, rfl, .inl rfl⟩
        | 21, _ =>
          have e71 : (fr [51, 52, 53, 54, 55, 56, 57, 58, 59, 60, 61, 62, 63, 64, 65, 66, 67, 68, 69, 70, 71, 72, 73, 74, 75] A t).eval (.tmp 71) = .slice SF.body.a SF.body.n SF.body.c := (fr_eval _ _ _ 71 rfl (by rw [asz]; decide)).trans (hp 20 (pre_mem (by kernel_rfl)))
          have e67 : (fr [51, 52, 53, 54, 55, 56, 57, 58, 59, 60, 61, 62, 63, 64, 65, 66, 67, 68, 69, 70, 71, 72, 73, 74, 75] A t).eval (.tmp 67) = .bool false := (fr_eval _ _ _ 67 rfl (by rw [asz]; decide)).trans (hp 16 (pre_mem (by kernel_rfl)))
          refine op_run_g (v := .int .i64 (SF.body.n : Int)) (w' := wx) rfl (wanted_true rfl rfl e67) ?_ ?_
          · clear hp hd; have ec : ∀ v, (fr [51, 52, 53, 54, 55, 56, 57, 58, 59, 60, 61, 62, 63, 64, 65, 66, 67, 68, 69, 70, 71, 72, 73, 74, 75] A t).eval (.const v) = v := fun _ => rfl; generalize (fr [51, 52, 53, 54, 55, 56, 57, 58, 59, 60, 61, 62, 63, 64, 65, 66, 67, 68, 69, 70, 71, 72, 73, 74, 75] A t).eval = ev at ec e71 e67 ⊢; go_simp
          · exact ⟨_, 0, rfl, hB, Below.refl _ _, rfl, .inl rfl⟩
        | 22, _ =>
          have e72 : (fr [51, 52, 53, 54, 55, 56, 57, 58, 59, 60, 61, 62, 63, 64, 65, 66, 67, 68, 69, 70, 71, 72, 73, 74, 75] A t).eval (.tmp 72) = .int .i64 (SF.body.n : Int) := (fr_eval _ _ _ 72 rfl (by rw [asz]; decide)).trans (hp 21 (pre_mem (by kernel_rfl)))
          have e67 : (fr [51, 52, 53, 54, 55, 56, 57, 58, 59, 60, 61, 62, 63, 64, 65, 66, 67, 68, 69, 70, 71, 72, 73, 74, 75] A t).eval (.tmp 67) = .bool false := (fr_eval _ _ _ 67 rfl (by rw [asz]; decide)).trans (hp 16 (pre_mem (by kernel_rfl)))
          have hh := hbn
          refine op_run_g (v := .int .i64 (25 + (SF.body.n : Int))) (w' := wx) rfl (wanted_true rfl rfl e67) ?_ ?_
          · clear hp hd; have ec : ∀ v, (fr [51, 52, 53, 54, 55, 56, 57, 58, 59, 60, 61, 62, 63, 64, 65, 66, 67, 68, 69, 70, 71, 72, 73, 74, 75] A t).eval (.const v) = v := fun _ => rfl; generalize (fr [51, 52, 53, 54, 55, 56, 57, 58, 59, 60, 61, 62, 63, 64, 65, 66, 67, 68, 69, 70, 71, 72, 73, 74, 75] A t).eval = ev at ec e72 e67 ⊢; go_simp
          · exact ⟨_, 0, rfl, hB, Below.refl _ _, rfl, .inl rfl⟩
        | 23, _ =>
          have e69 : (fr [51, 52, 53, 54, 55, 56, 57, 58, 59, 60, 61, 62, 63, 64, 65, 66, 67, 68, 69, 70, 71, 72, 73, 74, 75] A t).eval (.tmp 69) = .int .i64 (mi : Int) := (fr_eval _ _ _ 69 rfl (by rw [asz]; decide)).trans (hp 18 (pre_mem (by kernel_rfl)))
          have e73 : (fr [51, 52, 53, 54, 55, 56, 57, 58, 59, 60, 61, 62, 63, 64, 65, 66, 67, 68, 69, 70, 71, 72, 73, 74, 75] A t).eval (.tmp 73) = .int .i64 (25 + (SF.body.n : Int)) := (fr_eval _ _ _ 73 rfl (by rw [asz]; decide)).trans (hp 22 (pre_mem (by kernel_rfl)))
          have e67 : (fr [51, 52, 53, 54, 55, 56, 57, 58, 59, 60, 61, 62, 63, 64, 65, 66, 67, 68, 69, 70, 71, 72, 73, 74, 75] A t).eval (.tmp 67) = .bool false := (fr_eval _ _ _ 67 rfl (by rw [asz]; decide)).trans (hp 16 (pre_mem (by kernel_rfl)))
          have hh := hne2
          refine op_run_g (v := .bool false) (w' := wx) rfl (wanted_true rfl rfl e67) ?_ ?_
          · clear hp hd; have ec : ∀ v, (fr [51, 52, 53, 54, 55, 56, 57, 58, 59, 60, 61, 62, 63, 64, 65, 66, 67, 68, 69, 70, 71, 72, 73, 74, 75] A t).eval (.const v) = v := fun _ => rfl; generalize (fr [51, 52, 53, 54, 55, 56, 57, 58, 59, 60, 61, 62, 63, 64, 65, 66, 67, 68, 69, 70, 71, 72, 73, 74, 75] A t).eval = ev at ec e69 e73 e67 ⊢; go_simp
          · exact ⟨_, 0, rfl, hB, Below.refl _ _, rfl, .inl rfl⟩
        | 24, _ =>
          have e67 : (fr [51, 52, 53, 54, 55, 56, 57, 58, 59, 60, 61, 62, 63, 64, 65, 66, 67, 68, 69, 70, 71, 72, 73, 74, 75] A t).eval (.tmp 67) = .bool false := (fr_eval _ _ _ 67 rfl (by rw [asz]; decide)).trans (hp 16 (pre_mem (by kernel_rfl)))
          have e74 : (fr [51, 52, 53, 54, 55, 56, 57, 58, 59, 60, 61, 62, 63, 64, 65, 66, 67, 68, 69, 70, 71, 72, 73, 74, 75] A t).eval (.tmp 74) = .bool false := (fr_eval _ _ _ 74 rfl (by rw [asz]; decide)).trans (hp 23 (pre_mem (by kernel_rfl)))
          have e54 : (fr [51, 52, 53, 54, 55, 56, 57, 58, 59, 60, 61, 62, 63, 64, 65, 66, 67, 68, 69, 70, 71, 72, 73, 74, 75] A t).eval (.tmp 54) = .bool true := (fr_eval _ _ _ 54 rfl (by rw [asz]; decide)).trans (hp 3 (pre_mem (by kernel_rfl)))
          refine op_run_g (v := .bool false) (w' := wx) rfl (wanted_true rfl rfl e54) ?_ ?_
          · clear hp hd; have ec : ∀ v, (fr [51, 52, 53, 54, 55, 56, 57, 58, 59, 60, 61, 62, 63, 64, 65, 66, 67, 68, 69, 70, 71, 72, 73, 74, 75] A t).eval (.const v) = v := fun _ => rfl; generalize (fr [51, 52, 53, 54, 55, 56, 57, 58, 59, 60, 61, 62, 63, 64, 65, 66, 67, 68, 69, 70, 71, 72, 73, 74, 75] A t).eval = ev at ec e67 e74 e54 ⊢; go_simp
          · exact ⟨_, 0, rfl, hB, Below.refl _ _, rfl, .inl rfl⟩
        | n + 25, hi => exact absurd hi (by omega)
      · intro t ρ wx hB hF hne
        have e54 : (fr [51, 52, 53, 54, 55, 56, 57, 58, 59, 60, 61, 62, 63, 64, 65, 66, 67, 68, 69, 70, 71, 72, 73, 74, 75] A t).eval (.tmp 54) = .bool true := (fr_eval _ _ _ 54 rfl (by rw [asz]; decide)).trans (hF 3 (by decide))
        have e75 : (fr [51, 52, 53, 54, 55, 56, 57, 58, 59, 60, 61, 62, 63, 64, 65, 66, 67, 68, 69, 70, 71, 72, 73, 74, 75] A t).eval (.tmp 75) = .bool false := (fr_eval _ _ _ 75 rfl (by rw [asz]; decide)).trans (hF 24 (by decide))
        clear hne
        refine op_wp rfl rfl ?_
        have ec : ∀ v, (fr [51, 52, 53, 54, 55, 56, 57, 58, 59, 60, 61, 62, 63, 64, 65, 66, 67, 68, 69, 70, 71, 72, 73, 74, 75] A t).eval (.const v) = v := fun _ => rfl
        generalize hE : (fr [51, 52, 53, 54, 55, 56, 57, 58, 59, 60, 61, 62, 63, 64, 65, 66, 67, 68, 69, 70, 71, 72, 73, 74, 75] A t).eval = ev at ec e54 e75
        unfold Oper.wp
        rw [hE]
        go_simp
        refine hMet _ _ (Met.intro (hRJ _ _ ⟨t 51, t 52, t 53, t 54, t 55, t 56, t 57, t 58, t 59, t 60, t 61, t 62, t 63, t 64, t 65, t 66, t 67, t 68, t 69, t 70, t 71, t 72, t 73, t 74, t 75, _, ⟨rfl, hB⟩, ?_⟩))
        rw [← hA]; rfl
    case rest =>
      obtain ⟨x8, hxc⟩ : ∃ z, z = wc := ⟨_, rfl⟩
      subst hxc
      obtain ⟨rfl, b⟩ := hcut
      have L8 : Hid (x7.heap.size ≤ x8.heap.size) := b.size
      have B8 : Hid (Below w.heap.size w x8) := B7.out.trans (b.mono B7.out.size)
      have OS8 : Hid (SRd x8 sn ls) := OS7.out.later b
      have Oh_8 : Hid (SOwn x8 x1.heap.size x2.heap.size ⟨some ⟨gh, 0, none⟩, mh, ch⟩ (headL role ls ep sq)) := Oh_7.out.later b
      have OF8 : Hid (FrRd x8 SF DF) := OF7.out.later b
      have KF8 : Hid (Blk x8 gf 39 [.int .i64 DF.kind, .int .i64 DF.id, .slice SF.cn.a SF.cn.n SF.cn.c, .slice SF.sn.a SF.sn.n SF.sn.c, .int .i64 DF.tick, .slice SF.cookie.a SF.cookie.n SF.cookie.c, .slice SF.proof.a SF.proof.n SF.proof.c, .int .i64 DF.epoch, .int .i64 DF.seq, .slice SF.body.a SF.body.n SF.body.c, .slice SF.tag.a SF.tag.n SF.tag.c]) := KF7.out.later b
      have Oi_8 : Hid (SOwn x8 x4.heap.size x5.heap.size ⟨some ⟨gi, 0, none⟩, mi, ci⟩ (tagIn ro DF)) := Oi_7.out.later b
      clear b B7 OS7 Oh_7 OF7 KF7 Oi_7
      cases h0 : headOk role ls.length ep sq with
      | false =>
        have hm0 : ((mh : Int) == 0) = true := by have q := (headL_nil role ls ep sq).2 h0; have := HHN.out; simp; omega
        have HSN : Hid (sn.n = ls.length) := OS8.out.len
        have hz : ((sn.n : Int) != 12) = true ∨ ((sn.n : Int) != 12) = false := by cases ((sn.n : Int) != 12) <;> simp
        by_cases qa0 : role < 0
        · go_wp2
          go_ret
          exact ⟨rfl, B8.out⟩
        by_cases qb1 : role > 1
        · go_wp2
          go_ret
          exact ⟨rfl, B8.out⟩
        rcases hz with hz | hz
        · go_wp2
          go_ret
          exact ⟨rfl, B8.out⟩
        by_cases qc0 : ep < 0
        · go_wp2
          go_ret
          exact ⟨rfl, B8.out⟩
        by_cases qc1 : ep > 4294967295
        · go_wp2
          go_ret
          exact ⟨rfl, B8.out⟩
        by_cases qc2 : sq < 0
        · go_wp2
          go_ret
          exact ⟨rfl, B8.out⟩
        by_cases qc3 : sq ≥ 281474976710656
        · go_wp2
          go_ret
          exact ⟨rfl, B8.out⟩
        exfalso
        have hs : (sn.n : Int) = 12 := by simpa using hz
        have := HSN.out
        rcases headNot h0 with h | h | h | h | h | h | h <;> omega
      | true =>
        have hm0 : ((mh : Int) == 0) = false := by have q := headL_len role ls ep sq h0; have := HHN.out; simp; omega
        have hm1 : ((mh : Int) == 23) = true := by have q := headL_len role ls ep sq h0; have := HHN.out; simp; omega
        have HOK : Hid (headOk role ls.length ep sq = true) := h0
        have hr1 : 0 ≤ role ∧ role ≤ 1 := ((headOk_iff _ _ _ _).1 h0).1
        go_wp2_with fail
        refine (atN a len cap l 2 x8 HL.out (HR.out.later B8.out (Nat.le_refl _)) HB.out hlen (by omega)).mono ?_
        rintro e y ⟨e2, rfl, ea, eb, rfl⟩
        have HE2 : Hid (0 ≤ e2 ∧ e2 ≤ 255) := ⟨ea, eb⟩
        clear ea eb
        go_wp2_with fail
        refine (atN a len cap l 3 x8 HL.out (HR.out.later B8.out (Nat.le_refl _)) HB.out hlen (by omega)).mono ?_
        rintro e y ⟨s2, rfl, ea, eb, rfl⟩
        have HS2 : Hid (0 ≤ s2 ∧ s2 ≤ 255) := ⟨ea, eb⟩
        clear ea eb
        go_wp2_with fail
        refine (SlI.implHeadOf (1 - role) sn ls ep sq x8 OS8.out).mono ?_
        rintro e x9 ⟨gk, mk, ck, rfl, em, kg, rr, b⟩
        have oN : SOwn x9 x8.heap.size x9.heap.size ⟨some ⟨gk, 0, none⟩, mk, ck⟩ (headL (1 - role) ls ep sq) := SOwn.row rr em (headL_bytes _ _ _ _ OS8.out.bytes) kg rr.lt
        clear em kg rr
        have L9 : Hid (x8.heap.size ≤ x9.heap.size) := b.size
        have B9 : Hid (Below w.heap.size w x9) := B8.out.trans (b.mono B8.out.size)
        have OS9 : Hid (SRd x9 sn ls) := OS8.out.later b
        have Oh_9 : Hid (SOwn x9 x1.heap.size x2.heap.size ⟨some ⟨gh, 0, none⟩, mh, ch⟩ (headL role ls ep sq)) := Oh_8.out.later b
        have OF9 : Hid (FrRd x9 SF DF) := OF8.out.later b
        have KF9 : Hid (Blk x9 gf 39 [.int .i64 DF.kind, .int .i64 DF.id, .slice SF.cn.a SF.cn.n SF.cn.c, .slice SF.sn.a SF.sn.n SF.sn.c, .int .i64 DF.tick, .slice SF.cookie.a SF.cookie.n SF.cookie.c, .slice SF.proof.a SF.proof.n SF.proof.c, .int .i64 DF.epoch, .int .i64 DF.seq, .slice SF.body.a SF.body.n SF.body.c, .slice SF.tag.a SF.tag.n SF.tag.c]) := KF8.out.later b
        have Oi_9 : Hid (SOwn x9 x4.heap.size x5.heap.size ⟨some ⟨gi, 0, none⟩, mi, ci⟩ (tagIn ro DF)) := Oi_8.out.later b
        clear b B8 OS8 Oh_8 OF8 KF8 Oi_8
        have Ok_9 : Hid (SOwn x9 x8.heap.size x9.heap.size ⟨some ⟨gk, 0, none⟩, mk, ck⟩ (headL (1 - role) ls ep sq)) := oN
        clear oN
        go_wp2_with fail
        refine (sameV ⟨some ⟨gh, 0, none⟩, mh, ch⟩ ⟨some ⟨gk, 0, none⟩, mk, ck⟩ (headL role ls ep sq) (headL (1 - role) ls ep sq) false x9 Oh_9.out.rd Ok_9.out.rd (no (head_turn HOK.out))).mono ?_
        rintro e y ⟨rfl, rfl⟩
        go_wp2_with fail
        refine (SlI.implHeadOf role sn ls e2 s2 x9 OS9.out).mono ?_
        rintro e x10 ⟨gm, mm, cm, rfl, em, kg, rr, b⟩
        have oN : SOwn x10 x9.heap.size x10.heap.size ⟨some ⟨gm, 0, none⟩, mm, cm⟩ (headL role ls e2 s2) := SOwn.row rr em (headL_bytes _ _ _ _ OS9.out.bytes) kg rr.lt
        clear em kg rr
        have L10 : Hid (x9.heap.size ≤ x10.heap.size) := b.size
        have B10 : Hid (Below w.heap.size w x10) := B9.out.trans (b.mono B9.out.size)
        have OS10 : Hid (SRd x10 sn ls) := OS9.out.later b
        have Oh_10 : Hid (SOwn x10 x1.heap.size x2.heap.size ⟨some ⟨gh, 0, none⟩, mh, ch⟩ (headL role ls ep sq)) := Oh_9.out.later b
        have OF10 : Hid (FrRd x10 SF DF) := OF9.out.later b
        have KF10 : Hid (Blk x10 gf 39 [.int .i64 DF.kind, .int .i64 DF.id, .slice SF.cn.a SF.cn.n SF.cn.c, .slice SF.sn.a SF.sn.n SF.sn.c, .int .i64 DF.tick, .slice SF.cookie.a SF.cookie.n SF.cookie.c, .slice SF.proof.a SF.proof.n SF.proof.c, .int .i64 DF.epoch, .int .i64 DF.seq, .slice SF.body.a SF.body.n SF.body.c, .slice SF.tag.a SF.tag.n SF.tag.c]) := KF9.out.later b
        have Oi_10 : Hid (SOwn x10 x4.heap.size x5.heap.size ⟨some ⟨gi, 0, none⟩, mi, ci⟩ (tagIn ro DF)) := Oi_9.out.later b
        have Ok_10 : Hid (SOwn x10 x8.heap.size x9.heap.size ⟨some ⟨gk, 0, none⟩, mk, ck⟩ (headL (1 - role) ls ep sq)) := Ok_9.out.later b
        clear b B9 OS9 Oh_9 OF9 KF9 Oi_9 Ok_9
        have Om_10 : Hid (SOwn x10 x9.heap.size x10.heap.size ⟨some ⟨gm, 0, none⟩, mm, cm⟩ (headL role ls e2 s2)) := oN
        clear oN
        cases q1 : (e2 == ep) with
        | true =>
          cases q2 : (s2 == sq) with
          | true =>
            go_wp2_with fail
            refine (sameV ⟨some ⟨gh, 0, none⟩, mh, ch⟩ ⟨some ⟨gm, 0, none⟩, mm, cm⟩ (headL role ls ep sq) (headL role ls e2 s2) true x10 Oh_10.out.rd Om_10.out.rd (by rw [head_other HOK.out HE2.out HS2.out, q1, q2]; rfl)).mono ?_
            rintro e y ⟨rfl, rfl⟩
            go_wp2
            go_ret
            exact ⟨rfl, B10.out⟩
          | false =>
            go_wp2_with fail
            refine (sameV ⟨some ⟨gh, 0, none⟩, mh, ch⟩ ⟨some ⟨gm, 0, none⟩, mm, cm⟩ (headL role ls ep sq) (headL role ls e2 s2) false x10 Oh_10.out.rd Om_10.out.rd (by rw [head_other HOK.out HE2.out HS2.out, q1, q2]; rfl)).mono ?_
            rintro e y ⟨rfl, rfl⟩
            go_wp2
            go_ret
            exact ⟨rfl, B10.out⟩
        | false =>
          cases q2 : (s2 == sq) with
          | true =>
            go_wp2_with fail
            refine (sameV ⟨some ⟨gh, 0, none⟩, mh, ch⟩ ⟨some ⟨gm, 0, none⟩, mm, cm⟩ (headL role ls ep sq) (headL role ls e2 s2) false x10 Oh_10.out.rd Om_10.out.rd (by rw [head_other HOK.out HE2.out HS2.out, q1, q2]; rfl)).mono ?_
            rintro e y ⟨rfl, rfl⟩
            go_wp2
            go_ret
            exact ⟨rfl, B10.out⟩
          | false =>
            go_wp2_with fail
            refine (sameV ⟨some ⟨gh, 0, none⟩, mh, ch⟩ ⟨some ⟨gm, 0, none⟩, mm, cm⟩ (headL role ls ep sq) (headL role ls e2 s2) false x10 Oh_10.out.rd Om_10.out.rd (by rw [head_other HOK.out HE2.out HS2.out, q1, q2]; rfl)).mono ?_
            rintro e y ⟨rfl, rfl⟩
            go_wp2
            go_ret
            exact ⟨rfl, B10.out⟩

set_option maxRecDepth 100000 in
theorem walk (a : Option Addr) (len cap : Nat) (zs : List Int) (w : World)  (h : IsRow .u8 w a len cap zs) :
    Calls Try.prog 4 #[.slice a len cap] w fun e w' => e = .returned (.bool true) ∧ Below w.heap.size w w' := by
  obtain ⟨l, h1, h2, _, h4⟩ := h.read
  by_cases hl : len ≤ 1048576
  · exact small a len cap l w  h1 h2 h4 hl
  · clear h h1 h2 h4
    go_enter Try.func4, Try.ntmps4
    go_wp2_with fail
    refine (bigYes a len cap w (by omega)).mono ?_
    rintro e w0 ⟨rfl, rfl⟩
    go_wp2
    go_ret
    exact ⟨rfl, Below.refl _ _⟩
end Go.Proofs.Ytmcflfpckpjphaa.LawHeads
