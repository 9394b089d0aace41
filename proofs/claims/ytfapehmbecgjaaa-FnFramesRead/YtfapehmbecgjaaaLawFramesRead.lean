/-
  The walk of the law FnFramesRead: at every code bytes that are read as a frame are that frame's bytes, and it is right.
-/
import Derived.Test.YtfapehmbecgjaaaFrGj
import Derived.Test.YtfapehmbecgjaaaFrDd
namespace Go.Proofs.Ytfapehmbecgjaaa.LawFramesRead
open Go.RowKit Go.Proofs.Ytfapehmbecgjaaa.Mem Go.Proofs.Ytfapehmbecgjaaa.App Go.Proofs.Ytfapehmbecgjaaa.Blk Go.Proofs.Ytfapehmbecgjaaa.Zone Go.Proofs.Ytfapehmbecgjaaa.FrZ Go.Proofs.Ytfapehmbecgjaaa.FrP Go.Proofs.Ytfapehmbecgjaaa.FrB Go.Proofs.Ytfapehmbecgjaaa.FrG Go.Proofs.Ytfapehmbecgjaaa.FrGet Go.Proofs.Ytfapehmbecgjaaa.FrGi Go.Proofs.Ytfapehmbecgjaaa.FrDg Go.Proofs.Ytfapehmbecgjaaa.FrSm Go.Proofs.Ytfapehmbecgjaaa.FrQ Go.Proofs.Ytfapehmbecgjaaa.FrQ3 Go.Proofs.Ytfapehmbecgjaaa.FrO2

theorem bigNo (a : Option Addr) (len cap : Nat) (w : World) (h : len ≤ 1048576) :
    Calls Try.prog 10 #[.slice a len cap] w fun e w' => e = .returned (.bool false) ∧ w = w' := by
  have h' : ¬ ((1048576 : Int) < (len : Int)) := by omega
  go_enter Try.func10, Try.ntmps10
  go_wp2
  go_ret
  exact ⟨rfl, rfl⟩
theorem bigYes (a : Option Addr) (len cap : Nat) (w : World) (h : 1048576 < len) :
    Calls Try.prog 10 #[.slice a len cap] w fun e w' => e = .returned (.bool true) ∧ w = w' := by
  have h' : (1048576 : Int) < (len : Int) := by omega
  go_enter Try.func10, Try.ntmps10
  go_wp2
  go_ret
  exact ⟨rfl, rfl⟩
set_option maxRecDepth 100000 in
set_option maxHeartbeats 8000000 in
theorem small (a : Option Addr) (len cap : Nat) (l : List Int) (w : World) (hl : len = l.length) (hr : Rd w a l) (hb : Bytes l) (hlen : len ≤ 1048576) :
    Calls Try.prog 4 #[.slice a len cap] w fun e w' => e = .returned (.bool true) ∧ Below w.heap.size w w' := by
  have HR : Hid (Rd w a l) := hr
  have HL : Hid (len = l.length) := hl
  have HB : Hid (Bytes l) := hb
  clear hr hl hb
  go_enter Try.func4, Try.ntmps4
  go_wp2_with fail
  refine (bigNo a len cap w hlen).mono ?_
  rintro e w0 ⟨rfl, rfl⟩
  go_wp2_with fail
  refine (drawGetFrame a len cap l w HL.out HR.out HB.out hlen).mono ?_
  rintro e x1 ⟨g, m, c, r, rfl, em, hm, hby, rw1, b1⟩
  have RB1 : Hid (SRd x1 ⟨some ⟨g, 0, none⟩, m, c⟩ r) := rowRd rw1 em hby
  have HM : Hid (r.length ≤ 1001) := by show _ ≤ _; omega
  have B1 : Hid (Below w.heap.size w x1) := b1
  clear em hm hby rw1 b1
  go_wp2_with fail
  refine (implGetFrame ⟨some ⟨g, 0, none⟩, m, c⟩ r x1 RB1.out g 0 rfl (by have := HM.out; omega)).mono ?_
  rintro e x2 ⟨D, Sf, ok, rfl, hgot, o2, b2⟩
  have HGot : Hid (IsGot r D ok) := hgot
  obtain ⟨x3, hx3⟩ : ∃ x3, x2.alloc (.cells #[.int .i64 D.kind, .int .i64 D.id, .slice Sf.cn.a Sf.cn.n Sf.cn.c, .slice Sf.sn.a Sf.sn.n Sf.sn.c, .int .i64 D.tick, .slice Sf.cookie.a Sf.cookie.n Sf.cookie.c, .slice Sf.proof.a Sf.proof.n Sf.proof.c, .int .i64 D.epoch, .int .i64 D.seq, .slice Sf.body.a Sf.body.n Sf.body.c, .slice Sf.tag.a Sf.tag.n Sf.tag.c] 25) = x3 := ⟨_, rfl⟩
  have HW3 : Hid (x2.alloc (.cells #[.int .i64 D.kind, .int .i64 D.id, .slice Sf.cn.a Sf.cn.n Sf.cn.c, .slice Sf.sn.a Sf.sn.n Sf.sn.c, .int .i64 D.tick, .slice Sf.cookie.a Sf.cookie.n Sf.cookie.c, .slice Sf.proof.a Sf.proof.n Sf.proof.c, .int .i64 D.epoch, .int .i64 D.seq, .slice Sf.body.a Sf.body.n Sf.body.c, .slice Sf.tag.a Sf.tag.n Sf.tag.c] 25) = x3) := hx3
  have b3 : Below x2.heap.size x2 x3 := by rw [← hx3]; exact (Below.refl _ _).alloc (Nat.le_refl _) _
  have KF3 : Hid (Blk x3 x2.heap.size 25 [.int .i64 D.kind, .int .i64 D.id, .slice Sf.cn.a Sf.cn.n Sf.cn.c, .slice Sf.sn.a Sf.sn.n Sf.sn.c, .int .i64 D.tick, .slice Sf.cookie.a Sf.cookie.n Sf.cookie.c, .slice Sf.proof.a Sf.proof.n Sf.proof.c, .int .i64 D.epoch, .int .i64 D.seq, .slice Sf.body.a Sf.body.n Sf.body.c, .slice Sf.tag.a Sf.tag.n Sf.tag.c]) := by rw [← hx3]; exact Blk.new x2 _ _
  have OF3 : Hid (FrRd x3 Sf D) := o2.rd.later b3
  have B3 : Hid (Below w.heap.size w x3) := (B1.out.trans (b2.mono B1.out.size)).trans (b3.mono (B1.out.trans (b2.mono B1.out.size)).size)
  have RB3 : Hid (SRd x3 ⟨some ⟨g, 0, none⟩, m, c⟩ r) := (RB1.out.later b2).later b3
  clear hgot o2 b2 b3 hx3 B1 RB1
  unfold frV
  go_wp2_with fail
  rw [HW3.out]
  obtain ⟨gf, hgf⟩ : ∃ gf, x2.heap.size = gf := ⟨_, rfl⟩
  rw [hgf] at KF3 ⊢
  clear HW3 hgf
  refine (specGetFrame ⟨some ⟨g, 0, none⟩, m, c⟩ r x3 RB3.out g 0 rfl (by have := HM.out; omega)).mono ?_
  rintro e x4 ⟨D', Sg, ok', rfl, hgot', o4, b4⟩
  obtain ⟨rfl, rfl⟩ := HGot.out.unique hgot'
  obtain ⟨x5, hx5⟩ : ∃ x5, x4.alloc (.cells #[.int .i64 D.kind, .int .i64 D.id, .slice Sg.cn.a Sg.cn.n Sg.cn.c, .slice Sg.sn.a Sg.sn.n Sg.sn.c, .int .i64 D.tick, .slice Sg.cookie.a Sg.cookie.n Sg.cookie.c, .slice Sg.proof.a Sg.proof.n Sg.proof.c, .int .i64 D.epoch, .int .i64 D.seq, .slice Sg.body.a Sg.body.n Sg.body.c, .slice Sg.tag.a Sg.tag.n Sg.tag.c] 25) = x5 := ⟨_, rfl⟩
  have HW5 : Hid (x4.alloc (.cells #[.int .i64 D.kind, .int .i64 D.id, .slice Sg.cn.a Sg.cn.n Sg.cn.c, .slice Sg.sn.a Sg.sn.n Sg.sn.c, .int .i64 D.tick, .slice Sg.cookie.a Sg.cookie.n Sg.cookie.c, .slice Sg.proof.a Sg.proof.n Sg.proof.c, .int .i64 D.epoch, .int .i64 D.seq, .slice Sg.body.a Sg.body.n Sg.body.c, .slice Sg.tag.a Sg.tag.n Sg.tag.c] 25) = x5) := hx5
  have b5 : Below x4.heap.size x4 x5 := by rw [← hx5]; exact (Below.refl _ _).alloc (Nat.le_refl _) _
  have KG5 : Hid (Blk x5 x4.heap.size 25 [.int .i64 D.kind, .int .i64 D.id, .slice Sg.cn.a Sg.cn.n Sg.cn.c, .slice Sg.sn.a Sg.sn.n Sg.sn.c, .int .i64 D.tick, .slice Sg.cookie.a Sg.cookie.n Sg.cookie.c, .slice Sg.proof.a Sg.proof.n Sg.proof.c, .int .i64 D.epoch, .int .i64 D.seq, .slice Sg.body.a Sg.body.n Sg.body.c, .slice Sg.tag.a Sg.tag.n Sg.tag.c]) := by rw [← hx5]; exact Blk.new x4 _ _
  have b45 : Below x3.heap.size x3 x5 := b4.trans (b5.mono b4.size)
  have OG5 : Hid (FrRd x5 Sg D) := o4.rd.later b5
  have OF5 : Hid (FrRd x5 Sf D) := OF3.out.later b45
  have KF5 : Hid (Blk x5 gf 25 [.int .i64 D.kind, .int .i64 D.id, .slice Sf.cn.a Sf.cn.n Sf.cn.c, .slice Sf.sn.a Sf.sn.n Sf.sn.c, .int .i64 D.tick, .slice Sf.cookie.a Sf.cookie.n Sf.cookie.c, .slice Sf.proof.a Sf.proof.n Sf.proof.c, .int .i64 D.epoch, .int .i64 D.seq, .slice Sf.body.a Sf.body.n Sf.body.c, .slice Sf.tag.a Sf.tag.n Sf.tag.c]) := KF3.out.later b45
  have RB5 : Hid (SRd x5 ⟨some ⟨g, 0, none⟩, m, c⟩ r) := RB3.out.later b45
  have B5 : Hid (Below w.heap.size w x5) := B3.out.trans (b45.mono B3.out.size)
  have hoo : (ok == ok) = true := by simp
  clear hgot' o4 b4 b5 b45 hx5 OF3 KF3 RB3 B3
  unfold frV
  go_upto_region 6 with fail
  rw [HW5.out]
  obtain ⟨gg, hgg⟩ : ∃ gg, x4.heap.size = gg := ⟨_, rfl⟩
  rw [hgg] at KG5 ⊢
  clear HW5 hgg
  have ca0 := KF5.out.cell 0 rfl
  have ca1 := KF5.out.cell 1 rfl
  have ca2 := KF5.out.cell 2 rfl
  have ca3 := KF5.out.cell 3 rfl
  have ca4 := KF5.out.cell 4 rfl
  have ca5 := KF5.out.cell 5 rfl
  have ca6 := KF5.out.cell 6 rfl
  have ca7 := KF5.out.cell 7 rfl
  have ca8 := KF5.out.cell 8 rfl
  have ca9 := KF5.out.cell 9 rfl
  have ca10 := KF5.out.cell 10 rfl
  have cb0 := KG5.out.cell 0 rfl
  have cb1 := KG5.out.cell 1 rfl
  have cb2 := KG5.out.cell 2 rfl
  have cb3 := KG5.out.cell 3 rfl
  have cb4 := KG5.out.cell 4 rfl
  have cb5 := KG5.out.cell 5 rfl
  have cb6 := KG5.out.cell 6 rfl
  have cb7 := KG5.out.cell 7 rfl
  have cb8 := KG5.out.cell 8 rfl
  have cb9 := KG5.out.cell 9 rfl
  have cb10 := KG5.out.cell 10 rfl
  go_wp2_with fail
  refine (sameFrame Sf Sg D x5 OF5.out OG5.out).mono ?_
  rintro e x6 ⟨rfl, b6⟩
  have OF6 : Hid (FrRd x6 Sf D) := OF5.out.later b6
  have KF6 : Hid (Blk x6 gf 25 [.int .i64 D.kind, .int .i64 D.id, .slice Sf.cn.a Sf.cn.n Sf.cn.c, .slice Sf.sn.a Sf.sn.n Sf.sn.c, .int .i64 D.tick, .slice Sf.cookie.a Sf.cookie.n Sf.cookie.c, .slice Sf.proof.a Sf.proof.n Sf.proof.c, .int .i64 D.epoch, .int .i64 D.seq, .slice Sf.body.a Sf.body.n Sf.body.c, .slice Sf.tag.a Sf.tag.n Sf.tag.c]) := KF5.out.later b6
  have RB6 : Hid (SRd x6 ⟨some ⟨g, 0, none⟩, m, c⟩ r) := RB5.out.later b6
  have B6 : Hid (Below w.heap.size w x6) := B5.out.trans (b6.mono B5.out.size)
  clear b6 OG5 OF5 KF5 KG5 RB5 B5 ca0 cb0 ca1 cb1 ca2 cb2 ca3 cb3 ca4 cb4 ca5 cb5 ca6 cb6 ca7 cb7 ca8 cb8 ca9 cb9 ca10 cb10
  cases ok with
  | false =>
    go_wp2
    go_ret
    exact ⟨rfl, B6.out⟩
  | true =>
    have HOK : Hid (frameOk D = true ∧ putF D = r) := by
      rcases HGot.out with ⟨_, h1, h2⟩ | ⟨h, _⟩
      · exact ⟨h1, h2⟩
      · cases h
    clear hoo
    have ca0 := KF6.out.cell 0 rfl
    have ca1 := KF6.out.cell 1 rfl
    have ca2 := KF6.out.cell 2 rfl
    have ca3 := KF6.out.cell 3 rfl
    have ca4 := KF6.out.cell 4 rfl
    have ca5 := KF6.out.cell 5 rfl
    have ca6 := KF6.out.cell 6 rfl
    have ca7 := KF6.out.cell 7 rfl
    have ca8 := KF6.out.cell 8 rfl
    have ca9 := KF6.out.cell 9 rfl
    have ca10 := KF6.out.cell 10 rfl
    go_wp2_with fail
    refine (implFrameOk Sf D x6 OF6.out).mono ?_
    rw [HOK.out.1]
    rintro e x7 ⟨rfl, b7⟩
    have OF7 : Hid (FrRd x7 Sf D) := OF6.out.later b7
    have KF7 : Hid (Blk x7 gf 25 [.int .i64 D.kind, .int .i64 D.id, .slice Sf.cn.a Sf.cn.n Sf.cn.c, .slice Sf.sn.a Sf.sn.n Sf.sn.c, .int .i64 D.tick, .slice Sf.cookie.a Sf.cookie.n Sf.cookie.c, .slice Sf.proof.a Sf.proof.n Sf.proof.c, .int .i64 D.epoch, .int .i64 D.seq, .slice Sf.body.a Sf.body.n Sf.body.c, .slice Sf.tag.a Sf.tag.n Sf.tag.c]) := KF6.out.later b7
    have RB7 : Hid (SRd x7 ⟨some ⟨g, 0, none⟩, m, c⟩ r) := RB6.out.later b7
    have B7 : Hid (Below w.heap.size w x7) := B6.out.trans (b7.mono B6.out.size)
    clear b7 OF6 KF6 RB6 B6 ca0 ca1 ca2 ca3 ca4 ca5 ca6 ca7 ca8 ca9 ca10
    have ca0 := KF7.out.cell 0 rfl
    have ca1 := KF7.out.cell 1 rfl
    have ca2 := KF7.out.cell 2 rfl
    have ca3 := KF7.out.cell 3 rfl
    have ca4 := KF7.out.cell 4 rfl
    have ca5 := KF7.out.cell 5 rfl
    have ca6 := KF7.out.cell 6 rfl
    have ca7 := KF7.out.cell 7 rfl
    have ca8 := KF7.out.cell 8 rfl
    have ca9 := KF7.out.cell 9 rfl
    have ca10 := KF7.out.cell 10 rfl
    go_wp2_with fail
    refine (implPutFrame Sf D x7 OF7.out).mono ?_
    rw [HOK.out.2]
    rintro e x8 ⟨g8, m8, c8, rfl, em8, k8, r8, b8⟩
    have R8 : Hid (SRd x8 ⟨some ⟨g8, 0, none⟩, m8, c8⟩ r) := rowRd r8 em8 RB7.out.bytes
    have RB8 : Hid (SRd x8 ⟨some ⟨g, 0, none⟩, m, c⟩ r) := RB7.out.later b8
    have B8 : Hid (Below w.heap.size w x8) := B7.out.trans (b8.mono B7.out.size)
    clear em8 k8 r8 b8 OF7 KF7 RB7 B7 ca0 ca1 ca2 ca3 ca4 ca5 ca6 ca7 ca8 ca9 ca10
    go_wp2_with fail
    refine (sameS ⟨some ⟨g8, 0, none⟩, m8, c8⟩ ⟨some ⟨g, 0, none⟩, m, c⟩ r x8 R8.out RB8.out).mono ?_
    rintro e y ⟨rfl, rfl⟩
    go_wp2
    go_ret
    exact ⟨rfl, B8.out⟩
theorem walk (a : Option Addr) (len cap : Nat) (zs : List Int) (w : World) (h : IsRow .u8 w a len cap zs) :
    Calls Try.prog 4 #[.slice a len cap] w fun e w' => e = .returned (.bool true) ∧ Below w.heap.size w w' := by
  obtain ⟨l, h1, h2, _, h4⟩ := h.read
  by_cases hl : len ≤ 1048576
  · exact small a len cap l w h1 h2 h4 hl
  · clear h h1 h2 h4
    go_enter Try.func4, Try.ntmps4
    go_wp2_with fail
    refine (bigYes a len cap w (by omega)).mono ?_
    rintro e w0 ⟨rfl, rfl⟩
    go_wp2
    go_ret
    exact ⟨rfl, Below.refl _ _⟩
end Go.Proofs.Ytfapehmbecgjaaa.LawFramesRead
