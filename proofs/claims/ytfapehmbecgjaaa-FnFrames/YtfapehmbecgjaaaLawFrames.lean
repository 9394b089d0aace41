/-
  The walk of the law FnFrames: at every code a frame comes back of its bytes, one that is not right has none, and but for data, cut ones are none.
-/
import Derived.Test.YtfapehmbecgjaaaFrGj
import Derived.Test.YtfapehmbecgjaaaFrDa
import Derived.Deep.RegionHeld3
namespace Go.Proofs.Ytfapehmbecgjaaa.LawFrames
open Go.RowKit Go.Proofs.Ytfapehmbecgjaaa.Mem Go.Proofs.Ytfapehmbecgjaaa.App Go.Proofs.Ytfapehmbecgjaaa.Blk Go.Proofs.Ytfapehmbecgjaaa.Zone Go.Proofs.Ytfapehmbecgjaaa.FrZ Go.Proofs.Ytfapehmbecgjaaa.FrP Go.Proofs.Ytfapehmbecgjaaa.FrB Go.Proofs.Ytfapehmbecgjaaa.FrG Go.Proofs.Ytfapehmbecgjaaa.FrH Go.Proofs.Ytfapehmbecgjaaa.FrS Go.Proofs.Ytfapehmbecgjaaa.FrGet Go.Proofs.Ytfapehmbecgjaaa.FrGi Go.Proofs.Ytfapehmbecgjaaa.FrDa Go.Proofs.Ytfapehmbecgjaaa.FrSm Go.Proofs.Ytfapehmbecgjaaa.FrQ Go.Proofs.Ytfapehmbecgjaaa.FrQ3 Go.Proofs.Ytfapehmbecgjaaa.FrO2

theorem bigNo (a : Option Addr) (len cap : Nat) (w : World) (h : len ≤ 1048576) :
    Calls Try.prog 10 #[.slice a len cap] w fun e w' => e = .returned (.bool false) ∧ w = w' := by
  have h' : ¬ ((1048576 : Int) < (len : Int)) := by omega
  go_enter Try.func10, Try.ntmps10
  go_wp2
  go_ret
  exact ⟨rfl, rfl⟩
theorem bigYes (a : Option Addr) (len cap : Nat) (w : World) (h : 1048576 < len) :
    Calls Try.prog 10 #[.slice a len cap] w fun e w' => e = .returned (.bool true) ∧ w = w' := by
  have h' : (1048576 : Int) < (len : Int) := by omega
  go_enter Try.func10, Try.ntmps10
  go_wp2
  go_ret
  exact ⟨rfl, rfl⟩
theorem cut_rd {w : World} {g m c k : Nat} {l : List Int} (h : SRd w ⟨some ⟨g, 0, none⟩, m, c⟩ l) (hk : k ≤ m) : SRd w ⟨some ⟨g, 0, none⟩, k, c⟩ (l.take k) := by
  have hm : m = l.length := h.len
  have hc : m ≤ c := h.cap
  refine ⟨?_, ?_, (fun e => by cases e), by show k ≤ c; omega, fun z hz => h.bytes z (List.mem_of_mem_take hz)⟩
  · show k = (l.take k).length
    rw [List.length_take]; omega
  · intro i hi
    rw [List.length_take] at hi
    obtain ⟨b, off, e, h1, h2⟩ := h.rd i (by omega)
    refine ⟨b, off, e, h1, ?_⟩
    rw [h2]
    simp [List.getD, show i < k by omega]
theorem len_s (D : FrD) (h : frameOk D = true) (k1 : D.kind ≠ 1) (k2 : D.kind ≠ 2) (k3 : D.kind ≠ 3) : (putF D).length = 39 + D.body.length := by
  rw [putF_s D h (by simpa using k1) (by simpa using k2) (by simpa using k3)]
  rcases (ok_iff D).1 h with ⟨_, _, _, _, h5, _, _, _, _, _, _, _, _, h14⟩ | ⟨_, _, _, _, _, ⟨h6, _⟩ | ⟨h6, _⟩ | ⟨h6, _⟩⟩
  · simp only [List.length_append, List.length_singleton, num_length]; omega
  · exact absurd h6 k1
  · exact absurd h6 k2
  · exact absurd h6 k3
theorem body_s (D : FrD) (h : frameOk D = true) (k4 : 5 ≤ D.kind) : D.body.length = if D.kind ≤ 6 then 12 else 4 := by
  rcases (ok_iff D).1 h with ⟨_, h2, _, _, _, _, _, _, _, _, _, _, h13, _⟩ | ⟨_, _, _, _, _, ⟨h6, _⟩ | ⟨h6, _⟩ | ⟨h6, _⟩⟩
  · unfold bodyOk at h13
    rw [if_neg (by simp; omega)] at h13
    by_cases h6 : D.kind ≤ 6
    · rw [if_pos h6]
      rw [if_pos (by simp; omega)] at h13
      have := eq_of_beq h13
      omega
    · rw [if_neg h6]
      rw [if_neg (by simp; omega)] at h13
      have := eq_of_beq h13
      omega
  · omega
  · omega
  · omega
/-- Only data that is cut short is still a frame. -/
theorem cut_data (D E : FrD) (h : frameOk D = true) (g : frameOk E = true) (e : putF E = (putF D).take ((putF D).length - 1)) : D.kind = 4 := by
  have hd := kind_at D h
  have he := kind_at E g
  have hl : (putF E).length = (putF D).length - 1 := by rw [e, List.length_take]; omega
  have h0 : 0 < (putF E).length := List.length_pos_iff.2 he.2
  have kk : E.kind = D.kind := by
    rw [← he.1, ← hd.1, e]
    rw [List.getD_eq_getElem?_getD, List.getElem?_take, if_pos (by omega), ← List.getD_eq_getElem?_getD]
  have okD := ok_kind D h
  by_cases k1 : D.kind = 1
  · have a := (back1 D h k1).1
    have b := (back1 E g (by omega)).1
    omega
  by_cases k2 : D.kind = 2
  · have a := (back2 D h k2).1
    have b := (back2 E g (by omega)).1
    omega
  by_cases k3 : D.kind = 3
  · have a := (back3 D h k3).1
    have b := (back3 E g (by omega)).1
    omega
  by_cases k4 : D.kind = 4
  · exact k4
  have a := len_s D h k1 k2 k3
  have b := len_s E g (by omega) (by omega) (by omega)
  have c := body_s D h (by omega)
  have d := body_s E g (by omega)
  rw [kk] at d
  omega
theorem len79 (D : FrD) (h : frameOk D = true) : (putF D).length ≤ 79 := by
  have hl := ok_lens D h
  unfold putF
  rw [if_pos h]
  rcases (ok_iff D).1 h with ⟨_, _, _, _, h5, _, _, _, _, _, _, _, _, h14⟩ | ⟨_, _, _, _, h5, h6⟩
  · rw [if_neg (by simp; omega), if_neg (by simp; omega), if_neg (by simp; omega)]
    simp only [List.length_append, List.length_singleton, num_length]; omega
  · split
    · simp only [List.length_append, List.length_singleton, List.length_replicate]; omega
    · split
      · simp only [List.length_append, List.length_singleton, num_length]; omega
      · split
        · simp only [List.length_append, List.length_singleton, num_length]; omega
        · simp only [List.length_append, List.length_singleton, num_length]; omega

set_option maxRecDepth 100000 in
set_option maxHeartbeats 16000000 in
theorem small (a : Option Addr) (len cap : Nat) (l : List Int) (w : World) (hl : len = l.length) (hr : Rd w a l) (hb : Bytes l) (hlen : len ≤ 1048576) :
    Calls Try.prog 3 #[.slice a len cap] w fun e w' => e = .returned (.bool true) ∧ Below w.heap.size w w' := by
  have HR : Hid (Rd w a l) := hr
  have HL : Hid (len = l.length) := hl
  have HB : Hid (Bytes l) := hb
  clear hr hl hb
  go_enter Try.func3, Try.ntmps3
  go_wp2_with fail
  refine (bigNo a len cap w hlen).mono ?_
  rintro e w0 ⟨rfl, rfl⟩
  go_wp2_with fail
  refine (drawPutFrame a len cap l w HL.out HR.out HB.out hlen).mono ?_
  rintro e x1 ⟨D, S, rfl, o1, b1⟩
  obtain ⟨x2, hx2⟩ : ∃ x2, x1.alloc (.cells #[.int .i64 D.kind, .int .i64 D.id, .slice S.cn.a S.cn.n S.cn.c, .slice S.sn.a S.sn.n S.sn.c, .int .i64 D.tick, .slice S.cookie.a S.cookie.n S.cookie.c, .slice S.proof.a S.proof.n S.proof.c, .int .i64 D.epoch, .int .i64 D.seq, .slice S.body.a S.body.n S.body.c, .slice S.tag.a S.tag.n S.tag.c] 25) = x2 := ⟨_, rfl⟩
  have HW2 : Hid (x1.alloc (.cells #[.int .i64 D.kind, .int .i64 D.id, .slice S.cn.a S.cn.n S.cn.c, .slice S.sn.a S.sn.n S.sn.c, .int .i64 D.tick, .slice S.cookie.a S.cookie.n S.cookie.c, .slice S.proof.a S.proof.n S.proof.c, .int .i64 D.epoch, .int .i64 D.seq, .slice S.body.a S.body.n S.body.c, .slice S.tag.a S.tag.n S.tag.c] 25) = x2) := hx2
  have b2 : Below x1.heap.size x1 x2 := by rw [← hx2]; exact (Below.refl _ _).alloc (Nat.le_refl _) _
  have KF2 : Hid (Blk x2 x1.heap.size 25 [.int .i64 D.kind, .int .i64 D.id, .slice S.cn.a S.cn.n S.cn.c, .slice S.sn.a S.sn.n S.sn.c, .int .i64 D.tick, .slice S.cookie.a S.cookie.n S.cookie.c, .slice S.proof.a S.proof.n S.proof.c, .int .i64 D.epoch, .int .i64 D.seq, .slice S.body.a S.body.n S.body.c, .slice S.tag.a S.tag.n S.tag.c]) := by rw [← hx2]; exact Blk.new x1 _ _
  have OF2 : Hid (FrRd x2 S D) := o1.later b2
  have B2 : Hid (Below w.heap.size w x2) := b1.trans (b2.mono b1.size)
  clear o1 b1 b2 hx2
  unfold frV
  go_wp2_with fail
  rw [HW2.out]
  obtain ⟨gf, hgf⟩ : ∃ gf, x1.heap.size = gf := ⟨_, rfl⟩
  rw [hgf] at KF2 ⊢
  clear HW2 hgf
  refine (implPutFrame S D x2 OF2.out).mono ?_
  rintro e x3 ⟨gp, mp, cp, rfl, emp, kp, rp, b3⟩
  have EMP : Hid (mp = (putF D).length) := emp
  have RP3 : Hid (SRd x3 ⟨some ⟨gp, 0, none⟩, mp, cp⟩ (putF D)) := rowRd rp emp (FrB2.putF_bytes OF2.out)
  have OF3 : Hid (FrRd x3 S D) := OF2.out.later b3
  have KF3 : Hid (Blk x3 gf 25 [.int .i64 D.kind, .int .i64 D.id, .slice S.cn.a S.cn.n S.cn.c, .slice S.sn.a S.sn.n S.sn.c, .int .i64 D.tick, .slice S.cookie.a S.cookie.n S.cookie.c, .slice S.proof.a S.proof.n S.proof.c, .int .i64 D.epoch, .int .i64 D.seq, .slice S.body.a S.body.n S.body.c, .slice S.tag.a S.tag.n S.tag.c]) := KF2.out.later b3
  have B3 : Hid (Below w.heap.size w x3) := B2.out.trans (b3.mono B2.out.size)
  clear emp kp rp b3 OF2 KF2 B2
  have hnn : ((mp : Int) != (mp : Int)) = false := by simp
  have ca0 := KF3.out.cell 0 rfl
  have ca1 := KF3.out.cell 1 rfl
  have ca2 := KF3.out.cell 2 rfl
  have ca3 := KF3.out.cell 3 rfl
  have ca4 := KF3.out.cell 4 rfl
  have ca5 := KF3.out.cell 5 rfl
  have ca6 := KF3.out.cell 6 rfl
  have ca7 := KF3.out.cell 7 rfl
  have ca8 := KF3.out.cell 8 rfl
  have ca9 := KF3.out.cell 9 rfl
  have ca10 := KF3.out.cell 10 rfl
  cases hok : frameOk D with
  | false =>
    have HOK : Hid (frameOk D = false) := hok
    have HM0 : Hid (mp = 0) := by show _ = _; rw [EMP.out, putF_no D hok]; rfl
    clear hok
    go_upto_region 5 with fail
    go_region_held3 (fun w' => w'.cell? ⟨gf, 0, none⟩ = some (.int .i64 D.kind) ∧ w'.cell? ⟨gf, 1, none⟩ = some (.int .i64 D.id) ∧ w'.cell? ⟨gf, 2, none⟩ = some (.slice S.cn.a S.cn.n S.cn.c) ∧ w'.cell? ⟨gf, 3, none⟩ = some (.slice S.sn.a S.sn.n S.sn.c) ∧ w'.cell? ⟨gf, 4, none⟩ = some (.int .i64 D.tick) ∧ w'.cell? ⟨gf, 5, none⟩ = some (.slice S.cookie.a S.cookie.n S.cookie.c) ∧ w'.cell? ⟨gf, 6, none⟩ = some (.slice S.proof.a S.proof.n S.proof.c) ∧ w'.cell? ⟨gf, 7, none⟩ = some (.int .i64 D.epoch) ∧ w'.cell? ⟨gf, 8, none⟩ = some (.int .i64 D.seq) ∧ w'.cell? ⟨gf, 9, none⟩ = some (.slice S.body.a S.body.n S.body.c) ∧ w'.cell? ⟨gf, 10, none⟩ = some (.slice S.tag.a S.tag.n S.tag.c)) (first | exact ⟨rc0, rc1, rc2, rc3, rc4, rc5, rc6, rc7, rc8, rc9, rc10⟩ | exact ⟨rb0, rb1, rb2, rb3, rb4, rb5, rb6, rb7, rb8, rb9, rb10⟩ | exact ⟨ra0, ra1, ra2, ra3, ra4, ra5, ra6, ra7, ra8, ra9, ra10⟩ | exact ⟨ca0, ca1, ca2, ca3, ca4, ca5, ca6, ca7, ca8, ca9, ca10⟩ | go_keep)
      (first
        | (go_at_call 15; refine (implSizeOf S D x5 OF5.out).mono ?_; rw [← EMP.out]; rintro e x6 ⟨rfl, b6⟩; have OF6 : Hid (FrRd x6 S D) := OF5.out.later b6; have KF6 : Hid (Blk x6 gf 25 [.int .i64 D.kind, .int .i64 D.id, .slice S.cn.a S.cn.n S.cn.c, .slice S.sn.a S.sn.n S.sn.c, .int .i64 D.tick, .slice S.cookie.a S.cookie.n S.cookie.c, .slice S.proof.a S.proof.n S.proof.c, .int .i64 D.epoch, .int .i64 D.seq, .slice S.body.a S.body.n S.body.c, .slice S.tag.a S.tag.n S.tag.c]) := KF5.out.later b6; have RP6 : Hid (SRd x6 ⟨some ⟨gp, 0, none⟩, mp, cp⟩ (putF D)) := RP5.out.later b6; have B6 : Hid (Below w.heap.size w x6) := B5.out.trans (b6.mono B5.out.size); have rc0 := KF6.out.cell 0 rfl; have rc1 := KF6.out.cell 1 rfl; have rc2 := KF6.out.cell 2 rfl; have rc3 := KF6.out.cell 3 rfl; have rc4 := KF6.out.cell 4 rfl; have rc5 := KF6.out.cell 5 rfl; have rc6 := KF6.out.cell 6 rfl; have rc7 := KF6.out.cell 7 rfl; have rc8 := KF6.out.cell 8 rfl; have rc9 := KF6.out.cell 9 rfl; have rc10 := KF6.out.cell 10 rfl; clear b6)
        | (go_at_call 14; refine (specFrameOk S D x4 OF4.out).mono ?_; rw [HOK.out]; rintro e x5 ⟨rfl, b5⟩; have OF5 : Hid (FrRd x5 S D) := OF4.out.later b5; have KF5 : Hid (Blk x5 gf 25 [.int .i64 D.kind, .int .i64 D.id, .slice S.cn.a S.cn.n S.cn.c, .slice S.sn.a S.sn.n S.sn.c, .int .i64 D.tick, .slice S.cookie.a S.cookie.n S.cookie.c, .slice S.proof.a S.proof.n S.proof.c, .int .i64 D.epoch, .int .i64 D.seq, .slice S.body.a S.body.n S.body.c, .slice S.tag.a S.tag.n S.tag.c]) := KF4.out.later b5; have RP5 : Hid (SRd x5 ⟨some ⟨gp, 0, none⟩, mp, cp⟩ (putF D)) := RP4.out.later b5; have B5 : Hid (Below w.heap.size w x5) := B4.out.trans (b5.mono B4.out.size); have rb0 := KF5.out.cell 0 rfl; have rb1 := KF5.out.cell 1 rfl; have rb2 := KF5.out.cell 2 rfl; have rb3 := KF5.out.cell 3 rfl; have rb4 := KF5.out.cell 4 rfl; have rb5 := KF5.out.cell 5 rfl; have rb6 := KF5.out.cell 6 rfl; have rb7 := KF5.out.cell 7 rfl; have rb8 := KF5.out.cell 8 rfl; have rb9 := KF5.out.cell 9 rfl; have rb10 := KF5.out.cell 10 rfl; clear b5)
        | (go_at_call 13; refine (implFrameOk S D x3.drew (OF3.out.later (Below.refl _ _).drew)).mono ?_; rw [HOK.out]; rintro e x4 ⟨rfl, b4⟩; have OF4 : Hid (FrRd x4 S D) := FrRd.later (w := x3.drew) (OF3.out.later (Below.refl _ _).drew) b4; have KF4 : Hid (Blk x4 gf 25 [.int .i64 D.kind, .int .i64 D.id, .slice S.cn.a S.cn.n S.cn.c, .slice S.sn.a S.sn.n S.sn.c, .int .i64 D.tick, .slice S.cookie.a S.cookie.n S.cookie.c, .slice S.proof.a S.proof.n S.proof.c, .int .i64 D.epoch, .int .i64 D.seq, .slice S.body.a S.body.n S.body.c, .slice S.tag.a S.tag.n S.tag.c]) := Blk.later (w := x3.drew) KF3.out b4; have RP4 : Hid (SRd x4 ⟨some ⟨gp, 0, none⟩, mp, cp⟩ (putF D)) := SRd.later (w := x3.drew) (RP3.out.later (Below.refl _ _).drew) b4; have B4 : Hid (Below w.heap.size w x4) := B3.out.drew.trans (b4.mono B3.out.size); have ra0 := KF4.out.cell 0 rfl; have ra1 := KF4.out.cell 1 rfl; have ra2 := KF4.out.cell 2 rfl; have ra3 := KF4.out.cell 3 rfl; have ra4 := KF4.out.cell 4 rfl; have ra5 := KF4.out.cell 5 rfl; have ra6 := KF4.out.cell 6 rfl; have ra7 := KF4.out.cell 7 rfl; have ra8 := KF4.out.cell 8 rfl; have ra9 := KF4.out.cell 9 rfl; have ra10 := KF4.out.cell 10 rfl; clear b4))
    clear ca0 ca1 ca2 ca3 ca4 ca5 ca6 ca7 ca8 ca9 ca10 ra0 ra1 ra2 ra3 ra4 ra5 ra6 ra7 ra8 ra9 ra10 rb0 rb1 rb2 rb3 rb4 rb5 rb6 rb7 rb8 rb9 rb10 rc0 rc1 rc2 rc3 rc4 rc5 rc6 rc7 rc8 rc9 rc10
    have cd0 := KF6.out.cell 0 rfl
    have cd1 := KF6.out.cell 1 rfl
    have cd2 := KF6.out.cell 2 rfl
    have cd3 := KF6.out.cell 3 rfl
    have cd4 := KF6.out.cell 4 rfl
    have cd5 := KF6.out.cell 5 rfl
    have cd6 := KF6.out.cell 6 rfl
    have cd7 := KF6.out.cell 7 rfl
    have cd8 := KF6.out.cell 8 rfl
    have cd9 := KF6.out.cell 9 rfl
    have cd10 := KF6.out.cell 10 rfl
    go_wp2_with fail
    refine (implFrameOk S D x6 OF6.out).mono ?_
    rw [HOK.out]
    rintro e x7 ⟨rfl, b7⟩
    have B7 : Hid (Below w.heap.size w x7) := B6.out.trans (b7.mono B6.out.size)
    clear b7 cd0 cd1 cd2 cd3 cd4 cd5 cd6 cd7 cd8 cd9 cd10
    have hm0 : ((mp : Int) == 0) = true := by have := HM0.out; simp; omega
    go_wp2
    go_ret
    exact ⟨rfl, B7.out⟩
  | true =>
    have HOK : Hid (frameOk D = true) := hok
    have H79 : Hid ((putF D).length ≤ 79 ∧ 0 < (putF D).length) := ⟨len79 D hok, List.length_pos_iff.2 (kind_at D hok).2⟩
    clear hok
    go_upto_region 5 with fail
    go_region_held3 (fun w' => w'.cell? ⟨gf, 0, none⟩ = some (.int .i64 D.kind) ∧ w'.cell? ⟨gf, 1, none⟩ = some (.int .i64 D.id) ∧ w'.cell? ⟨gf, 2, none⟩ = some (.slice S.cn.a S.cn.n S.cn.c) ∧ w'.cell? ⟨gf, 3, none⟩ = some (.slice S.sn.a S.sn.n S.sn.c) ∧ w'.cell? ⟨gf, 4, none⟩ = some (.int .i64 D.tick) ∧ w'.cell? ⟨gf, 5, none⟩ = some (.slice S.cookie.a S.cookie.n S.cookie.c) ∧ w'.cell? ⟨gf, 6, none⟩ = some (.slice S.proof.a S.proof.n S.proof.c) ∧ w'.cell? ⟨gf, 7, none⟩ = some (.int .i64 D.epoch) ∧ w'.cell? ⟨gf, 8, none⟩ = some (.int .i64 D.seq) ∧ w'.cell? ⟨gf, 9, none⟩ = some (.slice S.body.a S.body.n S.body.c) ∧ w'.cell? ⟨gf, 10, none⟩ = some (.slice S.tag.a S.tag.n S.tag.c)) (first | exact ⟨rc0, rc1, rc2, rc3, rc4, rc5, rc6, rc7, rc8, rc9, rc10⟩ | exact ⟨rb0, rb1, rb2, rb3, rb4, rb5, rb6, rb7, rb8, rb9, rb10⟩ | exact ⟨ra0, ra1, ra2, ra3, ra4, ra5, ra6, ra7, ra8, ra9, ra10⟩ | exact ⟨ca0, ca1, ca2, ca3, ca4, ca5, ca6, ca7, ca8, ca9, ca10⟩ | go_keep)
      (first
        | (go_at_call 15; refine (implSizeOf S D x5 OF5.out).mono ?_; rw [← EMP.out]; rintro e x6 ⟨rfl, b6⟩; have OF6 : Hid (FrRd x6 S D) := OF5.out.later b6; have KF6 : Hid (Blk x6 gf 25 [.int .i64 D.kind, .int .i64 D.id, .slice S.cn.a S.cn.n S.cn.c, .slice S.sn.a S.sn.n S.sn.c, .int .i64 D.tick, .slice S.cookie.a S.cookie.n S.cookie.c, .slice S.proof.a S.proof.n S.proof.c, .int .i64 D.epoch, .int .i64 D.seq, .slice S.body.a S.body.n S.body.c, .slice S.tag.a S.tag.n S.tag.c]) := KF5.out.later b6; have RP6 : Hid (SRd x6 ⟨some ⟨gp, 0, none⟩, mp, cp⟩ (putF D)) := RP5.out.later b6; have B6 : Hid (Below w.heap.size w x6) := B5.out.trans (b6.mono B5.out.size); have rc0 := KF6.out.cell 0 rfl; have rc1 := KF6.out.cell 1 rfl; have rc2 := KF6.out.cell 2 rfl; have rc3 := KF6.out.cell 3 rfl; have rc4 := KF6.out.cell 4 rfl; have rc5 := KF6.out.cell 5 rfl; have rc6 := KF6.out.cell 6 rfl; have rc7 := KF6.out.cell 7 rfl; have rc8 := KF6.out.cell 8 rfl; have rc9 := KF6.out.cell 9 rfl; have rc10 := KF6.out.cell 10 rfl; clear b6)
        | (go_at_call 14; refine (specFrameOk S D x4 OF4.out).mono ?_; rw [HOK.out]; rintro e x5 ⟨rfl, b5⟩; have OF5 : Hid (FrRd x5 S D) := OF4.out.later b5; have KF5 : Hid (Blk x5 gf 25 [.int .i64 D.kind, .int .i64 D.id, .slice S.cn.a S.cn.n S.cn.c, .slice S.sn.a S.sn.n S.sn.c, .int .i64 D.tick, .slice S.cookie.a S.cookie.n S.cookie.c, .slice S.proof.a S.proof.n S.proof.c, .int .i64 D.epoch, .int .i64 D.seq, .slice S.body.a S.body.n S.body.c, .slice S.tag.a S.tag.n S.tag.c]) := KF4.out.later b5; have RP5 : Hid (SRd x5 ⟨some ⟨gp, 0, none⟩, mp, cp⟩ (putF D)) := RP4.out.later b5; have B5 : Hid (Below w.heap.size w x5) := B4.out.trans (b5.mono B4.out.size); have rb0 := KF5.out.cell 0 rfl; have rb1 := KF5.out.cell 1 rfl; have rb2 := KF5.out.cell 2 rfl; have rb3 := KF5.out.cell 3 rfl; have rb4 := KF5.out.cell 4 rfl; have rb5 := KF5.out.cell 5 rfl; have rb6 := KF5.out.cell 6 rfl; have rb7 := KF5.out.cell 7 rfl; have rb8 := KF5.out.cell 8 rfl; have rb9 := KF5.out.cell 9 rfl; have rb10 := KF5.out.cell 10 rfl; clear b5)
        | (go_at_call 13; refine (implFrameOk S D x3.drew (OF3.out.later (Below.refl _ _).drew)).mono ?_; rw [HOK.out]; rintro e x4 ⟨rfl, b4⟩; have OF4 : Hid (FrRd x4 S D) := FrRd.later (w := x3.drew) (OF3.out.later (Below.refl _ _).drew) b4; have KF4 : Hid (Blk x4 gf 25 [.int .i64 D.kind, .int .i64 D.id, .slice S.cn.a S.cn.n S.cn.c, .slice S.sn.a S.sn.n S.sn.c, .int .i64 D.tick, .slice S.cookie.a S.cookie.n S.cookie.c, .slice S.proof.a S.proof.n S.proof.c, .int .i64 D.epoch, .int .i64 D.seq, .slice S.body.a S.body.n S.body.c, .slice S.tag.a S.tag.n S.tag.c]) := Blk.later (w := x3.drew) KF3.out b4; have RP4 : Hid (SRd x4 ⟨some ⟨gp, 0, none⟩, mp, cp⟩ (putF D)) := SRd.later (w := x3.drew) (RP3.out.later (Below.refl _ _).drew) b4; have B4 : Hid (Below w.heap.size w x4) := B3.out.drew.trans (b4.mono B3.out.size); have ra0 := KF4.out.cell 0 rfl; have ra1 := KF4.out.cell 1 rfl; have ra2 := KF4.out.cell 2 rfl; have ra3 := KF4.out.cell 3 rfl; have ra4 := KF4.out.cell 4 rfl; have ra5 := KF4.out.cell 5 rfl; have ra6 := KF4.out.cell 6 rfl; have ra7 := KF4.out.cell 7 rfl; have ra8 := KF4.out.cell 8 rfl; have ra9 := KF4.out.cell 9 rfl; have ra10 := KF4.out.cell 10 rfl; clear b4))
    clear ca0 ca1 ca2 ca3 ca4 ca5 ca6 ca7 ca8 ca9 ca10 ra0 ra1 ra2 ra3 ra4 ra5 ra6 ra7 ra8 ra9 ra10 rb0 rb1 rb2 rb3 rb4 rb5 rb6 rb7 rb8 rb9 rb10 rc0 rc1 rc2 rc3 rc4 rc5 rc6 rc7 rc8 rc9 rc10
    have cd0 := KF6.out.cell 0 rfl
    have cd1 := KF6.out.cell 1 rfl
    have cd2 := KF6.out.cell 2 rfl
    have cd3 := KF6.out.cell 3 rfl
    have cd4 := KF6.out.cell 4 rfl
    have cd5 := KF6.out.cell 5 rfl
    have cd6 := KF6.out.cell 6 rfl
    have cd7 := KF6.out.cell 7 rfl
    have cd8 := KF6.out.cell 8 rfl
    have cd9 := KF6.out.cell 9 rfl
    have cd10 := KF6.out.cell 10 rfl
    go_wp2_with fail
    refine (implFrameOk S D x6 OF6.out).mono ?_
    rw [HOK.out]
    rintro e x7 ⟨rfl, b7⟩
    have OF7 : Hid (FrRd x7 S D) := OF6.out.later b7
    have KF7 : Hid (Blk x7 gf 25 [.int .i64 D.kind, .int .i64 D.id, .slice S.cn.a S.cn.n S.cn.c, .slice S.sn.a S.sn.n S.sn.c, .int .i64 D.tick, .slice S.cookie.a S.cookie.n S.cookie.c, .slice S.proof.a S.proof.n S.proof.c, .int .i64 D.epoch, .int .i64 D.seq, .slice S.body.a S.body.n S.body.c, .slice S.tag.a S.tag.n S.tag.c]) := KF6.out.later b7
    have RP7 : Hid (SRd x7 ⟨some ⟨gp, 0, none⟩, mp, cp⟩ (putF D)) := RP6.out.later b7
    have B7 : Hid (Below w.heap.size w x7) := B6.out.trans (b7.mono B6.out.size)
    clear b7 cd0 cd1 cd2 cd3 cd4 cd5 cd6 cd7 cd8 cd9 cd10 OF6 KF6 RP6 B6
    go_wp2_with fail
    refine (implGetFrame ⟨some ⟨gp, 0, none⟩, mp, cp⟩ (putF D) x7 RP7.out gp 0 rfl (by have := H79.out; omega)).mono ?_
    rintro e x8 ⟨D', Sg, ok', rfl, hgot, o8, b8⟩
    obtain ⟨rfl, rfl⟩ := IsGot.unique (.inl ⟨rfl, HOK.out, rfl⟩ : IsGot (putF D) D true) hgot
    obtain ⟨x9, hx9⟩ : ∃ x9, x8.alloc (.cells #[.int .i64 D.kind, .int .i64 D.id, .slice Sg.cn.a Sg.cn.n Sg.cn.c, .slice Sg.sn.a Sg.sn.n Sg.sn.c, .int .i64 D.tick, .slice Sg.cookie.a Sg.cookie.n Sg.cookie.c, .slice Sg.proof.a Sg.proof.n Sg.proof.c, .int .i64 D.epoch, .int .i64 D.seq, .slice Sg.body.a Sg.body.n Sg.body.c, .slice Sg.tag.a Sg.tag.n Sg.tag.c] 25) = x9 := ⟨_, rfl⟩
    have HW9 : Hid (x8.alloc (.cells #[.int .i64 D.kind, .int .i64 D.id, .slice Sg.cn.a Sg.cn.n Sg.cn.c, .slice Sg.sn.a Sg.sn.n Sg.sn.c, .int .i64 D.tick, .slice Sg.cookie.a Sg.cookie.n Sg.cookie.c, .slice Sg.proof.a Sg.proof.n Sg.proof.c, .int .i64 D.epoch, .int .i64 D.seq, .slice Sg.body.a Sg.body.n Sg.body.c, .slice Sg.tag.a Sg.tag.n Sg.tag.c] 25) = x9) := hx9
    have b9 : Below x8.heap.size x8 x9 := by rw [← hx9]; exact (Below.refl _ _).alloc (Nat.le_refl _) _
    have KG9 : Hid (Blk x9 x8.heap.size 25 [.int .i64 D.kind, .int .i64 D.id, .slice Sg.cn.a Sg.cn.n Sg.cn.c, .slice Sg.sn.a Sg.sn.n Sg.sn.c, .int .i64 D.tick, .slice Sg.cookie.a Sg.cookie.n Sg.cookie.c, .slice Sg.proof.a Sg.proof.n Sg.proof.c, .int .i64 D.epoch, .int .i64 D.seq, .slice Sg.body.a Sg.body.n Sg.body.c, .slice Sg.tag.a Sg.tag.n Sg.tag.c]) := by rw [← hx9]; exact Blk.new x8 _ _
    have b89 : Below x7.heap.size x7 x9 := b8.trans (b9.mono b8.size)
    have OG9 : Hid (FrRd x9 Sg D) := o8.rd.later b9
    have OF9 : Hid (FrRd x9 S D) := OF7.out.later b89
    have KF9 : Hid (Blk x9 gf 25 [.int .i64 D.kind, .int .i64 D.id, .slice S.cn.a S.cn.n S.cn.c, .slice S.sn.a S.sn.n S.sn.c, .int .i64 D.tick, .slice S.cookie.a S.cookie.n S.cookie.c, .slice S.proof.a S.proof.n S.proof.c, .int .i64 D.epoch, .int .i64 D.seq, .slice S.body.a S.body.n S.body.c, .slice S.tag.a S.tag.n S.tag.c]) := KF7.out.later b89
    have RP9 : Hid (SRd x9 ⟨some ⟨gp, 0, none⟩, mp, cp⟩ (putF D)) := RP7.out.later b89
    have B9 : Hid (Below w.heap.size w x9) := B7.out.trans (b89.mono B7.out.size)
    clear hgot o8 b8 b9 b89 hx9 OF7 KF7 RP7 B7
    obtain ⟨k, hk⟩ : ∃ k : Nat, mp = k + 1 := ⟨mp - 1, by have := EMP.out; have := H79.out; omega⟩
    have HK : Hid (mp = k + 1) := hk
    have hwk : IntKind.i64.wrap ((mp : Int) - 1) = (k : Int) := by rw [IntKind.wrap_i64]; have := EMP.out; have := H79.out; omega
    have hk0 : (0 : Int) ≤ (k : Int) := by omega
    have hkc : (k : Int) ≤ (cp : Int) := by have := RP9.out.cap; simp only at this; omega
    have h79 : (mp : Int) ≤ 79 := by have := EMP.out; have := H79.out; omega
    have RC9 : Hid (SRd x9 ⟨some ⟨gp, 0, none⟩, k, cp⟩ ((putF D).take k)) := cut_rd RP9.out (by omega)
    clear hk
    unfold frV
    go_wp2_with fail
    rw [HW9.out]
    obtain ⟨gg, hgg⟩ : ∃ gg, x8.heap.size = gg := ⟨_, rfl⟩
    rw [hgg] at KG9 ⊢
    clear HW9 hgg
    refine (implGetFrame ⟨some ⟨gp, 0, none⟩, k, cp⟩ ((putF D).take k) x9 RC9.out gp 0 rfl (by rw [List.length_take]; have := H79.out; omega)).mono ?_
    rintro e x10 ⟨E, Se, cutb, rfl, hcut, _, b10⟩
    have HCut : Hid (cutb = true → D.kind = 4) := fun h => by
      rcases hcut with ⟨_, g1, g2⟩ | ⟨h', _⟩
      · exact cut_data D E HOK.out g1 (by rw [g2]; have := HK.out; have := EMP.out; rw [show (putF D).length - 1 = k by omega])
      · rw [h] at h'; cases h'
    obtain ⟨x11, hx11⟩ : ∃ x11, x10.alloc (.cells #[.int .i64 E.kind, .int .i64 E.id, .slice Se.cn.a Se.cn.n Se.cn.c, .slice Se.sn.a Se.sn.n Se.sn.c, .int .i64 E.tick, .slice Se.cookie.a Se.cookie.n Se.cookie.c, .slice Se.proof.a Se.proof.n Se.proof.c, .int .i64 E.epoch, .int .i64 E.seq, .slice Se.body.a Se.body.n Se.body.c, .slice Se.tag.a Se.tag.n Se.tag.c] 25) = x11 := ⟨_, rfl⟩
    have HW11 : Hid (x10.alloc (.cells #[.int .i64 E.kind, .int .i64 E.id, .slice Se.cn.a Se.cn.n Se.cn.c, .slice Se.sn.a Se.sn.n Se.sn.c, .int .i64 E.tick, .slice Se.cookie.a Se.cookie.n Se.cookie.c, .slice Se.proof.a Se.proof.n Se.proof.c, .int .i64 E.epoch, .int .i64 E.seq, .slice Se.body.a Se.body.n Se.body.c, .slice Se.tag.a Se.tag.n Se.tag.c] 25) = x11) := hx11
    have b11 : Below x9.heap.size x9 x11 := by rw [← hx11]; exact b10.alloc b10.size _
    have OG11 : Hid (FrRd x11 Sg D) := OG9.out.later b11
    have KG11 : Hid (Blk x11 gg 25 [.int .i64 D.kind, .int .i64 D.id, .slice Sg.cn.a Sg.cn.n Sg.cn.c, .slice Sg.sn.a Sg.sn.n Sg.sn.c, .int .i64 D.tick, .slice Sg.cookie.a Sg.cookie.n Sg.cookie.c, .slice Sg.proof.a Sg.proof.n Sg.proof.c, .int .i64 D.epoch, .int .i64 D.seq, .slice Sg.body.a Sg.body.n Sg.body.c, .slice Sg.tag.a Sg.tag.n Sg.tag.c]) := KG9.out.later b11
    have OF11 : Hid (FrRd x11 S D) := OF9.out.later b11
    have KF11 : Hid (Blk x11 gf 25 [.int .i64 D.kind, .int .i64 D.id, .slice S.cn.a S.cn.n S.cn.c, .slice S.sn.a S.sn.n S.sn.c, .int .i64 D.tick, .slice S.cookie.a S.cookie.n S.cookie.c, .slice S.proof.a S.proof.n S.proof.c, .int .i64 D.epoch, .int .i64 D.seq, .slice S.body.a S.body.n S.body.c, .slice S.tag.a S.tag.n S.tag.c]) := KF9.out.later b11
    have B11 : Hid (Below w.heap.size w x11) := B9.out.trans (b11.mono B9.out.size)
    clear hcut b10 b11 hx11 OG9 KG9 OF9 KF9 RP9 RC9 B9
    unfold frV
    go_upto_region 11 with fail
    rw [HW11.out]
    clear HW11
    have cd0 := KF11.out.cell 0 rfl
    have cd1 := KF11.out.cell 1 rfl
    have cd2 := KF11.out.cell 2 rfl
    have cd3 := KF11.out.cell 3 rfl
    have cd4 := KF11.out.cell 4 rfl
    have cd5 := KF11.out.cell 5 rfl
    have cd6 := KF11.out.cell 6 rfl
    have cd7 := KF11.out.cell 7 rfl
    have cd8 := KF11.out.cell 8 rfl
    have cd9 := KF11.out.cell 9 rfl
    have cd10 := KF11.out.cell 10 rfl
    have ce0 := KG11.out.cell 0 rfl
    have ce1 := KG11.out.cell 1 rfl
    have ce2 := KG11.out.cell 2 rfl
    have ce3 := KG11.out.cell 3 rfl
    have ce4 := KG11.out.cell 4 rfl
    have ce5 := KG11.out.cell 5 rfl
    have ce6 := KG11.out.cell 6 rfl
    have ce7 := KG11.out.cell 7 rfl
    have ce8 := KG11.out.cell 8 rfl
    have ce9 := KG11.out.cell 9 rfl
    have ce10 := KG11.out.cell 10 rfl
    go_wp2_with fail
    refine (sameFrame S Sg D x11 OF11.out OG11.out).mono ?_
    rintro e x12 ⟨rfl, b12⟩
    have KF12 : Hid (Blk x12 gf 25 [.int .i64 D.kind, .int .i64 D.id, .slice S.cn.a S.cn.n S.cn.c, .slice S.sn.a S.sn.n S.sn.c, .int .i64 D.tick, .slice S.cookie.a S.cookie.n S.cookie.c, .slice S.proof.a S.proof.n S.proof.c, .int .i64 D.epoch, .int .i64 D.seq, .slice S.body.a S.body.n S.body.c, .slice S.tag.a S.tag.n S.tag.c]) := KF11.out.later b12
    have B12 : Hid (Below w.heap.size w x12) := B11.out.trans (b12.mono B11.out.size)
    clear b12 cd0 cd1 cd2 cd3 cd4 cd5 cd6 cd7 cd8 cd9 cd10 ce0 ce1 ce2 ce3 ce4 ce5 ce6 ce7 ce8 ce9 ce10 KF11 KG11 OF11 OG11 B11
    have ck := KF12.out.cell 0 rfl
    cases cutb with
    | false =>
      go_wp2
      go_ret
      exact ⟨rfl, B12.out⟩
    | true =>
      have hk4 : (D.kind == 4) = true := by rw [HCut.out rfl]; rfl
      go_wp2
      go_ret
      exact ⟨rfl, B12.out⟩
theorem walk (a : Option Addr) (len cap : Nat) (zs : List Int) (w : World) (h : IsRow .u8 w a len cap zs) :
    Calls Try.prog 3 #[.slice a len cap] w fun e w' => e = .returned (.bool true) ∧ Below w.heap.size w w' := by
  obtain ⟨l, h1, h2, _, h4⟩ := h.read
  by_cases hl : len ≤ 1048576
  · exact small a len cap l w h1 h2 h4 hl
  · clear h h1 h2 h4
    go_enter Try.func3, Try.ntmps3
    go_wp2_with fail
    refine (bigYes a len cap w (by omega)).mono ?_
    rintro e w0 ⟨rfl, rfl⟩
    go_wp2
    go_ret
    exact ⟨rfl, Below.refl _ _⟩
end Go.Proofs.Ytfapehmbecgjaaa.LawFrames
