/-
  The walk of the law FnExactGetFrame: at every slice of bytes it answers true, and nothing that was there is written.
-/
import Derived.Test.YtfapehmbecgjaaaFrGi
import Derived.Test.YtfapehmbecgjaaaZoneB
namespace Go.Proofs.Ytfapehmbecgjaaa.LawGetFrame
open Go.RowKit Go.Proofs.Ytfapehmbecgjaaa.Mem Go.Proofs.Ytfapehmbecgjaaa.Blk Go.Proofs.Ytfapehmbecgjaaa.Zone Go.Proofs.Ytfapehmbecgjaaa.ZoneB Go.Proofs.Ytfapehmbecgjaaa.FrZ Go.Proofs.Ytfapehmbecgjaaa.FrP Go.Proofs.Ytfapehmbecgjaaa.FrB Go.Proofs.Ytfapehmbecgjaaa.FrG Go.Proofs.Ytfapehmbecgjaaa.FrGet Go.Proofs.Ytfapehmbecgjaaa.FrGi

theorem isrow_srd {w : World} {a : Option Addr} {n c : Nat} {z : List Int} (h : IsRow .u8 w a n c z) : ∃ l, SRd w ⟨a, n, c⟩ l := by
  have hc : n ≤ c := by
    rcases h with ⟨_, rfl, rfl, _⟩ | ⟨_, _, h, _⟩
    · exact Nat.le_refl _
    · exact h
  obtain ⟨l, h1, h2, h3, h4⟩ := h.read
  exact ⟨l, h1, h2, h3, hc, h4⟩
theorem toB2 (s : Sl) (l : List Int) (w : World) (h : SRd w s l) (hl : l.length ≤ 4194304) :
    Calls Try.prog 31 #[.slice s.a s.n s.c] w fun e w' => ∃ g, e = .returned (.slice (some ⟨g, 0, none⟩) s.n s.n) ∧ SOwn w' w.heap.size w'.heap.size ⟨some ⟨g, 0, none⟩, s.n, s.n⟩ l ∧ Below w.heap.size w w' := by
  refine (toB s l w h hl).mono ?_
  rintro e w' ⟨rfl, h1, h2⟩
  exact ⟨_, rfl, h1, h2⟩
theorem got_short {l : List Int} {D : FrD} {ok : Bool} (h : IsGot l D ok) : FrShort D 40 := by
  rcases h with ⟨_, h, _⟩ | ⟨_, rfl, _⟩
  · obtain ⟨h1, h2, h3, h4, h5, h6⟩ := ok_lens D h
    exact ⟨by omega, by omega, by omega, by omega, by omega, by omega⟩
  · exact ⟨Nat.zero_le _, Nat.zero_le _, Nat.zero_le _, Nat.zero_le _, Nat.zero_le _, Nat.zero_le _⟩
theorem short_big {D : FrD} (h : FrShort D 40) : FrShort D 4194304 := ⟨by have := h.cn; omega, by have := h.sn; omega, by have := h.cookie; omega, by have := h.proof; omega, by have := h.body; omega, by have := h.tag; omega⟩
theorem sum_le {w : World} {S : FrS} {D : FrD} (r : FrRd w S D) (h : FrShort D 40) : (1 : Int) + (frSum S : Int) ≤ 4194304 := by
  unfold frSum
  have a1 := r.cn.len; have a2 := r.sn.len; have a3 := r.cookie.len; have a4 := r.proof.len; have a5 := r.body.len; have a6 := r.tag.len
  have b1 := h.cn; have b2 := h.sn; have b3 := h.cookie; have b4 := h.proof; have b5 := h.body; have b6 := h.tag
  omega

set_option maxRecDepth 100000 in
set_option maxHeartbeats 8000000 in
theorem walk0 (a : Option Addr) (n c : Nat) (l : List Int) (w : World) (h : SRd w ⟨a, n, c⟩ l) :
    Calls Try.prog 8 #[.slice a n c] w fun e w' => e = .returned (.bool true) ∧ Below w.heap.size w w' := by
  have HR : Hid (SRd w ⟨a, n, c⟩ l) := h
  have HN : Hid (n = l.length) := h.len
  by_cases hbig : (n : Int) > 1048576
  · go_enter Try.func8, Try.ntmps8
    go_wp2
    go_ret
    exact ⟨rfl, Below.refl _ _⟩
  have hll : l.length ≤ 1048576 := by have := HN.out; omega
  clear h
  go_enter Try.func8, Try.ntmps8
  go_wp2_with fail
  refine (toB2 ⟨a, n, c⟩ l w HR.out (by omega)).mono ?_
  rintro e x1 ⟨g1, rfl, o1, b1⟩
  have R1 : Hid (SRd x1 ⟨some ⟨g1, 0, none⟩, n, n⟩ l) := o1.rd
  have B1 : Hid (Below w.heap.size w x1) := b1
  have L1 : Hid (w.heap.size ≤ x1.heap.size) := b1.size
  clear o1 b1
  go_wp2_with fail
  refine (specGetFrame ⟨some ⟨g1, 0, none⟩, n, n⟩ l x1 R1.out g1 0 rfl (by omega)).mono ?_
  rintro e x2 ⟨D, Sw, ok, rfl, hgot, o2, b2⟩
  have HGot : Hid (IsGot l D ok) := hgot
  have HSh : Hid (FrShort D 40) := got_short hgot
  have hoo : (ok != ok) = false := by simp
  obtain ⟨x3, hx3⟩ : ∃ x3, x2.alloc (.cells #[.int .i64 D.kind, .int .i64 D.id, .slice Sw.cn.a Sw.cn.n Sw.cn.c, .slice Sw.sn.a Sw.sn.n Sw.sn.c, .int .i64 D.tick, .slice Sw.cookie.a Sw.cookie.n Sw.cookie.c, .slice Sw.proof.a Sw.proof.n Sw.proof.c, .int .i64 D.epoch, .int .i64 D.seq, .slice Sw.body.a Sw.body.n Sw.body.c, .slice Sw.tag.a Sw.tag.n Sw.tag.c] 25) = x3 := ⟨_, rfl⟩
  have HW3 : Hid (x2.alloc (.cells #[.int .i64 D.kind, .int .i64 D.id, .slice Sw.cn.a Sw.cn.n Sw.cn.c, .slice Sw.sn.a Sw.sn.n Sw.sn.c, .int .i64 D.tick, .slice Sw.cookie.a Sw.cookie.n Sw.cookie.c, .slice Sw.proof.a Sw.proof.n Sw.proof.c, .int .i64 D.epoch, .int .i64 D.seq, .slice Sw.body.a Sw.body.n Sw.body.c, .slice Sw.tag.a Sw.tag.n Sw.tag.c] 25) = x3) := hx3
  have b3 : Below x2.heap.size x2 x3 := by rw [← hx3]; exact (Below.refl _ _).alloc (Nat.le_refl _) _
  have KW3 : Hid (Blk x3 x2.heap.size 25 [.int .i64 D.kind, .int .i64 D.id, .slice Sw.cn.a Sw.cn.n Sw.cn.c, .slice Sw.sn.a Sw.sn.n Sw.sn.c, .int .i64 D.tick, .slice Sw.cookie.a Sw.cookie.n Sw.cookie.c, .slice Sw.proof.a Sw.proof.n Sw.proof.c, .int .i64 D.epoch, .int .i64 D.seq, .slice Sw.body.a Sw.body.n Sw.body.c, .slice Sw.tag.a Sw.tag.n Sw.tag.c]) := by rw [← hx3]; exact Blk.new x2 _ _
  have OW3 : Hid (FrOwn x3 x1.heap.size x2.heap.size Sw D) := o2.later b3
  have B2 : Hid (Below w.heap.size w x2) := B1.out.trans (b2.mono B1.out.size)
  have B3 : Hid (Below w.heap.size w x3) := B2.out.trans (b3.mono B2.out.size)
  have L2 : Hid (x1.heap.size ≤ x2.heap.size ∧ x2.heap.size < x3.heap.size) := ⟨b2.size, KW3.out.lt⟩
  clear hgot o2 b2 b3 hx3 B1 B2 R1
  unfold frV
  go_wp2_with fail
  rw [HW3.out]
  obtain ⟨gw, hgw⟩ : ∃ gw, x2.heap.size = gw := ⟨_, rfl⟩
  have GW : Hid (x2.heap.size = gw) := hgw
  rw [hgw] at KW3 ⊢
  clear HW3 hgw
  refine (toB2 ⟨a, n, c⟩ l x3 (HR.out.later B3.out) (by omega)).mono ?_
  rintro e x4 ⟨g2, rfl, o4, b4⟩
  have OX4 : Hid (SOwn x4 x3.heap.size x4.heap.size ⟨some ⟨g2, 0, none⟩, n, n⟩ l) := o4
  have L4 : Hid (x3.heap.size ≤ x4.heap.size) := b4.size
  clear o4
  have OW4 : Hid (FrOwn x4 x1.heap.size x2.heap.size Sw D) := OW3.out.later b4
  have KW4 : Hid (Blk x4 gw 25 [.int .i64 D.kind, .int .i64 D.id, .slice Sw.cn.a Sw.cn.n Sw.cn.c, .slice Sw.sn.a Sw.sn.n Sw.sn.c, .int .i64 D.tick, .slice Sw.cookie.a Sw.cookie.n Sw.cookie.c, .slice Sw.proof.a Sw.proof.n Sw.proof.c, .int .i64 D.epoch, .int .i64 D.seq, .slice Sw.body.a Sw.body.n Sw.body.c, .slice Sw.tag.a Sw.tag.n Sw.tag.c]) := KW3.out.later b4
  have B4 : Hid (Below w.heap.size w x4) := B3.out.trans (b4.mono B3.out.size)
  clear b4 OW3 KW3 B3
  go_wp2_with fail
  refine (implGetFrame ⟨some ⟨g2, 0, none⟩, n, n⟩ l x4 OX4.out.rd g2 0 rfl (by omega)).mono ?_
  rintro e x5 ⟨D', Sg, ok', rfl, hgot', o5, b5⟩
  obtain ⟨rfl, rfl⟩ := HGot.out.unique hgot'
  have OG5 : Hid (FrOwn x5 x4.heap.size x5.heap.size Sg D) := o5
  have L5 : Hid (x4.heap.size ≤ x5.heap.size) := b5.size
  clear o5 hgot'
  have OW5 : Hid (FrOwn x5 x1.heap.size x2.heap.size Sw D) := OW4.out.later b5
  have KW5 : Hid (Blk x5 gw 25 [.int .i64 D.kind, .int .i64 D.id, .slice Sw.cn.a Sw.cn.n Sw.cn.c, .slice Sw.sn.a Sw.sn.n Sw.sn.c, .int .i64 D.tick, .slice Sw.cookie.a Sw.cookie.n Sw.cookie.c, .slice Sw.proof.a Sw.proof.n Sw.proof.c, .int .i64 D.epoch, .int .i64 D.seq, .slice Sw.body.a Sw.body.n Sw.body.c, .slice Sw.tag.a Sw.tag.n Sw.tag.c]) := KW4.out.later b5
  have OX5 : Hid (SOwn x5 x3.heap.size x4.heap.size ⟨some ⟨g2, 0, none⟩, n, n⟩ l) := OX4.out.carry (Kept.of_below b5 _) (.inl (Nat.le_refl _))
  have B5 : Hid (Below w.heap.size w x5) := B4.out.trans (b5.mono B4.out.size)
  clear b5 OW4 KW4 OX4 B4
  obtain ⟨x6, hx6⟩ : ∃ x6, x5.alloc (.cells #[.int .i64 D.kind, .int .i64 D.id, .slice Sg.cn.a Sg.cn.n Sg.cn.c, .slice Sg.sn.a Sg.sn.n Sg.sn.c, .int .i64 D.tick, .slice Sg.cookie.a Sg.cookie.n Sg.cookie.c, .slice Sg.proof.a Sg.proof.n Sg.proof.c, .int .i64 D.epoch, .int .i64 D.seq, .slice Sg.body.a Sg.body.n Sg.body.c, .slice Sg.tag.a Sg.tag.n Sg.tag.c] 25) = x6 := ⟨_, rfl⟩
  have HW6 : Hid (x5.alloc (.cells #[.int .i64 D.kind, .int .i64 D.id, .slice Sg.cn.a Sg.cn.n Sg.cn.c, .slice Sg.sn.a Sg.sn.n Sg.sn.c, .int .i64 D.tick, .slice Sg.cookie.a Sg.cookie.n Sg.cookie.c, .slice Sg.proof.a Sg.proof.n Sg.proof.c, .int .i64 D.epoch, .int .i64 D.seq, .slice Sg.body.a Sg.body.n Sg.body.c, .slice Sg.tag.a Sg.tag.n Sg.tag.c] 25) = x6) := hx6
  have b6 : Below x5.heap.size x5 x6 := by rw [← hx6]; exact (Below.refl _ _).alloc (Nat.le_refl _) _
  have KG6 : Hid (Blk x6 x5.heap.size 25 [.int .i64 D.kind, .int .i64 D.id, .slice Sg.cn.a Sg.cn.n Sg.cn.c, .slice Sg.sn.a Sg.sn.n Sg.sn.c, .int .i64 D.tick, .slice Sg.cookie.a Sg.cookie.n Sg.cookie.c, .slice Sg.proof.a Sg.proof.n Sg.proof.c, .int .i64 D.epoch, .int .i64 D.seq, .slice Sg.body.a Sg.body.n Sg.body.c, .slice Sg.tag.a Sg.tag.n Sg.tag.c]) := by rw [← hx6]; exact Blk.new x5 _ _
  clear hx6
  have OW6 : Hid (FrOwn x6 x1.heap.size x2.heap.size Sw D) := OW5.out.later b6
  have KW6 : Hid (Blk x6 gw 25 [.int .i64 D.kind, .int .i64 D.id, .slice Sw.cn.a Sw.cn.n Sw.cn.c, .slice Sw.sn.a Sw.sn.n Sw.sn.c, .int .i64 D.tick, .slice Sw.cookie.a Sw.cookie.n Sw.cookie.c, .slice Sw.proof.a Sw.proof.n Sw.proof.c, .int .i64 D.epoch, .int .i64 D.seq, .slice Sw.body.a Sw.body.n Sw.body.c, .slice Sw.tag.a Sw.tag.n Sw.tag.c]) := KW5.out.later b6
  have OX6 : Hid (SOwn x6 x3.heap.size x4.heap.size ⟨some ⟨g2, 0, none⟩, n, n⟩ l) := OX5.out.carry (Kept.of_below b6 _) (.inl (Nat.le_refl _))
  have OG6 : Hid (FrOwn x6 x4.heap.size x5.heap.size Sg D) := OG5.out.later b6
  have B6 : Hid (Below w.heap.size w x6) := B5.out.trans (b6.mono B5.out.size)
  clear b6 OW5 KW5 OX5 OG5 B5
  unfold frV
  go_upto_region 6 with fail
  rw [HW6.out]
  obtain ⟨gg, hgg⟩ : ∃ gg, x5.heap.size = gg := ⟨_, rfl⟩
  have GG : Hid (x5.heap.size = gg) := hgg
  rw [hgg] at KG6 ⊢
  clear HW6 hgg
  have ca0 := KG6.out.cell 0 rfl
  have ca1 := KG6.out.cell 1 rfl
  have ca2 := KG6.out.cell 2 rfl
  have ca3 := KG6.out.cell 3 rfl
  have ca4 := KG6.out.cell 4 rfl
  have ca5 := KG6.out.cell 5 rfl
  have ca6 := KG6.out.cell 6 rfl
  have ca7 := KG6.out.cell 7 rfl
  have ca8 := KG6.out.cell 8 rfl
  have ca9 := KG6.out.cell 9 rfl
  have ca10 := KG6.out.cell 10 rfl
  have cb0 := KW6.out.cell 0 rfl
  have cb1 := KW6.out.cell 1 rfl
  have cb2 := KW6.out.cell 2 rfl
  have cb3 := KW6.out.cell 3 rfl
  have cb4 := KW6.out.cell 4 rfl
  have cb5 := KW6.out.cell 5 rfl
  have cb6 := KW6.out.cell 6 rfl
  have cb7 := KW6.out.cell 7 rfl
  have cb8 := KW6.out.cell 8 rfl
  have cb9 := KW6.out.cell 9 rfl
  have cb10 := KW6.out.cell 10 rfl
  go_wp2_with fail
  refine (eqFrame Sg Sw D x6 OG6.out.rd OW6.out.rd (short_big HSh.out)).mono ?_
  rintro e x7 ⟨rfl, b7⟩
  clear ca0 ca1 ca2 ca3 ca4 ca5 ca6 ca7 ca8 ca9 ca10 cb0 cb1 cb2 cb3 cb4 cb5 cb6 cb7 cb8 cb9 cb10
  have OW7 : Hid (FrOwn x7 x1.heap.size x2.heap.size Sw D) := OW6.out.later b7
  have KW7 : Hid (Blk x7 gw 25 [.int .i64 D.kind, .int .i64 D.id, .slice Sw.cn.a Sw.cn.n Sw.cn.c, .slice Sw.sn.a Sw.sn.n Sw.sn.c, .int .i64 D.tick, .slice Sw.cookie.a Sw.cookie.n Sw.cookie.c, .slice Sw.proof.a Sw.proof.n Sw.proof.c, .int .i64 D.epoch, .int .i64 D.seq, .slice Sw.body.a Sw.body.n Sw.body.c, .slice Sw.tag.a Sw.tag.n Sw.tag.c]) := KW6.out.later b7
  have OX7 : Hid (SOwn x7 x3.heap.size x4.heap.size ⟨some ⟨g2, 0, none⟩, n, n⟩ l) := OX6.out.carry (Kept.of_below b7 _) (.inl (Nat.le_refl _))
  have OG7 : Hid (FrOwn x7 x4.heap.size x5.heap.size Sg D) := OG6.out.later b7
  have KG7 : Hid (Blk x7 gg 25 [.int .i64 D.kind, .int .i64 D.id, .slice Sg.cn.a Sg.cn.n Sg.cn.c, .slice Sg.sn.a Sg.sn.n Sg.sn.c, .int .i64 D.tick, .slice Sg.cookie.a Sg.cookie.n Sg.cookie.c, .slice Sg.proof.a Sg.proof.n Sg.proof.c, .int .i64 D.epoch, .int .i64 D.seq, .slice Sg.body.a Sg.body.n Sg.body.c, .slice Sg.tag.a Sg.tag.n Sg.tag.c]) := KG6.out.later b7
  have B7 : Hid (Below w.heap.size w x7) := B6.out.trans (b7.mono B6.out.size)
  clear b7 OW6 KW6 OX6 OG6 KG6 B6
  go_wp2_with fail
  refine (toB2 ⟨a, n, c⟩ l x7 (HR.out.later B7.out) (by omega)).mono ?_
  rintro e x8 ⟨g3, rfl, o8, b8⟩
  have R8 : Hid (SRd x8 ⟨some ⟨g3, 0, none⟩, n, n⟩ l) := o8.rd
  clear o8
  have OW8 : Hid (FrOwn x8 x1.heap.size x2.heap.size Sw D) := OW7.out.later b8
  have KW8 : Hid (Blk x8 gw 25 [.int .i64 D.kind, .int .i64 D.id, .slice Sw.cn.a Sw.cn.n Sw.cn.c, .slice Sw.sn.a Sw.sn.n Sw.sn.c, .int .i64 D.tick, .slice Sw.cookie.a Sw.cookie.n Sw.cookie.c, .slice Sw.proof.a Sw.proof.n Sw.proof.c, .int .i64 D.epoch, .int .i64 D.seq, .slice Sw.body.a Sw.body.n Sw.body.c, .slice Sw.tag.a Sw.tag.n Sw.tag.c]) := KW7.out.later b8
  have OX8 : Hid (SOwn x8 x3.heap.size x4.heap.size ⟨some ⟨g2, 0, none⟩, n, n⟩ l) := OX7.out.carry (Kept.of_below b8 _) (.inl (Nat.le_refl _))
  have OG8 : Hid (FrOwn x8 x4.heap.size x5.heap.size Sg D) := OG7.out.later b8
  have KG8 : Hid (Blk x8 gg 25 [.int .i64 D.kind, .int .i64 D.id, .slice Sg.cn.a Sg.cn.n Sg.cn.c, .slice Sg.sn.a Sg.sn.n Sg.sn.c, .int .i64 D.tick, .slice Sg.cookie.a Sg.cookie.n Sg.cookie.c, .slice Sg.proof.a Sg.proof.n Sg.proof.c, .int .i64 D.epoch, .int .i64 D.seq, .slice Sg.body.a Sg.body.n Sg.body.c, .slice Sg.tag.a Sg.tag.n Sg.tag.c]) := KG7.out.later b8
  have B8 : Hid (Below w.heap.size w x8) := B7.out.trans (b8.mono B7.out.size)
  clear b8 OW7 KW7 OX7 OG7 KG7 B7
  go_wp2_with fail
  refine (eqB ⟨some ⟨g2, 0, none⟩, n, n⟩ ⟨some ⟨g3, 0, none⟩, n, n⟩ l l x8 OX8.out.rd R8.out (by omega) (by omega)).mono ?_
  rw [decide_eq_true (show l = l from rfl)]
  rintro e x9 ⟨rfl, b9⟩
  clear R8
  have OW9 : Hid (FrOwn x9 x1.heap.size x2.heap.size Sw D) := OW8.out.later b9
  have KW9 : Hid (Blk x9 gw 25 [.int .i64 D.kind, .int .i64 D.id, .slice Sw.cn.a Sw.cn.n Sw.cn.c, .slice Sw.sn.a Sw.sn.n Sw.sn.c, .int .i64 D.tick, .slice Sw.cookie.a Sw.cookie.n Sw.cookie.c, .slice Sw.proof.a Sw.proof.n Sw.proof.c, .int .i64 D.epoch, .int .i64 D.seq, .slice Sw.body.a Sw.body.n Sw.body.c, .slice Sw.tag.a Sw.tag.n Sw.tag.c]) := KW8.out.later b9
  have OX9 : Hid (SOwn x9 x3.heap.size x4.heap.size ⟨some ⟨g2, 0, none⟩, n, n⟩ l) := OX8.out.carry (Kept.of_below b9 _) (.inl (Nat.le_refl _))
  have OG9 : Hid (FrOwn x9 x4.heap.size x5.heap.size Sg D) := OG8.out.later b9
  have KG9 : Hid (Blk x9 gg 25 [.int .i64 D.kind, .int .i64 D.id, .slice Sg.cn.a Sg.cn.n Sg.cn.c, .slice Sg.sn.a Sg.sn.n Sg.sn.c, .int .i64 D.tick, .slice Sg.cookie.a Sg.cookie.n Sg.cookie.c, .slice Sg.proof.a Sg.proof.n Sg.proof.c, .int .i64 D.epoch, .int .i64 D.seq, .slice Sg.body.a Sg.body.n Sg.body.c, .slice Sg.tag.a Sg.tag.n Sg.tag.c]) := KG8.out.later b9
  have B9 : Hid (Below w.heap.size w x9) := B8.out.trans (b9.mono B8.out.size)
  clear b9 OW8 KW8 OX8 OG8 KG8 B8
  have hn4 : n ≤ 4194304 := by have := HN.out; omega
  have hk0 : ¬ ((1 : Int) + (n : Int) < 0) := by omega
  go_wp2_with fail
  refine (markB ⟨some ⟨g2, 0, none⟩, n, n⟩ l 1 x9 x3.heap.size x4.heap.size OX9.out (by omega) (by omega) (by omega)).mono ?_
  rintro e x10 ⟨rfl, _, k10, _⟩
  have OW10 : Hid (FrOwn x10 x1.heap.size x2.heap.size Sw D) := OW9.out.carry k10 (.inl (Nat.le_of_lt L2.out.2))
  have KW10 : Hid (Blk x10 gw 25 [.int .i64 D.kind, .int .i64 D.id, .slice Sw.cn.a Sw.cn.n Sw.cn.c, .slice Sw.sn.a Sw.sn.n Sw.sn.c, .int .i64 D.tick, .slice Sw.cookie.a Sw.cookie.n Sw.cookie.c, .slice Sw.proof.a Sw.proof.n Sw.proof.c, .int .i64 D.epoch, .int .i64 D.seq, .slice Sw.body.a Sw.body.n Sw.body.c, .slice Sw.tag.a Sw.tag.n Sw.tag.c]) := KW9.out.keep (k10.block gw KW9.out.lt (.inl (by have := L2.out; have := GW.out; omega)))
  have OG10 : Hid (FrOwn x10 x4.heap.size x5.heap.size Sg D) := OG9.out.carry k10 (.inr (Nat.le_refl _))
  have KG10 : Hid (Blk x10 gg 25 [.int .i64 D.kind, .int .i64 D.id, .slice Sg.cn.a Sg.cn.n Sg.cn.c, .slice Sg.sn.a Sg.sn.n Sg.sn.c, .int .i64 D.tick, .slice Sg.cookie.a Sg.cookie.n Sg.cookie.c, .slice Sg.proof.a Sg.proof.n Sg.proof.c, .int .i64 D.epoch, .int .i64 D.seq, .slice Sg.body.a Sg.body.n Sg.body.c, .slice Sg.tag.a Sg.tag.n Sg.tag.c]) := KG9.out.keep (k10.block gg KG9.out.lt (.inr (by have := L5.out; have := GG.out; omega)))
  have B10 : Hid (Below w.heap.size w x10) := B9.out.trans (k10.below (by have := L1.out; have := L2.out; omega) B9.out.size)
  clear k10 OW9 KW9 OG9 KG9 B9 OX9
  have ca0 := KG10.out.cell 0 rfl
  have ca1 := KG10.out.cell 1 rfl
  have ca2 := KG10.out.cell 2 rfl
  have ca3 := KG10.out.cell 3 rfl
  have ca4 := KG10.out.cell 4 rfl
  have ca5 := KG10.out.cell 5 rfl
  have ca6 := KG10.out.cell 6 rfl
  have ca7 := KG10.out.cell 7 rfl
  have ca8 := KG10.out.cell 8 rfl
  have ca9 := KG10.out.cell 9 rfl
  have ca10 := KG10.out.cell 10 rfl
  have cb0 := KW10.out.cell 0 rfl
  have cb1 := KW10.out.cell 1 rfl
  have cb2 := KW10.out.cell 2 rfl
  have cb3 := KW10.out.cell 3 rfl
  have cb4 := KW10.out.cell 4 rfl
  have cb5 := KW10.out.cell 5 rfl
  have cb6 := KW10.out.cell 6 rfl
  have cb7 := KW10.out.cell 7 rfl
  have cb8 := KW10.out.cell 8 rfl
  have cb9 := KW10.out.cell 9 rfl
  have cb10 := KW10.out.cell 10 rfl
  go_wp2_with fail
  refine (eqFrame Sg Sw D x10 OG10.out.rd OW10.out.rd (short_big HSh.out)).mono ?_
  rintro e x11 ⟨rfl, b11⟩
  clear ca0 ca1 ca2 ca3 ca4 ca5 ca6 ca7 ca8 ca9 ca10 cb0 cb1 cb2 cb3 cb4 cb5 cb6 cb7 cb8 cb9 cb10
  have OW11 : Hid (FrOwn x11 x1.heap.size x2.heap.size Sw D) := OW10.out.later b11
  have KW11 : Hid (Blk x11 gw 25 [.int .i64 D.kind, .int .i64 D.id, .slice Sw.cn.a Sw.cn.n Sw.cn.c, .slice Sw.sn.a Sw.sn.n Sw.sn.c, .int .i64 D.tick, .slice Sw.cookie.a Sw.cookie.n Sw.cookie.c, .slice Sw.proof.a Sw.proof.n Sw.proof.c, .int .i64 D.epoch, .int .i64 D.seq, .slice Sw.body.a Sw.body.n Sw.body.c, .slice Sw.tag.a Sw.tag.n Sw.tag.c]) := KW10.out.later b11
  have OG11 : Hid (FrOwn x11 x4.heap.size x5.heap.size Sg D) := OG10.out.later b11
  have KG11 : Hid (Blk x11 gg 25 [.int .i64 D.kind, .int .i64 D.id, .slice Sg.cn.a Sg.cn.n Sg.cn.c, .slice Sg.sn.a Sg.sn.n Sg.sn.c, .int .i64 D.tick, .slice Sg.cookie.a Sg.cookie.n Sg.cookie.c, .slice Sg.proof.a Sg.proof.n Sg.proof.c, .int .i64 D.epoch, .int .i64 D.seq, .slice Sg.body.a Sg.body.n Sg.body.c, .slice Sg.tag.a Sg.tag.n Sg.tag.c]) := KG10.out.later b11
  have B11 : Hid (Below w.heap.size w x11) := B10.out.trans (b11.mono B10.out.size)
  clear b11 OW10 KW10 OG10 KG10 B10
  have HSum : Hid ((1 : Int) + (frSum Sg : Int) ≤ 4194304) := sum_le OG11.out.rd HSh.out
  have hs0 : ¬ ((1 : Int) + (frSum Sg : Int) < 0) := by omega
  have hsm : ((1 : Int) + (frSum Sg : Int) != 1 + (frSum Sg : Int)) = false := by simp
  have ca0 := KG11.out.cell 0 rfl
  have ca1 := KG11.out.cell 1 rfl
  have ca2 := KG11.out.cell 2 rfl
  have ca3 := KG11.out.cell 3 rfl
  have ca4 := KG11.out.cell 4 rfl
  have ca5 := KG11.out.cell 5 rfl
  have ca6 := KG11.out.cell 6 rfl
  have ca7 := KG11.out.cell 7 rfl
  have ca8 := KG11.out.cell 8 rfl
  have ca9 := KG11.out.cell 9 rfl
  have ca10 := KG11.out.cell 10 rfl
  go_wp2_with fail
  refine (markFrame Sg D 1 x11 x4.heap.size x5.heap.size OG11.out (by have := GG.out; have := KG11.out.lt; omega) (by omega) HSum.out).mono ?_
  rintro e x12 ⟨rfl, o12, k12⟩
  clear ca0 ca1 ca2 ca3 ca4 ca5 ca6 ca7 ca8 ca9 ca10
  have OG12 : Hid (FrOwn x12 x4.heap.size x5.heap.size Sg (frMarks 1 Sg D)) := o12
  have OW12 : Hid (FrOwn x12 x1.heap.size x2.heap.size Sw D) := OW11.out.carry k12 (.inl (by have := L2.out; have := L4.out; omega))
  have KW12 : Hid (Blk x12 gw 25 [.int .i64 D.kind, .int .i64 D.id, .slice Sw.cn.a Sw.cn.n Sw.cn.c, .slice Sw.sn.a Sw.sn.n Sw.sn.c, .int .i64 D.tick, .slice Sw.cookie.a Sw.cookie.n Sw.cookie.c, .slice Sw.proof.a Sw.proof.n Sw.proof.c, .int .i64 D.epoch, .int .i64 D.seq, .slice Sw.body.a Sw.body.n Sw.body.c, .slice Sw.tag.a Sw.tag.n Sw.tag.c]) := KW11.out.keep (k12.block gw KW11.out.lt (.inl (by have := L2.out; have := L4.out; have := GW.out; omega)))
  have KG12 : Hid (Blk x12 gg 25 [.int .i64 D.kind, .int .i64 D.id, .slice Sg.cn.a Sg.cn.n Sg.cn.c, .slice Sg.sn.a Sg.sn.n Sg.sn.c, .int .i64 D.tick, .slice Sg.cookie.a Sg.cookie.n Sg.cookie.c, .slice Sg.proof.a Sg.proof.n Sg.proof.c, .int .i64 D.epoch, .int .i64 D.seq, .slice Sg.body.a Sg.body.n Sg.body.c, .slice Sg.tag.a Sg.tag.n Sg.tag.c]) := KG11.out.keep (k12.block gg KG11.out.lt (.inr (by have := GG.out; omega)))
  have B12 : Hid (Below w.heap.size w x12) := B11.out.trans (k12.below (by have := L1.out; have := L2.out; have := L4.out; omega) B11.out.size)
  clear o12 k12 OG11 OW11 KW11 KG11 B11
  have ca0 := KG12.out.cell 0 rfl
  have ca1 := KG12.out.cell 1 rfl
  have ca2 := KG12.out.cell 2 rfl
  have ca3 := KG12.out.cell 3 rfl
  have ca4 := KG12.out.cell 4 rfl
  have ca5 := KG12.out.cell 5 rfl
  have ca6 := KG12.out.cell 6 rfl
  have ca7 := KG12.out.cell 7 rfl
  have ca8 := KG12.out.cell 8 rfl
  have ca9 := KG12.out.cell 9 rfl
  have ca10 := KG12.out.cell 10 rfl
  go_wp2_with fail
  refine (heldFrame Sg D 1 x12 OG12.out.rd (by omega) HSum.out).mono ?_
  rintro e x13 ⟨rfl, b13⟩
  clear ca0 ca1 ca2 ca3 ca4 ca5 ca6 ca7 ca8 ca9 ca10
  have OW13 : Hid (FrOwn x13 x1.heap.size x2.heap.size Sw D) := OW12.out.later b13
  have KW13 : Hid (Blk x13 gw 25 [.int .i64 D.kind, .int .i64 D.id, .slice Sw.cn.a Sw.cn.n Sw.cn.c, .slice Sw.sn.a Sw.sn.n Sw.sn.c, .int .i64 D.tick, .slice Sw.cookie.a Sw.cookie.n Sw.cookie.c, .slice Sw.proof.a Sw.proof.n Sw.proof.c, .int .i64 D.epoch, .int .i64 D.seq, .slice Sw.body.a Sw.body.n Sw.body.c, .slice Sw.tag.a Sw.tag.n Sw.tag.c]) := KW12.out.later b13
  have OG13 : Hid (FrOwn x13 x4.heap.size x5.heap.size Sg (frMarks 1 Sg D)) := OG12.out.later b13
  have KG13 : Hid (Blk x13 gg 25 [.int .i64 D.kind, .int .i64 D.id, .slice Sg.cn.a Sg.cn.n Sg.cn.c, .slice Sg.sn.a Sg.sn.n Sg.sn.c, .int .i64 D.tick, .slice Sg.cookie.a Sg.cookie.n Sg.cookie.c, .slice Sg.proof.a Sg.proof.n Sg.proof.c, .int .i64 D.epoch, .int .i64 D.seq, .slice Sg.body.a Sg.body.n Sg.body.c, .slice Sg.tag.a Sg.tag.n Sg.tag.c]) := KG12.out.later b13
  have B13 : Hid (Below w.heap.size w x13) := B12.out.trans (b13.mono B12.out.size)
  clear b13 OW12 KW12 OG12 KG12 B12
  go_wp2_with fail
  refine (toB2 ⟨a, n, c⟩ l x13 (HR.out.later B13.out) (by omega)).mono ?_
  rintro e x14 ⟨g4, rfl, o14, b14⟩
  have R14 : Hid (SRd x14 ⟨some ⟨g4, 0, none⟩, n, n⟩ l) := o14.rd
  clear o14
  have OW14 : Hid (FrOwn x14 x1.heap.size x2.heap.size Sw D) := OW13.out.later b14
  have KW14 : Hid (Blk x14 gw 25 [.int .i64 D.kind, .int .i64 D.id, .slice Sw.cn.a Sw.cn.n Sw.cn.c, .slice Sw.sn.a Sw.sn.n Sw.sn.c, .int .i64 D.tick, .slice Sw.cookie.a Sw.cookie.n Sw.cookie.c, .slice Sw.proof.a Sw.proof.n Sw.proof.c, .int .i64 D.epoch, .int .i64 D.seq, .slice Sw.body.a Sw.body.n Sw.body.c, .slice Sw.tag.a Sw.tag.n Sw.tag.c]) := KW13.out.later b14
  have OG14 : Hid (FrOwn x14 x4.heap.size x5.heap.size Sg (frMarks 1 Sg D)) := OG13.out.later b14
  have KG14 : Hid (Blk x14 gg 25 [.int .i64 D.kind, .int .i64 D.id, .slice Sg.cn.a Sg.cn.n Sg.cn.c, .slice Sg.sn.a Sg.sn.n Sg.sn.c, .int .i64 D.tick, .slice Sg.cookie.a Sg.cookie.n Sg.cookie.c, .slice Sg.proof.a Sg.proof.n Sg.proof.c, .int .i64 D.epoch, .int .i64 D.seq, .slice Sg.body.a Sg.body.n Sg.body.c, .slice Sg.tag.a Sg.tag.n Sg.tag.c]) := KG13.out.later b14
  have B14 : Hid (Below w.heap.size w x14) := B13.out.trans (b14.mono B13.out.size)
  clear b14 OW13 KW13 OG13 KG13 B13
  go_wp2_with fail
  refine (implGetFrame ⟨some ⟨g4, 0, none⟩, n, n⟩ l x14 R14.out g4 0 rfl (by omega)).mono ?_
  rintro e x15 ⟨D', Sh, ok', rfl, hgot', o15, b15⟩
  obtain ⟨rfl, rfl⟩ := HGot.out.unique hgot'
  have OH15 : Hid (FrOwn x15 x14.heap.size x15.heap.size Sh D) := o15
  clear o15 hgot' R14
  have OW15 : Hid (FrOwn x15 x1.heap.size x2.heap.size Sw D) := OW14.out.later b15
  have KW15 : Hid (Blk x15 gw 25 [.int .i64 D.kind, .int .i64 D.id, .slice Sw.cn.a Sw.cn.n Sw.cn.c, .slice Sw.sn.a Sw.sn.n Sw.sn.c, .int .i64 D.tick, .slice Sw.cookie.a Sw.cookie.n Sw.cookie.c, .slice Sw.proof.a Sw.proof.n Sw.proof.c, .int .i64 D.epoch, .int .i64 D.seq, .slice Sw.body.a Sw.body.n Sw.body.c, .slice Sw.tag.a Sw.tag.n Sw.tag.c]) := KW14.out.later b15
  have OG15 : Hid (FrOwn x15 x4.heap.size x5.heap.size Sg (frMarks 1 Sg D)) := OG14.out.later b15
  have KG15 : Hid (Blk x15 gg 25 [.int .i64 D.kind, .int .i64 D.id, .slice Sg.cn.a Sg.cn.n Sg.cn.c, .slice Sg.sn.a Sg.sn.n Sg.sn.c, .int .i64 D.tick, .slice Sg.cookie.a Sg.cookie.n Sg.cookie.c, .slice Sg.proof.a Sg.proof.n Sg.proof.c, .int .i64 D.epoch, .int .i64 D.seq, .slice Sg.body.a Sg.body.n Sg.body.c, .slice Sg.tag.a Sg.tag.n Sg.tag.c]) := KG14.out.later b15
  have B15 : Hid (Below w.heap.size w x15) := B14.out.trans (b15.mono B14.out.size)
  clear b15 OW14 KW14 OG14 KG14 B14
  obtain ⟨x16, hx16⟩ : ∃ x16, x15.alloc (.cells #[.int .i64 D.kind, .int .i64 D.id, .slice Sh.cn.a Sh.cn.n Sh.cn.c, .slice Sh.sn.a Sh.sn.n Sh.sn.c, .int .i64 D.tick, .slice Sh.cookie.a Sh.cookie.n Sh.cookie.c, .slice Sh.proof.a Sh.proof.n Sh.proof.c, .int .i64 D.epoch, .int .i64 D.seq, .slice Sh.body.a Sh.body.n Sh.body.c, .slice Sh.tag.a Sh.tag.n Sh.tag.c] 25) = x16 := ⟨_, rfl⟩
  have HW16 : Hid (x15.alloc (.cells #[.int .i64 D.kind, .int .i64 D.id, .slice Sh.cn.a Sh.cn.n Sh.cn.c, .slice Sh.sn.a Sh.sn.n Sh.sn.c, .int .i64 D.tick, .slice Sh.cookie.a Sh.cookie.n Sh.cookie.c, .slice Sh.proof.a Sh.proof.n Sh.proof.c, .int .i64 D.epoch, .int .i64 D.seq, .slice Sh.body.a Sh.body.n Sh.body.c, .slice Sh.tag.a Sh.tag.n Sh.tag.c] 25) = x16) := hx16
  have b16 : Below x15.heap.size x15 x16 := by rw [← hx16]; exact (Below.refl _ _).alloc (Nat.le_refl _) _
  have KH16 : Hid (Blk x16 x15.heap.size 25 [.int .i64 D.kind, .int .i64 D.id, .slice Sh.cn.a Sh.cn.n Sh.cn.c, .slice Sh.sn.a Sh.sn.n Sh.sn.c, .int .i64 D.tick, .slice Sh.cookie.a Sh.cookie.n Sh.cookie.c, .slice Sh.proof.a Sh.proof.n Sh.proof.c, .int .i64 D.epoch, .int .i64 D.seq, .slice Sh.body.a Sh.body.n Sh.body.c, .slice Sh.tag.a Sh.tag.n Sh.tag.c]) := by rw [← hx16]; exact Blk.new x15 _ _
  have OH16 : Hid (FrOwn x16 x14.heap.size x15.heap.size Sh D) := OH15.out.later b16
  clear hx16 OH15
  have OW16 : Hid (FrOwn x16 x1.heap.size x2.heap.size Sw D) := OW15.out.later b16
  have KW16 : Hid (Blk x16 gw 25 [.int .i64 D.kind, .int .i64 D.id, .slice Sw.cn.a Sw.cn.n Sw.cn.c, .slice Sw.sn.a Sw.sn.n Sw.sn.c, .int .i64 D.tick, .slice Sw.cookie.a Sw.cookie.n Sw.cookie.c, .slice Sw.proof.a Sw.proof.n Sw.proof.c, .int .i64 D.epoch, .int .i64 D.seq, .slice Sw.body.a Sw.body.n Sw.body.c, .slice Sw.tag.a Sw.tag.n Sw.tag.c]) := KW15.out.later b16
  have OG16 : Hid (FrOwn x16 x4.heap.size x5.heap.size Sg (frMarks 1 Sg D)) := OG15.out.later b16
  have KG16 : Hid (Blk x16 gg 25 [.int .i64 D.kind, .int .i64 D.id, .slice Sg.cn.a Sg.cn.n Sg.cn.c, .slice Sg.sn.a Sg.sn.n Sg.sn.c, .int .i64 D.tick, .slice Sg.cookie.a Sg.cookie.n Sg.cookie.c, .slice Sg.proof.a Sg.proof.n Sg.proof.c, .int .i64 D.epoch, .int .i64 D.seq, .slice Sg.body.a Sg.body.n Sg.body.c, .slice Sg.tag.a Sg.tag.n Sg.tag.c]) := KG15.out.later b16
  have B16 : Hid (Below w.heap.size w x16) := B15.out.trans (b16.mono B15.out.size)
  clear b16 OW15 KW15 OG15 KG15 B15
  unfold frV
  go_upto_region 23 with fail
  rw [HW16.out]
  obtain ⟨gh, hgh⟩ : ∃ gh, x15.heap.size = gh := ⟨_, rfl⟩
  rw [hgh] at KH16 ⊢
  clear HW16 hgh
  have ca0 := KH16.out.cell 0 rfl
  have ca1 := KH16.out.cell 1 rfl
  have ca2 := KH16.out.cell 2 rfl
  have ca3 := KH16.out.cell 3 rfl
  have ca4 := KH16.out.cell 4 rfl
  have ca5 := KH16.out.cell 5 rfl
  have ca6 := KH16.out.cell 6 rfl
  have ca7 := KH16.out.cell 7 rfl
  have ca8 := KH16.out.cell 8 rfl
  have ca9 := KH16.out.cell 9 rfl
  have ca10 := KH16.out.cell 10 rfl
  have cb0 := KW16.out.cell 0 rfl
  have cb1 := KW16.out.cell 1 rfl
  have cb2 := KW16.out.cell 2 rfl
  have cb3 := KW16.out.cell 3 rfl
  have cb4 := KW16.out.cell 4 rfl
  have cb5 := KW16.out.cell 5 rfl
  have cb6 := KW16.out.cell 6 rfl
  have cb7 := KW16.out.cell 7 rfl
  have cb8 := KW16.out.cell 8 rfl
  have cb9 := KW16.out.cell 9 rfl
  have cb10 := KW16.out.cell 10 rfl
  go_wp2_with fail
  refine (eqFrame Sh Sw D x16 OH16.out.rd OW16.out.rd (short_big HSh.out)).mono ?_
  rintro e x17 ⟨rfl, b17⟩
  clear ca0 ca1 ca2 ca3 ca4 ca5 ca6 ca7 ca8 ca9 ca10 cb0 cb1 cb2 cb3 cb4 cb5 cb6 cb7 cb8 cb9 cb10
  clear OH16 KH16
  have OW17 : Hid (FrOwn x17 x1.heap.size x2.heap.size Sw D) := OW16.out.later b17
  have KW17 : Hid (Blk x17 gw 25 [.int .i64 D.kind, .int .i64 D.id, .slice Sw.cn.a Sw.cn.n Sw.cn.c, .slice Sw.sn.a Sw.sn.n Sw.sn.c, .int .i64 D.tick, .slice Sw.cookie.a Sw.cookie.n Sw.cookie.c, .slice Sw.proof.a Sw.proof.n Sw.proof.c, .int .i64 D.epoch, .int .i64 D.seq, .slice Sw.body.a Sw.body.n Sw.body.c, .slice Sw.tag.a Sw.tag.n Sw.tag.c]) := KW16.out.later b17
  have OG17 : Hid (FrOwn x17 x4.heap.size x5.heap.size Sg (frMarks 1 Sg D)) := OG16.out.later b17
  have KG17 : Hid (Blk x17 gg 25 [.int .i64 D.kind, .int .i64 D.id, .slice Sg.cn.a Sg.cn.n Sg.cn.c, .slice Sg.sn.a Sg.sn.n Sg.sn.c, .int .i64 D.tick, .slice Sg.cookie.a Sg.cookie.n Sg.cookie.c, .slice Sg.proof.a Sg.proof.n Sg.proof.c, .int .i64 D.epoch, .int .i64 D.seq, .slice Sg.body.a Sg.body.n Sg.body.c, .slice Sg.tag.a Sg.tag.n Sg.tag.c]) := KG16.out.later b17
  have B17 : Hid (Below w.heap.size w x17) := B16.out.trans (b17.mono B16.out.size)
  clear b17 OW16 KW16 OG16 KG16 B16
  have ca0 := KG17.out.cell 0 rfl
  have ca1 := KG17.out.cell 1 rfl
  have ca2 := KG17.out.cell 2 rfl
  have ca3 := KG17.out.cell 3 rfl
  have ca4 := KG17.out.cell 4 rfl
  have ca5 := KG17.out.cell 5 rfl
  have ca6 := KG17.out.cell 6 rfl
  have ca7 := KG17.out.cell 7 rfl
  have ca8 := KG17.out.cell 8 rfl
  have ca9 := KG17.out.cell 9 rfl
  have ca10 := KG17.out.cell 10 rfl
  go_wp2_with fail
  refine (heldFrame Sg D 1 x17 OG17.out.rd (by omega) HSum.out).mono ?_
  rintro e x18 ⟨rfl, b18⟩
  clear ca0 ca1 ca2 ca3 ca4 ca5 ca6 ca7 ca8 ca9 ca10
  have OW18 : Hid (FrOwn x18 x1.heap.size x2.heap.size Sw D) := OW17.out.later b18
  have KW18 : Hid (Blk x18 gw 25 [.int .i64 D.kind, .int .i64 D.id, .slice Sw.cn.a Sw.cn.n Sw.cn.c, .slice Sw.sn.a Sw.sn.n Sw.sn.c, .int .i64 D.tick, .slice Sw.cookie.a Sw.cookie.n Sw.cookie.c, .slice Sw.proof.a Sw.proof.n Sw.proof.c, .int .i64 D.epoch, .int .i64 D.seq, .slice Sw.body.a Sw.body.n Sw.body.c, .slice Sw.tag.a Sw.tag.n Sw.tag.c]) := KW17.out.later b18
  have OG18 : Hid (FrOwn x18 x4.heap.size x5.heap.size Sg (frMarks 1 Sg D)) := OG17.out.later b18
  have KG18 : Hid (Blk x18 gg 25 [.int .i64 D.kind, .int .i64 D.id, .slice Sg.cn.a Sg.cn.n Sg.cn.c, .slice Sg.sn.a Sg.sn.n Sg.sn.c, .int .i64 D.tick, .slice Sg.cookie.a Sg.cookie.n Sg.cookie.c, .slice Sg.proof.a Sg.proof.n Sg.proof.c, .int .i64 D.epoch, .int .i64 D.seq, .slice Sg.body.a Sg.body.n Sg.body.c, .slice Sg.tag.a Sg.tag.n Sg.tag.c]) := KG17.out.later b18
  have B18 : Hid (Below w.heap.size w x18) := B17.out.trans (b18.mono B17.out.size)
  clear b18 OW17 KW17 OG17 KG17 B17
  go_wp2
  go_ret
  exact ⟨rfl, B18.out⟩
theorem walk (a : Option Addr) (n c : Nat) (z : List Int) (w : World) (h : IsRow .u8 w a n c z) :
    Calls Try.prog 8 #[.slice a n c] w fun e w' => e = .returned (.bool true) ∧ Below w.heap.size w w' := by
  obtain ⟨l, hl⟩ := isrow_srd h
  exact walk0 a n c l w hl
end Go.Proofs.Ytfapehmbecgjaaa.LawGetFrame
