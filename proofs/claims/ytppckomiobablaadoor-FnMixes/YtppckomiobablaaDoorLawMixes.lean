/-
  laws.FnMixes answers true at every slice of bytes, where the table of round words holds what the program's text lays into it; nothing that was there is written into.
-/
import Derived.Test.YtppckomiobablaaDoorStrI
import Derived.Test.YtppckomiobablaaDoorDrawK
import Derived.Test.YtppckomiobablaaDoorDrawS
import Derived.Test.YtppckomiobablaaDoorSame
namespace Go.Proofs.YtppckomiobablaaDoor.LawMixes
open Go.RowKit Go.Proofs.YtppckomiobablaaDoor.Mem Go.Proofs.YtppckomiobablaaDoor.App Go.Proofs.YtppckomiobablaaDoor.Draw Go.Proofs.YtppckomiobablaaDoor.DrawS Go.Proofs.YtppckomiobablaaDoor.Same Go.Proofs.YtppckomiobablaaDoor.Comp Go.Proofs.YtppckomiobablaaDoor.KdfP Go.Proofs.YtppckomiobablaaDoor.StrI Go.Proofs.YtppckomiobablaaDoor.DrawK


set_option maxRecDepth 100000 in
set_option maxHeartbeats 4000000 in
theorem small (a : Option Addr) (len cap : Nat) (l : List Int) (w : World) (hT : Tab w) (hl : len = l.length) (hr : Rd w a l) (hb : Bytes l) (hlen : len ≤ 1048576) :
    Calls Tryd.prog 4 #[.slice a len cap] w fun e w' => e = .returned (.bool true) ∧ Below w.heap.size w w' := by
  have HT : Hid (Tab w) := hT
  clear hT
  have HR : Hid (Rd w a l) := hr
  have HB : Hid (Bytes l) := hb
  have HL : Hid (len = l.length) := hl
  clear hr hb hl
  go_enter Tryd.func4, Tryd.ntmps4
  go_wp2_with fail
  refine (bigNo a len cap w hlen).mono ?_
  rintro e x1 ⟨rfl, rfl⟩
  go_wp2_with fail
  refine (drawMix a len cap l w HL.out HR.out HB.out hlen).mono ?_
  rintro e x2 ⟨gk, nk, ck, lk, gh, nh, ch, lh, gb, nb, cb, lb, rfl, ⟨elk, hzk, hyk⟩, ⟨elh, hzh, hyh⟩, ⟨elb, hzb, hyb⟩, rwk, rwh, rwb, bx2⟩
  have HLk : Hid (nk = lk.length) := elk
  have HYk : Hid (Bytes lk) := hyk
  have Rk : Hid (Row x2 gk ck lk) := rwk
  clear elk hyk rwk
  have HLh : Hid (nh = lh.length) := elh
  have HYh : Hid (Bytes lh) := hyh
  have Rh : Hid (Row x2 gh ch lh) := rwh
  clear elh hyh rwh
  have HLb : Hid (nb = lb.length) := elb
  have HYb : Hid (Bytes lb) := hyb
  have Rb : Hid (Row x2 gb cb lb) := rwb
  clear elb hyb rwb
  have Bx2 : Hid (Below w.heap.size w x2) := bx2
  clear bx2
  by_cases hh : nh ≤ 100
  · by_cases hb2 : nb ≤ 200
    · have p0 : ¬ ((nh : Int) > 100) := by omega
      have p1 : ¬ ((nb : Int) > 200) := by omega
      have OK : Hid (mayStr lk lh (lb.length : Int) = true) := (mayStr_iff lk lh _).2 ⟨by omega, by rw [← HLb.out]; omega, by rw [← HLh.out]; omega, by rw [← HLk.out]; omega⟩
      go_wp2_with fail
      refine (implMix _ nk ck _ nh ch _ nb cb lk lh lb _ (HT.out.later Bx2.out) HLk.out HLh.out HLb.out Rk.out.rd Rh.out.rd Rb.out.rd (by intro e; cases e) (by intro e; cases e) HYk.out HYh.out HYb.out (by omega) (by omega) (by omega)).mono ?_
      rintro e x3 ⟨gx, mx, cx, rfl, ex3, hx3, rx3, bx3⟩
      have Ex : Hid (mx = (mixI lk lh lb).length) := ex3
      have Nx3 : Hid (Row x3 gx cx (mixI lk lh lb)) := rx3
      clear ex3 rx3 hx3
      have Rx3k : Hid (Row x3 gk ck lk) := Rk.out.later bx3
      clear Rk
      have Rx3h : Hid (Row x3 gh ch lh) := Rh.out.later bx3
      clear Rh
      have Rx3b : Hid (Row x3 gb cb lb) := Rb.out.later bx3
      clear Rb
      have Bx3 : Hid (Below w.heap.size w x3) := Bx2.out.trans (bx3.mono Bx2.out.size)
      clear Bx2
      clear bx3
      obtain rfl : nb = mx := Eq.symm (by rw [Ex.out]; exact (by rw [mixI_len lk lh lb OK.out, ← HLb.out]))
      have E2 : Hid (mixI lk lh (mixI lk lh lb) = lb) := mixI_twice lk lh lb HYb.out OK.out
      have Yx : Hid (Bytes (mixI lk lh lb)) := by show Bytes _; rw [mixI_of lk lh lb OK.out]; exact xors_bytes HYb.out (strI_bytes lk lh _)
      go_wp2_with fail
      refine (implMix _ nk ck _ nh ch _ nb cx lk lh (mixI lk lh lb) _ (HT.out.later Bx3.out) HLk.out HLh.out Ex.out Rx3k.out.rd Rx3h.out.rd Nx3.out.rd (by intro e; cases e) (by intro e; cases e) HYk.out HYh.out Yx.out (by omega) (by omega) (by omega)).mono ?_
      rintro e x4 ⟨gy, my, cy, rfl, ex4, hx4, rx4, bx4⟩
      have Ey : Hid (my = (mixI lk lh (mixI lk lh lb)).length) := ex4
      have Nx4 : Hid (Row x4 gy cy (mixI lk lh (mixI lk lh lb))) := rx4
      clear ex4 rx4 hx4
      have Rx4k : Hid (Row x4 gk ck lk) := Rx3k.out.later bx4
      clear Rx3k
      have Rx4h : Hid (Row x4 gh ch lh) := Rx3h.out.later bx4
      clear Rx3h
      have Rx4b : Hid (Row x4 gb cb lb) := Rx3b.out.later bx4
      clear Rx3b
      have Rx4x : Hid (Row x4 gx cx (mixI lk lh lb)) := Nx3.out.later bx4
      clear Nx3
      have Bx4 : Hid (Below w.heap.size w x4) := Bx3.out.trans (bx4.mono Bx3.out.size)
      clear Bx3
      clear bx4
      have Nb : Hid (Row x4 gy cy lb) := by show Row _ _ _ _; rw [← E2.out]; exact Nx4.out
      have Eb : Hid (my = lb.length) := by show _ = _; rw [← E2.out]; exact Ey.out
      go_wp2_with fail
      refine (same_yes gy cy my gb cb nb (lb) _ Eb.out HLb.out Nb.out.rd Rx4b.out.rd).mono ?_
      rintro e x5 ⟨rfl, rfl⟩
      go_wp2
      go_ret
      exact ⟨rfl, Bx4.out⟩
    · have p0 : ¬ ((nh : Int) > 100) := by omega
      have p1 : (nb : Int) > 200 := by omega
      have OK : Hid (mayStr lk lh (lb.length : Int) = false) := by show _ = _; rw [mayStr, decide_eq_false_iff_not, ← HLb.out, ← HLh.out]; omega
      go_wp2_with fail
      refine (implMix _ nk ck _ nh ch _ nb cb lk lh lb _ (HT.out.later Bx2.out) HLk.out HLh.out HLb.out Rk.out.rd Rh.out.rd Rb.out.rd (by intro e; cases e) (by intro e; cases e) HYk.out HYh.out HYb.out (by omega) (by omega) (by omega)).mono ?_
      rintro e x3 ⟨gx, mx, cx, rfl, ex3, hx3, rx3, bx3⟩
      have Ex : Hid (mx = (mixI lk lh lb).length) := ex3
      have Nx3 : Hid (Row x3 gx cx (mixI lk lh lb)) := rx3
      clear ex3 rx3 hx3
      have Rx3k : Hid (Row x3 gk ck lk) := Rk.out.later bx3
      clear Rk
      have Rx3h : Hid (Row x3 gh ch lh) := Rh.out.later bx3
      clear Rh
      have Rx3b : Hid (Row x3 gb cb lb) := Rb.out.later bx3
      clear Rb
      have Bx3 : Hid (Below w.heap.size w x3) := Bx2.out.trans (bx3.mono Bx2.out.size)
      clear Bx2
      clear bx3
      obtain rfl : 0 = mx := Eq.symm (by rw [Ex.out]; exact (by rw [mixI_no lk lh lb OK.out]; rfl))
      go_wp2
      go_ret
      exact ⟨rfl, Bx3.out⟩
  · have p0 : (nh : Int) > 100 := by omega
    have OK : Hid (mayStr lk lh (lb.length : Int) = false) := by show _ = _; rw [mayStr, decide_eq_false_iff_not, ← HLb.out, ← HLh.out]; omega
    go_wp2_with fail
    refine (implMix _ nk ck _ nh ch _ nb cb lk lh lb _ (HT.out.later Bx2.out) HLk.out HLh.out HLb.out Rk.out.rd Rh.out.rd Rb.out.rd (by intro e; cases e) (by intro e; cases e) HYk.out HYh.out HYb.out (by omega) (by omega) (by omega)).mono ?_
    rintro e x3 ⟨gx, mx, cx, rfl, ex3, hx3, rx3, bx3⟩
    have Ex : Hid (mx = (mixI lk lh lb).length) := ex3
    have Nx3 : Hid (Row x3 gx cx (mixI lk lh lb)) := rx3
    clear ex3 rx3 hx3
    have Rx3k : Hid (Row x3 gk ck lk) := Rk.out.later bx3
    clear Rk
    have Rx3h : Hid (Row x3 gh ch lh) := Rh.out.later bx3
    clear Rh
    have Rx3b : Hid (Row x3 gb cb lb) := Rb.out.later bx3
    clear Rb
    have Bx3 : Hid (Below w.heap.size w x3) := Bx2.out.trans (bx3.mono Bx2.out.size)
    clear Bx2
    clear bx3
    obtain rfl : 0 = mx := Eq.symm (by rw [Ex.out]; exact (by rw [mixI_no lk lh lb OK.out]; rfl))
    go_wp2
    go_ret
    exact ⟨rfl, Bx3.out⟩


theorem walk (a : Option Addr) (len cap : Nat) (zs : List Int) (w : World) (hT : Tab w) (h : IsRow .u8 w a len cap zs) :
    Calls Tryd.prog 4 #[.slice a len cap] w fun e w' => e = .returned (.bool true) ∧ Below w.heap.size w w' := by
  obtain ⟨l, hl, hr, _, hb⟩ := h.read
  by_cases hlen : len ≤ 1048576
  · exact small a len cap l w hT hl hr hb hlen
  · clear hl hr hb h
    go_enter Tryd.func4, Tryd.ntmps4
    go_wp2_with fail
    refine (bigYes a len cap w (by omega)).mono ?_
    rintro e w1 ⟨rfl, rfl⟩
    go_wp2
    go_ret
    exact ⟨rfl, Below.refl _ _⟩
end Go.Proofs.YtppckomiobablaaDoor.LawMixes
