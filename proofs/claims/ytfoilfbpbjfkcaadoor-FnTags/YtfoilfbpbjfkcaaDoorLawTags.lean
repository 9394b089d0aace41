/-
  laws.FnTags answers true at every slice of bytes, where the table of round words holds what the program's text lays into it; nothing that was there is written into.
-/
import Derived.Test.YtfoilfbpbjfkcaaDoorMacI
import Derived.Test.YtfoilfbpbjfkcaaDoorDiffs
import Derived.Test.YtfoilfbpbjfkcaaDoorDrawM
import Derived.Test.YtfoilfbpbjfkcaaDoorDrawD
import Derived.Test.YtfoilfbpbjfkcaaDoorDrawS
import Derived.Test.YtfoilfbpbjfkcaaDoorSame
import Derived.Test.YtfoilfbpbjfkcaaDoorBent
namespace Go.Proofs.YtfoilfbpbjfkcaaDoor.LawTags
open Go.RowKit Go.Proofs.YtfoilfbpbjfkcaaDoor.Mem Go.Proofs.YtfoilfbpbjfkcaaDoor.App Go.Proofs.YtfoilfbpbjfkcaaDoor.Draw Go.Proofs.YtfoilfbpbjfkcaaDoor.DrawS Go.Proofs.YtfoilfbpbjfkcaaDoor.Same Go.Proofs.YtfoilfbpbjfkcaaDoor.Comp Go.Proofs.YtfoilfbpbjfkcaaDoor.Ends Go.Proofs.YtfoilfbpbjfkcaaDoor.DiffP Go.Proofs.YtfoilfbpbjfkcaaDoor.Diffs Go.Proofs.YtfoilfbpbjfkcaaDoor.MacP Go.Proofs.YtfoilfbpbjfkcaaDoor.MacI Go.Proofs.YtfoilfbpbjfkcaaDoor.DrawM Go.Proofs.YtfoilfbpbjfkcaaDoor.DrawD Go.Proofs.YtfoilfbpbjfkcaaDoor.Bent Go.Proofs.YtfoilfbpbjfkcaaDoor.Blk

theorem less_bool (x y : List Int) (n m : Nat) (hn : n = x.length) (hm : m = y.length) (hx : Bytes x) (hy : Bytes y) : (diffI x y == -1) = ((n : Int) != (m : Int)) := by
  have h := diffI_less x y hx hy
  by_cases e : n = m
  · have : ¬ diffI x y = -1 := fun k => h.1 k (by omega)
    simp [e, this]
  · have : diffI x y = -1 := h.2 (by omega)
    have e2 : ((n : Int) != (m : Int)) = true := by simp; omega
    rw [this, e2]; rfl
theorem same_full (x y : List Int) (h : x.length = 16) (hx : Bytes x) (hy : Bytes y) : sameI x y = decide (x = y) := by
  unfold sameI
  exact decide_eq_decide.2 ⟨fun k => (diffI_zero x y hx hy).1 k.2, fun k => ⟨h, (diffI_zero x y hx hy).2 k⟩⟩

set_option maxRecDepth 100000 in
set_option maxHeartbeats 4000000 in
theorem small (a : Option Addr) (len cap : Nat) (l : List Int) (w : World) (hT : Tab w) (hl : len = l.length) (hr : Rd w a l) (hb : Bytes l) (hlen : len ≤ 1048576) :
    Calls Tryd.prog 4 #[.slice a len cap] w fun e w' => e = .returned (.bool true) ∧ Below w.heap.size w w' := by
  have HT : Hid (Tab w) := hT
  clear hT
  have HR : Hid (Rd w a l) := hr
  have HB : Hid (Bytes l) := hb
  have HL : Hid (len = l.length) := hl
  clear hr hb hl
  go_enter Tryd.func4, Tryd.ntmps4
  go_wp2_with fail
  refine (bigNo a len cap w hlen).mono ?_
  rintro e x1 ⟨rfl, rfl⟩
  go_wp2_with fail
  refine (drawDiff a len cap l w HL.out HR.out HB.out hlen).mono ?_
  rintro e x2 ⟨ga, na, ca, la, gb, nb, cb, lb, rfl, ela, hza, hya, elb, hzb, hyb, rwa, rwb, bx2⟩
  have HLa : Hid (na = la.length) := ela
  have HYa : Hid (Bytes la) := hya
  have Ra : Hid (Row x2 ga ca la) := rwa
  have HLb : Hid (nb = lb.length) := elb
  have HYb : Hid (Bytes lb) := hyb
  have Rb : Hid (Row x2 gb cb lb) := rwb
  clear ela hya rwa elb hyb rwb
  have Bx2 : Hid (Below w.heap.size w x2) := bx2
  clear bx2
  obtain ⟨D, hD⟩ : ∃ D, diffI la lb = D := ⟨_, rfl⟩
  have HD : Hid (diffI la lb = D) := hD
  have HD2 : Hid (diffI lb la = D) := by show _ = _; rw [← hD]; exact diffI_comm _ _ HYb.out HYa.out
  obtain ⟨sb, hsb⟩ : ∃ sb, decide (la = lb) = sb := ⟨_, rfl⟩
  have HS : Hid (decide (la = lb) = sb) := hsb
  have HD0 : Hid ((D == 0) = sb) := by show _ = _; rw [← hD, ← hsb, Bool.beq_eq_decide_eq]; exact decide_eq_decide.2 (diffI_zero _ _ HYa.out HYb.out)
  have HD1 : Hid ((D == -1) = ((na : Int) != (nb : Int))) := by show _ = _; rw [← hD]; exact less_bool la lb na nb HLa.out HLb.out HYa.out HYb.out
  clear hD hsb
  go_wp2_with fail
  refine (implDiff _ _ na ca nb cb la lb _ HLa.out HLb.out Ra.out.rd Rb.out.rd HYa.out HYb.out (by omega) (by omega)).mono ?_
  rw [HD.out]
  rintro e x3 ⟨rfl, mx3, dx3⟩
  have bx3 : Below x2.heap.size x2 x3 := by rw [dx3]; exact below_drewN (Below.refl _ _) _
  clear dx3
  have Rx3a : Hid (Row x3 ga ca la) := Ra.out.later bx3
  clear Ra
  have Rx3b : Hid (Row x3 gb cb lb) := Rb.out.later bx3
  clear Rb
  have Bx3 : Hid (Below w.heap.size w x3) := Bx2.out.trans (bx3.mono Bx2.out.size)
  clear Bx2
  clear bx3
  go_wp2_with fail
  refine (drawSameTag a len cap l x3 HL.out (HR.out.later Bx3.out (Nat.le_refl _)) HB.out hlen).mono ?_
  rintro e x4 ⟨gc, nc, cc, lc, gd, nd, cd, ld, rfl, elc, hzc, hyc, eld, hzd, hyd, rwc, rwd, bx4⟩
  have HLc : Hid (nc = lc.length) := elc
  have HYc : Hid (Bytes lc) := hyc
  have Rc : Hid (Row x4 gc cc lc) := rwc
  have HLd : Hid (nd = ld.length) := eld
  have HYd : Hid (Bytes ld) := hyd
  have Rd : Hid (Row x4 gd cd ld) := rwd
  clear elc hyc rwc eld hyd rwd
  have Rx4a : Hid (Row x4 ga ca la) := Rx3a.out.later bx4
  clear Rx3a
  have Rx4b : Hid (Row x4 gb cb lb) := Rx3b.out.later bx4
  clear Rx3b
  have Bx4 : Hid (Below w.heap.size w x4) := Bx3.out.trans (bx4.mono Bx3.out.size)
  clear Bx3
  clear bx4
  go_wp2_with fail
  refine (drawTag a len cap l x4 HL.out (HR.out.later Bx4.out (Nat.le_refl _)) HB.out hlen).mono ?_
  rintro e x5 ⟨gk, nk, ck, lk, gm, nm, cm, lm, rfl, elk, hzk, hyk, elm, hzm, hym, rwk, rwm, bx5⟩
  have HLk : Hid (nk = lk.length) := elk
  have HYk : Hid (Bytes lk) := hyk
  have Rk : Hid (Row x5 gk ck lk) := rwk
  have HLm : Hid (nm = lm.length) := elm
  have HYm : Hid (Bytes lm) := hym
  have Rm : Hid (Row x5 gm cm lm) := rwm
  clear elk hyk rwk elm hym rwm
  have Rx5a : Hid (Row x5 ga ca la) := Rx4a.out.later bx5
  clear Rx4a
  have Rx5b : Hid (Row x5 gb cb lb) := Rx4b.out.later bx5
  clear Rx4b
  have Rx5c : Hid (Row x5 gc cc lc) := Rc.out.later bx5
  clear Rc
  have Rx5d : Hid (Row x5 gd cd ld) := Rd.out.later bx5
  clear Rd
  have Bx5 : Hid (Below w.heap.size w x5) := Bx4.out.trans (bx5.mono Bx4.out.size)
  clear Bx4
  clear bx5
  have T16 : Hid ((tagI lk lm).length = 16) := tagI_len lk lm (by rw [← HLk.out]; omega) (by rw [← HLm.out]; omega)
  have M32 : Hid ((hmacI lk lm).length = 32) := hmacI_len lk lm (by rw [← HLk.out]; omega) (by rw [← HLm.out]; omega)
  go_wp2_with fail
  refine (implTag _ nk ck _ nm cm lk lm _ (HT.out.later Bx5.out) HLk.out HLm.out Rk.out.rd Rm.out.rd (by intro e; cases e) (by intro e; cases e) HYk.out HYm.out (by omega) (by omega)).mono ?_
  rintro e x6 ⟨gt, mt, ct, rfl, ex6, hx6, rx6, bx6⟩
  have Et : Hid (mt = (tagI lk lm).length) := ex6
  obtain rfl : mt = 16 := by rw [Et.out]; exact T16.out
  have Nx6 : Hid (Row x6 gt ct (tagI lk lm)) := rx6
  clear ex6 rx6 hx6
  have Rx6a : Hid (Row x6 ga ca la) := Rx5a.out.later bx6
  clear Rx5a
  have Rx6b : Hid (Row x6 gb cb lb) := Rx5b.out.later bx6
  clear Rx5b
  have Rx6c : Hid (Row x6 gc cc lc) := Rx5c.out.later bx6
  clear Rx5c
  have Rx6d : Hid (Row x6 gd cd ld) := Rx5d.out.later bx6
  clear Rx5d
  have Rx6k : Hid (Row x6 gk ck lk) := Rk.out.later bx6
  clear Rk
  have Rx6m : Hid (Row x6 gm cm lm) := Rm.out.later bx6
  clear Rm
  have Bx6 : Hid (Below w.heap.size w x6) := Bx5.out.trans (bx6.mono Bx5.out.size)
  clear Bx5
  clear bx6
  have hd0 := HD0.out
  have hd1 := HD1.out
  have hdd : (D == D) = true := by simp
  go_wp2_with fail
  refine (implDiff _ _ nb cb na ca lb la _ HLb.out HLa.out Rx6b.out.rd Rx6a.out.rd HYb.out HYa.out (by omega) (by omega)).mono ?_
  rw [HD2.out]
  rintro e x7 ⟨rfl, mx7, dx7⟩
  have bx7 : Below x6.heap.size x6 x7 := by rw [dx7]; exact below_drewN (Below.refl _ _) _
  clear dx7
  have Rx7a : Hid (Row x7 ga ca la) := Rx6a.out.later bx7
  clear Rx6a
  have Rx7b : Hid (Row x7 gb cb lb) := Rx6b.out.later bx7
  clear Rx6b
  have Rx7c : Hid (Row x7 gc cc lc) := Rx6c.out.later bx7
  clear Rx6c
  have Rx7d : Hid (Row x7 gd cd ld) := Rx6d.out.later bx7
  clear Rx6d
  have Rx7k : Hid (Row x7 gk ck lk) := Rx6k.out.later bx7
  clear Rx6k
  have Rx7m : Hid (Row x7 gm cm lm) := Rx6m.out.later bx7
  clear Rx6m
  have Rx7t : Hid (Row x7 gt ct (tagI lk lm)) := Nx6.out.later bx7
  clear Nx6
  have Bx7 : Hid (Below w.heap.size w x7) := Bx6.out.trans (bx7.mono Bx6.out.size)
  clear Bx6
  clear bx7
  go_wp2_with fail
  refine (same_any ga ca na gb cb nb la lb _ HLa.out HLb.out Rx7a.out.rd Rx7b.out.rd HYa.out HYb.out).mono ?_
  rw [HS.out]
  rintro e x8 ⟨rfl, rfl⟩
  have hss : (sb == sb) = true := by simp
  have huu : ∀ u : Bool, (u == u) = true := fun u => by simp
  clear Rx7a
  clear Rx7b
  by_cases k16 : nc = 16
  · have q16 : ((nc : Int) == 16) = true := by simp; omega
    obtain ⟨v, hv⟩ : ∃ v, decide (lc = ld) = v := ⟨_, rfl⟩
    have HV : Hid (decide (lc = ld) = v) := hv
    have HSI : Hid (sameI lc ld = v) := by show _ = _; rw [← hv]; exact same_full lc ld (by rw [← HLc.out]; exact k16) HYc.out HYd.out
    clear hv
    clear k16
    go_wp2_with fail
    refine (implSameTag _ _ nc cc nd cd lc ld _ HLc.out HLd.out Rx7c.out.rd Rx7d.out.rd HYc.out HYd.out (by omega) (by omega)).mono ?_
    rw [HSI.out]
    rintro e x9 ⟨rfl, mx9, dx9⟩
    have bx9 : Below x7.heap.size x7 x9 := by rw [dx9]; exact below_drewN (Below.refl _ _) _
    clear dx9
    have Rx9c : Hid (Row x9 gc cc lc) := Rx7c.out.later bx9
    clear Rx7c
    have Rx9d : Hid (Row x9 gd cd ld) := Rx7d.out.later bx9
    clear Rx7d
    have Rx9k : Hid (Row x9 gk ck lk) := Rx7k.out.later bx9
    clear Rx7k
    have Rx9m : Hid (Row x9 gm cm lm) := Rx7m.out.later bx9
    clear Rx7m
    have Rx9t : Hid (Row x9 gt ct (tagI lk lm)) := Rx7t.out.later bx9
    clear Rx7t
    have Bx9 : Hid (Below w.heap.size w x9) := Bx7.out.trans (bx9.mono Bx7.out.size)
    clear Bx7
    clear bx9
    go_wp2_with fail
    refine (same_any gc cc nc gd cd nd lc ld _ HLc.out HLd.out Rx9c.out.rd Rx9d.out.rd HYc.out HYd.out).mono ?_
    rw [HV.out]
    rintro e x10 ⟨rfl, rfl⟩
    have hvv : (v == v) = true := by simp
    go_wp2_with fail
    refine (implHmac _ nk ck _ nm cm lk lm _ (HT.out.later Bx9.out) HLk.out HLm.out Rx9k.out.rd Rx9m.out.rd (by intro e; cases e) (by intro e; cases e) HYk.out HYm.out (by omega) (by omega)).mono ?_
    rintro e x11 ⟨gh, mh, ch, rfl, ex11, hx11, rx11, bx11⟩
    have Eh : Hid (mh = (hmacI lk lm).length) := ex11
    obtain rfl : mh = 32 := by rw [Eh.out]; exact M32.out
    have Nx11 : Hid (Row x11 gh ch (hmacI lk lm)) := rx11
    clear ex11 rx11 hx11
    have Rx11c : Hid (Row x11 gc cc lc) := Rx9c.out.later bx11
    clear Rx9c
    have Rx11d : Hid (Row x11 gd cd ld) := Rx9d.out.later bx11
    clear Rx9d
    have Rx11k : Hid (Row x11 gk ck lk) := Rx9k.out.later bx11
    clear Rx9k
    have Rx11m : Hid (Row x11 gm cm lm) := Rx9m.out.later bx11
    clear Rx9m
    have Rx11t : Hid (Row x11 gt ct (tagI lk lm)) := Rx9t.out.later bx11
    clear Rx9t
    have Bx11 : Hid (Below w.heap.size w x11) := Bx9.out.trans (bx11.mono Bx9.out.size)
    clear Bx9
    clear bx11
    go_wp2_with fail
    have hch : 32 ≤ ch := by have := Nx11.out.1; rw [M32.out] at this; exact this
    refine (starts_yes gh ch gt ct 32 16 (tagI lk lm) (hmacI lk lm) _ M32.out.symm T16.out.symm hch rfl (by omega) Nx11.out.rd Rx11t.out.rd (by omega)).mono ?_
    rintro e x12 ⟨rfl, mx12, dx12⟩
    have bx12 : Below x11.heap.size x11 x12 := by rw [dx12]; exact below_drewN (Below.refl _ _) _
    clear dx12
    have Rx12c : Hid (Row x12 gc cc lc) := Rx11c.out.later bx12
    clear Rx11c
    have Rx12d : Hid (Row x12 gd cd ld) := Rx11d.out.later bx12
    clear Rx11d
    have Rx12k : Hid (Row x12 gk ck lk) := Rx11k.out.later bx12
    clear Rx11k
    have Rx12m : Hid (Row x12 gm cm lm) := Rx11m.out.later bx12
    clear Rx11m
    have Rx12t : Hid (Row x12 gt ct (tagI lk lm)) := Rx11t.out.later bx12
    clear Rx11t
    have Rx12h : Hid (Row x12 gh ch (hmacI lk lm)) := Nx11.out.later bx12
    clear Nx11
    have Bx12 : Hid (Below w.heap.size w x12) := Bx11.out.trans (bx12.mono Bx11.out.size)
    clear Bx11
    clear bx12
    go_wp2_with fail
    refine (bent a len cap l _ 16 ct (tagI lk lm) _ HL.out (HR.out.later Bx12.out (Nat.le_refl _)) HB.out hlen T16.out.symm Rx12t.out.rd (by intro e; cases e) (tagI_bytes lk lm) (by omega)).mono ?_
    rintro e x13 ⟨gy, cy, y, rfl, ey, by1, hny, ggy, rwy, bx13⟩
    have HSY : Hid (sameI (tagI lk lm) y = false) := by show _ = _; rw [same_full (tagI lk lm) y T16.out (tagI_bytes lk lm) by1]; exact decide_eq_false (fun h => hny (by omega) h.symm)
    have HLy : Hid (16 = y.length) := ey
    have HYy : Hid (Bytes y) := by1
    have Ry : Hid (Row x13 gy cy y) := rwy
    clear ey by1 hny ggy rwy
    have Rx13c : Hid (Row x13 gc cc lc) := Rx12c.out.later bx13
    clear Rx12c
    have Rx13d : Hid (Row x13 gd cd ld) := Rx12d.out.later bx13
    clear Rx12d
    have Rx13k : Hid (Row x13 gk ck lk) := Rx12k.out.later bx13
    clear Rx12k
    have Rx13m : Hid (Row x13 gm cm lm) := Rx12m.out.later bx13
    clear Rx12m
    have Rx13t : Hid (Row x13 gt ct (tagI lk lm)) := Rx12t.out.later bx13
    clear Rx12t
    have Rx13h : Hid (Row x13 gh ch (hmacI lk lm)) := Rx12h.out.later bx13
    clear Rx12h
    have Bx13 : Hid (Below w.heap.size w x13) := Bx12.out.trans (bx13.mono Bx12.out.size)
    clear Bx12
    clear bx13
    go_wp2_with fail
    refine (implSameTag _ _ 16 ct 16 cy (tagI lk lm) y _ T16.out.symm HLy.out Rx13t.out.rd Ry.out.rd (tagI_bytes lk lm) HYy.out (by omega) (by omega)).mono ?_
    rw [HSY.out]
    rintro e x14 ⟨rfl, mx14, dx14⟩
    have bx14 : Below x13.heap.size x13 x14 := by rw [dx14]; exact below_drewN (Below.refl _ _) _
    clear dx14
    have Rx14c : Hid (Row x14 gc cc lc) := Rx13c.out.later bx14
    clear Rx13c
    have Rx14d : Hid (Row x14 gd cd ld) := Rx13d.out.later bx14
    clear Rx13d
    have Rx14k : Hid (Row x14 gk ck lk) := Rx13k.out.later bx14
    clear Rx13k
    have Rx14m : Hid (Row x14 gm cm lm) := Rx13m.out.later bx14
    clear Rx13m
    have Rx14t : Hid (Row x14 gt ct (tagI lk lm)) := Rx13t.out.later bx14
    clear Rx13t
    have Rx14h : Hid (Row x14 gh ch (hmacI lk lm)) := Rx13h.out.later bx14
    clear Rx13h
    have Rx14y : Hid (Row x14 gy cy y) := Ry.out.later bx14
    clear Ry
    have Bx14 : Hid (Below w.heap.size w x14) := Bx13.out.trans (bx14.mono Bx13.out.size)
    clear Bx13
    clear bx14
    go_wp2
    go_ret
    exact ⟨rfl, Bx14.out⟩
  · have q16 : ((nc : Int) == 16) = false := by simp; omega
    have HSI : Hid (sameI lc ld = false) := by show _ = _; simp [sameI]; intro h; rw [← HLc.out] at h; omega
    clear k16
    go_wp2_with fail
    refine (implSameTag _ _ nc cc nd cd lc ld _ HLc.out HLd.out Rx7c.out.rd Rx7d.out.rd HYc.out HYd.out (by omega) (by omega)).mono ?_
    rw [HSI.out]
    rintro e x9 ⟨rfl, mx9, dx9⟩
    have bx9 : Below x7.heap.size x7 x9 := by rw [dx9]; exact below_drewN (Below.refl _ _) _
    clear dx9
    have Rx9c : Hid (Row x9 gc cc lc) := Rx7c.out.later bx9
    clear Rx7c
    have Rx9d : Hid (Row x9 gd cd ld) := Rx7d.out.later bx9
    clear Rx7d
    have Rx9k : Hid (Row x9 gk ck lk) := Rx7k.out.later bx9
    clear Rx7k
    have Rx9m : Hid (Row x9 gm cm lm) := Rx7m.out.later bx9
    clear Rx7m
    have Rx9t : Hid (Row x9 gt ct (tagI lk lm)) := Rx7t.out.later bx9
    clear Rx7t
    have Bx9 : Hid (Below w.heap.size w x9) := Bx7.out.trans (bx9.mono Bx7.out.size)
    clear Bx7
    clear bx9
    go_wp2_with fail
    refine (implHmac _ nk ck _ nm cm lk lm _ (HT.out.later Bx9.out) HLk.out HLm.out Rx9k.out.rd Rx9m.out.rd (by intro e; cases e) (by intro e; cases e) HYk.out HYm.out (by omega) (by omega)).mono ?_
    rintro e x10 ⟨gh, mh, ch, rfl, ex10, hx10, rx10, bx10⟩
    have Eh : Hid (mh = (hmacI lk lm).length) := ex10
    obtain rfl : mh = 32 := by rw [Eh.out]; exact M32.out
    have Nx10 : Hid (Row x10 gh ch (hmacI lk lm)) := rx10
    clear ex10 rx10 hx10
    have Rx10c : Hid (Row x10 gc cc lc) := Rx9c.out.later bx10
    clear Rx9c
    have Rx10d : Hid (Row x10 gd cd ld) := Rx9d.out.later bx10
    clear Rx9d
    have Rx10k : Hid (Row x10 gk ck lk) := Rx9k.out.later bx10
    clear Rx9k
    have Rx10m : Hid (Row x10 gm cm lm) := Rx9m.out.later bx10
    clear Rx9m
    have Rx10t : Hid (Row x10 gt ct (tagI lk lm)) := Rx9t.out.later bx10
    clear Rx9t
    have Bx10 : Hid (Below w.heap.size w x10) := Bx9.out.trans (bx10.mono Bx9.out.size)
    clear Bx9
    clear bx10
    go_wp2_with fail
    have hch : 32 ≤ ch := by have := Nx10.out.1; rw [M32.out] at this; exact this
    refine (starts_yes gh ch gt ct 32 16 (tagI lk lm) (hmacI lk lm) _ M32.out.symm T16.out.symm hch rfl (by omega) Nx10.out.rd Rx10t.out.rd (by omega)).mono ?_
    rintro e x11 ⟨rfl, mx11, dx11⟩
    have bx11 : Below x10.heap.size x10 x11 := by rw [dx11]; exact below_drewN (Below.refl _ _) _
    clear dx11
    have Rx11c : Hid (Row x11 gc cc lc) := Rx10c.out.later bx11
    clear Rx10c
    have Rx11d : Hid (Row x11 gd cd ld) := Rx10d.out.later bx11
    clear Rx10d
    have Rx11k : Hid (Row x11 gk ck lk) := Rx10k.out.later bx11
    clear Rx10k
    have Rx11m : Hid (Row x11 gm cm lm) := Rx10m.out.later bx11
    clear Rx10m
    have Rx11t : Hid (Row x11 gt ct (tagI lk lm)) := Rx10t.out.later bx11
    clear Rx10t
    have Rx11h : Hid (Row x11 gh ch (hmacI lk lm)) := Nx10.out.later bx11
    clear Nx10
    have Bx11 : Hid (Below w.heap.size w x11) := Bx10.out.trans (bx11.mono Bx10.out.size)
    clear Bx10
    clear bx11
    go_wp2_with fail
    refine (bent a len cap l _ 16 ct (tagI lk lm) _ HL.out (HR.out.later Bx11.out (Nat.le_refl _)) HB.out hlen T16.out.symm Rx11t.out.rd (by intro e; cases e) (tagI_bytes lk lm) (by omega)).mono ?_
    rintro e x12 ⟨gy, cy, y, rfl, ey, by1, hny, ggy, rwy, bx12⟩
    have HSY : Hid (sameI (tagI lk lm) y = false) := by show _ = _; rw [same_full (tagI lk lm) y T16.out (tagI_bytes lk lm) by1]; exact decide_eq_false (fun h => hny (by omega) h.symm)
    have HLy : Hid (16 = y.length) := ey
    have HYy : Hid (Bytes y) := by1
    have Ry : Hid (Row x12 gy cy y) := rwy
    clear ey by1 hny ggy rwy
    have Rx12c : Hid (Row x12 gc cc lc) := Rx11c.out.later bx12
    clear Rx11c
    have Rx12d : Hid (Row x12 gd cd ld) := Rx11d.out.later bx12
    clear Rx11d
    have Rx12k : Hid (Row x12 gk ck lk) := Rx11k.out.later bx12
    clear Rx11k
    have Rx12m : Hid (Row x12 gm cm lm) := Rx11m.out.later bx12
    clear Rx11m
    have Rx12t : Hid (Row x12 gt ct (tagI lk lm)) := Rx11t.out.later bx12
    clear Rx11t
    have Rx12h : Hid (Row x12 gh ch (hmacI lk lm)) := Rx11h.out.later bx12
    clear Rx11h
    have Bx12 : Hid (Below w.heap.size w x12) := Bx11.out.trans (bx12.mono Bx11.out.size)
    clear Bx11
    clear bx12
    go_wp2_with fail
    refine (implSameTag _ _ 16 ct 16 cy (tagI lk lm) y _ T16.out.symm HLy.out Rx12t.out.rd Ry.out.rd (tagI_bytes lk lm) HYy.out (by omega) (by omega)).mono ?_
    rw [HSY.out]
    rintro e x13 ⟨rfl, mx13, dx13⟩
    have bx13 : Below x12.heap.size x12 x13 := by rw [dx13]; exact below_drewN (Below.refl _ _) _
    clear dx13
    have Rx13c : Hid (Row x13 gc cc lc) := Rx12c.out.later bx13
    clear Rx12c
    have Rx13d : Hid (Row x13 gd cd ld) := Rx12d.out.later bx13
    clear Rx12d
    have Rx13k : Hid (Row x13 gk ck lk) := Rx12k.out.later bx13
    clear Rx12k
    have Rx13m : Hid (Row x13 gm cm lm) := Rx12m.out.later bx13
    clear Rx12m
    have Rx13t : Hid (Row x13 gt ct (tagI lk lm)) := Rx12t.out.later bx13
    clear Rx12t
    have Rx13h : Hid (Row x13 gh ch (hmacI lk lm)) := Rx12h.out.later bx13
    clear Rx12h
    have Rx13y : Hid (Row x13 gy cy y) := Ry.out.later bx13
    clear Ry
    have Bx13 : Hid (Below w.heap.size w x13) := Bx12.out.trans (bx13.mono Bx12.out.size)
    clear Bx12
    clear bx13
    go_wp2
    go_ret
    exact ⟨rfl, Bx13.out⟩

theorem walk (a : Option Addr) (len cap : Nat) (zs : List Int) (w : World) (hT : Tab w) (h : IsRow .u8 w a len cap zs) :
    Calls Tryd.prog 4 #[.slice a len cap] w fun e w' => e = .returned (.bool true) ∧ Below w.heap.size w w' := by
  obtain ⟨l, hl, hr, _, hb⟩ := h.read
  by_cases hlen : len ≤ 1048576
  · exact small a len cap l w hT hl hr hb hlen
  · clear hl hr hb h
    go_enter Tryd.func4, Tryd.ntmps4
    go_wp2_with fail
    refine (bigYes a len cap w (by omega)).mono ?_
    rintro e w1 ⟨rfl, rfl⟩
    go_wp2
    go_ret
    exact ⟨rfl, Below.refl _ _⟩
end Go.Proofs.YtfoilfbpbjfkcaaDoor.LawTags
