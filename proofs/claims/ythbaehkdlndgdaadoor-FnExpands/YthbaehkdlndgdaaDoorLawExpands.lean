/-
  laws.FnExpands answers true at every slice of bytes, where the table of round words holds what the program's text lays into it; nothing that was there is written into.
-/
import Derived.Test.YthbaehkdlndgdaaDoorKdfI
import Derived.Test.YthbaehkdlndgdaaDoorDrawK
import Derived.Test.YthbaehkdlndgdaaDoorDrawS
import Derived.Test.YthbaehkdlndgdaaDoorSame
import Derived.Test.YthbaehkdlndgdaaDoorBent
namespace Go.Proofs.YthbaehkdlndgdaaDoor.LawExpands
open Go.RowKit Go.Proofs.YthbaehkdlndgdaaDoor.Mem Go.Proofs.YthbaehkdlndgdaaDoor.App Go.Proofs.YthbaehkdlndgdaaDoor.Draw Go.Proofs.YthbaehkdlndgdaaDoor.DrawS Go.Proofs.YthbaehkdlndgdaaDoor.Same Go.Proofs.YthbaehkdlndgdaaDoor.Comp Go.Proofs.YthbaehkdlndgdaaDoor.KdfP Go.Proofs.YthbaehkdlndgdaaDoor.KdfI Go.Proofs.YthbaehkdlndgdaaDoor.DrawK Go.Proofs.YthbaehkdlndgdaaDoor.Bent Go.Proofs.YthbaehkdlndgdaaDoor.Blk


set_option maxRecDepth 100000 in
set_option maxHeartbeats 4000000 in
theorem small (a : Option Addr) (len cap : Nat) (l : List Int) (w : World) (hT : Tab w) (hl : len = l.length) (hr : Rd w a l) (hb : Bytes l) (hlen : len ≤ 1048576) :
    Calls Tryd.prog 3 #[.slice a len cap] w fun e w' => e = .returned (.bool true) ∧ Below w.heap.size w w' := by
  have HT : Hid (Tab w) := hT
  clear hT
  have HR : Hid (Rd w a l) := hr
  have HB : Hid (Bytes l) := hb
  have HL : Hid (len = l.length) := hl
  clear hr hb hl
  go_enter Tryd.func3, Tryd.ntmps3
  go_wp2_with fail
  refine (bigNo a len cap w hlen).mono ?_
  rintro e x1 ⟨rfl, rfl⟩
  go_wp2_with fail
  refine (drawExpand a len cap l w HL.out HR.out HB.out hlen).mono ?_
  rintro e x2 ⟨gk, nk, ck, lk, gf, nf, cf, lf, n, rfl, ⟨elk, hzk, hyk⟩, ⟨elf, hzf, hyf⟩, hn, rwk, rwf, bx2⟩
  have HLk : Hid (nk = lk.length) := elk
  have HYk : Hid (Bytes lk) := hyk
  have Rk : Hid (Row x2 gk ck lk) := rwk
  clear elk hyk rwk
  have HLf : Hid (nf = lf.length) := elf
  have HYf : Hid (Bytes lf) := hyf
  have Rf : Hid (Row x2 gf cf lf) := rwf
  clear elf hyf rwf
  have Bx2 : Hid (Below w.heap.size w x2) := bx2
  clear bx2
  go_wp2_with fail
  refine (atN a len cap l 2 x2 HL.out (HR.out.later Bx2.out (Nat.le_refl _)) HB.out hlen (by omega)).mono ?_
  rintro e x3 ⟨x, rfl, x0, x1, rfl⟩
  obtain ⟨m, rfl⟩ := Int.eq_ofNat_of_zero_le x0
  have hm : m ≤ 255 := by omega
  clear x0 x1 hn
  by_cases hf : nf ≤ 100
  · by_cases hn0 : 0 ≤ n
    · by_cases hn9 : n ≤ 8160
      · by_cases hnm : (m : Int) < n
        · have f1 : (nf : Int) ≤ 100 := by omega
          obtain ⟨N, rfl⟩ := Int.eq_ofNat_of_zero_le hn0
          have p0 : (N : Int) ≥ 0 := by omega
          have p1 : (N : Int) ≤ 8160 := by omega
          have p2 : (N : Int) > (m : Int) := hnm
          have OKn : Hid (mayExp lk lf (N : Int) = true) := (mayExp_iff lk lf (N : Int)).2 ⟨by omega, by omega, by rw [← HLf.out]; omega, by rw [← HLk.out]; omega⟩
          have OKm : Hid (mayExp lk lf (m : Int) = true) := (mayExp_iff lk lf (m : Int)).2 ⟨by omega, by omega, by rw [← HLf.out]; omega, by rw [← HLk.out]; omega⟩
          go_wp2_with fail
          refine (implExpand _ nk ck _ nf cf lk lf (N : Int) _ (HT.out.later Bx2.out) HLk.out HLf.out Rk.out.rd Rf.out.rd (by intro e; cases e) (by intro e; cases e) HYk.out HYf.out (by omega) (by omega)).mono ?_
          rw [OKn.out]
          rintro e x4 ⟨gy, my, cy, rfl, ex4, hx4, rx4, bx4⟩
          have Ey : Hid (my = (expI lk lf (N : Int)).length) := ex4
          have Nx4 : Hid (Row x4 gy cy (expI lk lf (N : Int))) := rx4
          clear ex4 rx4 hx4
          have Rx4k : Hid (Row x4 gk ck lk) := Rk.out.later bx4
          clear Rk
          have Rx4f : Hid (Row x4 gf cf lf) := Rf.out.later bx4
          clear Rf
          have Bx4 : Hid (Below w.heap.size w x4) := Bx2.out.trans (bx4.mono Bx2.out.size)
          clear Bx2
          clear bx4
          obtain rfl : N = my := Eq.symm (by rw [Ey.out]; exact expI_len lk lf N OKn.out)
          go_wp2_with fail
          refine (implExpand _ nk ck _ nf cf lk lf (m : Int) _ (HT.out.later Bx4.out) HLk.out HLf.out Rx4k.out.rd Rx4f.out.rd (by intro e; cases e) (by intro e; cases e) HYk.out HYf.out (by omega) (by omega)).mono ?_
          rw [OKm.out]
          rintro e x5 ⟨gz, mz, cz, rfl, ex5, hx5, rx5, bx5⟩
          have Ez : Hid (mz = (expI lk lf (m : Int)).length) := ex5
          have Nx5 : Hid (Row x5 gz cz (expI lk lf (m : Int))) := rx5
          clear ex5 rx5 hx5
          have Rx5k : Hid (Row x5 gk ck lk) := Rx4k.out.later bx5
          clear Rx4k
          have Rx5f : Hid (Row x5 gf cf lf) := Rx4f.out.later bx5
          clear Rx4f
          have Rx5y : Hid (Row x5 gy cy (expI lk lf (N : Int))) := Nx4.out.later bx5
          clear Nx4
          have Bx5 : Hid (Below w.heap.size w x5) := Bx4.out.trans (bx5.mono Bx4.out.size)
          clear Bx4
          clear bx5
          obtain rfl : m = mz := Eq.symm (by rw [Ez.out]; exact expI_len lk lf m OKm.out)
          go_wp2_with fail
          have hcx6 : N ≤ cy := by have := Rx5y.out.1; rw [← Ey.out] at this; exact this
          refine (starts_yes gy cy gz cz N m (expI lk lf (m : Int)) (expI lk lf (N : Int)) _ Ey.out Ez.out hcx6 (expI_more lk lf m N (by omega) OKn.out) (by omega) Rx5y.out.rd Nx5.out.rd (by omega)).mono ?_
          rintro e x6 ⟨rfl, mx6, dx6⟩
          have bx6 : Below x5.heap.size x5 x6 := by rw [dx6]; exact below_drewN (Below.refl _ _) _
          clear dx6
          have Rx6k : Hid (Row x6 gk ck lk) := Rx5k.out.later bx6
          clear Rx5k
          have Rx6f : Hid (Row x6 gf cf lf) := Rx5f.out.later bx6
          clear Rx5f
          have Rx6y : Hid (Row x6 gy cy (expI lk lf (N : Int))) := Rx5y.out.later bx6
          clear Rx5y
          have Rx6z : Hid (Row x6 gz cz (expI lk lf (m : Int))) := Nx5.out.later bx6
          clear Nx5
          have Bx6 : Hid (Below w.heap.size w x6) := Bx5.out.trans (bx6.mono Bx5.out.size)
          clear Bx5
          clear bx6
          go_wp2
          go_ret
          exact ⟨rfl, Bx6.out⟩
        · have f1 : (nf : Int) ≤ 100 := by omega
          obtain ⟨N, rfl⟩ := Int.eq_ofNat_of_zero_le hn0
          have p0 : (N : Int) ≥ 0 := by omega
          have p1 : (N : Int) ≤ 8160 := by omega
          have p2 : ¬ ((N : Int) > (m : Int)) := by omega
          have p3 : (N : Int) ≤ (m : Int) := by omega
          have OKn : Hid (mayExp lk lf (N : Int) = true) := (mayExp_iff lk lf (N : Int)).2 ⟨by omega, by omega, by rw [← HLf.out]; omega, by rw [← HLk.out]; omega⟩
          have OKm : Hid (mayExp lk lf (m : Int) = true) := (mayExp_iff lk lf (m : Int)).2 ⟨by omega, by omega, by rw [← HLf.out]; omega, by rw [← HLk.out]; omega⟩
          go_wp2_with fail
          refine (implExpand _ nk ck _ nf cf lk lf (N : Int) _ (HT.out.later Bx2.out) HLk.out HLf.out Rk.out.rd Rf.out.rd (by intro e; cases e) (by intro e; cases e) HYk.out HYf.out (by omega) (by omega)).mono ?_
          rw [OKn.out]
          rintro e x4 ⟨gy, my, cy, rfl, ex4, hx4, rx4, bx4⟩
          have Ey : Hid (my = (expI lk lf (N : Int)).length) := ex4
          have Nx4 : Hid (Row x4 gy cy (expI lk lf (N : Int))) := rx4
          clear ex4 rx4 hx4
          have Rx4k : Hid (Row x4 gk ck lk) := Rk.out.later bx4
          clear Rk
          have Rx4f : Hid (Row x4 gf cf lf) := Rf.out.later bx4
          clear Rf
          have Bx4 : Hid (Below w.heap.size w x4) := Bx2.out.trans (bx4.mono Bx2.out.size)
          clear Bx2
          clear bx4
          obtain rfl : N = my := Eq.symm (by rw [Ey.out]; exact expI_len lk lf N OKn.out)
          go_wp2_with fail
          refine (implExpand _ nk ck _ nf cf lk lf (m : Int) _ (HT.out.later Bx4.out) HLk.out HLf.out Rx4k.out.rd Rx4f.out.rd (by intro e; cases e) (by intro e; cases e) HYk.out HYf.out (by omega) (by omega)).mono ?_
          rw [OKm.out]
          rintro e x5 ⟨gz, mz, cz, rfl, ex5, hx5, rx5, bx5⟩
          have Ez : Hid (mz = (expI lk lf (m : Int)).length) := ex5
          have Nx5 : Hid (Row x5 gz cz (expI lk lf (m : Int))) := rx5
          clear ex5 rx5 hx5
          have Rx5k : Hid (Row x5 gk ck lk) := Rx4k.out.later bx5
          clear Rx4k
          have Rx5f : Hid (Row x5 gf cf lf) := Rx4f.out.later bx5
          clear Rx4f
          have Rx5y : Hid (Row x5 gy cy (expI lk lf (N : Int))) := Nx4.out.later bx5
          clear Nx4
          have Bx5 : Hid (Below w.heap.size w x5) := Bx4.out.trans (bx5.mono Bx4.out.size)
          clear Bx4
          clear bx5
          obtain rfl : m = mz := Eq.symm (by rw [Ez.out]; exact expI_len lk lf m OKm.out)
          go_wp2_with fail
          have hcx6 : m ≤ cz := by have := Nx5.out.1; rw [← Ez.out] at this; exact this
          refine (starts_yes gz cz gy cy m N (expI lk lf (N : Int)) (expI lk lf (m : Int)) _ Ez.out Ey.out hcx6 (expI_more lk lf N m (by omega) OKm.out) (by omega) Nx5.out.rd Rx5y.out.rd (by omega)).mono ?_
          rintro e x6 ⟨rfl, mx6, dx6⟩
          have bx6 : Below x5.heap.size x5 x6 := by rw [dx6]; exact below_drewN (Below.refl _ _) _
          clear dx6
          have Rx6k : Hid (Row x6 gk ck lk) := Rx5k.out.later bx6
          clear Rx5k
          have Rx6f : Hid (Row x6 gf cf lf) := Rx5f.out.later bx6
          clear Rx5f
          have Rx6y : Hid (Row x6 gy cy (expI lk lf (N : Int))) := Rx5y.out.later bx6
          clear Rx5y
          have Rx6z : Hid (Row x6 gz cz (expI lk lf (m : Int))) := Nx5.out.later bx6
          clear Nx5
          have Bx6 : Hid (Below w.heap.size w x6) := Bx5.out.trans (bx6.mono Bx5.out.size)
          clear Bx5
          clear bx6
          go_wp2
          go_ret
          exact ⟨rfl, Bx6.out⟩
      · have f1 : (nf : Int) ≤ 100 := by omega
        have p0 : n ≥ 0 := by omega
        have p1 : ¬ (n ≤ 8160) := by omega
        have OKn : Hid (mayExp lk lf n = false) := by show _ = _; rw [mayExp, decide_eq_false_iff_not]; rw [← HLf.out]; omega
        have OKm : Hid (mayExp lk lf (m : Int) = true) := (mayExp_iff lk lf (m : Int)).2 ⟨by omega, by omega, by rw [← HLf.out]; omega, by rw [← HLk.out]; omega⟩
        go_wp2_with fail
        refine (implExpand _ nk ck _ nf cf lk lf n _ (HT.out.later Bx2.out) HLk.out HLf.out Rk.out.rd Rf.out.rd (by intro e; cases e) (by intro e; cases e) HYk.out HYf.out (by omega) (by omega)).mono ?_
        rw [OKn.out]
        rintro e x4 ⟨gy, my, cy, rfl, ex4, hx4, rx4, bx4⟩
        have Ey : Hid (my = (expI lk lf n).length) := ex4
        have Nx4 : Hid (Row x4 gy cy (expI lk lf n)) := rx4
        clear ex4 rx4 hx4
        have Rx4k : Hid (Row x4 gk ck lk) := Rk.out.later bx4
        clear Rk
        have Rx4f : Hid (Row x4 gf cf lf) := Rf.out.later bx4
        clear Rf
        have Bx4 : Hid (Below w.heap.size w x4) := Bx2.out.trans (bx4.mono Bx2.out.size)
        clear Bx2
        clear bx4
        obtain rfl : 0 = my := Eq.symm (by rw [Ey.out]; exact (by rw [expI_no lk lf n OKn.out]; rfl))
        go_wp2_with fail
        refine (implExpand _ nk ck _ nf cf lk lf (m : Int) _ (HT.out.later Bx4.out) HLk.out HLf.out Rx4k.out.rd Rx4f.out.rd (by intro e; cases e) (by intro e; cases e) HYk.out HYf.out (by omega) (by omega)).mono ?_
        rw [OKm.out]
        rintro e x5 ⟨gz, mz, cz, rfl, ex5, hx5, rx5, bx5⟩
        have Ez : Hid (mz = (expI lk lf (m : Int)).length) := ex5
        have Nx5 : Hid (Row x5 gz cz (expI lk lf (m : Int))) := rx5
        clear ex5 rx5 hx5
        have Rx5k : Hid (Row x5 gk ck lk) := Rx4k.out.later bx5
        clear Rx4k
        have Rx5f : Hid (Row x5 gf cf lf) := Rx4f.out.later bx5
        clear Rx4f
        have Rx5y : Hid (Row x5 gy cy (expI lk lf n)) := Nx4.out.later bx5
        clear Nx4
        have Bx5 : Hid (Below w.heap.size w x5) := Bx4.out.trans (bx5.mono Bx4.out.size)
        clear Bx4
        clear bx5
        obtain rfl : m = mz := Eq.symm (by rw [Ez.out]; exact expI_len lk lf m OKm.out)
        go_wp2
        go_ret
        exact ⟨rfl, Bx5.out⟩
    · have f1 : (nf : Int) ≤ 100 := by omega
      have p0 : ¬ (n ≥ 0) := by omega
      have OKn : Hid (mayExp lk lf n = false) := by show _ = _; rw [mayExp, decide_eq_false_iff_not]; rw [← HLf.out]; omega
      have OKm : Hid (mayExp lk lf (m : Int) = true) := (mayExp_iff lk lf (m : Int)).2 ⟨by omega, by omega, by rw [← HLf.out]; omega, by rw [← HLk.out]; omega⟩
      go_wp2_with fail
      refine (implExpand _ nk ck _ nf cf lk lf n _ (HT.out.later Bx2.out) HLk.out HLf.out Rk.out.rd Rf.out.rd (by intro e; cases e) (by intro e; cases e) HYk.out HYf.out (by omega) (by omega)).mono ?_
      rw [OKn.out]
      rintro e x4 ⟨gy, my, cy, rfl, ex4, hx4, rx4, bx4⟩
      have Ey : Hid (my = (expI lk lf n).length) := ex4
      have Nx4 : Hid (Row x4 gy cy (expI lk lf n)) := rx4
      clear ex4 rx4 hx4
      have Rx4k : Hid (Row x4 gk ck lk) := Rk.out.later bx4
      clear Rk
      have Rx4f : Hid (Row x4 gf cf lf) := Rf.out.later bx4
      clear Rf
      have Bx4 : Hid (Below w.heap.size w x4) := Bx2.out.trans (bx4.mono Bx2.out.size)
      clear Bx2
      clear bx4
      obtain rfl : 0 = my := Eq.symm (by rw [Ey.out]; exact (by rw [expI_no lk lf n OKn.out]; rfl))
      go_wp2_with fail
      refine (implExpand _ nk ck _ nf cf lk lf (m : Int) _ (HT.out.later Bx4.out) HLk.out HLf.out Rx4k.out.rd Rx4f.out.rd (by intro e; cases e) (by intro e; cases e) HYk.out HYf.out (by omega) (by omega)).mono ?_
      rw [OKm.out]
      rintro e x5 ⟨gz, mz, cz, rfl, ex5, hx5, rx5, bx5⟩
      have Ez : Hid (mz = (expI lk lf (m : Int)).length) := ex5
      have Nx5 : Hid (Row x5 gz cz (expI lk lf (m : Int))) := rx5
      clear ex5 rx5 hx5
      have Rx5k : Hid (Row x5 gk ck lk) := Rx4k.out.later bx5
      clear Rx4k
      have Rx5f : Hid (Row x5 gf cf lf) := Rx4f.out.later bx5
      clear Rx4f
      have Rx5y : Hid (Row x5 gy cy (expI lk lf n)) := Nx4.out.later bx5
      clear Nx4
      have Bx5 : Hid (Below w.heap.size w x5) := Bx4.out.trans (bx5.mono Bx4.out.size)
      clear Bx4
      clear bx5
      obtain rfl : m = mz := Eq.symm (by rw [Ez.out]; exact expI_len lk lf m OKm.out)
      go_wp2
      go_ret
      exact ⟨rfl, Bx5.out⟩
  · by_cases hn0 : 0 ≤ n
    · by_cases hn9 : n ≤ 8160
      · have f1 : ¬ ((nf : Int) ≤ 100) := by omega
        have p0 : n ≥ 0 := by omega
        have p1 : n ≤ 8160 := by omega
        have OKn : Hid (mayExp lk lf n = false) := by show _ = _; rw [mayExp, decide_eq_false_iff_not]; rw [← HLf.out]; omega
        have OKm : Hid (mayExp lk lf (m : Int) = false) := by show _ = _; rw [mayExp, decide_eq_false_iff_not]; rw [← HLf.out]; omega
        go_wp2_with fail
        refine (implExpand _ nk ck _ nf cf lk lf n _ (HT.out.later Bx2.out) HLk.out HLf.out Rk.out.rd Rf.out.rd (by intro e; cases e) (by intro e; cases e) HYk.out HYf.out (by omega) (by omega)).mono ?_
        rw [OKn.out]
        rintro e x4 ⟨gy, my, cy, rfl, ex4, hx4, rx4, bx4⟩
        have Ey : Hid (my = (expI lk lf n).length) := ex4
        have Nx4 : Hid (Row x4 gy cy (expI lk lf n)) := rx4
        clear ex4 rx4 hx4
        have Rx4k : Hid (Row x4 gk ck lk) := Rk.out.later bx4
        clear Rk
        have Rx4f : Hid (Row x4 gf cf lf) := Rf.out.later bx4
        clear Rf
        have Bx4 : Hid (Below w.heap.size w x4) := Bx2.out.trans (bx4.mono Bx2.out.size)
        clear Bx2
        clear bx4
        obtain rfl : 0 = my := Eq.symm (by rw [Ey.out]; exact (by rw [expI_no lk lf n OKn.out]; rfl))
        go_wp2_with fail
        refine (implExpand _ nk ck _ nf cf lk lf (m : Int) _ (HT.out.later Bx4.out) HLk.out HLf.out Rx4k.out.rd Rx4f.out.rd (by intro e; cases e) (by intro e; cases e) HYk.out HYf.out (by omega) (by omega)).mono ?_
        rw [OKm.out]
        rintro e x5 ⟨gz, mz, cz, rfl, ex5, hx5, rx5, bx5⟩
        have Ez : Hid (mz = (expI lk lf (m : Int)).length) := ex5
        have Nx5 : Hid (Row x5 gz cz (expI lk lf (m : Int))) := rx5
        clear ex5 rx5 hx5
        have Rx5k : Hid (Row x5 gk ck lk) := Rx4k.out.later bx5
        clear Rx4k
        have Rx5f : Hid (Row x5 gf cf lf) := Rx4f.out.later bx5
        clear Rx4f
        have Rx5y : Hid (Row x5 gy cy (expI lk lf n)) := Nx4.out.later bx5
        clear Nx4
        have Bx5 : Hid (Below w.heap.size w x5) := Bx4.out.trans (bx5.mono Bx4.out.size)
        clear Bx4
        clear bx5
        go_wp2
        go_ret
        exact ⟨rfl, Bx5.out⟩
      · have f1 : ¬ ((nf : Int) ≤ 100) := by omega
        have p0 : n ≥ 0 := by omega
        have p1 : ¬ (n ≤ 8160) := by omega
        have OKn : Hid (mayExp lk lf n = false) := by show _ = _; rw [mayExp, decide_eq_false_iff_not]; rw [← HLf.out]; omega
        have OKm : Hid (mayExp lk lf (m : Int) = false) := by show _ = _; rw [mayExp, decide_eq_false_iff_not]; rw [← HLf.out]; omega
        go_wp2_with fail
        refine (implExpand _ nk ck _ nf cf lk lf n _ (HT.out.later Bx2.out) HLk.out HLf.out Rk.out.rd Rf.out.rd (by intro e; cases e) (by intro e; cases e) HYk.out HYf.out (by omega) (by omega)).mono ?_
        rw [OKn.out]
        rintro e x4 ⟨gy, my, cy, rfl, ex4, hx4, rx4, bx4⟩
        have Ey : Hid (my = (expI lk lf n).length) := ex4
        have Nx4 : Hid (Row x4 gy cy (expI lk lf n)) := rx4
        clear ex4 rx4 hx4
        have Rx4k : Hid (Row x4 gk ck lk) := Rk.out.later bx4
        clear Rk
        have Rx4f : Hid (Row x4 gf cf lf) := Rf.out.later bx4
        clear Rf
        have Bx4 : Hid (Below w.heap.size w x4) := Bx2.out.trans (bx4.mono Bx2.out.size)
        clear Bx2
        clear bx4
        obtain rfl : 0 = my := Eq.symm (by rw [Ey.out]; exact (by rw [expI_no lk lf n OKn.out]; rfl))
        go_wp2_with fail
        refine (implExpand _ nk ck _ nf cf lk lf (m : Int) _ (HT.out.later Bx4.out) HLk.out HLf.out Rx4k.out.rd Rx4f.out.rd (by intro e; cases e) (by intro e; cases e) HYk.out HYf.out (by omega) (by omega)).mono ?_
        rw [OKm.out]
        rintro e x5 ⟨gz, mz, cz, rfl, ex5, hx5, rx5, bx5⟩
        have Ez : Hid (mz = (expI lk lf (m : Int)).length) := ex5
        have Nx5 : Hid (Row x5 gz cz (expI lk lf (m : Int))) := rx5
        clear ex5 rx5 hx5
        have Rx5k : Hid (Row x5 gk ck lk) := Rx4k.out.later bx5
        clear Rx4k
        have Rx5f : Hid (Row x5 gf cf lf) := Rx4f.out.later bx5
        clear Rx4f
        have Rx5y : Hid (Row x5 gy cy (expI lk lf n)) := Nx4.out.later bx5
        clear Nx4
        have Bx5 : Hid (Below w.heap.size w x5) := Bx4.out.trans (bx5.mono Bx4.out.size)
        clear Bx4
        clear bx5
        go_wp2
        go_ret
        exact ⟨rfl, Bx5.out⟩
    · have f1 : ¬ ((nf : Int) ≤ 100) := by omega
      have p0 : ¬ (n ≥ 0) := by omega
      have OKn : Hid (mayExp lk lf n = false) := by show _ = _; rw [mayExp, decide_eq_false_iff_not]; rw [← HLf.out]; omega
      have OKm : Hid (mayExp lk lf (m : Int) = false) := by show _ = _; rw [mayExp, decide_eq_false_iff_not]; rw [← HLf.out]; omega
      go_wp2_with fail
      refine (implExpand _ nk ck _ nf cf lk lf n _ (HT.out.later Bx2.out) HLk.out HLf.out Rk.out.rd Rf.out.rd (by intro e; cases e) (by intro e; cases e) HYk.out HYf.out (by omega) (by omega)).mono ?_
      rw [OKn.out]
      rintro e x4 ⟨gy, my, cy, rfl, ex4, hx4, rx4, bx4⟩
      have Ey : Hid (my = (expI lk lf n).length) := ex4
      have Nx4 : Hid (Row x4 gy cy (expI lk lf n)) := rx4
      clear ex4 rx4 hx4
      have Rx4k : Hid (Row x4 gk ck lk) := Rk.out.later bx4
      clear Rk
      have Rx4f : Hid (Row x4 gf cf lf) := Rf.out.later bx4
      clear Rf
      have Bx4 : Hid (Below w.heap.size w x4) := Bx2.out.trans (bx4.mono Bx2.out.size)
      clear Bx2
      clear bx4
      obtain rfl : 0 = my := Eq.symm (by rw [Ey.out]; exact (by rw [expI_no lk lf n OKn.out]; rfl))
      go_wp2_with fail
      refine (implExpand _ nk ck _ nf cf lk lf (m : Int) _ (HT.out.later Bx4.out) HLk.out HLf.out Rx4k.out.rd Rx4f.out.rd (by intro e; cases e) (by intro e; cases e) HYk.out HYf.out (by omega) (by omega)).mono ?_
      rw [OKm.out]
      rintro e x5 ⟨gz, mz, cz, rfl, ex5, hx5, rx5, bx5⟩
      have Ez : Hid (mz = (expI lk lf (m : Int)).length) := ex5
      have Nx5 : Hid (Row x5 gz cz (expI lk lf (m : Int))) := rx5
      clear ex5 rx5 hx5
      have Rx5k : Hid (Row x5 gk ck lk) := Rx4k.out.later bx5
      clear Rx4k
      have Rx5f : Hid (Row x5 gf cf lf) := Rx4f.out.later bx5
      clear Rx4f
      have Rx5y : Hid (Row x5 gy cy (expI lk lf n)) := Nx4.out.later bx5
      clear Nx4
      have Bx5 : Hid (Below w.heap.size w x5) := Bx4.out.trans (bx5.mono Bx4.out.size)
      clear Bx4
      clear bx5
      go_wp2
      go_ret
      exact ⟨rfl, Bx5.out⟩


theorem walk (a : Option Addr) (len cap : Nat) (zs : List Int) (w : World) (hT : Tab w) (h : IsRow .u8 w a len cap zs) :
    Calls Tryd.prog 3 #[.slice a len cap] w fun e w' => e = .returned (.bool true) ∧ Below w.heap.size w w' := by
  obtain ⟨l, hl, hr, _, hb⟩ := h.read
  by_cases hlen : len ≤ 1048576
  · exact small a len cap l w hT hl hr hb hlen
  · clear hl hr hb h
    go_enter Tryd.func3, Tryd.ntmps3
    go_wp2_with fail
    refine (bigYes a len cap w (by omega)).mono ?_
    rintro e w1 ⟨rfl, rfl⟩
    go_wp2
    go_ret
    exact ⟨rfl, Below.refl _ _⟩
end Go.Proofs.YthbaehkdlndgdaaDoor.LawExpands
