/-
  laws.FnSums answers true at every slice of bytes, where the table of round words holds what the program's text lays into it; nothing that was there is written into.
-/
import Derived.Test.YtfoilfbpbjfkcaaDoorSumsP
import Derived.Test.YtfoilfbpbjfkcaaDoorDrawH
import Derived.Test.YtfoilfbpbjfkcaaDoorSame
import Derived.Test.YtfoilfbpbjfkcaaDoorAppAt
import Derived.Test.YtfoilfbpbjfkcaaDoorHashE
import Derived.Test.YtfoilfbpbjfkcaaDoorMacP
namespace Go.Proofs.YtfoilfbpbjfkcaaDoor.LawSums
open Go.RowKit Go.Proofs.YtfoilfbpbjfkcaaDoor.Mem Go.Proofs.YtfoilfbpbjfkcaaDoor.App Go.Proofs.YtfoilfbpbjfkcaaDoor.Draw Go.Proofs.YtfoilfbpbjfkcaaDoor.DrawS Go.Proofs.YtfoilfbpbjfkcaaDoor.Same Go.Proofs.YtfoilfbpbjfkcaaDoor.MemI Go.Proofs.YtfoilfbpbjfkcaaDoor.Blk Go.Proofs.YtfoilfbpbjfkcaaDoor.ShaP Go.Proofs.YtfoilfbpbjfkcaaDoor.Comp Go.Proofs.YtfoilfbpbjfkcaaDoor.Ends Go.Proofs.YtfoilfbpbjfkcaaDoor.ShaS Go.Proofs.YtfoilfbpbjfkcaaDoor.AppAt Go.Proofs.YtfoilfbpbjfkcaaDoor.DrawH Go.Proofs.YtfoilfbpbjfkcaaDoor.SumsP Go.Proofs.YtfoilfbpbjfkcaaDoor.Hashs Go.Proofs.YtfoilfbpbjfkcaaDoor.HashO Go.Proofs.YtfoilfbpbjfkcaaDoor.HashS Go.Proofs.YtfoilfbpbjfkcaaDoor.HashE Go.Proofs.YtfoilfbpbjfkcaaDoor.HashC Go.Proofs.YtfoilfbpbjfkcaaDoor.WordsOf Go.Proofs.YtfoilfbpbjfkcaaDoor.MacP


set_option maxRecDepth 100000 in
set_option maxHeartbeats 4000000 in
theorem small (a : Option Addr) (len cap : Nat) (l : List Int) (w : World) (hT : Tab w) (hl : len = l.length) (hr : Rd w a l) (hb : Bytes l) (hlen : len ≤ 1048576) :
    Calls Tryd.prog 3 #[.slice a len cap] w fun e w' => e = .returned (.bool true) ∧ Below w.heap.size w w' := by
  have HT : Hid (Tab w) := hT
  clear hT
  have HR : Hid (Rd w a l) := hr
  have HB : Hid (Bytes l) := hb
  have HL : Hid (len = l.length) := hl
  clear hr hb hl
  go_enter Tryd.func3, Tryd.ntmps3
  go_wp2_with fail
  refine (bigNo a len cap w hlen).mono ?_
  rintro e x1 ⟨rfl, rfl⟩
  go_wp2_with fail
  refine (drawSha a len cap l w HL.out HR.out HB.out hlen).mono ?_
  rintro e x2 ⟨ga, na, ca, la, rfl, ela, hza, hya, gga, rwa, bx2⟩
  have HLa : Hid (na = la.length) := ela
  have HYa : Hid (Bytes la) := hya
  have Ra : Hid (Row x2 ga ca la) := rwa
  clear ela hya rwa gga
  have Bx2 : Hid (Below w.heap.size w x2) := bx2
  clear bx2
  go_wp2_with fail
  refine (drawHashAdd a len cap l x2 HL.out (HR.out.later Bx2.out (Nat.le_refl _)) HB.out hlen).mono ?_
  rintro e x3 ⟨v, gb, nb, cb, lb, rfl, hv, elb, hzb, hyb, ggb, rwb, bx3⟩
  obtain ⟨s0, m0, d0, s1, m1, d1, N0, rfl⟩ := hv
  unfold hashV
  have HLb : Hid (nb = lb.length) := elb
  have HYb : Hid (Bytes lb) := hyb
  have Rb : Hid (Row x3 gb cb lb) := rwb
  clear elb hyb ggb rwb
  have Rx3a : Hid (Row x3 ga ca la) := Ra.out.later bx3
  clear Ra
  have Bx3 : Hid (Below w.heap.size w x3) := Bx2.out.trans (bx3.mono Bx2.out.size)
  clear Bx2
  clear bx3
  obtain ⟨x4, hx4⟩ : ∃ x4, x3.alloc (.cells #[.slice s0 m0 d0, .slice s1 m1 d1, .int .i64 N0] 27) = x4 := ⟨_, rfl⟩
  have HWx4 : Hid (x3.alloc (.cells #[.slice s0 m0 d0, .slice s1 m1 d1, .int .i64 N0] 27) = x4) := hx4
  have bx4 : Below x3.heap.size x3 x4 := by rw [← hx4]; exact (Below.refl _ _).alloc (Nat.le_refl _) _
  clear hx4
  go_upto_region 5 with fail
  rw [HWx4.out]
  clear HWx4
  have Rx4a : Hid (Row x4 ga ca la) := Rx3a.out.later bx4
  clear Rx3a
  have Rx4b : Hid (Row x4 gb cb lb) := Rb.out.later bx4
  clear Rb
  have Bx4 : Hid (Below w.heap.size w x4) := Bx3.out.trans (bx4.mono Bx3.out.size)
  clear Bx3
  clear bx4
  have A1c : Hid (Below x4.heap.size x4 (x4.alloc (.cells #[] 5))) := (Below.refl _ _).alloc (Nat.le_refl _) _
  have E1 : Hid (Row (x4.alloc (.cells #[] 5)) x4.heap.size 0 []) := row_new x4 [] (by simp)
  go_upto_region 6 with (first | (at_builtin; refine wpList_app_at _ rfl (.tmp 19) (.tmp 20) rfl x4.heap.size x4.heap.size 0 0 [] la rfl rfl E1.out (Nat.le_refl _) (some ⟨ga, 0, none⟩) na ca rfl HLa.out (row_alloc Rx4a.out _).rd (by intro e; cases e) (by rw [← HLa.out]; simp; omega) ?_; intro gz cz x5 r1 k1' l1 gr1; have RA : Hid (Row x5 gz cz la) := (List.nil_append la) ▸ r1; have GA : Hid (x4.heap.size ≤ gz) := k1'; have BA : Hid (Below x4.heap.size x4 x5) := A1c.out.grown gr1 A1c.out.size (fun k h => by cases h; exact Nat.le_refl _); clear r1 k1' l1 gr1) | (at_builtin; refine wpList_app_at _ rfl (.tmp 21) (.tmp 22) rfl x4.heap.size gz na cz la lb rfl HLa.out RA.out GA.out (some ⟨gb, 0, none⟩) nb cb rfl HLb.out (Rx4b.out.later BA.out).rd (by intro e; cases e) (by rw [← HLa.out, ← HLb.out]; omega) ?_; intro gx cx x6 r2 k2' l2 gr2; have RX : Hid (Row x6 gx cx (la ++ lb)) := r2; have bx6 : Below x4.heap.size x4 x6 := BA.out.grown gr2 BA.out.size (fun k h => by cases h; exact GA.out); clear r2 k2' l2 gr2))
  clear A1c E1 RA BA GA
  have Rx6a : Hid (Row x6 ga ca la) := Rx4a.out.later bx6
  clear Rx4a
  have Rx6b : Hid (Row x6 gb cb lb) := Rx4b.out.later bx6
  clear Rx4b
  have Bx6 : Hid (Below w.heap.size w x6) := Bx4.out.trans (bx6.mono Bx4.out.size)
  clear Bx4
  clear bx6
  obtain ⟨L, hL⟩ : ∃ L, na + nb = L := ⟨_, rfl⟩
  have HX : Hid (L = (la ++ lb).length) := by show _ = _; rw [← hL, List.length_append, ← HLa.out, ← HLb.out]
  have hL2 : L ≤ 2000 := by omega
  try rw [hL]
  clear hL
  have HXB : Hid (Bytes (la ++ lb)) := fun z hz => (List.mem_append.1 hz).elim (HYa.out z) (HYb.out z)
  go_wp2_with fail
  refine (newOf _).mono ?_
  rintro e x7 ⟨ghn, mhn, chn, gbn, mbn, cbn, rfl, ehx7, ebx7, px7, qx7, nex7, rhx7, rbx7, bx7⟩
  obtain rfl : mhn = 8 := by rw [ehx7, hw_length]
  have Ebn : Hid (mbn = (hd []).length) := ebx7
  have lbn : mbn ≤ 63 := by rw [ebx7, hd_length]; omega
  clear ehx7 ebx7
  have Nx7H : Hid (IRow x7 ghn chn (hw [])) := rhx7
  have Nx7B : Hid (Row x7 gbn cbn (hd [])) := rbx7
  have NEnHnB : Hid (ghn ≠ gbn) := nex7
  have NEanH : Hid (ga ≠ ghn) := Nat.ne_of_lt (Nat.lt_of_lt_of_le Rx6a.out.lt px7)
  have NEbnH : Hid (gb ≠ ghn) := Nat.ne_of_lt (Nat.lt_of_lt_of_le Rx6b.out.lt px7)
  have NExnH : Hid (gx ≠ ghn) := Nat.ne_of_lt (Nat.lt_of_lt_of_le RX.out.lt px7)
  have GEnH : Hid (w.heap.size ≤ ghn) := Nat.le_trans Bx6.out.size px7
  have NEanB : Hid (ga ≠ gbn) := Nat.ne_of_lt (Nat.lt_of_lt_of_le Rx6a.out.lt qx7)
  have NEbnB : Hid (gb ≠ gbn) := Nat.ne_of_lt (Nat.lt_of_lt_of_le Rx6b.out.lt qx7)
  have NExnB : Hid (gx ≠ gbn) := Nat.ne_of_lt (Nat.lt_of_lt_of_le RX.out.lt qx7)
  have GEnB : Hid (w.heap.size ≤ gbn) := Nat.le_trans Bx6.out.size qx7
  clear rhx7 rbx7 px7 qx7 nex7
  have Rx7a : Hid (Row x7 ga ca la) := Rx6a.out.later bx7
  clear Rx6a
  have Rx7b : Hid (Row x7 gb cb lb) := Rx6b.out.later bx7
  clear Rx6b
  have Rx7x : Hid (Row x7 gx cx (la ++ lb)) := RX.out.later bx7
  clear RX
  have Bx7 : Hid (Below w.heap.size w x7) := Bx6.out.trans (bx7.mono Bx6.out.size)
  clear Bx6
  clear bx7
  unfold hashV
  have Bn : Hid (Bytes ([] : List Int)) := fun z hz => by cases hz
  go_wp2_with fail
  refine (addTo _ 8 chn _ mbn cbn [] la 0 (na : Int) _ na ca _ (HT.out.later Bx7.out) rfl (by rw [List.nil_append, ← HLa.out]) (hw_length []).symm Ebn.out Nx7H.out.rd Nx7B.out.rd (by intro e; cases e) Bn.out HLa.out Rx7a.out.rd (by intro e; cases e) HYa.out (by omega) (by rw [List.nil_append, ← HLa.out]; omega)).mono ?_
  rintro e x8 ⟨ghh, mhh, chh, gbh, mbh, cbh, rfl, ehx8, ebx8, px8, qx8, nex8, rhx8, rbx8, bx8⟩
  obtain rfl : mhh = 8 := by rw [ehx8, hw_length]
  have Ebh : Hid (mbh = (hd la).length) := ebx8
  have lbh : mbh ≤ 63 := by rw [ebx8, hd_length]; omega
  clear ehx8 ebx8
  have Nx8H : Hid (IRow x8 ghh chh (hw la)) := rhx8
  have Nx8B : Hid (Row x8 gbh cbh (hd la)) := rbx8
  have NEhHhB : Hid (ghh ≠ gbh) := nex8
  have NEahH : Hid (ga ≠ ghh) := Nat.ne_of_lt (Nat.lt_of_lt_of_le Rx7a.out.lt px8)
  have NEbhH : Hid (gb ≠ ghh) := Nat.ne_of_lt (Nat.lt_of_lt_of_le Rx7b.out.lt px8)
  have NExhH : Hid (gx ≠ ghh) := Nat.ne_of_lt (Nat.lt_of_lt_of_le Rx7x.out.lt px8)
  have NEnHhH : Hid (ghn ≠ ghh) := Nat.ne_of_lt (Nat.lt_of_lt_of_le Nx7H.out.lt px8)
  have NEnBhH : Hid (gbn ≠ ghh) := Nat.ne_of_lt (Nat.lt_of_lt_of_le Nx7B.out.lt px8)
  have GEhH : Hid (w.heap.size ≤ ghh) := Nat.le_trans Bx7.out.size px8
  have NEahB : Hid (ga ≠ gbh) := Nat.ne_of_lt (Nat.lt_of_lt_of_le Rx7a.out.lt qx8)
  have NEbhB : Hid (gb ≠ gbh) := Nat.ne_of_lt (Nat.lt_of_lt_of_le Rx7b.out.lt qx8)
  have NExhB : Hid (gx ≠ gbh) := Nat.ne_of_lt (Nat.lt_of_lt_of_le Rx7x.out.lt qx8)
  have NEnHhB : Hid (ghn ≠ gbh) := Nat.ne_of_lt (Nat.lt_of_lt_of_le Nx7H.out.lt qx8)
  have NEnBhB : Hid (gbn ≠ gbh) := Nat.ne_of_lt (Nat.lt_of_lt_of_le Nx7B.out.lt qx8)
  have GEhB : Hid (w.heap.size ≤ gbh) := Nat.le_trans Bx7.out.size qx8
  clear rhx8 rbx8 px8 qx8 nex8
  have Rx8a : Hid (Row x8 ga ca la) := Rx7a.out.later bx8
  clear Rx7a
  have Rx8b : Hid (Row x8 gb cb lb) := Rx7b.out.later bx8
  clear Rx7b
  have Rx8x : Hid (Row x8 gx cx (la ++ lb)) := Rx7x.out.later bx8
  clear Rx7x
  have Rx8nH : Hid (IRow x8 ghn chn (hw [])) := Nx7H.out.later bx8
  clear Nx7H
  have Rx8nB : Hid (Row x8 gbn cbn (hd [])) := Nx7B.out.later bx8
  clear Nx7B
  have Bx8 : Hid (Below w.heap.size w x8) := Bx7.out.trans (bx8.mono Bx7.out.size)
  clear Bx7
  clear bx8
  unfold hashV
  clear Rx8nH
  clear Rx8nB
  obtain ⟨x9, hx9⟩ : ∃ x9, x8.alloc (.cells #[.slice (some ⟨ghh, 0, none⟩) 8 chh, .slice (some ⟨gbh, 0, none⟩) mbh cbh, .int .i64 (na : Int)] 27) = x9 := ⟨_, rfl⟩
  have HWx9 : Hid (x8.alloc (.cells #[.slice (some ⟨ghh, 0, none⟩) 8 chh, .slice (some ⟨gbh, 0, none⟩) mbh cbh, .int .i64 (na : Int)] 27) = x9) := hx9
  have Nx9 : Hid (Blk x9 x8.heap.size 27 [.slice (some ⟨ghh, 0, none⟩) 8 chh, .slice (some ⟨gbh, 0, none⟩) mbh cbh, .int .i64 (na : Int)]) := by rw [← hx9]; exact Blk.new x8 27 [.slice (some ⟨ghh, 0, none⟩) 8 chh, .slice (some ⟨gbh, 0, none⟩) mbh cbh, .int .i64 (na : Int)]
  have bx9 : Below x8.heap.size x8 x9 := by rw [← hx9]; exact (Below.refl _ _).alloc (Nat.le_refl _) _
  have bx9 : Hid (Below x8.heap.size x8 x9) := bx9
  clear hx9
  go_wp2_with fail
  rw [HWx9.out]
  have NEahK : Hid (ga ≠ x8.heap.size) := Nat.ne_of_lt (Nat.lt_of_lt_of_le Rx8a.out.lt (Nat.le_refl _))
  have NEbhK : Hid (gb ≠ x8.heap.size) := Nat.ne_of_lt (Nat.lt_of_lt_of_le Rx8b.out.lt (Nat.le_refl _))
  have NExhK : Hid (gx ≠ x8.heap.size) := Nat.ne_of_lt (Nat.lt_of_lt_of_le Rx8x.out.lt (Nat.le_refl _))
  have NEhHhK : Hid (ghh ≠ x8.heap.size) := Nat.ne_of_lt (Nat.lt_of_lt_of_le Nx8H.out.lt (Nat.le_refl _))
  have NEhBhK : Hid (gbh ≠ x8.heap.size) := Nat.ne_of_lt (Nat.lt_of_lt_of_le Nx8B.out.lt (Nat.le_refl _))
  have GEhK : Hid (w.heap.size ≤ x8.heap.size) := Nat.le_trans Bx8.out.size (Nat.le_refl _)
  have bx9 := bx9.out
  have Rx9a : Hid (Row x9 ga ca la) := Rx8a.out.later bx9
  clear Rx8a
  have Rx9b : Hid (Row x9 gb cb lb) := Rx8b.out.later bx9
  clear Rx8b
  have Rx9x : Hid (Row x9 gx cx (la ++ lb)) := Rx8x.out.later bx9
  clear Rx8x
  have Rx9hH : Hid (IRow x9 ghh chh (hw la)) := Nx8H.out.later bx9
  clear Nx8H
  have Rx9hB : Hid (Row x9 gbh cbh (hd la)) := Nx8B.out.later bx9
  clear Nx8B
  have Bx9 : Hid (Below w.heap.size w x9) := Bx8.out.trans (bx9.mono Bx8.out.size)
  clear Bx8
  clear bx9
  refine (addTo _ 8 chh _ mbh cbh la lb (na : Int) (L : Int) _ nb cb _ (HT.out.later Bx9.out) (by rw [← HLa.out]) (by rw [← HX.out]) (hw_length la).symm Ebh.out Rx9hH.out.rd Rx9hB.out.rd (by intro e; cases e) HYa.out HLb.out Rx9b.out.rd (by intro e; cases e) HYb.out (by omega) (by rw [← HX.out]; omega)).mono ?_
  rintro e x10 ⟨ghk, mhk, chk, gbk, mbk, cbk, rfl, ehx10, ebx10, px10, qx10, nex10, rhx10, rbx10, bx10⟩
  obtain rfl : mhk = 8 := by rw [ehx10, hw_length]
  have Ebk : Hid (mbk = (hd (la ++ lb)).length) := ebx10
  have lbk : mbk ≤ 63 := by rw [ebx10, hd_length]; omega
  clear ehx10 ebx10
  have Nx10H : Hid (IRow x10 ghk chk (hw (la ++ lb))) := rhx10
  have Nx10B : Hid (Row x10 gbk cbk (hd (la ++ lb))) := rbx10
  have NEkHkB : Hid (ghk ≠ gbk) := nex10
  have NEakH : Hid (ga ≠ ghk) := Nat.ne_of_lt (Nat.lt_of_lt_of_le Rx9a.out.lt px10)
  have NEbkH : Hid (gb ≠ ghk) := Nat.ne_of_lt (Nat.lt_of_lt_of_le Rx9b.out.lt px10)
  have NExkH : Hid (gx ≠ ghk) := Nat.ne_of_lt (Nat.lt_of_lt_of_le Rx9x.out.lt px10)
  have NEhHkH : Hid (ghh ≠ ghk) := Nat.ne_of_lt (Nat.lt_of_lt_of_le Rx9hH.out.lt px10)
  have NEhBkH : Hid (gbh ≠ ghk) := Nat.ne_of_lt (Nat.lt_of_lt_of_le Rx9hB.out.lt px10)
  have NEhKkH : Hid (x8.heap.size ≠ ghk) := Nat.ne_of_lt (Nat.lt_of_lt_of_le Nx9.out.lt px10)
  have GEkH : Hid (w.heap.size ≤ ghk) := Nat.le_trans Bx9.out.size px10
  have NEakB : Hid (ga ≠ gbk) := Nat.ne_of_lt (Nat.lt_of_lt_of_le Rx9a.out.lt qx10)
  have NEbkB : Hid (gb ≠ gbk) := Nat.ne_of_lt (Nat.lt_of_lt_of_le Rx9b.out.lt qx10)
  have NExkB : Hid (gx ≠ gbk) := Nat.ne_of_lt (Nat.lt_of_lt_of_le Rx9x.out.lt qx10)
  have NEhHkB : Hid (ghh ≠ gbk) := Nat.ne_of_lt (Nat.lt_of_lt_of_le Rx9hH.out.lt qx10)
  have NEhBkB : Hid (gbh ≠ gbk) := Nat.ne_of_lt (Nat.lt_of_lt_of_le Rx9hB.out.lt qx10)
  have NEhKkB : Hid (x8.heap.size ≠ gbk) := Nat.ne_of_lt (Nat.lt_of_lt_of_le Nx9.out.lt qx10)
  have GEkB : Hid (w.heap.size ≤ gbk) := Nat.le_trans Bx9.out.size qx10
  clear rhx10 rbx10 px10 qx10 nex10
  have Rx10a : Hid (Row x10 ga ca la) := Rx9a.out.later bx10
  clear Rx9a
  have Rx10b : Hid (Row x10 gb cb lb) := Rx9b.out.later bx10
  clear Rx9b
  have Rx10x : Hid (Row x10 gx cx (la ++ lb)) := Rx9x.out.later bx10
  clear Rx9x
  have Rx10hH : Hid (IRow x10 ghh chh (hw la)) := Rx9hH.out.later bx10
  clear Rx9hH
  have Rx10hB : Hid (Row x10 gbh cbh (hd la)) := Rx9hB.out.later bx10
  clear Rx9hB
  have Rx10hK : Hid (Blk x10 x8.heap.size 27 [.slice (some ⟨ghh, 0, none⟩) 8 chh, .slice (some ⟨gbh, 0, none⟩) mbh cbh, .int .i64 (na : Int)]) := Nx9.out.later bx10
  clear Nx9
  have Bx10 : Hid (Below w.heap.size w x10) := Bx9.out.trans (bx10.mono Bx9.out.size)
  clear Bx9
  clear bx10
  unfold hashV
  have bxhK0 := Rx10hK.out.cell 0 rfl
  have bxhK1 := Rx10hK.out.cell 1 rfl
  have bxhK2 := Rx10hK.out.cell 2 rfl
  have axhK0 := (Rx10hK.out.alloc (.cells #[.slice (some ⟨ghk, 0, none⟩) 8 chk, .slice (some ⟨gbk, 0, none⟩) mbk cbk, .int .i64 (L : Int)] 27)).cell 0 rfl
  have axhK1 := (Rx10hK.out.alloc (.cells #[.slice (some ⟨ghk, 0, none⟩) 8 chk, .slice (some ⟨gbk, 0, none⟩) mbk cbk, .int .i64 (L : Int)] 27)).cell 1 rfl
  have axhK2 := (Rx10hK.out.alloc (.cells #[.slice (some ⟨ghk, 0, none⟩) 8 chk, .slice (some ⟨gbk, 0, none⟩) mbk cbk, .int .i64 (L : Int)] 27)).cell 2 rfl
  obtain ⟨x11, hx11⟩ : ∃ x11, x10.alloc (.cells #[.slice (some ⟨ghk, 0, none⟩) 8 chk, .slice (some ⟨gbk, 0, none⟩) mbk cbk, .int .i64 (L : Int)] 27) = x11 := ⟨_, rfl⟩
  have HWx11 : Hid (x10.alloc (.cells #[.slice (some ⟨ghk, 0, none⟩) 8 chk, .slice (some ⟨gbk, 0, none⟩) mbk cbk, .int .i64 (L : Int)] 27) = x11) := hx11
  have Nx11 : Hid (Blk x11 x10.heap.size 27 [.slice (some ⟨ghk, 0, none⟩) 8 chk, .slice (some ⟨gbk, 0, none⟩) mbk cbk, .int .i64 (L : Int)]) := by rw [← hx11]; exact Blk.new x10 27 [.slice (some ⟨ghk, 0, none⟩) 8 chk, .slice (some ⟨gbk, 0, none⟩) mbk cbk, .int .i64 (L : Int)]
  have bx11 : Below x10.heap.size x10 x11 := by rw [← hx11]; exact (Below.refl _ _).alloc (Nat.le_refl _) _
  have bx11 : Hid (Below x10.heap.size x10 x11) := bx11
  clear hx11
  go_wp2_with fail
  rw [HWx11.out]
  clear bxhK0 bxhK1 bxhK2 axhK0 axhK1 axhK2
  have NEakK : Hid (ga ≠ x10.heap.size) := Nat.ne_of_lt (Nat.lt_of_lt_of_le Rx10a.out.lt (Nat.le_refl _))
  have NEbkK : Hid (gb ≠ x10.heap.size) := Nat.ne_of_lt (Nat.lt_of_lt_of_le Rx10b.out.lt (Nat.le_refl _))
  have NExkK : Hid (gx ≠ x10.heap.size) := Nat.ne_of_lt (Nat.lt_of_lt_of_le Rx10x.out.lt (Nat.le_refl _))
  have NEhHkK : Hid (ghh ≠ x10.heap.size) := Nat.ne_of_lt (Nat.lt_of_lt_of_le Rx10hH.out.lt (Nat.le_refl _))
  have NEhBkK : Hid (gbh ≠ x10.heap.size) := Nat.ne_of_lt (Nat.lt_of_lt_of_le Rx10hB.out.lt (Nat.le_refl _))
  have NEhKkK : Hid (x8.heap.size ≠ x10.heap.size) := Nat.ne_of_lt (Nat.lt_of_lt_of_le Rx10hK.out.lt (Nat.le_refl _))
  have NEkHkK : Hid (ghk ≠ x10.heap.size) := Nat.ne_of_lt (Nat.lt_of_lt_of_le Nx10H.out.lt (Nat.le_refl _))
  have NEkBkK : Hid (gbk ≠ x10.heap.size) := Nat.ne_of_lt (Nat.lt_of_lt_of_le Nx10B.out.lt (Nat.le_refl _))
  have GEkK : Hid (w.heap.size ≤ x10.heap.size) := Nat.le_trans Bx10.out.size (Nat.le_refl _)
  have bx11 := bx11.out
  have Rx11a : Hid (Row x11 ga ca la) := Rx10a.out.later bx11
  clear Rx10a
  have Rx11b : Hid (Row x11 gb cb lb) := Rx10b.out.later bx11
  clear Rx10b
  have Rx11x : Hid (Row x11 gx cx (la ++ lb)) := Rx10x.out.later bx11
  clear Rx10x
  have Rx11hH : Hid (IRow x11 ghh chh (hw la)) := Rx10hH.out.later bx11
  clear Rx10hH
  have Rx11hB : Hid (Row x11 gbh cbh (hd la)) := Rx10hB.out.later bx11
  clear Rx10hB
  have Rx11hK : Hid (Blk x11 x8.heap.size 27 [.slice (some ⟨ghh, 0, none⟩) 8 chh, .slice (some ⟨gbh, 0, none⟩) mbh cbh, .int .i64 (na : Int)]) := Rx10hK.out.later bx11
  clear Rx10hK
  have Rx11kH : Hid (IRow x11 ghk chk (hw (la ++ lb))) := Nx10H.out.later bx11
  clear Nx10H
  have Rx11kB : Hid (Row x11 gbk cbk (hd (la ++ lb))) := Nx10B.out.later bx11
  clear Nx10B
  have Bx11 : Hid (Below w.heap.size w x11) := Bx10.out.trans (bx11.mono Bx10.out.size)
  clear Bx10
  clear bx11
  have S32 : Hid ((shaI (la ++ lb)).length = 32) := shaI_len _ (by rw [← HX.out]; omega)
  refine (implSha _ L cx (la ++ lb) _ (HT.out.later Bx11.out) HX.out Rx11x.out.rd (by intro e; cases e) HXB.out (by omega)).mono ?_
  rintro e x12 ⟨gs, ms, cs, rfl, ex12, hx12, rx12, bx12⟩
  have Es : Hid (ms = (shaI (la ++ lb)).length) := ex12
  obtain rfl : ms = 32 := by rw [Es.out]; exact S32.out
  have Nx12 : Hid (Row x12 gs cs (shaI (la ++ lb))) := rx12
  clear ex12 rx12 hx12
  have Rx12a : Hid (Row x12 ga ca la) := Rx11a.out.later bx12
  clear Rx11a
  have Rx12b : Hid (Row x12 gb cb lb) := Rx11b.out.later bx12
  clear Rx11b
  have Rx12x : Hid (Row x12 gx cx (la ++ lb)) := Rx11x.out.later bx12
  clear Rx11x
  have Rx12hH : Hid (IRow x12 ghh chh (hw la)) := Rx11hH.out.later bx12
  clear Rx11hH
  have Rx12hB : Hid (Row x12 gbh cbh (hd la)) := Rx11hB.out.later bx12
  clear Rx11hB
  have Rx12hK : Hid (Blk x12 x8.heap.size 27 [.slice (some ⟨ghh, 0, none⟩) 8 chh, .slice (some ⟨gbh, 0, none⟩) mbh cbh, .int .i64 (na : Int)]) := Rx11hK.out.later bx12
  clear Rx11hK
  have Rx12kH : Hid (IRow x12 ghk chk (hw (la ++ lb))) := Rx11kH.out.later bx12
  clear Rx11kH
  have Rx12kB : Hid (Row x12 gbk cbk (hd (la ++ lb))) := Rx11kB.out.later bx12
  clear Rx11kB
  have Rx12kK : Hid (Blk x12 x10.heap.size 27 [.slice (some ⟨ghk, 0, none⟩) 8 chk, .slice (some ⟨gbk, 0, none⟩) mbk cbk, .int .i64 (L : Int)]) := Nx11.out.later bx12
  clear Nx11
  have Bx12 : Hid (Below w.heap.size w x12) := Bx11.out.trans (bx12.mono Bx11.out.size)
  clear Bx11
  clear bx12
  have bxhK0 := Rx12hK.out.cell 0 rfl
  have bxhK1 := Rx12hK.out.cell 1 rfl
  have bxhK2 := Rx12hK.out.cell 2 rfl
  have bxkK0 := Rx12kK.out.cell 0 rfl
  have bxkK1 := Rx12kK.out.cell 1 rfl
  have bxkK2 := Rx12kK.out.cell 2 rfl
  go_wp2_with fail
  clear bxhK0 bxhK1 bxhK2 bxkK0 bxkK1 bxkK2
  refine (specSha _ L cx (la ++ lb) _ HX.out Rx12x.out.rd (by intro e; cases e) HXB.out (by omega)).mono ?_
  rintro e x13 ⟨gp, mp, cp, rfl, ex13, hx13, rx13, bx13⟩
  have Ep : Hid (mp = (shaI (la ++ lb)).length) := ex13
  obtain rfl : mp = 32 := by rw [Ep.out]; exact S32.out
  have Nx13 : Hid (Row x13 gp cp (shaI (la ++ lb))) := rx13
  clear ex13 rx13 hx13
  have Rx13a : Hid (Row x13 ga ca la) := Rx12a.out.later bx13
  clear Rx12a
  have Rx13b : Hid (Row x13 gb cb lb) := Rx12b.out.later bx13
  clear Rx12b
  have Rx13x : Hid (Row x13 gx cx (la ++ lb)) := Rx12x.out.later bx13
  clear Rx12x
  have Rx13hH : Hid (IRow x13 ghh chh (hw la)) := Rx12hH.out.later bx13
  clear Rx12hH
  have Rx13hB : Hid (Row x13 gbh cbh (hd la)) := Rx12hB.out.later bx13
  clear Rx12hB
  have Rx13hK : Hid (Blk x13 x8.heap.size 27 [.slice (some ⟨ghh, 0, none⟩) 8 chh, .slice (some ⟨gbh, 0, none⟩) mbh cbh, .int .i64 (na : Int)]) := Rx12hK.out.later bx13
  clear Rx12hK
  have Rx13kH : Hid (IRow x13 ghk chk (hw (la ++ lb))) := Rx12kH.out.later bx13
  clear Rx12kH
  have Rx13kB : Hid (Row x13 gbk cbk (hd (la ++ lb))) := Rx12kB.out.later bx13
  clear Rx12kB
  have Rx13kK : Hid (Blk x13 x10.heap.size 27 [.slice (some ⟨ghk, 0, none⟩) 8 chk, .slice (some ⟨gbk, 0, none⟩) mbk cbk, .int .i64 (L : Int)]) := Rx12kK.out.later bx13
  clear Rx12kK
  have Rx13s : Hid (Row x13 gs cs (shaI (la ++ lb))) := Nx12.out.later bx13
  clear Nx12
  have Bx13 : Hid (Below w.heap.size w x13) := Bx12.out.trans (bx13.mono Bx12.out.size)
  clear Bx12
  clear bx13
  have bxhK0 := Rx13hK.out.cell 0 rfl
  have bxhK1 := Rx13hK.out.cell 1 rfl
  have bxhK2 := Rx13hK.out.cell 2 rfl
  have bxkK0 := Rx13kK.out.cell 0 rfl
  have bxkK1 := Rx13kK.out.cell 1 rfl
  have bxkK2 := Rx13kK.out.cell 2 rfl
  go_wp2_with fail
  clear bxhK0 bxhK1 bxhK2 bxkK0 bxkK1 bxkK2
  refine (same_yes gs cs 32 gp cp 32 ((shaI (la ++ lb))) _ Es.out Ep.out Rx13s.out.rd Nx13.out.rd).mono ?_
  rintro e x14 ⟨rfl, rfl⟩
  clear Nx13
  have OKh : Hid (okH (hw la) mbh (na : Int) = true) := by show _ = _; rw [Ebh.out, HLa.out]; exact ok la (by rw [← HLa.out]; omega)
  have OKk : Hid (okH (hw (la ++ lb)) mbk (L : Int) = true) := by show _ = _; rw [Ebk.out, HX.out]; exact ok (la ++ lb) (by rw [← HX.out]; omega)
  have bxhK0 := Rx13hK.out.cell 0 rfl
  have bxhK1 := Rx13hK.out.cell 1 rfl
  have bxhK2 := Rx13hK.out.cell 2 rfl
  have bxkK0 := Rx13kK.out.cell 0 rfl
  have bxkK1 := Rx13kK.out.cell 1 rfl
  have bxkK2 := Rx13kK.out.cell 2 rfl
  go_wp2_with fail
  clear bxhK0 bxhK1 bxhK2 bxkK0 bxkK1 bxkK2
  refine (implHashOk _ 8 chh _ mbh cbh (na : Int) (hw la) _ (hw_length la).symm Rx13hH.out.rd (by omega) (by omega)).mono ?_
  rw [OKh.out]
  rintro e x15 ⟨rfl, bx15⟩
  have Rx15a : Hid (Row x15 ga ca la) := Rx13a.out.later bx15
  clear Rx13a
  have Rx15b : Hid (Row x15 gb cb lb) := Rx13b.out.later bx15
  clear Rx13b
  have Rx15x : Hid (Row x15 gx cx (la ++ lb)) := Rx13x.out.later bx15
  clear Rx13x
  have Rx15hH : Hid (IRow x15 ghh chh (hw la)) := Rx13hH.out.later bx15
  clear Rx13hH
  have Rx15hB : Hid (Row x15 gbh cbh (hd la)) := Rx13hB.out.later bx15
  clear Rx13hB
  have Rx15hK : Hid (Blk x15 x8.heap.size 27 [.slice (some ⟨ghh, 0, none⟩) 8 chh, .slice (some ⟨gbh, 0, none⟩) mbh cbh, .int .i64 (na : Int)]) := Rx13hK.out.later bx15
  clear Rx13hK
  have Rx15kH : Hid (IRow x15 ghk chk (hw (la ++ lb))) := Rx13kH.out.later bx15
  clear Rx13kH
  have Rx15kB : Hid (Row x15 gbk cbk (hd (la ++ lb))) := Rx13kB.out.later bx15
  clear Rx13kB
  have Rx15kK : Hid (Blk x15 x10.heap.size 27 [.slice (some ⟨ghk, 0, none⟩) 8 chk, .slice (some ⟨gbk, 0, none⟩) mbk cbk, .int .i64 (L : Int)]) := Rx13kK.out.later bx15
  clear Rx13kK
  have Rx15s : Hid (Row x15 gs cs (shaI (la ++ lb))) := Rx13s.out.later bx15
  clear Rx13s
  have Bx15 : Hid (Below w.heap.size w x15) := Bx13.out.trans (bx15.mono Bx13.out.size)
  clear Bx13
  clear bx15
  have bxhK0 := Rx15hK.out.cell 0 rfl
  have bxhK1 := Rx15hK.out.cell 1 rfl
  have bxhK2 := Rx15hK.out.cell 2 rfl
  have bxkK0 := Rx15kK.out.cell 0 rfl
  have bxkK1 := Rx15kK.out.cell 1 rfl
  have bxkK2 := Rx15kK.out.cell 2 rfl
  go_wp2_with fail
  clear bxhK0 bxhK1 bxhK2 bxkK0 bxkK1 bxkK2
  refine (implHashOk _ 8 chk _ mbk cbk (L : Int) (hw (la ++ lb)) _ (hw_length (la ++ lb)).symm Rx15kH.out.rd (by omega) (by omega)).mono ?_
  rw [OKk.out]
  rintro e x16 ⟨rfl, bx16⟩
  have Rx16a : Hid (Row x16 ga ca la) := Rx15a.out.later bx16
  clear Rx15a
  have Rx16b : Hid (Row x16 gb cb lb) := Rx15b.out.later bx16
  clear Rx15b
  have Rx16x : Hid (Row x16 gx cx (la ++ lb)) := Rx15x.out.later bx16
  clear Rx15x
  have Rx16hH : Hid (IRow x16 ghh chh (hw la)) := Rx15hH.out.later bx16
  clear Rx15hH
  have Rx16hB : Hid (Row x16 gbh cbh (hd la)) := Rx15hB.out.later bx16
  clear Rx15hB
  have Rx16hK : Hid (Blk x16 x8.heap.size 27 [.slice (some ⟨ghh, 0, none⟩) 8 chh, .slice (some ⟨gbh, 0, none⟩) mbh cbh, .int .i64 (na : Int)]) := Rx15hK.out.later bx16
  clear Rx15hK
  have Rx16kH : Hid (IRow x16 ghk chk (hw (la ++ lb))) := Rx15kH.out.later bx16
  clear Rx15kH
  have Rx16kB : Hid (Row x16 gbk cbk (hd (la ++ lb))) := Rx15kB.out.later bx16
  clear Rx15kB
  have Rx16kK : Hid (Blk x16 x10.heap.size 27 [.slice (some ⟨ghk, 0, none⟩) 8 chk, .slice (some ⟨gbk, 0, none⟩) mbk cbk, .int .i64 (L : Int)]) := Rx15kK.out.later bx16
  clear Rx15kK
  have Rx16s : Hid (Row x16 gs cs (shaI (la ++ lb))) := Rx15s.out.later bx16
  clear Rx15s
  have Bx16 : Hid (Below w.heap.size w x16) := Bx15.out.trans (bx16.mono Bx15.out.size)
  clear Bx15
  clear bx16
  have ENk : Hid (endI (hw (la ++ lb)) (hd (la ++ lb)) (L : Int) = shaI (la ++ lb)) := by show _ = _; rw [HX.out]; exact endI_of _ (by rw [← HX.out]; omega)
  have ENh : Hid (endI (hw la) (hd la) (na : Int) = shaI la) := by show _ = _; rw [HLa.out]; exact endI_of _ (by rw [← HLa.out]; omega)
  have A32 : Hid ((shaI la).length = 32) := shaI_len _ (by rw [← HLa.out]; omega)
  have bxhK0 := Rx16hK.out.cell 0 rfl
  have bxhK1 := Rx16hK.out.cell 1 rfl
  have bxhK2 := Rx16hK.out.cell 2 rfl
  have bxkK0 := Rx16kK.out.cell 0 rfl
  have bxkK1 := Rx16kK.out.cell 1 rfl
  have bxkK2 := Rx16kK.out.cell 2 rfl
  go_wp2_with fail
  clear bxhK0 bxhK1 bxhK2 bxkK0 bxkK1 bxkK2
  refine (implHashEnd _ 8 chk _ mbk cbk (L : Int) (hw (la ++ lb)) (hd (la ++ lb)) _ (HT.out.later Bx16.out) (hw_length (la ++ lb)).symm Ebk.out Rx16kH.out.rd Rx16kB.out.rd (by intro e; cases e) (hd_bytes HXB.out) (by omega) (by omega)).mono ?_
  rw [ENk.out]
  rintro e x17 ⟨gy, my, cy, rfl, ex17, hx17, rx17, bx17⟩
  have Ey : Hid (my = (shaI (la ++ lb)).length) := ex17
  have Nx17 : Hid (Row x17 gy cy (shaI (la ++ lb))) := rx17
  clear ex17 rx17 hx17
  have Rx17a : Hid (Row x17 ga ca la) := Rx16a.out.later bx17
  clear Rx16a
  have Rx17b : Hid (Row x17 gb cb lb) := Rx16b.out.later bx17
  clear Rx16b
  have Rx17x : Hid (Row x17 gx cx (la ++ lb)) := Rx16x.out.later bx17
  clear Rx16x
  have Rx17hH : Hid (IRow x17 ghh chh (hw la)) := Rx16hH.out.later bx17
  clear Rx16hH
  have Rx17hB : Hid (Row x17 gbh cbh (hd la)) := Rx16hB.out.later bx17
  clear Rx16hB
  have Rx17hK : Hid (Blk x17 x8.heap.size 27 [.slice (some ⟨ghh, 0, none⟩) 8 chh, .slice (some ⟨gbh, 0, none⟩) mbh cbh, .int .i64 (na : Int)]) := Rx16hK.out.later bx17
  clear Rx16hK
  have Rx17kH : Hid (IRow x17 ghk chk (hw (la ++ lb))) := Rx16kH.out.later bx17
  clear Rx16kH
  have Rx17kB : Hid (Row x17 gbk cbk (hd (la ++ lb))) := Rx16kB.out.later bx17
  clear Rx16kB
  have Rx17kK : Hid (Blk x17 x10.heap.size 27 [.slice (some ⟨ghk, 0, none⟩) 8 chk, .slice (some ⟨gbk, 0, none⟩) mbk cbk, .int .i64 (L : Int)]) := Rx16kK.out.later bx17
  clear Rx16kK
  have Rx17s : Hid (Row x17 gs cs (shaI (la ++ lb))) := Rx16s.out.later bx17
  clear Rx16s
  have Bx17 : Hid (Below w.heap.size w x17) := Bx16.out.trans (bx17.mono Bx16.out.size)
  clear Bx16
  clear bx17
  have bxhK0 := Rx17hK.out.cell 0 rfl
  have bxhK1 := Rx17hK.out.cell 1 rfl
  have bxhK2 := Rx17hK.out.cell 2 rfl
  have bxkK0 := Rx17kK.out.cell 0 rfl
  have bxkK1 := Rx17kK.out.cell 1 rfl
  have bxkK2 := Rx17kK.out.cell 2 rfl
  go_wp2_with fail
  clear bxhK0 bxhK1 bxhK2 bxkK0 bxkK1 bxkK2
  refine (same_yes gy cy my gs cs 32 ((shaI (la ++ lb))) _ Ey.out Es.out Nx17.out.rd Rx17s.out.rd).mono ?_
  rintro e x18 ⟨rfl, rfl⟩
  have bxhK0 := Rx17hK.out.cell 0 rfl
  have bxhK1 := Rx17hK.out.cell 1 rfl
  have bxhK2 := Rx17hK.out.cell 2 rfl
  have bxkK0 := Rx17kK.out.cell 0 rfl
  have bxkK1 := Rx17kK.out.cell 1 rfl
  have bxkK2 := Rx17kK.out.cell 2 rfl
  go_wp2_with fail
  clear bxhK0 bxhK1 bxhK2 bxkK0 bxkK1 bxkK2
  refine (implHashEnd _ 8 chh _ mbh cbh (na : Int) (hw la) (hd la) _ (HT.out.later Bx17.out) (hw_length la).symm Ebh.out Rx17hH.out.rd Rx17hB.out.rd (by intro e; cases e) (hd_bytes HYa.out) (by omega) (by omega)).mono ?_
  rw [ENh.out]
  rintro e x19 ⟨gz, mz, cz, rfl, ex19, hx19, rx19, bx19⟩
  have Ez : Hid (mz = (shaI la).length) := ex19
  have Nx19 : Hid (Row x19 gz cz (shaI la)) := rx19
  clear ex19 rx19 hx19
  have Rx19a : Hid (Row x19 ga ca la) := Rx17a.out.later bx19
  clear Rx17a
  have Rx19b : Hid (Row x19 gb cb lb) := Rx17b.out.later bx19
  clear Rx17b
  have Rx19x : Hid (Row x19 gx cx (la ++ lb)) := Rx17x.out.later bx19
  clear Rx17x
  have Rx19hH : Hid (IRow x19 ghh chh (hw la)) := Rx17hH.out.later bx19
  clear Rx17hH
  have Rx19hB : Hid (Row x19 gbh cbh (hd la)) := Rx17hB.out.later bx19
  clear Rx17hB
  have Rx19hK : Hid (Blk x19 x8.heap.size 27 [.slice (some ⟨ghh, 0, none⟩) 8 chh, .slice (some ⟨gbh, 0, none⟩) mbh cbh, .int .i64 (na : Int)]) := Rx17hK.out.later bx19
  clear Rx17hK
  have Rx19kH : Hid (IRow x19 ghk chk (hw (la ++ lb))) := Rx17kH.out.later bx19
  clear Rx17kH
  have Rx19kB : Hid (Row x19 gbk cbk (hd (la ++ lb))) := Rx17kB.out.later bx19
  clear Rx17kB
  have Rx19kK : Hid (Blk x19 x10.heap.size 27 [.slice (some ⟨ghk, 0, none⟩) 8 chk, .slice (some ⟨gbk, 0, none⟩) mbk cbk, .int .i64 (L : Int)]) := Rx17kK.out.later bx19
  clear Rx17kK
  have Rx19s : Hid (Row x19 gs cs (shaI (la ++ lb))) := Rx17s.out.later bx19
  clear Rx17s
  have Rx19y : Hid (Row x19 gy cy (shaI (la ++ lb))) := Nx17.out.later bx19
  clear Nx17
  have Bx19 : Hid (Below w.heap.size w x19) := Bx17.out.trans (bx19.mono Bx17.out.size)
  clear Bx17
  clear bx19
  have bxhK0 := Rx19hK.out.cell 0 rfl
  have bxhK1 := Rx19hK.out.cell 1 rfl
  have bxhK2 := Rx19hK.out.cell 2 rfl
  have bxkK0 := Rx19kK.out.cell 0 rfl
  have bxkK1 := Rx19kK.out.cell 1 rfl
  have bxkK2 := Rx19kK.out.cell 2 rfl
  go_wp2_with fail
  clear bxhK0 bxhK1 bxhK2 bxkK0 bxkK1 bxkK2
  refine (implSha _ na ca la _ (HT.out.later Bx19.out) HLa.out Rx19a.out.rd (by intro e; cases e) HYa.out (by omega)).mono ?_
  rintro e x20 ⟨gt, mt, ct, rfl, ex20, hx20, rx20, bx20⟩
  have Et : Hid (mt = (shaI la).length) := ex20
  have Nx20 : Hid (Row x20 gt ct (shaI la)) := rx20
  clear ex20 rx20 hx20
  have Rx20a : Hid (Row x20 ga ca la) := Rx19a.out.later bx20
  clear Rx19a
  have Rx20b : Hid (Row x20 gb cb lb) := Rx19b.out.later bx20
  clear Rx19b
  have Rx20x : Hid (Row x20 gx cx (la ++ lb)) := Rx19x.out.later bx20
  clear Rx19x
  have Rx20hH : Hid (IRow x20 ghh chh (hw la)) := Rx19hH.out.later bx20
  clear Rx19hH
  have Rx20hB : Hid (Row x20 gbh cbh (hd la)) := Rx19hB.out.later bx20
  clear Rx19hB
  have Rx20hK : Hid (Blk x20 x8.heap.size 27 [.slice (some ⟨ghh, 0, none⟩) 8 chh, .slice (some ⟨gbh, 0, none⟩) mbh cbh, .int .i64 (na : Int)]) := Rx19hK.out.later bx20
  clear Rx19hK
  have Rx20kH : Hid (IRow x20 ghk chk (hw (la ++ lb))) := Rx19kH.out.later bx20
  clear Rx19kH
  have Rx20kB : Hid (Row x20 gbk cbk (hd (la ++ lb))) := Rx19kB.out.later bx20
  clear Rx19kB
  have Rx20kK : Hid (Blk x20 x10.heap.size 27 [.slice (some ⟨ghk, 0, none⟩) 8 chk, .slice (some ⟨gbk, 0, none⟩) mbk cbk, .int .i64 (L : Int)]) := Rx19kK.out.later bx20
  clear Rx19kK
  have Rx20s : Hid (Row x20 gs cs (shaI (la ++ lb))) := Rx19s.out.later bx20
  clear Rx19s
  have Rx20y : Hid (Row x20 gy cy (shaI (la ++ lb))) := Rx19y.out.later bx20
  clear Rx19y
  have Rx20z : Hid (Row x20 gz cz (shaI la)) := Nx19.out.later bx20
  clear Nx19
  have Bx20 : Hid (Below w.heap.size w x20) := Bx19.out.trans (bx20.mono Bx19.out.size)
  clear Bx19
  clear bx20
  have bxhK0 := Rx20hK.out.cell 0 rfl
  have bxhK1 := Rx20hK.out.cell 1 rfl
  have bxhK2 := Rx20hK.out.cell 2 rfl
  have bxkK0 := Rx20kK.out.cell 0 rfl
  have bxkK1 := Rx20kK.out.cell 1 rfl
  have bxkK2 := Rx20kK.out.cell 2 rfl
  go_wp2_with fail
  clear bxhK0 bxhK1 bxhK2 bxkK0 bxkK1 bxkK2
  refine (same_yes gz cz mz gt ct mt ((shaI la)) _ Ez.out Et.out Rx20z.out.rd Nx20.out.rd).mono ?_
  rintro e x21 ⟨rfl, rfl⟩
  have bxhK0 := Rx20hK.out.cell 0 rfl
  have bxhK1 := Rx20hK.out.cell 1 rfl
  have bxhK2 := Rx20hK.out.cell 2 rfl
  have bxkK0 := Rx20kK.out.cell 0 rfl
  have bxkK1 := Rx20kK.out.cell 1 rfl
  have bxkK2 := Rx20kK.out.cell 2 rfl
  go_wp2
  go_ret
  exact ⟨rfl, Bx20.out⟩

theorem walk (a : Option Addr) (len cap : Nat) (zs : List Int) (w : World) (hT : Tab w) (h : IsRow .u8 w a len cap zs) :
    Calls Tryd.prog 3 #[.slice a len cap] w fun e w' => e = .returned (.bool true) ∧ Below w.heap.size w w' := by
  obtain ⟨l, hl, hr, _, hb⟩ := h.read
  by_cases hlen : len ≤ 1048576
  · exact small a len cap l w hT hl hr hb hlen
  · clear hl hr hb h
    go_enter Tryd.func3, Tryd.ntmps3
    go_wp2_with fail
    refine (bigYes a len cap w (by omega)).mono ?_
    rintro e w1 ⟨rfl, rfl⟩
    go_wp2
    go_ret
    exact ⟨rfl, Below.refl _ _⟩
end Go.Proofs.YtfoilfbpbjfkcaaDoor.LawSums
