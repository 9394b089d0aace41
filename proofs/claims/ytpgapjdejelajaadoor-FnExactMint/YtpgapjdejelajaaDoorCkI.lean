/-
  What impl's JarOk, Fresh and MintBody answer.
-/
import Derived.Test.YtpgapjdejelajaaDoorCkP
import Derived.Test.YtpgapjdejelajaaDoorCkL
import Derived.Test.YtpgapjdejelajaaDoorShp
import Derived.Test.YtpgapjdejelajaaDoorAddrI
import Derived.Test.YtpgapjdejelajaaDoorFrQ
import Derived.Test.YtpgapjdejelajaaDoorFrW2
import Derived.Test.YtpgapjdejelajaaDoorOps
namespace Go.Proofs.YtpgapjdejelajaaDoor.CkI
open Go.RowKit Go.Proofs.YtpgapjdejelajaaDoor.Mem Go.Proofs.YtpgapjdejelajaaDoor.App Go.Proofs.YtpgapjdejelajaaDoor.Blk Go.Proofs.YtpgapjdejelajaaDoor.Words Go.Proofs.YtpgapjdejelajaaDoor.Zone Go.Proofs.YtpgapjdejelajaaDoor.Res Go.Proofs.YtpgapjdejelajaaDoor.AddrP Go.Proofs.YtpgapjdejelajaaDoor.AddrS Go.Proofs.YtpgapjdejelajaaDoor.JaZ Go.Proofs.YtpgapjdejelajaaDoor.JaL Go.Proofs.YtpgapjdejelajaaDoor.CkP Go.Proofs.YtpgapjdejelajaaDoor.Shp Go.Proofs.YtpgapjdejelajaaDoor.CkL Go.Proofs.YtpgapjdejelajaaDoor.FrZ Go.Proofs.YtpgapjdejelajaaDoor.FrW2 Go.Proofs.YtpgapjdejelajaaDoor.Each Go.Proofs.YtpgapjdejelajaaDoor.Copy Go.Proofs.YtpgapjdejelajaaDoor.Ops

set_option maxRecDepth 100000 in
theorem nil_ansL {w x : World} (b : Below w.heap.size w x) : AnsL [] w (.returned (.slice (some ⟨x.heap.size, 0, none⟩) 0 0)) (x.alloc (.cells #[] 5)) :=
  ⟨⟨some ⟨x.heap.size, 0, none⟩, 0, 0⟩, rfl, LOwn.of (SOwn.row (row_new x [] (by simp)) rfl (fun z hz => by cases hz) b.size (by rw [World.size_alloc]; exact Nat.lt_succ_self _)), b.alloc b.size _⟩
set_option maxRecDepth 100000 in
theorem putN_one (x : Int) (h0 : 0 ≤ x) (h1 : x ≤ 255) : putN x 1 = [x] := by
  show num x 1 = [x]
  show [x / 2 ^ (8 * 0) % 256] = [x]
  congr 1
  simp
  omega
set_option maxRecDepth 100000 in
theorem other_cell (w : World) (g i n : Nat) (v : Value) (h : i ≠ g) : (w.setCell ⟨g, n, none⟩ v).heap[i]? = w.heap[i]? := Below.heap_setCell w ⟨g, n, none⟩ v i h
set_option maxRecDepth 100000 in
theorem nilRd (w : World) : SRd w ⟨none, 0, 0⟩ [] := ⟨rfl, (fun i hi => by cases hi), fun _ => rfl, Nat.le_refl _, (fun z hz => by cases hz)⟩
/-- The frame that lays a cookie's place. -/
def ckD (tick : Int) (cn sn : List Int) : FrD := ⟨2, 0, cn, sn, tick, List.replicate 16 0, [], 0, 0, [], []⟩
def ckS (c s z : Sl) : FrS := ⟨c, s, z, ⟨none, 0, 0⟩, ⟨none, 0, 0⟩, ⟨none, 0, 0⟩⟩
set_option maxRecDepth 100000 in
theorem ck_rd {w : World} {c s z : Sl} {cn sn : List Int} (tick : Int) (hc : SRd w c cn) (hs : SRd w s sn) (hz : SRd w z (List.replicate 16 0)) : FrRd w (ckS c s z) (ckD tick cn sn) :=
  ⟨hc, hs, hz, nilRd w, nilRd w, nilRd w⟩
set_option maxRecDepth 100000 in
theorem ck_short {cn sn : List Int} (tick : Int) (hc : cn.length = 12) (hs : sn.length = 12) : FrShort (ckD tick cn sn) 100 :=
  ⟨by show cn.length ≤ _; omega, by show sn.length ≤ _; omega, by show (List.replicate 16 (0 : Int)).length ≤ 100; simp, by show ([] : List Int).length ≤ 100; simp, by show ([] : List Int).length ≤ 100; simp, by show ([] : List Int).length ≤ 100; simp⟩

set_option maxRecDepth 100000 in
theorem isKey (a : Option Addr) (n c : Nat) (w : World) :
    Calls Tryd.prog 42 #[.slice a n c] w fun e w' => e = .returned (.bool ((n : Int) == 32)) ∧ w = w' := by
  go_enter Tryd.func42, Tryd.ntmps42
  go_wp2
  go_ret
  exact ⟨by simp, rfl⟩

set_option maxRecDepth 100000 in
set_option maxHeartbeats 4000000 in
theorem implJarOk (S : JaS) (D : JaD) (w : World) (h : JaRd w S D) :
    Calls Tryd.prog 27 #[jaV D S] w fun e w' => e = .returned (.bool (jarOk D)) ∧ Below w.heap.size w w' := by
  have HN : Hid (((S.secret.n : Int) == 32) = jarOk D) := by show _ = _; rw [h.secret.len]; rfl
  have B0 : Hid (Below w.heap.size w (w.alloc (.cells #[.slice S.secret.a S.secret.n S.secret.c] 24))) := (Below.refl _ _).alloc (Nat.le_refl _) _
  have K0 : Hid (Blk (w.alloc (.cells #[.slice S.secret.a S.secret.n S.secret.c] 24)) w.heap.size 24 [.slice S.secret.a S.secret.n S.secret.c]) := Blk.new w _ _
  have d0 := K0.out.cell 0 rfl
  clear h
  unfold jaV
  go_enter Tryd.func27, Tryd.ntmps27
  go_wp2_with fail
  refine (isKey _ _ _ _).mono ?_
  rintro e y ⟨rfl, rfl⟩
  go_wp2
  go_ret
  exact ⟨by rw [← HN.out]; rfl, B0.out⟩

set_option maxRecDepth 100000 in
theorem cook_stored {w : World} {g : Nat} {u0 u1 u2 u3 : Value} (c s : Sl) (tick : Int) (z : Option Addr) (k : Blk w g 52 [u0, u1, u2, u3]) :
    Blk ((((w.setCell ⟨g, 0, none⟩ (.slice c.a c.n c.c)).setCell ⟨g, 1, none⟩ (.slice s.a s.n s.c)).setCell ⟨g, 2, none⟩ (.int .i64 tick)).setCell ⟨g, 3, none⟩ (.slice z 16 16)) g 52 [.slice c.a c.n c.c, .slice s.a s.n s.c, .int .i64 tick, .slice z 16 16] ∧ (∀ B a, B ≤ g → Below B a w → Below B a ((((w.setCell ⟨g, 0, none⟩ (.slice c.a c.n c.c)).setCell ⟨g, 1, none⟩ (.slice s.a s.n s.c)).setCell ⟨g, 2, none⟩ (.int .i64 tick)).setCell ⟨g, 3, none⟩ (.slice z 16 16))) ∧ ∀ i, i ≠ g → ((((w.setCell ⟨g, 0, none⟩ (.slice c.a c.n c.c)).setCell ⟨g, 1, none⟩ (.slice s.a s.n s.c)).setCell ⟨g, 2, none⟩ (.int .i64 tick)).setCell ⟨g, 3, none⟩ (.slice z 16 16)).heap[i]? = w.heap[i]? := by
  refine ⟨(((k.set 0 _ (by simp [maxLen])).set 1 _ (by simp [maxLen])).set 2 _ (by simp [maxLen])).set 3 _ (by simp [maxLen]), fun B a hB h => (((h.setCell (by exact hB) _).setCell (by exact hB) _).setCell (by exact hB) _).setCell (by exact hB) _, fun i hi => ?_⟩
  rw [other_cell _ _ _ _ _ hi, other_cell _ _ _ _ _ hi, other_cell _ _ _ _ _ hi, other_cell _ _ _ _ _ hi]

set_option maxRecDepth 100000 in
set_option maxHeartbeats 4000000 in
theorem draft (c s : Sl) (tick : Int) (w : World) :
    Calls Tryd.prog 36 #[.slice c.a c.n c.c, .slice s.a s.n s.c, .int .i64 tick] w fun e w' => ∃ g, e = .returned (.agg #[.slice c.a c.n c.c, .slice s.a s.n s.c, .int .i64 tick, .slice (some ⟨g, 0, none⟩) 16 16]) ∧ w.heap.size ≤ g ∧ Row w' g 16 (List.replicate 16 0) ∧ Below w.heap.size w w' := by
  obtain ⟨i0, hi, hz0, hz1, hz2⟩ := info_parts info8
  go_enter Tryd.func36, Tryd.ntmps36
  obtain ⟨x1, hx1⟩ : ∃ x1, w.alloc (.cells #[.slice none 0 0, .slice none 0 0, .int .i64 0, .slice none 0 0] 52) = x1 := ⟨_, rfl⟩
  have HW1 : Hid (w.alloc (.cells #[.slice none 0 0, .slice none 0 0, .int .i64 0, .slice none 0 0] 52) = x1) := hx1
  have b1 : Below w.heap.size w x1 := by rw [← hx1]; exact (Below.refl _ _).alloc (Nat.le_refl _) _
  have KN : Blk x1 w.heap.size 52 [.slice none 0 0, .slice none 0 0, .int .i64 0, .slice none 0 0] := by rw [← hx1]; exact Blk.new w _ _
  have HSZ1 : Hid (x1.heap.size = w.heap.size + 1) := by rw [← hx1]; show _ = _; simp
  clear hx1
  have L1 : Hid (w.heap.size ≤ x1.heap.size) := b1.size
  have B1 : Hid (Below w.heap.size w x1) := b1
  clear b1
  go_upto_region 1 with fail
  rw [HW1.out]
  obtain ⟨go, hgo⟩ : ∃ g, w.heap.size = g := ⟨_, rfl⟩
  have Ggo : Hid (w.heap.size = go ∧ x1.heap.size = go + 1) := ⟨hgo, by rw [← hgo]; exact HSZ1.out⟩
  rw [hgo] at KN ⊢
  clear HW1 HSZ1 hgo
  have KO1 : Hid (Blk x1 go 52 [.slice none 0 0, .slice none 0 0, .int .i64 0, .slice none 0 0]) := KN
  clear KN
  go_wp2_with (at_make; refine wpList_make_full _ rfl _ _ 22 rfl x1.heap.size 5 i0 (.int .u8 0) 1 Tryd.underlying22 hi hz0 hz1 _ _ _ _ 16 rfl rfl rfl rfl (by rw [hz2]; omega) (by unfold maxLen; omega) (Nat.le_refl _) ?_; intro x2 hown hgr; have b : Below x1.heap.size x1 x2 := (Below.refl _ _).grown hgr (Nat.le_refl _) (fun k h => by cases h); have R0 : Hid (Row x2 x1.heap.size 16 (List.replicate 16 0)) := (Row.of (l := List.replicate 16 (0 : Int)) (base := x1.heap.size) (by simpa [Value.cells, toList_madeCells_one] using hown)).1; clear hown hgr; have L2 : Hid (x1.heap.size ≤ x2.heap.size) := b.size; have B2 : Hid (Below w.heap.size w x2) := B1.out.trans (b.mono B1.out.size); have KO2 : Hid (Blk x2 go 52 [.slice none 0 0, .slice none 0 0, .int .i64 0, .slice none 0 0]) := KO1.out.later b; clear b B1 KO1; have c0 := KO2.out.cell 0 rfl; have c1 := KO2.out.cell 1 rfl; have c2 := KO2.out.cell 2 rfl; have c3 := KO2.out.cell 3 rfl; have f0 := KO2.out.frozen 0; have f1 := KO2.out.frozen 1; have f2 := KO2.out.frozen 2; have f3 := KO2.out.frozen 3)
  obtain ⟨k1, k2, k3⟩ := cook_stored c s tick (some ⟨x1.heap.size, 0, none⟩) KO2.out
  exact bodyPost_ret (v := .agg #[.slice c.a c.n c.c, .slice s.a s.n s.c, .int .i64 tick, .slice (some ⟨x1.heap.size, 0, none⟩) 16 16]) (res1 rfl (is_cell rfl k1 aggCook)) rfl ⟨x1.heap.size, rfl, by have := L1.out; omega, R0.out.keep (k3 _ (by have := Ggo.out; omega)), k2 _ _ (by have := Ggo.out; omega) B2.out⟩

set_option maxRecDepth 100000 in
set_option maxHeartbeats 4000000 in
theorem canMint (h p id : Int) (c s : Sl) (tick : Int) (z : Option Addr) (w : World) :
    Calls Tryd.prog 37 #[addrV h p, .int .i64 id, .agg #[.slice c.a c.n c.c, .slice s.a s.n s.c, .int .i64 tick, .slice z 16 16]] w fun e w' => e = .returned (.bool (mintF h p id c.n s.n tick)) ∧ Below w.heap.size w w' := by
  obtain ⟨R, hR⟩ : ∃ R, mintF h p id c.n s.n tick = R := ⟨_, rfl⟩
  have HRD : Hid (mintF h p id c.n s.n tick = R) := hR
  rw [hR]
  clear hR
  obtain ⟨x1, hx1⟩ : ∃ zz, (w.alloc (.cells #[.int .i64 h, .int .i64 p] 38)).alloc (.cells #[.slice c.a c.n c.c, .slice s.a s.n s.c, .int .i64 tick, .slice z 16 16] 52) = zz := ⟨_, rfl⟩
  have HWA : Hid ((w.alloc (.cells #[.int .i64 h, .int .i64 p] 38)).alloc (.cells #[.slice c.a c.n c.c, .slice s.a s.n s.c, .int .i64 tick, .slice z 16 16] 52) = x1) := hx1
  have b1 : Below w.heap.size w x1 := by rw [← hx1]; exact (((Below.refl _ _).alloc (Nat.le_refl _) _).alloc (by simp) _)
  have KAN : Blk x1 (w.heap.size) 38 [.int .i64 h, .int .i64 p] := by
    have q := (Blk.new (w) 38 [.int .i64 h, .int .i64 p])
    skip
    rw [← hx1]; exact q.alloc _
  have KCN : Blk x1 (w.heap.size + 1) 52 [.slice c.a c.n c.c, .slice s.a s.n s.c, .int .i64 tick, .slice z 16 16] := by
    have q := (Blk.new ((w.alloc (.cells #[.int .i64 h, .int .i64 p] 38))) 52 [.slice c.a c.n c.c, .slice s.a s.n s.c, .int .i64 tick, .slice z 16 16])
    rw [World.size_alloc] at q
    rw [← hx1]; exact q
  have SZA : x1.heap.size = w.heap.size + 2 := by rw [← hx1]; simp
  clear hx1
  have L1 : Hid (w.heap.size ≤ x1.heap.size) := b1.size
  have B1 : Hid (Below w.heap.size w x1) := b1
  clear b1
  unfold addrV
  go_enter Tryd.func37, Tryd.ntmps37
  go_upto_region 1 with fail
  rw [HWA.out]
  obtain ⟨ga, hga⟩ : ∃ g, w.heap.size = g := ⟨_, rfl⟩
  obtain ⟨gc, hgc⟩ : ∃ g, w.heap.size + 1 = g := ⟨_, rfl⟩
  have GA : Hid (w.heap.size = ga ∧ ga + 1 = gc ∧ x1.heap.size = ga + 2) := ⟨hga, by omega, by omega⟩
  rw [hga] at KAN
  rw [hgc] at KCN
  rw [hgc, hga]
  clear HWA SZA hga hgc
  have KA1 : Hid (Blk x1 ga 38 [.int .i64 h, .int .i64 p]) := KAN
  have KC1 : Hid (Blk x1 gc 52 [.slice c.a c.n c.c, .slice s.a s.n s.c, .int .i64 tick, .slice z 16 16]) := KCN
  clear KAN KCN
  have d0 := KA1.out.cell 0 rfl
  have d1 := KA1.out.cell 1 rfl
  have e0 := KC1.out.cell 0 rfl
  have e1 := KC1.out.cell 1 rfl
  have e2 := KC1.out.cell 2 rfl
  have e3 := KC1.out.cell 3 rfl
  go_wp2_with fail
  refine (AddrI.implAddrOk h p x1).mono ?_
  rintro e x2 ⟨rfl, b⟩
  have L2 : Hid (x1.heap.size ≤ x2.heap.size) := b.size
  have B2 : Hid (Below w.heap.size w x2) := B1.out.trans (b.mono B1.out.size)
  have KA2 : Hid (Blk x2 ga 38 [.int .i64 h, .int .i64 p]) := KA1.out.later b
  have KC2 : Hid (Blk x2 gc 52 [.slice c.a c.n c.c, .slice s.a s.n s.c, .int .i64 tick, .slice z 16 16]) := KC1.out.later b
  clear b B1 KA1 KC1
  clear d0 d1
  clear e0 e1 e2 e3
  cases h0 : (addrOk h p) with
  | false =>
    obtain rfl : R = false := by rw [← HRD.out]; unfold mintF; simp [h0]
    go_wp2
    go_ret
    exact ⟨rfl, B2.out⟩
  | true =>
    go_wp2_with fail
    refine (FrW.isId id x2).mono ?_
    rintro e y ⟨rfl, rfl⟩
    cases h1 : (isIn id 1 9) with
    | false =>
      obtain rfl : R = false := by rw [← HRD.out]; unfold mintF; simp [h0, h1]
      go_wp2
      go_ret
      exact ⟨rfl, B2.out⟩
    | true =>
      have e0 := KC2.out.cell 0 rfl
      have e1 := KC2.out.cell 1 rfl
      have e2 := KC2.out.cell 2 rfl
      have e3 := KC2.out.cell 3 rfl
      go_wp2_with fail
      refine (FrW.cookRight c s tick ⟨z, 16, 16⟩ x2).mono ?_
      rintro e x3 ⟨rfl, b⟩
      have L3 : Hid (x2.heap.size ≤ x3.heap.size) := b.size
      have B3 : Hid (Below w.heap.size w x3) := B2.out.trans (b.mono B2.out.size)
      have KA3 : Hid (Blk x3 ga 38 [.int .i64 h, .int .i64 p]) := KA2.out.later b
      have KC3 : Hid (Blk x3 gc 52 [.slice c.a c.n c.c, .slice s.a s.n s.c, .int .i64 tick, .slice z 16 16]) := KC2.out.later b
      clear b B2 KA2 KC2
      clear e0 e1 e2 e3
      obtain rfl : R = (((c.n : Int) == 12) && (((s.n : Int) == 12) && isIn tick 0 1000000)) := by rw [← HRD.out]; unfold mintF; rw [h0, h1]; simp [Bool.and_assoc]
      go_wp2
      go_ret
      exact ⟨rfl, B3.out⟩

set_option maxRecDepth 100000 in
set_option maxHeartbeats 8000000 in
theorem implMintBody (h p id : Int) (c s : Sl) (cn sn : List Int) (tick : Int) (w : World) (hc : SRd w c cn) (hs : SRd w s sn) :
    Calls Tryd.prog 26 #[addrV h p, .int .i64 id, .slice c.a c.n c.c, .slice s.a s.n s.c, .int .i64 tick] w (AnsL (mintL h p id cn sn tick) w) := by
  have HC : Hid (SRd w c cn) := hc
  have HS : Hid (SRd w s sn) := hs
  have HNC : Hid (c.n = cn.length) := hc.len
  have HNS : Hid (s.n = sn.length) := hs.len
  obtain ⟨R, hR⟩ : ∃ R, mintL h p id cn sn tick = R := ⟨_, rfl⟩
  have HRD : Hid (mintL h p id cn sn tick = R) := hR
  rw [hR]
  clear hc hs hR
  unfold addrV
  go_enter Tryd.func26, Tryd.ntmps26
  obtain ⟨x1, hx1⟩ : ∃ x1, w.alloc (.cells #[.int .i64 h, .int .i64 p] 38) = x1 := ⟨_, rfl⟩
  have HW1 : Hid (w.alloc (.cells #[.int .i64 h, .int .i64 p] 38) = x1) := hx1
  have b1 : Below w.heap.size w x1 := by rw [← hx1]; exact (Below.refl _ _).alloc (Nat.le_refl _) _
  have KN : Blk x1 w.heap.size 38 [.int .i64 h, .int .i64 p] := by rw [← hx1]; exact Blk.new w _ _
  have HSZ1 : Hid (x1.heap.size = w.heap.size + 1) := by rw [← hx1]; show _ = _; simp
  clear hx1
  have L1 : Hid (w.heap.size ≤ x1.heap.size) := b1.size
  have B1 : Hid (Below w.heap.size w x1) := b1
  clear b1
  go_upto_region 1 with fail
  rw [HW1.out]
  obtain ⟨ga, hga⟩ : ∃ g, w.heap.size = g := ⟨_, rfl⟩
  have Gga : Hid (w.heap.size = ga ∧ x1.heap.size = ga + 1) := ⟨hga, by rw [← hga]; exact HSZ1.out⟩
  rw [hga] at KN ⊢
  clear HW1 HSZ1 hga
  have KA1 : Hid (Blk x1 ga 38 [.int .i64 h, .int .i64 p]) := KN
  clear KN
  go_wp2_with fail
  refine (draft c s tick x1).mono ?_
  rintro e x2 ⟨gz, rfl, kz, rz, b⟩
  have KZ : Hid (w.heap.size ≤ gz) := by have := L1.out; show _ ≤ _; omega
  have L2 : Hid (x1.heap.size ≤ x2.heap.size) := b.size
  have B2 : Hid (Below w.heap.size w x2) := B1.out.trans (b.mono B1.out.size)
  have KA2 : Hid (Blk x2 ga 38 [.int .i64 h, .int .i64 p]) := KA1.out.later b
  clear b B1 KA1
  have OZ2 : Hid (SOwn x2 x1.heap.size x2.heap.size ⟨some ⟨gz, 0, none⟩, 16, 16⟩ (List.replicate 16 0)) := SOwn.row rz (by simp) (FrB2.rep 16) kz rz.lt
  clear rz kz
  obtain ⟨x3, hx3⟩ : ∃ x3, x2.alloc (.cells #[.slice c.a c.n c.c, .slice s.a s.n s.c, .int .i64 tick, .slice (some ⟨gz, 0, none⟩) 16 16] 52) = x3 := ⟨_, rfl⟩
  have HW3 : Hid (x2.alloc (.cells #[.slice c.a c.n c.c, .slice s.a s.n s.c, .int .i64 tick, .slice (some ⟨gz, 0, none⟩) 16 16] 52) = x3) := hx3
  have b3 : Below x2.heap.size x2 x3 := by rw [← hx3]; exact (Below.refl _ _).alloc (Nat.le_refl _) _
  have KN : Blk x3 x2.heap.size 52 [.slice c.a c.n c.c, .slice s.a s.n s.c, .int .i64 tick, .slice (some ⟨gz, 0, none⟩) 16 16] := by rw [← hx3]; exact Blk.new x2 _ _
  have HSZ3 : Hid (x3.heap.size = x2.heap.size + 1) := by rw [← hx3]; show _ = _; simp
  clear hx3
  have L3 : Hid (x2.heap.size ≤ x3.heap.size) := b3.size
  have B3 : Hid (Below w.heap.size w x3) := B2.out.trans (b3.mono B2.out.size)
  have KA3 : Hid (Blk x3 ga 38 [.int .i64 h, .int .i64 p]) := KA2.out.later b3
  have OZ3 : Hid (SOwn x3 x1.heap.size x2.heap.size ⟨some ⟨gz, 0, none⟩, 16, 16⟩ (List.replicate 16 0)) := OZ2.out.later b3
  clear b3 B2 KA2 OZ2
  go_upto_region 2 with fail
  rw [HW3.out]
  obtain ⟨gc, hgc⟩ : ∃ g, x2.heap.size = g := ⟨_, rfl⟩
  have Ggc : Hid (x2.heap.size = gc ∧ x3.heap.size = gc + 1) := ⟨hgc, by rw [← hgc]; exact HSZ3.out⟩
  rw [hgc] at KN ⊢
  clear HW3 HSZ3 hgc
  have KC3 : Hid (Blk x3 gc 52 [.slice c.a c.n c.c, .slice s.a s.n s.c, .int .i64 tick, .slice (some ⟨gz, 0, none⟩) 16 16]) := KN
  clear KN
  have d0 := KA3.out.cell 0 rfl
  have d1 := KA3.out.cell 1 rfl
  have e0 := KC3.out.cell 0 rfl
  have e1 := KC3.out.cell 1 rfl
  have e2 := KC3.out.cell 2 rfl
  have e3 := KC3.out.cell 3 rfl
  go_wp2_with fail
  refine (canMint h p id c s tick (some ⟨gz, 0, none⟩) x3).mono ?_
  rintro e x4 ⟨rfl, b⟩
  have L4 : Hid (x3.heap.size ≤ x4.heap.size) := b.size
  have B4 : Hid (Below w.heap.size w x4) := B3.out.trans (b.mono B3.out.size)
  have KA4 : Hid (Blk x4 ga 38 [.int .i64 h, .int .i64 p]) := KA3.out.later b
  have OZ4 : Hid (SOwn x4 x1.heap.size x2.heap.size ⟨some ⟨gz, 0, none⟩, 16, 16⟩ (List.replicate 16 0)) := OZ3.out.later b
  have KC4 : Hid (Blk x4 gc 52 [.slice c.a c.n c.c, .slice s.a s.n s.c, .int .i64 tick, .slice (some ⟨gz, 0, none⟩) 16 16]) := KC3.out.later b
  clear b B3 KA3 OZ3 KC3
  clear d0 d1
  clear e0 e1 e2 e3
  have HE : Hid (mintF h p id c.n s.n tick = mintF h p id cn.length sn.length tick) := by show _ = _; rw [HNC.out, HNS.out]
  cases h0 : (mintF h p id c.n s.n tick) with
  | false =>
    obtain rfl : R = [] := by rw [← HRD.out]; exact mintL_no (by rw [← HE.out]; exact h0)
    go_wp2
    go_ret
    exact nil_ansL B4.out
  | true =>
    have HF : Hid (mintF h p id cn.length sn.length tick = true) := by rw [← HE.out]; exact h0
    clear h0
    have HP := mintF_parts HF.out
    have HL : Hid (cn.length = 12 ∧ sn.length = 12) := ⟨HP.2.2.1, HP.2.2.2.1⟩
    have HI : Hid (1 ≤ id ∧ id ≤ 9) := HP.2.1
    have HQ : Hid (putA [99] h p ++ putN id 1 ++ cn ++ sn ++ putN tick 4 = R) := by show _ = _; rw [← HRD.out, mintL_yes HF.out, putN_one id (by have := HI.out; omega) (by have := HI.out; omega)]
    have HLP : Hid ((putA [99] h p).length = 7) := putA_len HP.1 [99]
    have HLR : Hid (R.length = 36) := by show _ = _; rw [← HRD.out]; exact mintL_len HF.out
    have HRB : Hid (Bytes R) := by rw [← HRD.out]; exact mintL_bytes HC.out.bytes HS.out.bytes
    clear HP
    go_upto_region 4 with fail
    go_cut [12] from 24 to 31 (fun sv wx => ∃ g5 m5 c5, sv = .slice (some ⟨g5, 0, none⟩) m5 c5 ∧ m5 = (putA [99] h p ++ putN id 1 ++ (ckD tick cn sn).cn ++ (ckD tick cn sn).sn ++ putN (ckD tick cn sn).tick 4 ++ (ckD tick cn sn).cookie).length ∧ x4.heap.size ≤ g5 ∧ Row wx g5 c5 (putA [99] h p ++ putN id 1 ++ (ckD tick cn sn).cn ++ (ckD tick cn sn).sn ++ putN (ckD tick cn sn).tick 4 ++ (ckD tick cn sn).cookie) ∧ Below x4.heap.size x4 wx)
    case first =>
      rename_i J K' hRJ hMet
      generalize hA : Act.mk _ _ = A
      have a1' : A.eval (.tmp 1) = .int .i64 id := by rw [← hA]; rfl
      have a5' : A.eval (.tmp 5) = .pointer (some ⟨ga, 0, none⟩) := by rw [← hA]; rfl
      have a11' : A.eval (.tmp 11) = .pointer (some ⟨gc, 0, none⟩) := by rw [← hA]; rfl
      have asz : A.tmps.size = 39 := by rw [← hA]; rfl
      have hKA : ∀ wx, Below x4.heap.size x4 wx → Blk wx ga 38 [.int .i64 h, .int .i64 p] := fun wx hb => KA4.out.later hb
      have hKC : ∀ wx, Below x4.heap.size x4 wx → Blk wx gc 52 [.slice c.a c.n c.c, .slice s.a s.n s.c, .int .i64 tick, .slice (some ⟨gz, 0, none⟩) 16 16] := fun wx hb => KC4.out.later hb
      have hWB : ∀ wx, Below x4.heap.size x4 wx → Below w.heap.size w wx := fun wx hb => B4.out.trans (hb.mono B4.out.size)
      have hOZ : ∀ wx, Below x4.heap.size x4 wx → SRd wx ⟨some ⟨gz, 0, none⟩, 16, 16⟩ (List.replicate 16 0) := fun wx hb => (OZ4.out.rd).later hb
      refine region_each (by kernel_rfl) [24, 25, 26, 27, 28, 29, 30, 31] 8 (fun i => [24, 25, 26, 27, 28, 29, 30, 31].getD i 0) (fun _ => 0)
        (fun i gB v wx => match i with
          | 0 => ∃ m, v = .slice (some ⟨gB, 0, none⟩) 1 1 ∧ Row wx gB 1 [99] ∧ m = 1
          | 1 => v = .agg #[.int .i64 h, .int .i64 p]
          | 2 => ∃ m cc, v = .slice (some ⟨gB, 0, none⟩) m cc ∧ Hid (m = (putA [99] h p).length) ∧ x4.heap.size ≤ gB ∧ Row wx gB cc (putA [99] h p)
          | 3 => v = .int .i64 id
          | 4 => ∃ m cc, v = .slice (some ⟨gB, 0, none⟩) m cc ∧ Hid (m = (putA [99] h p ++ putN id 1).length) ∧ x4.heap.size ≤ gB ∧ Row wx gB cc (putA [99] h p ++ putN id 1)
          | 5 => v = .agg #[.slice c.a c.n c.c, .slice s.a s.n s.c, .int .i64 tick, .slice (some ⟨gz, 0, none⟩) 16 16]
          | 6 => v = .agg #[.int .i64 2, .int .i64 0, .slice c.a c.n c.c, .slice s.a s.n s.c, .int .i64 tick, .slice (some ⟨gz, 0, none⟩) 16 16, .slice none 0 0, .int .i64 0, .int .i64 0, .slice none 0 0, .slice none 0 0]
          | 7 => ∃ m cc, v = .slice (some ⟨gB, 0, none⟩) m cc ∧ Hid (m = (putA [99] h p ++ putN id 1 ++ (ckD tick cn sn).cn ++ (ckD tick cn sn).sn ++ putN (ckD tick cn sn).tick 4 ++ (ckD tick cn sn).cookie).length) ∧ x4.heap.size ≤ gB ∧ Row wx gB cc (putA [99] h p ++ putN id 1 ++ (ckD tick cn sn).cn ++ (ckD tick cn sn).sn ++ putN (ckD tick cn sn).tick 4 ++ (ckD tick cn sn).cookie)
          | _ => False) (fun wx => Below x4.heap.size x4 wx) (by kernel_rfl) (Below.refl _ _).drew ?_ ?_ ?_
      · intro i gB v wx wy hi hF hb _
        match i, hi with
        | 0, _ => obtain ⟨m, h0, h1, h2⟩ := hF; exact ⟨m, h0, h1.later hb, h2⟩
        | 1, _ => exact hF
        | 2, _ => obtain ⟨m, cc, h0, h1, h2, h3⟩ := hF; exact ⟨m, cc, h0, h1, h2, h3.later hb⟩
        | 3, _ => exact hF
        | 4, _ => obtain ⟨m, cc, h0, h1, h2, h3⟩ := hF; exact ⟨m, cc, h0, h1, h2, h3.later hb⟩
        | 5, _ => exact hF
        | 6, _ => exact hF
        | 7, _ => obtain ⟨m, cc, h0, h1, h2, h3⟩ := hF; exact ⟨m, cc, h0, h1, h2, h3.later hb⟩
      · intro i hi t ρ wx hB hp hd
        match i, hi with
        | 0, _ =>
          refine op_run (v := .slice (some ⟨wx.heap.size, 0, none⟩) 1 1) (w' := wx.alloc (.cells #[.int .u8 99] 5)) rfl rfl ?_ ?_
          · clear hp hd; have ec : ∀ v, (fr [24, 25, 26, 27, 28, 29, 30, 31] A t).eval (.const v) = v := fun _ => rfl; generalize (fr [24, 25, 26, 27, 28, 29, 30, 31] A t).eval = ev at ec  ⊢; go_simp
          · exact ⟨_, wx.heap.size, rfl, hB.alloc hB.size _, (Below.refl _ _).alloc (Nat.le_refl _) _, ⟨1, rfl, row_new wx [99] (by simp [maxLen]), rfl⟩, .inl rfl⟩
        | 1, _ =>
          have e5 : (fr [24, 25, 26, 27, 28, 29, 30, 31] A t).eval (.tmp 5) = .pointer (some ⟨ga, 0, none⟩) := (fr_eval_old _ _ _ 5 rfl).trans a5'
          have hc0 := (hKA wx hB).cell 0 rfl
          have hc1 := (hKA wx hB).cell 1 rfl
          refine op_run (v := .agg #[.int .i64 h, .int .i64 p]) (w' := wx) rfl rfl ?_ ?_
          · clear hp hd; have ec : ∀ v, (fr [24, 25, 26, 27, 28, 29, 30, 31] A t).eval (.const v) = v := fun _ => rfl; generalize (fr [24, 25, 26, 27, 28, 29, 30, 31] A t).eval = ev at ec e5 ⊢; go_simp
          · exact ⟨_, 0, rfl, hB, Below.refl _ _, rfl, .inl rfl⟩
        | 2, _ =>
          obtain ⟨m0, hv0, q0_0, q0_1⟩ := hp 0 (pre_mem (by kernel_rfl))
          have e24 : (fr [24, 25, 26, 27, 28, 29, 30, 31] A t).eval (.tmp 24) = .slice (some ⟨(ρ 0), 0, none⟩) 1 1 := (fr_eval _ _ _ 24 rfl (by rw [asz]; decide)).trans hv0
          have e25 : (fr [24, 25, 26, 27, 28, 29, 30, 31] A t).eval (.tmp 25) = .agg #[.int .i64 h, .int .i64 p] := (fr_eval _ _ _ 25 rfl (by rw [asz]; decide)).trans (hp 1 (pre_mem (by kernel_rfl)))
          refine op_call (f := 40) (args := #[.slice (some ⟨(ρ 0), 0, none⟩) 1 1, .agg #[.int .i64 h, .int .i64 p]]) rfl rfl ?_ (AddrI.implPutAddr (some ⟨(ρ 0), 0, none⟩) 1 1 [99] h p wx rfl q0_0.rd (by intro e; cases e) (by omega)) ?_
          · have ef : (fr [24, 25, 26, 27, 28, 29, 30, 31] A t).eval (.func 40) = .func (.func 40) #[] #[] := rfl; clear hp hd q0_0 q0_1; have ec : ∀ v, (fr [24, 25, 26, 27, 28, 29, 30, 31] A t).eval (.const v) = v := fun _ => rfl; generalize (fr [24, 25, 26, 27, 28, 29, 30, 31] A t).eval = ev at ec e24 e25 ef ⊢; go_simp
          · rintro e wy ⟨g1, m1, c1, rfl, em, kg, rr, b1⟩
            exact ⟨_, rfl, _, g1, rfl, hB.trans (b1.mono hB.size), b1, ⟨m1, c1, rfl, em, Nat.le_trans hB.size kg, rr⟩, .inl rfl⟩
        | 3, _ =>
          have e1 : (fr [24, 25, 26, 27, 28, 29, 30, 31] A t).eval (.tmp 1) = .int .i64 id := (fr_eval_old _ _ _ 1 rfl).trans a1'
          refine op_run (v := .int .i64 id) (w' := wx) rfl rfl ?_ ?_
          · clear hp hd; have ec : ∀ v, (fr [24, 25, 26, 27, 28, 29, 30, 31] A t).eval (.const v) = v := fun _ => rfl; generalize (fr [24, 25, 26, 27, 28, 29, 30, 31] A t).eval = ev at ec e1 ⊢; go_simp
          · exact ⟨_, 0, rfl, hB, Below.refl _ _, rfl, .inl rfl⟩
        | 4, _ =>
          obtain ⟨m2, cc2, hv2, q2_0, q2_1, q2_2⟩ := hp 2 (pre_mem (by kernel_rfl))
          have e26 : (fr [24, 25, 26, 27, 28, 29, 30, 31] A t).eval (.tmp 26) = .slice (some ⟨(ρ 2), 0, none⟩) m2 cc2 := (fr_eval _ _ _ 26 rfl (by rw [asz]; decide)).trans hv2
          have e27 : (fr [24, 25, 26, 27, 28, 29, 30, 31] A t).eval (.tmp 27) = .int .i64 id := (fr_eval _ _ _ 27 rfl (by rw [asz]; decide)).trans (hp 3 (pre_mem (by kernel_rfl)))
          refine op_call (f := 39) (args := #[.slice (some ⟨(ρ 2), 0, none⟩) m2 cc2, .int .i64 id, .int .i64 1]) rfl rfl ?_ (FrQ.putK ⟨some ⟨(ρ 2), 0, none⟩, m2, cc2⟩ (putA [99] h p) id 1 wx (FrQ.rowRd q2_2 q2_0.out (putA_bytes _ _ (one_bytes (by omega) (by omega)))) (by rw [HLP.out]; omega)) ?_
          · have ef : (fr [24, 25, 26, 27, 28, 29, 30, 31] A t).eval (.func 39) = .func (.func 39) #[] #[] := rfl; clear hp hd q2_0 q2_1 q2_2; have ec : ∀ v, (fr [24, 25, 26, 27, 28, 29, 30, 31] A t).eval (.const v) = v := fun _ => rfl; generalize (fr [24, 25, 26, 27, 28, 29, 30, 31] A t).eval = ev at ec e26 e27 ef ⊢; go_simp
          · rintro e wy ⟨g1, m1, c1, rfl, em, kg, rr, b1⟩
            exact ⟨_, rfl, _, g1, rfl, hB.trans (b1.mono hB.size), b1, ⟨m1, c1, rfl, em, Nat.le_trans hB.size kg, rr⟩, .inl rfl⟩
        | 5, _ =>
          have e11 : (fr [24, 25, 26, 27, 28, 29, 30, 31] A t).eval (.tmp 11) = .pointer (some ⟨gc, 0, none⟩) := (fr_eval_old _ _ _ 11 rfl).trans a11'
          have hc0 := (hKC wx hB).cell 0 rfl
          have hc1 := (hKC wx hB).cell 1 rfl
          have hc2 := (hKC wx hB).cell 2 rfl
          have hc3 := (hKC wx hB).cell 3 rfl
          refine op_run (v := .agg #[.slice c.a c.n c.c, .slice s.a s.n s.c, .int .i64 tick, .slice (some ⟨gz, 0, none⟩) 16 16]) (w' := wx) rfl rfl ?_ ?_
          · clear hp hd; have ec : ∀ v, (fr [24, 25, 26, 27, 28, 29, 30, 31] A t).eval (.const v) = v := fun _ => rfl; generalize (fr [24, 25, 26, 27, 28, 29, 30, 31] A t).eval = ev at ec e11 ⊢; go_simp
          · exact ⟨_, 0, rfl, hB, Below.refl _ _, rfl, .inl rfl⟩
        | 6, _ =>
          have e29 : (fr [24, 25, 26, 27, 28, 29, 30, 31] A t).eval (.tmp 29) = .agg #[.slice c.a c.n c.c, .slice s.a s.n s.c, .int .i64 tick, .slice (some ⟨gz, 0, none⟩) 16 16] := (fr_eval _ _ _ 29 rfl (by rw [asz]; decide)).trans (hp 5 (pre_mem (by kernel_rfl)))
          refine op_call (f := 41) (args := #[.agg #[.slice c.a c.n c.c, .slice s.a s.n s.c, .int .i64 tick, .slice (some ⟨gz, 0, none⟩) 16 16]]) rfl rfl ?_ (FrW2.cookFrame c s tick ⟨some ⟨gz, 0, none⟩, 16, 16⟩ wx) ?_
          · have ef : (fr [24, 25, 26, 27, 28, 29, 30, 31] A t).eval (.func 41) = .func (.func 41) #[] #[] := rfl; clear hp hd; have ec : ∀ v, (fr [24, 25, 26, 27, 28, 29, 30, 31] A t).eval (.const v) = v := fun _ => rfl; generalize (fr [24, 25, 26, 27, 28, 29, 30, 31] A t).eval = ev at ec e29 ef ⊢; go_simp
          · rintro e wy ⟨rfl, b1⟩
            exact ⟨_, rfl, _, 0, rfl, hB.trans (b1.mono hB.size), b1, rfl, .inl rfl⟩
        | 7, _ =>
          obtain ⟨m4, cc4, hv4, q4_0, q4_1, q4_2⟩ := hp 4 (pre_mem (by kernel_rfl))
          have e28 : (fr [24, 25, 26, 27, 28, 29, 30, 31] A t).eval (.tmp 28) = .slice (some ⟨(ρ 4), 0, none⟩) m4 cc4 := (fr_eval _ _ _ 28 rfl (by rw [asz]; decide)).trans hv4
          have hv6 := hp 6 (pre_mem (by kernel_rfl))
          have e30 : (fr [24, 25, 26, 27, 28, 29, 30, 31] A t).eval (.tmp 30) = .agg #[.int .i64 2, .int .i64 0, .slice c.a c.n c.c, .slice s.a s.n s.c, .int .i64 tick, .slice (some ⟨gz, 0, none⟩) 16 16, .slice none 0 0, .int .i64 0, .int .i64 0, .slice none 0 0, .slice none 0 0] := (fr_eval _ _ _ 30 rfl (by rw [asz]; decide)).trans hv6
          refine op_call (f := 38) (args := #[.slice (some ⟨(ρ 4), 0, none⟩) m4 cc4, .agg #[.int .i64 2, .int .i64 0, .slice c.a c.n c.c, .slice s.a s.n s.c, .int .i64 tick, .slice (some ⟨gz, 0, none⟩) 16 16, .slice none 0 0, .int .i64 0, .int .i64 0, .slice none 0 0, .slice none 0 0]]) rfl rfl ?_ (FrQ.putCookie ⟨some ⟨(ρ 4), 0, none⟩, m4, cc4⟩ (putA [99] h p ++ putN id 1) (ckS c s ⟨some ⟨gz, 0, none⟩, 16, 16⟩) (ckD tick cn sn) wx (FrQ.rowRd q4_2 q4_0.out (FrB2.app (putA_bytes _ _ (one_bytes (by omega) (by omega))) (FrQ.putN_bytes _ _))) (by rw [List.length_append, HLP.out, putN_one id (by have := HI.out; omega) (by have := HI.out; omega)]; simp) (ck_rd tick (HC.out.later (hWB wx hB)) (HS.out.later (hWB wx hB)) (hOZ wx hB)) (ck_short tick HL.out.1 HL.out.2)) ?_
          · have ef : (fr [24, 25, 26, 27, 28, 29, 30, 31] A t).eval (.func 38) = .func (.func 38) #[] #[] := rfl; clear hp hd q4_0 q4_1 q4_2; have ec : ∀ v, (fr [24, 25, 26, 27, 28, 29, 30, 31] A t).eval (.const v) = v := fun _ => rfl; generalize (fr [24, 25, 26, 27, 28, 29, 30, 31] A t).eval = ev at ec e28 e30 ef ⊢; go_simp
          · rintro e wy ⟨g1, m1, c1, rfl, em, kg, rr, b1⟩
            exact ⟨_, rfl, _, g1, rfl, hB.trans (b1.mono hB.size), b1, ⟨m1, c1, rfl, em, Nat.le_trans hB.size kg, rr⟩, .inl rfl⟩
      · intro t ρ wx hB hF hne
        obtain ⟨m7, cc7, hv7, q7_0, q7_1, q7_2⟩ := hF 7 (by decide)
        have e31 : (fr [24, 25, 26, 27, 28, 29, 30, 31] A t).eval (.tmp 31) = .slice (some ⟨(ρ 7), 0, none⟩) m7 cc7 := (fr_eval _ _ _ 31 rfl (by rw [asz]; decide)).trans hv7
        clear hne
        refine op_wp rfl rfl ?_
        generalize hE : (fr [24, 25, 26, 27, 28, 29, 30, 31] A t).eval = ev at e31
        unfold Oper.wp
        rw [hE]
        go_simp
        refine hMet _ _ (Met.intro (hRJ _ _ ⟨_, t 24, t 25, t 26, t 27, t 28, t 29, t 30, t 31, ⟨(ρ 7), m7, cc7, rfl, q7_0.out, q7_1, q7_2, hB⟩, ?_⟩))
        rw [← hA]; rfl
    case rest =>
      obtain ⟨x5, hxc⟩ : ∃ zz, zz = wc := ⟨_, rfl⟩
      subst hxc
      obtain ⟨g5, m5, c5, rfl, em, kg, rr, b⟩ := hcut
      clear KA4 KC4 OZ4
      have hle : (putA [99] h p ++ putN id 1 ++ (ckD tick cn sn).cn ++ (ckD tick cn sn).sn ++ putN (ckD tick cn sn).tick 4 ++ (ckD tick cn sn).cookie) = R ++ List.replicate 16 0 := by rw [← HQ.out]; rfl
      rw [hle] at em rr
      have hm : m5 = 52 := by rw [em, List.length_append, HLR.out]; rfl
      subst hm
      have R5 : Hid (Row x5 g5 c5 (R ++ List.replicate 16 0)) := rr
      have hcc : Hid (52 ≤ c5) := by have := rr.1; show _ ≤ _; rw [← em] at this; exact this
      have G5 : Hid (w.heap.size ≤ g5) := Nat.le_trans B4.out.size kg
      clear em kg rr hle
      have L5 : Hid (x4.heap.size ≤ x5.heap.size) := b.size
      have B5 : Hid (Below w.heap.size w x5) := B4.out.trans (b.mono B4.out.size)
      clear b B4
      have hw : IntKind.i64.wrap ((52 : Int) - 16) = 36 := by decide
      have hc1 : ((36 : Int) ≤ (c5 : Int)) := by have := hcc.out; omega
      go_wp2
      go_ret
      exact ⟨⟨some ⟨g5, 0, none⟩, 36, 36⟩, rfl, ⟨c5, Nat.le_refl _, by show 36 ≤ c5; have := hcc.out; omega, SOwn.row (row_less R5.out) HLR.out.symm HRB.out G5.out R5.out.lt⟩, B5.out⟩
end Go.Proofs.YtpgapjdejelajaaDoor.CkI
