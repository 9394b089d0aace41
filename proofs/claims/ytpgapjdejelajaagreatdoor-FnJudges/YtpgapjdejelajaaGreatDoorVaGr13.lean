/-
  What impl's JarOk, Fresh and MintBody answer.
  What impl's BlockKey, padMix, mixed, Hmac, Tag, Diff and SameTag answer, where the table of round words holds what the program's text lays into it.
-/
import Derived.Test.YtpgapjdejelajaaGreatDoorVaGr5
import Derived.Test.YtpgapjdejelajaaGreatDoorVaGr12
import Derived.Test.YtpgapjdejelajaaGreatDoorVaGr8
import Derived.Test.YtpgapjdejelajaaGreatDoorVaFrW2
import Derived.Test.YtpgapjdejelajaaGreatDoorVaGr4
import Derived.Test.YtpgapjdejelajaaGreatDoorVaGr7
set_option linter.unusedVariables false
set_option maxRecDepth 100000
namespace Go.Proofs.YtpgapjdejelajaaGreatDoor.CkI
open Go.RowKit Mem App Blk Words Zone Res AddrP AddrS JaZ JaL CkP Shp CkL FrZ FrW2 Each Copy Ops

theorem nil_ansL {w x : World} (b : Below w.heap.size w x) : AnsL [] w (.returned (.slice (some ⟨x.heap.size, 0, none⟩) 0 0)) (x.alloc (.cells #[] 5)) :=
 ⟨⟨some ⟨x.heap.size, 0, none⟩, 0, 0⟩, rfl, LOwn.of (SOwn.row (row_new x [] (by simp)) rfl (fun z hz => by cases hz) b.size (by rw [World.size_alloc]; exact Nat.lt_succ_self _)), b.alloc b.size _⟩
theorem putN_one (x : Int) (h0 : 0 ≤ x) (h1 : x ≤ 255) : putN x 1 = [x] := by
 show num x 1 = [x]
 show [x / 2 ^ (8 * 0) % 256] = [x]
 congr 1
 simp
 omega
theorem other_cell (w : World) (g i n : Nat) (v : Value) (h : i ≠ g) : (w.setCell ⟨g, n, none⟩ v).heap[i]? = w.heap[i]? := Below.heap_setCell w ⟨g, n, none⟩ v i h
theorem nilRd (w : World) : SRd w ⟨none, 0, 0⟩ [] := ⟨rfl, (fun i hi => by cases hi), fun _ => rfl, Nat.le_refl _, (fun z hz => by cases hz)⟩
def ckD (tick : Int) (cn sn : List Int) : FrD := ⟨2, 0, cn, sn, tick, List.replicate 16 0, [], 0, 0, [], []⟩
def ckS (c s z : Sl) : FrS := ⟨c, s, z, ⟨none, 0, 0⟩, ⟨none, 0, 0⟩, ⟨none, 0, 0⟩⟩
theorem ck_rd {w : World} {c s z : Sl} {cn sn : List Int} (tick : Int) (hc : SRd w c cn) (hs : SRd w s sn) (hz : SRd w z (List.replicate 16 0)) : FrRd w (ckS c s z) (ckD tick cn sn) :=
 ⟨hc, hs, hz, nilRd w, nilRd w, nilRd w⟩
theorem ck_short {cn sn : List Int} (tick : Int) (hc : cn.length = 12) (hs : sn.length = 12) : FrShort (ckD tick cn sn) 100 :=
 ⟨by show cn.length ≤ _; omega, by show sn.length ≤ _; omega, by show (List.replicate 16 (0 : Int)).length ≤ 100; simp, by show ([] : List Int).length ≤ 100; simp, by show ([] : List Int).length ≤ 100; simp, by show ([] : List Int).length ≤ 100; simp⟩

theorem isKey (a : Option Addr) (n c : Nat) (w : World) :
  Calls Tryz.prog 39 #[.slice a n c] w fun e w' => e = .returned (.bool ((n : Int) == 32)) ∧ w = w' := by
 go_enter Tryz.func39, Tryz.ntmps39
 go_wp2
 go_ret
 exact ⟨by simp, rfl⟩

set_option maxHeartbeats 4000000 in
theorem implJarOk (S : JaS) (D : JaD) (w : World) (h : JaRd w S D) :
  Calls Tryz.prog 11 #[jaV D S] w fun e w' => e = .returned (.bool (jarOk D)) ∧ Below w.heap.size w w' := by
 have HN : Hid (((S.secret.n : Int) == 32) = jarOk D) := by show _ = _; rw [h.secret.len]; rfl
 have B0 : Hid (Below w.heap.size w (w.alloc (.cells #[.slice S.secret.a S.secret.n S.secret.c] 25))) := (Below.refl _ _).alloc (Nat.le_refl _) _
 have K0 : Hid (Blk (w.alloc (.cells #[.slice S.secret.a S.secret.n S.secret.c] 25)) w.heap.size 25 [.slice S.secret.a S.secret.n S.secret.c]) := Blk.new w _ _
 have d0 := K0.out.cell 0 rfl
 clear h
 unfold jaV
 go_enter Tryz.func11, Tryz.ntmps11
 go_wp2_with fail
 refine (isKey _ _ _ _).mono ?_
 rintro e y ⟨rfl, rfl⟩
 go_wp2
 go_ret
 exact ⟨by rw [← HN.out]; rfl, B0.out⟩

set_option maxHeartbeats 4000000 in
theorem implFresh (now tick : Int) (w : World) :
  Calls Tryz.prog 16 #[.int .i64 now, .int .i64 tick] w fun e w' => e = .returned (.bool (freshB now tick)) ∧ w = w' := by
 obtain ⟨v, hv⟩ : ∃ v, freshB now tick = v := ⟨_, rfl⟩
 have HV : Hid (freshB now tick = v) := hv
 rw [hv]
 clear hv
 go_enter Tryz.func16, Tryz.ntmps16
 go_wp2_with fail
 refine (FrW.isTime now w).mono ?_
 rintro e y ⟨rfl, rfl⟩
 cases h0 : isIn now 0 1000000 with
 | false =>
  obtain rfl : v = false := by rw [← HV.out]; unfold freshB; rw [h0]; rfl
  go_wp2
  go_ret
  exact ⟨rfl, rfl⟩
 | true =>
  go_wp2_with fail
  refine (FrW.isTime tick w).mono ?_
  rintro e y ⟨rfl, rfl⟩
  cases h1 : isIn tick 0 1000000 with
  | false =>
   obtain rfl : v = false := by rw [← HV.out]; unfold freshB; rw [h0, h1]; rfl
   go_wp2
   go_ret
   exact ⟨rfl, rfl⟩
  | true =>
   have hd : Hid (v = isIn (now - tick) 0 10) := by show _ = _; rw [← HV.out]; unfold freshB; rw [h0, h1]; rfl
   have h0' := of_decide_eq_true h0
   have h1' := of_decide_eq_true h1
   have hwr : IntKind.i64.wrap (now - tick) = now - tick := by rw [IntKind.wrap_i64]; omega
   clear h0' h1'
   by_cases h2 : now ≥ tick
   ·
    by_cases h3 : now - tick ≤ 10
    ·
     obtain rfl : v = true := by rw [hd.out]; exact isIn_yes ⟨by omega, h3⟩
     go_wp2
     go_ret
     exact ⟨rfl, rfl⟩
    ·
     obtain rfl : v = false := by rw [hd.out]; exact isIn_no (fun h => h3 h.2)
     go_wp2
     go_ret
     exact ⟨by show Ending.returned (.bool (decide (now - tick ≤ 10))) = _; rw [decide_eq_false (by omega)], rfl⟩
   ·
    obtain rfl : v = false := by rw [hd.out]; exact isIn_no (fun h => by omega)
    go_wp2
    go_ret
    exact ⟨rfl, rfl⟩
theorem cook_stored {w : World} {g : Nat} {u0 u1 u2 u3 : Value} (c s : Sl) (tick : Int) (z : Option Addr) (k : Blk w g 65 [u0, u1, u2, u3]) :
  Blk ((((w.setCell ⟨g, 0, none⟩ (.slice c.a c.n c.c)).setCell ⟨g, 1, none⟩ (.slice s.a s.n s.c)).setCell ⟨g, 2, none⟩ (.int .i64 tick)).setCell ⟨g, 3, none⟩ (.slice z 16 16)) g 65 [.slice c.a c.n c.c, .slice s.a s.n s.c, .int .i64 tick, .slice z 16 16] ∧ (∀ B a, B ≤ g → Below B a w → Below B a ((((w.setCell ⟨g, 0, none⟩ (.slice c.a c.n c.c)).setCell ⟨g, 1, none⟩ (.slice s.a s.n s.c)).setCell ⟨g, 2, none⟩ (.int .i64 tick)).setCell ⟨g, 3, none⟩ (.slice z 16 16))) ∧ ∀ i, i ≠ g → ((((w.setCell ⟨g, 0, none⟩ (.slice c.a c.n c.c)).setCell ⟨g, 1, none⟩ (.slice s.a s.n s.c)).setCell ⟨g, 2, none⟩ (.int .i64 tick)).setCell ⟨g, 3, none⟩ (.slice z 16 16)).heap[i]? = w.heap[i]? := by
 refine ⟨(((k.set 0 _ (by simp [maxLen])).set 1 _ (by simp [maxLen])).set 2 _ (by simp [maxLen])).set 3 _ (by simp [maxLen]), fun B a hB h => (((h.setCell (by exact hB) _).setCell (by exact hB) _).setCell (by exact hB) _).setCell (by exact hB) _, fun i hi => ?_⟩
 rw [other_cell _ _ _ _ _ hi, other_cell _ _ _ _ _ hi, other_cell _ _ _ _ _ hi, other_cell _ _ _ _ _ hi]

set_option maxHeartbeats 4000000 in
theorem draft (c s : Sl) (tick : Int) (w : World) :
  Calls Tryz.prog 40 #[.slice c.a c.n c.c, .slice s.a s.n s.c, .int .i64 tick] w fun e w' => ∃ g, e = .returned (.agg #[.slice c.a c.n c.c, .slice s.a s.n s.c, .int .i64 tick, .slice (some ⟨g, 0, none⟩) 16 16]) ∧ w.heap.size ≤ g ∧ Row w' g 16 (List.replicate 16 0) ∧ Below w.heap.size w w' := by
 obtain ⟨i0, hi, hz0, hz1, hz2⟩ := info_parts info8
 go_enter Tryz.func40, Tryz.ntmps40
 obtain ⟨x1, hx1⟩ : ∃ x1, w.alloc (.cells #[.slice none 0 0, .slice none 0 0, .int .i64 0, .slice none 0 0] 65) = x1 := ⟨_, rfl⟩
 have HW1 := hid (hx1)
 have b1 : Below w.heap.size w x1 := by rw [← hx1]; exact (Below.refl _ _).alloc (Nat.le_refl _) _
 have KN : Blk x1 w.heap.size 65 [.slice none 0 0, .slice none 0 0, .int .i64 0, .slice none 0 0] := by rw [← hx1]; exact Blk.new w _ _
 have HSZ1 : Hid (x1.heap.size = w.heap.size + 1) := by rw [← hx1]; show _ = _; simp
 clear hx1
 have L1 := hid (b1.size)
 have B1 := hid (b1)
 clear b1
 go_upto_region 1 with fail
 rw [HW1.out]
 obtain ⟨go, hgo⟩ : ∃ g, w.heap.size = g := ⟨_, rfl⟩
 have Ggo : Hid (w.heap.size = go ∧ x1.heap.size = go + 1) := ⟨hgo, by rw [← hgo]; exact HSZ1.out⟩
 rw [hgo] at KN ⊢
 clear HW1 HSZ1 hgo
 have KO1 := hid (KN)
 clear KN
 go_wp2_with (at_make; refine wpList_make_full _ rfl _ _ 22 rfl x1.heap.size 5 i0 (.int .u8 0) 1 Tryz.underlying22 hi hz0 hz1 _ _ _ _ 16 rfl rfl rfl rfl (by rw [hz2]; omega) (by unfold maxLen; omega) (Nat.le_refl _) ?_; intro x2 hown hgr; have b : Below x1.heap.size x1 x2 := (Below.refl _ _).grown hgr (Nat.le_refl _) (fun k h => by cases h); have R0 : Hid (Row x2 x1.heap.size 16 (List.replicate 16 0)) := (Row.of (l := List.replicate 16 (0 : Int)) (base := x1.heap.size) (by simpa [Value.cells, toList_madeCells_one] using hown)).1; clear hown hgr; have L2 := hid (b.size); have B2 := hid (B1.out.trans (b.mono B1.out.size)); have KO2 := hid (KO1.out.later b); clear b B1 KO1; have c0 := KO2.out.cell 0 rfl; have c1 := KO2.out.cell 1 rfl; have c2 := KO2.out.cell 2 rfl; have c3 := KO2.out.cell 3 rfl; have f0 := KO2.out.frozen 0; have f1 := KO2.out.frozen 1; have f2 := KO2.out.frozen 2; have f3 := KO2.out.frozen 3)
 obtain ⟨k1, k2, k3⟩ := cook_stored c s tick (some ⟨x1.heap.size, 0, none⟩) KO2.out
 exact bodyPost_ret (v := .agg #[.slice c.a c.n c.c, .slice s.a s.n s.c, .int .i64 tick, .slice (some ⟨x1.heap.size, 0, none⟩) 16 16]) (res1 rfl (is_cell rfl k1 aggCook)) rfl ⟨x1.heap.size, rfl, by have := L1.out; omega, R0.out.keep (k3 _ (by have := Ggo.out; omega)), k2 _ _ (by have := Ggo.out; omega) B2.out⟩

set_option maxHeartbeats 4000000 in
theorem canMint (h p id : Int) (c s : Sl) (tick : Int) (z : Option Addr) (w : World) :
  Calls Tryz.prog 41 #[addrV h p, .int .i64 id, .agg #[.slice c.a c.n c.c, .slice s.a s.n s.c, .int .i64 tick, .slice z 16 16]] w fun e w' => e = .returned (.bool (mintF h p id c.n s.n tick)) ∧ Below w.heap.size w w' := by
 obtain ⟨R, hR⟩ : ∃ R, mintF h p id c.n s.n tick = R := ⟨_, rfl⟩
 have HRD : Hid (mintF h p id c.n s.n tick = R) := hR
 rw [hR]
 clear hR
 obtain ⟨x1, hx1⟩ : ∃ zz, (w.alloc (.cells #[.int .i64 h, .int .i64 p] 27)).alloc (.cells #[.slice c.a c.n c.c, .slice s.a s.n s.c, .int .i64 tick, .slice z 16 16] 65) = zz := ⟨_, rfl⟩
 have HWA := hid (hx1)
 have b1 : Below w.heap.size w x1 := by rw [← hx1]; exact (((Below.refl _ _).alloc (Nat.le_refl _) _).alloc (by simp) _)
 have KAN : Blk x1 (w.heap.size) 27 [.int .i64 h, .int .i64 p] := by
  have q := (Blk.new (w) 27 [.int .i64 h, .int .i64 p])
  skip
  rw [← hx1]; exact q.alloc _
 have KCN : Blk x1 (w.heap.size + 1) 65 [.slice c.a c.n c.c, .slice s.a s.n s.c, .int .i64 tick, .slice z 16 16] := by
  have q := (Blk.new ((w.alloc (.cells #[.int .i64 h, .int .i64 p] 27))) 65 [.slice c.a c.n c.c, .slice s.a s.n s.c, .int .i64 tick, .slice z 16 16])
  rw [World.size_alloc] at q
  rw [← hx1]; exact q
 have SZA : x1.heap.size = w.heap.size + 2 := by rw [← hx1]; simp
 clear hx1
 have L1 := hid (b1.size)
 have B1 := hid (b1)
 clear b1
 unfold addrV
 go_enter Tryz.func41, Tryz.ntmps41
 go_upto_region 1 with fail
 rw [HWA.out]
 obtain ⟨ga, hga⟩ : ∃ g, w.heap.size = g := ⟨_, rfl⟩
 obtain ⟨gc, hgc⟩ : ∃ g, w.heap.size + 1 = g := ⟨_, rfl⟩
 have GA : Hid (w.heap.size = ga ∧ ga + 1 = gc ∧ x1.heap.size = ga + 2) := ⟨hga, by omega, by omega⟩
 rw [hga] at KAN
 rw [hgc] at KCN
 rw [hgc, hga]
 clear HWA SZA hga hgc
 have KA1 := hid (KAN)
 have KC1 := hid (KCN)
 clear KAN KCN
 have d0 := KA1.out.cell 0 rfl
 have d1 := KA1.out.cell 1 rfl
 have e0 := KC1.out.cell 0 rfl
 have e1 := KC1.out.cell 1 rfl
 have e2 := KC1.out.cell 2 rfl
 have e3 := KC1.out.cell 3 rfl
 go_wp2_with fail
 refine (AddrI.implAddrOk h p x1).mono ?_
 rintro e x2 ⟨rfl, b⟩
 have L2 := hid (b.size)
 have B2 := hid (B1.out.trans (b.mono B1.out.size))
 have KA2 := hid (KA1.out.later b)
 have KC2 := hid (KC1.out.later b)
 clear b B1 KA1 KC1
 clear d0 d1
 clear e0 e1 e2 e3
 cases h0 : (addrOk h p) with
 | false =>
  obtain rfl : R = false := by rw [← HRD.out]; unfold mintF; simp [h0]
  go_wp2
  go_ret
  exact ⟨rfl, B2.out⟩
 | true =>
  go_wp2_with fail
  refine (FrW.isId id x2).mono ?_
  rintro e y ⟨rfl, rfl⟩
  cases h1 : (isIn id 1 9) with
  | false =>
   obtain rfl : R = false := by rw [← HRD.out]; unfold mintF; simp [h0, h1]
   go_wp2
   go_ret
   exact ⟨rfl, B2.out⟩
  | true =>
   have e0 := KC2.out.cell 0 rfl
   have e1 := KC2.out.cell 1 rfl
   have e2 := KC2.out.cell 2 rfl
   have e3 := KC2.out.cell 3 rfl
   go_wp2_with fail
   refine (FrW.cookRight c s tick ⟨z, 16, 16⟩ x2).mono ?_
   rintro e x3 ⟨rfl, b⟩
   have L3 := hid (b.size)
   have B3 := hid (B2.out.trans (b.mono B2.out.size))
   have KA3 := hid (KA2.out.later b)
   have KC3 := hid (KC2.out.later b)
   clear b B2 KA2 KC2
   clear e0 e1 e2 e3
   obtain rfl : R = (((c.n : Int) == 12) && (((s.n : Int) == 12) && isIn tick 0 1000000)) := by rw [← HRD.out]; unfold mintF; rw [h0, h1]; simp [Bool.and_assoc]
   go_wp2
   go_ret
   exact ⟨rfl, B3.out⟩

abbrev DL1 : List Nat := [24, 25, 26, 27, 28, 29, 30, 31]
set_option maxHeartbeats 8000000 in
theorem implMintBody (h p id : Int) (c s : Sl) (cn sn : List Int) (tick : Int) (w : World) (hc : SRd w c cn) (hs : SRd w s sn) :
  Calls Tryz.prog 12 #[addrV h p, .int .i64 id, .slice c.a c.n c.c, .slice s.a s.n s.c, .int .i64 tick] w (AnsL (mintL h p id cn sn tick) w) := by
 have HC := hid (hc)
 have HS := hid (hs)
 have HNC : Hid (c.n = cn.length) := hc.len
 have HNS : Hid (s.n = sn.length) := hs.len
 obtain ⟨R, hR⟩ : ∃ R, mintL h p id cn sn tick = R := ⟨_, rfl⟩
 have HRD : Hid (mintL h p id cn sn tick = R) := hR
 rw [hR]
 clear hc hs hR
 unfold addrV
 go_enter Tryz.func12, Tryz.ntmps12
 obtain ⟨x1, hx1⟩ : ∃ x1, w.alloc (.cells #[.int .i64 h, .int .i64 p] 27) = x1 := ⟨_, rfl⟩
 have HW1 := hid (hx1)
 have b1 : Below w.heap.size w x1 := by rw [← hx1]; exact (Below.refl _ _).alloc (Nat.le_refl _) _
 have KN : Blk x1 w.heap.size 27 [.int .i64 h, .int .i64 p] := by rw [← hx1]; exact Blk.new w _ _
 have HSZ1 : Hid (x1.heap.size = w.heap.size + 1) := by rw [← hx1]; show _ = _; simp
 clear hx1
 have L1 := hid (b1.size)
 have B1 := hid (b1)
 clear b1
 go_upto_region 1 with fail
 rw [HW1.out]
 obtain ⟨ga, hga⟩ : ∃ g, w.heap.size = g := ⟨_, rfl⟩
 have Gga : Hid (w.heap.size = ga ∧ x1.heap.size = ga + 1) := ⟨hga, by rw [← hga]; exact HSZ1.out⟩
 rw [hga] at KN ⊢
 clear HW1 HSZ1 hga
 have KA1 := hid (KN)
 clear KN
 go_wp2_with fail
 refine (draft c s tick x1).mono ?_
 rintro e x2 ⟨gz, rfl, kz, rz, b⟩
 have KZ : Hid (w.heap.size ≤ gz) := by have := L1.out; show _ ≤ _; omega
 have L2 := hid (b.size)
 have B2 := hid (B1.out.trans (b.mono B1.out.size))
 have KA2 := hid (KA1.out.later b)
 clear b B1 KA1
 have OZ2 : Hid (SOwn x2 x1.heap.size x2.heap.size ⟨some ⟨gz, 0, none⟩, 16, 16⟩ (List.replicate 16 0)) := SOwn.row rz (by simp) (FrB2.rep 16) kz rz.lt
 clear rz kz
 obtain ⟨x3, hx3⟩ : ∃ x3, x2.alloc (.cells #[.slice c.a c.n c.c, .slice s.a s.n s.c, .int .i64 tick, .slice (some ⟨gz, 0, none⟩) 16 16] 65) = x3 := ⟨_, rfl⟩
 have HW3 := hid (hx3)
 have b3 : Below x2.heap.size x2 x3 := by rw [← hx3]; exact (Below.refl _ _).alloc (Nat.le_refl _) _
 have KN : Blk x3 x2.heap.size 65 [.slice c.a c.n c.c, .slice s.a s.n s.c, .int .i64 tick, .slice (some ⟨gz, 0, none⟩) 16 16] := by rw [← hx3]; exact Blk.new x2 _ _
 have HSZ3 : Hid (x3.heap.size = x2.heap.size + 1) := by rw [← hx3]; show _ = _; simp
 clear hx3
 have L3 := hid (b3.size)
 have B3 := hid (B2.out.trans (b3.mono B2.out.size))
 have KA3 := hid (KA2.out.later b3)
 have OZ3 := hid (OZ2.out.later b3)
 clear b3 B2 KA2 OZ2
 go_upto_region 2 with fail
 rw [HW3.out]
 obtain ⟨gc, hgc⟩ : ∃ g, x2.heap.size = g := ⟨_, rfl⟩
 have Ggc : Hid (x2.heap.size = gc ∧ x3.heap.size = gc + 1) := ⟨hgc, by rw [← hgc]; exact HSZ3.out⟩
 rw [hgc] at KN ⊢
 clear HW3 HSZ3 hgc
 have KC3 := hid (KN)
 clear KN
 have d0 := KA3.out.cell 0 rfl
 have d1 := KA3.out.cell 1 rfl
 have e0 := KC3.out.cell 0 rfl
 have e1 := KC3.out.cell 1 rfl
 have e2 := KC3.out.cell 2 rfl
 have e3 := KC3.out.cell 3 rfl
 go_wp2_with fail
 refine (canMint h p id c s tick (some ⟨gz, 0, none⟩) x3).mono ?_
 rintro e x4 ⟨rfl, b⟩
 have L4 := hid (b.size)
 have B4 := hid (B3.out.trans (b.mono B3.out.size))
 have KA4 := hid (KA3.out.later b)
 have OZ4 := hid (OZ3.out.later b)
 have KC4 := hid (KC3.out.later b)
 clear b B3 KA3 OZ3 KC3
 clear d0 d1
 clear e0 e1 e2 e3
 have HE : Hid (mintF h p id c.n s.n tick = mintF h p id cn.length sn.length tick) := by show _ = _; rw [HNC.out, HNS.out]
 cases h0 : (mintF h p id c.n s.n tick) with
 | false =>
  obtain rfl : R = [] := by rw [← HRD.out]; exact mintL_no (by rw [← HE.out]; exact h0)
  go_wp2
  go_ret
  exact nil_ansL B4.out
 | true =>
  have HF : Hid (mintF h p id cn.length sn.length tick = true) := by rw [← HE.out]; exact h0
  clear h0
  have HP := mintF_parts HF.out
  have HL : Hid (cn.length = 12 ∧ sn.length = 12) := ⟨HP.2.2.1, HP.2.2.2.1⟩
  have HI : Hid (1 ≤ id ∧ id ≤ 9) := HP.2.1
  have HQ : Hid (putA [99] h p ++ putN id 1 ++ cn ++ sn ++ putN tick 4 = R) := by show _ = _; rw [← HRD.out, mintL_yes HF.out, putN_one id (by have := HI.out; omega) (by have := HI.out; omega)]
  have HLP : Hid ((putA [99] h p).length = 7) := putA_len HP.1 [99]
  have HLR : Hid (R.length = 36) := by show _ = _; rw [← HRD.out]; exact mintL_len HF.out
  have HRB : Hid (Bytes R) := by rw [← HRD.out]; exact mintL_bytes HC.out.bytes HS.out.bytes
  clear HP
  go_upto_region 4 with fail
  go_cut [12] from 24 to 31 (fun sv wx => ∃ g5 m5 c5, sv = .slice (some ⟨g5, 0, none⟩) m5 c5 ∧ m5 = (putA [99] h p ++ putN id 1 ++ (ckD tick cn sn).cn ++ (ckD tick cn sn).sn ++ putN (ckD tick cn sn).tick 4 ++ (ckD tick cn sn).cookie).length ∧ x4.heap.size ≤ g5 ∧ Row wx g5 c5 (putA [99] h p ++ putN id 1 ++ (ckD tick cn sn).cn ++ (ckD tick cn sn).sn ++ putN (ckD tick cn sn).tick 4 ++ (ckD tick cn sn).cookie) ∧ Below x4.heap.size x4 wx)
  case first =>
   rename_i J K' hRJ hMet
   generalize hA : Act.mk _ _ = A
   have a1' : A.eval (.tmp 1) = .int .i64 id := by rw [← hA]; rfl
   have a5' : A.eval (.tmp 5) = .pointer (some ⟨ga, 0, none⟩) := by rw [← hA]; rfl
   have a11' : A.eval (.tmp 11) = .pointer (some ⟨gc, 0, none⟩) := by rw [← hA]; rfl
   have asz : A.tmps.size = 39 := by rw [← hA]; rfl
   have hKA : ∀ wx, Below x4.heap.size x4 wx → Blk wx ga 27 [.int .i64 h, .int .i64 p] := fun wx hb => KA4.out.later hb
   have hKC : ∀ wx, Below x4.heap.size x4 wx → Blk wx gc 65 [.slice c.a c.n c.c, .slice s.a s.n s.c, .int .i64 tick, .slice (some ⟨gz, 0, none⟩) 16 16] := fun wx hb => KC4.out.later hb
   have hWB : ∀ wx, Below x4.heap.size x4 wx → Below w.heap.size w wx := fun wx hb => B4.out.trans (hb.mono B4.out.size)
   have hOZ : ∀ wx, Below x4.heap.size x4 wx → SRd wx ⟨some ⟨gz, 0, none⟩, 16, 16⟩ (List.replicate 16 0) := fun wx hb => (OZ4.out.rd).later hb
   refine region_each (by kernel_rfl) DL1 8 (fun i => DL1.getD i 0) (fun _ => 0)
    (fun i gB v wx => match i with
     | 0 => ∃ m, v = .slice (some ⟨gB, 0, none⟩) 1 1 ∧ Row wx gB 1 [99] ∧ m = 1
     | 1 => v = .agg #[.int .i64 h, .int .i64 p]
     | 2 => ∃ m cc, v = .slice (some ⟨gB, 0, none⟩) m cc ∧ Hid (m = (putA [99] h p).length) ∧ x4.heap.size ≤ gB ∧ Row wx gB cc (putA [99] h p)
     | 3 => v = .int .i64 id
     | 4 => ∃ m cc, v = .slice (some ⟨gB, 0, none⟩) m cc ∧ Hid (m = (putA [99] h p ++ putN id 1).length) ∧ x4.heap.size ≤ gB ∧ Row wx gB cc (putA [99] h p ++ putN id 1)
     | 5 => v = .agg #[.slice c.a c.n c.c, .slice s.a s.n s.c, .int .i64 tick, .slice (some ⟨gz, 0, none⟩) 16 16]
     | 6 => v = .agg #[.int .i64 2, .int .i64 0, .slice c.a c.n c.c, .slice s.a s.n s.c, .int .i64 tick, .slice (some ⟨gz, 0, none⟩) 16 16, .slice none 0 0, .int .i64 0, .int .i64 0, .slice none 0 0, .slice none 0 0]
     | 7 => ∃ m cc, v = .slice (some ⟨gB, 0, none⟩) m cc ∧ Hid (m = (putA [99] h p ++ putN id 1 ++ (ckD tick cn sn).cn ++ (ckD tick cn sn).sn ++ putN (ckD tick cn sn).tick 4 ++ (ckD tick cn sn).cookie).length) ∧ x4.heap.size ≤ gB ∧ Row wx gB cc (putA [99] h p ++ putN id 1 ++ (ckD tick cn sn).cn ++ (ckD tick cn sn).sn ++ putN (ckD tick cn sn).tick 4 ++ (ckD tick cn sn).cookie)
     | _ => False) (fun wx => Below x4.heap.size x4 wx) (by kernel_rfl) (Below.refl _ _).drew ?_ ?_ ?_
   ·
    intro i gB v wx wy hi hF hb _
    match i, hi with
    | 0, _ => obtain ⟨m, h0, h1, h2⟩ := hF; exact ⟨m, h0, h1.later hb, h2⟩
    | 1, _ => exact hF
    | 2, _ => obtain ⟨m, cc, h0, h1, h2, h3⟩ := hF; exact ⟨m, cc, h0, h1, h2, h3.later hb⟩
    | 3, _ => exact hF
    | 4, _ => obtain ⟨m, cc, h0, h1, h2, h3⟩ := hF; exact ⟨m, cc, h0, h1, h2, h3.later hb⟩
    | 5, _ => exact hF
    | 6, _ => exact hF
    | 7, _ => obtain ⟨m, cc, h0, h1, h2, h3⟩ := hF; exact ⟨m, cc, h0, h1, h2, h3.later hb⟩
   ·
    intro i hi t ρ wx hB hp hd
    match i, hi with
    | 0, _ =>
     refine op_run (v := .slice (some ⟨wx.heap.size, 0, none⟩) 1 1) (w' := wx.alloc (.cells #[.int .u8 99] 5)) rfl rfl ?_ ?_
     ·
      clear hp hd; have ec : ∀ v, (fr DL1 A t).eval (.const v) = v := fun _ => rfl; generalize (fr DL1 A t).eval = ev at ec  ⊢; go_simp
     ·
      exact ⟨_, wx.heap.size, rfl, hB.alloc hB.size _, (Below.refl _ _).alloc (Nat.le_refl _) _, ⟨1, rfl, row_new wx [99] (by simp [maxLen]), rfl⟩, .inl rfl⟩
    | 1, _ =>
     have e5 : (fr DL1 A t).eval (.tmp 5) = .pointer (some ⟨ga, 0, none⟩) := (fr_eval_old _ _ _ 5 rfl).trans a5'
     have hc0 := (hKA wx hB).cell 0 rfl
     have hc1 := (hKA wx hB).cell 1 rfl
     refine op_run (v := .agg #[.int .i64 h, .int .i64 p]) (w' := wx) rfl rfl ?_ ?_
     ·
      clear hp hd; have ec : ∀ v, (fr DL1 A t).eval (.const v) = v := fun _ => rfl; generalize (fr DL1 A t).eval = ev at ec e5 ⊢; go_simp
     ·
      exact ⟨_, 0, rfl, hB, Below.refl _ _, rfl, .inl rfl⟩
    | 2, _ =>
     obtain ⟨m0, hv0, q0_0, q0_1⟩ := hp 0 (pre_mem (by kernel_rfl))
     have e24 : (fr DL1 A t).eval (.tmp 24) = .slice (some ⟨(ρ 0), 0, none⟩) 1 1 := (fr_eval _ _ _ 24 rfl (by rw [asz]; decide)).trans hv0
     have e25 : (fr DL1 A t).eval (.tmp 25) = .agg #[.int .i64 h, .int .i64 p] := (fr_eval _ _ _ 25 rfl (by rw [asz]; decide)).trans (hp 1 (pre_mem (by kernel_rfl)))
     refine op_call (f := 44) (args := #[.slice (some ⟨(ρ 0), 0, none⟩) 1 1, .agg #[.int .i64 h, .int .i64 p]]) rfl rfl ?_ (AddrI.implPutAddr (some ⟨(ρ 0), 0, none⟩) 1 1 [99] h p wx rfl q0_0.rd (by intro e; cases e) (by omega)) ?_
     ·
      have ef : (fr DL1 A t).eval (.func 44) = .func (.func 44) #[] #[] := rfl; clear hp hd q0_0 q0_1; have ec : ∀ v, (fr DL1 A t).eval (.const v) = v := fun _ => rfl; generalize (fr DL1 A t).eval = ev at ec e24 e25 ef ⊢; go_simp
     ·
      rintro e wy ⟨g1, m1, c1, rfl, em, kg, rr, b1⟩
      exact ⟨_, rfl, _, g1, rfl, hB.trans (b1.mono hB.size), b1, ⟨m1, c1, rfl, em, Nat.le_trans hB.size kg, rr⟩, .inl rfl⟩
    | 3, _ =>
     have e1 : (fr DL1 A t).eval (.tmp 1) = .int .i64 id := (fr_eval_old _ _ _ 1 rfl).trans a1'
     refine op_run (v := .int .i64 id) (w' := wx) rfl rfl ?_ ?_
     ·
      clear hp hd; have ec : ∀ v, (fr DL1 A t).eval (.const v) = v := fun _ => rfl; generalize (fr DL1 A t).eval = ev at ec e1 ⊢; go_simp
     ·
      exact ⟨_, 0, rfl, hB, Below.refl _ _, rfl, .inl rfl⟩
    | 4, _ =>
     obtain ⟨m2, cc2, hv2, q2_0, q2_1, q2_2⟩ := hp 2 (pre_mem (by kernel_rfl))
     have e26 : (fr DL1 A t).eval (.tmp 26) = .slice (some ⟨(ρ 2), 0, none⟩) m2 cc2 := (fr_eval _ _ _ 26 rfl (by rw [asz]; decide)).trans hv2
     have e27 : (fr DL1 A t).eval (.tmp 27) = .int .i64 id := (fr_eval _ _ _ 27 rfl (by rw [asz]; decide)).trans (hp 3 (pre_mem (by kernel_rfl)))
     refine op_call (f := 43) (args := #[.slice (some ⟨(ρ 2), 0, none⟩) m2 cc2, .int .i64 id, .int .i64 1]) rfl rfl ?_ (FrQ.putK ⟨some ⟨(ρ 2), 0, none⟩, m2, cc2⟩ (putA [99] h p) id 1 wx (FrQ.rowRd q2_2 q2_0.out (putA_bytes _ _ (one_bytes (by omega) (by omega)))) (by rw [HLP.out]; omega)) ?_
     ·
      have ef : (fr DL1 A t).eval (.func 43) = .func (.func 43) #[] #[] := rfl; clear hp hd q2_0 q2_1 q2_2; have ec : ∀ v, (fr DL1 A t).eval (.const v) = v := fun _ => rfl; generalize (fr DL1 A t).eval = ev at ec e26 e27 ef ⊢; go_simp
     ·
      rintro e wy ⟨g1, m1, c1, rfl, em, kg, rr, b1⟩
      exact ⟨_, rfl, _, g1, rfl, hB.trans (b1.mono hB.size), b1, ⟨m1, c1, rfl, em, Nat.le_trans hB.size kg, rr⟩, .inl rfl⟩
    | 5, _ =>
     have e11 : (fr DL1 A t).eval (.tmp 11) = .pointer (some ⟨gc, 0, none⟩) := (fr_eval_old _ _ _ 11 rfl).trans a11'
     have hc0 := (hKC wx hB).cell 0 rfl
     have hc1 := (hKC wx hB).cell 1 rfl
     have hc2 := (hKC wx hB).cell 2 rfl
     have hc3 := (hKC wx hB).cell 3 rfl
     refine op_run (v := .agg #[.slice c.a c.n c.c, .slice s.a s.n s.c, .int .i64 tick, .slice (some ⟨gz, 0, none⟩) 16 16]) (w' := wx) rfl rfl ?_ ?_
     ·
      clear hp hd; have ec : ∀ v, (fr DL1 A t).eval (.const v) = v := fun _ => rfl; generalize (fr DL1 A t).eval = ev at ec e11 ⊢; go_simp
     ·
      exact ⟨_, 0, rfl, hB, Below.refl _ _, rfl, .inl rfl⟩
    | 6, _ =>
     have e29 : (fr DL1 A t).eval (.tmp 29) = .agg #[.slice c.a c.n c.c, .slice s.a s.n s.c, .int .i64 tick, .slice (some ⟨gz, 0, none⟩) 16 16] := (fr_eval _ _ _ 29 rfl (by rw [asz]; decide)).trans (hp 5 (pre_mem (by kernel_rfl)))
     refine op_call (f := 45) (args := #[.agg #[.slice c.a c.n c.c, .slice s.a s.n s.c, .int .i64 tick, .slice (some ⟨gz, 0, none⟩) 16 16]]) rfl rfl ?_ (FrW2.cookFrame c s tick ⟨some ⟨gz, 0, none⟩, 16, 16⟩ wx) ?_
     ·
      have ef : (fr DL1 A t).eval (.func 45) = .func (.func 45) #[] #[] := rfl; clear hp hd; have ec : ∀ v, (fr DL1 A t).eval (.const v) = v := fun _ => rfl; generalize (fr DL1 A t).eval = ev at ec e29 ef ⊢; go_simp
     ·
      rintro e wy ⟨rfl, b1⟩
      exact ⟨_, rfl, _, 0, rfl, hB.trans (b1.mono hB.size), b1, rfl, .inl rfl⟩
    | 7, _ =>
     obtain ⟨m4, cc4, hv4, q4_0, q4_1, q4_2⟩ := hp 4 (pre_mem (by kernel_rfl))
     have e28 : (fr DL1 A t).eval (.tmp 28) = .slice (some ⟨(ρ 4), 0, none⟩) m4 cc4 := (fr_eval _ _ _ 28 rfl (by rw [asz]; decide)).trans hv4
     have hv6 := hp 6 (pre_mem (by kernel_rfl))
     have e30 : (fr DL1 A t).eval (.tmp 30) = .agg #[.int .i64 2, .int .i64 0, .slice c.a c.n c.c, .slice s.a s.n s.c, .int .i64 tick, .slice (some ⟨gz, 0, none⟩) 16 16, .slice none 0 0, .int .i64 0, .int .i64 0, .slice none 0 0, .slice none 0 0] := (fr_eval _ _ _ 30 rfl (by rw [asz]; decide)).trans hv6
     refine op_call (f := 42) (args := #[.slice (some ⟨(ρ 4), 0, none⟩) m4 cc4, .agg #[.int .i64 2, .int .i64 0, .slice c.a c.n c.c, .slice s.a s.n s.c, .int .i64 tick, .slice (some ⟨gz, 0, none⟩) 16 16, .slice none 0 0, .int .i64 0, .int .i64 0, .slice none 0 0, .slice none 0 0]]) rfl rfl ?_ (FrQ.putCookie ⟨some ⟨(ρ 4), 0, none⟩, m4, cc4⟩ (putA [99] h p ++ putN id 1) (ckS c s ⟨some ⟨gz, 0, none⟩, 16, 16⟩) (ckD tick cn sn) wx (FrQ.rowRd q4_2 q4_0.out (FrB2.app (putA_bytes _ _ (one_bytes (by omega) (by omega))) (FrQ.putN_bytes _ _))) (by rw [List.length_append, HLP.out, putN_one id (by have := HI.out; omega) (by have := HI.out; omega)]; simp) (ck_rd tick (HC.out.later (hWB wx hB)) (HS.out.later (hWB wx hB)) (hOZ wx hB)) (ck_short tick HL.out.1 HL.out.2)) ?_
     ·
      have ef : (fr DL1 A t).eval (.func 42) = .func (.func 42) #[] #[] := rfl; clear hp hd q4_0 q4_1 q4_2; have ec : ∀ v, (fr DL1 A t).eval (.const v) = v := fun _ => rfl; generalize (fr DL1 A t).eval = ev at ec e28 e30 ef ⊢; go_simp
     ·
      rintro e wy ⟨g1, m1, c1, rfl, em, kg, rr, b1⟩
      exact ⟨_, rfl, _, g1, rfl, hB.trans (b1.mono hB.size), b1, ⟨m1, c1, rfl, em, Nat.le_trans hB.size kg, rr⟩, .inl rfl⟩
   ·
    intro t ρ wx hB hF hne
    obtain ⟨m7, cc7, hv7, q7_0, q7_1, q7_2⟩ := hF 7 (by decide)
    have e31 : (fr DL1 A t).eval (.tmp 31) = .slice (some ⟨(ρ 7), 0, none⟩) m7 cc7 := (fr_eval _ _ _ 31 rfl (by rw [asz]; decide)).trans hv7
    clear hne
    refine op_wp rfl rfl ?_
    generalize hE : (fr DL1 A t).eval = ev at e31
    unfold Oper.wp
    rw [hE]
    go_simp
    refine hMet _ _ (Met.intro (hRJ _ _ ⟨_, t 24, t 25, t 26, t 27, t 28, t 29, t 30, t 31, ⟨(ρ 7), m7, cc7, rfl, q7_0.out, q7_1, q7_2, hB⟩, ?_⟩))
    rw [← hA]; rfl
  case rest =>
   obtain ⟨x5, hxc⟩ : ∃ zz, zz = wc := ⟨_, rfl⟩
   subst hxc
   obtain ⟨g5, m5, c5, rfl, em, kg, rr, b⟩ := hcut
   clear KA4 KC4 OZ4
   have hle : (putA [99] h p ++ putN id 1 ++ (ckD tick cn sn).cn ++ (ckD tick cn sn).sn ++ putN (ckD tick cn sn).tick 4 ++ (ckD tick cn sn).cookie) = R ++ List.replicate 16 0 := by rw [← HQ.out]; rfl
   rw [hle] at em rr
   have hm : m5 = 52 := by rw [em, List.length_append, HLR.out]; rfl
   subst hm
   have R5 := hid (rr)
   have hcc : Hid (52 ≤ c5) := by have := rr.1; show _ ≤ _; rw [← em] at this; exact this
   have G5 : Hid (w.heap.size ≤ g5) := Nat.le_trans B4.out.size kg
   clear em kg rr hle
   have L5 := hid (b.size)
   have B5 := hid (B4.out.trans (b.mono B4.out.size))
   clear b B4
   have hw : IntKind.i64.wrap ((52 : Int) - 16) = 36 := by decide
   have hc1 : ((36 : Int) ≤ (c5 : Int)) := by have := hcc.out; omega
   go_wp2
   go_ret
   exact ⟨⟨some ⟨g5, 0, none⟩, 36, 36⟩, rfl, ⟨c5, Nat.le_refl _, by show 36 ≤ c5; have := hcc.out; omega, SOwn.row (row_less R5.out) HLR.out.symm HRB.out G5.out R5.out.lt⟩, B5.out⟩
end Go.Proofs.YtpgapjdejelajaaGreatDoor.CkI

namespace Go.Proofs.YtpgapjdejelajaaGreatDoor.MacI
open Go.RowKit Mem MemI Blk App Get ShaP Comp Cuts Pads Ends MacP

theorem keyI_short (k : List Int) (h : k.length ≤ 64) : keyI k = k ++ List.replicate (64 - k.length) 0 := by
 have hs : short k = k := by unfold short; rw [if_pos h]
 unfold keyI; rw [if_pos (by omega), hs]
theorem keyI_long (k : List Int) (h : 64 < k.length) (h1 : k.length ≤ 1048576) : keyI k = shaI k ++ List.replicate 32 0 := by
 have hs : short k = shaI k := by unfold short; rw [if_neg (by omega)]
 unfold keyI; rw [if_pos h1, hs, shaI_len k h1]

set_option maxHeartbeats 800000 in
theorem implBlockKey (a : Option Addr) (n cap : Nat) (k : List Int) (w : World) (hT : Tab w) (hn : n = k.length) (hr : Rd w a k) (na : a = none → cap = 0) (hb : Bytes k) (hl : n ≤ 2097152) :
  Calls Tryz.prog 88 #[.slice a n cap] w fun e w' =>
   ∃ g m c, e = .returned (.slice (some ⟨g, 0, none⟩) m c) ∧ m = (keyI k).length ∧ w.heap.size ≤ g ∧ Row w' g c (keyI k) ∧ Below w.heap.size w w' := by
 obtain ⟨i0, hi, hz0, hz1, hz2⟩ := info_parts info8
 have HT := hid (hT)
 have HN : Hid (n = k.length) := hn
 have HR := hid (hr)
 have HB := hid (hb)
 clear hT hn hr hb
 by_cases h1 : n ≤ 1048576
 ·
  have hl1 : isLen (n : Int) = true := isLen_yes ⟨by omega, by omega⟩
  by_cases h2 : n ≤ 64
  ·
   have HK : Hid (keyI k = k ++ List.replicate (64 - n) 0) := by show _ = _; rw [HN.out]; exact keyI_short k (by rw [← HN.out]; exact h2)
   obtain ⟨z, hz⟩ : ∃ z, 64 - n = z := ⟨_, rfl⟩
   have E1 : Hid ((64 : Int) - (n : Int) = (z : Int)) := by show _ = _; omega
   have HZ : Hid (64 - n = z) := hz
   have hz64 : z ≤ 64 := by omega
   clear hz
   have h2I : ¬ ((n : Int) > 64) := by omega
   go_enter Tryz.func88, Tryz.ntmps88
   go_wp2_with fail
   refine (isShaLength _ _).mono ?_
   rintro e w1 ⟨rfl, rfl⟩
   go_wp2_with (at_make; refine wpList_make_full _ rfl _ _ 22 rfl w.heap.size 5 i0 (.int .u8 0) 1 Tryz.underlying22 hi hz0 hz1 _ _ _ _ z rfl rfl (by first | rfl | exact E1.out | (rw [← E1.out]; go_num)) (by first | rfl | exact E1.out | (rw [← E1.out]; go_num)) (by rw [hz2]; omega) (by unfold maxLen; omega) (Nat.le_refl _) ?_; intro w1 hown hgr; have B1 : Hid (Below w.heap.size w w1) := (Below.refl _ _).grown hgr (Nat.le_refl _) (fun k h => by cases h); have R1 : Hid (Row w1 w.heap.size z (List.replicate z 0)) := (Row.of (l := List.replicate z 0) (base := w.heap.size) (by simpa [Value.cells, toList_madeCells_one] using hown)).1; clear hown hgr)
   refine (putBytes a _ n cap z z k (List.replicate z 0) w1 HN.out (by simp) (HR.out.later B1.out (Nat.le_refl _)) R1.out.rd na (by intro e; cases e) (by rw [← HN.out]; omega) (by simp; omega)).mono ?_
   rintro e w2 ⟨rfl, r2, b2⟩
   have R2 := hid (r2)
   have B2 := hid (B1.out.trans (b2.mono B1.out.size))
   clear r2 b2
   go_wp2
   go_ret
   exact ⟨w1.heap.size, n + z, n + z, by simp, by rw [HK.out, HZ.out, List.length_append, List.length_replicate, HN.out], B1.out.size, by rw [HK.out, HZ.out]; exact R2.out, B2.out⟩
  ·
   have HK : Hid (keyI k = shaI k ++ List.replicate 32 0) := keyI_long k (by rw [← HN.out]; omega) (by rw [← HN.out]; exact h1)
   have h2I : (n : Int) > 64 := by omega
   go_enter Tryz.func88, Tryz.ntmps88
   go_wp2_with fail
   refine (isShaLength _ _).mono ?_
   rintro e w1 ⟨rfl, rfl⟩
   go_wp2_with fail
   refine (implSha a n cap k w HT.out HN.out HR.out na HB.out hl).mono ?_
   rintro e w1 ⟨g, m, c, rfl, e1, k1, r1, b1⟩
   have E32 : Hid ((shaI k).length = 32) := shaI_len k (by rw [← HN.out]; exact h1)
   have hm : m = 32 := by rw [e1, E32.out]
   subst hm
   have R1 := hid (r1)
   have B1 := hid (b1)
   clear e1 k1 r1 b1
   go_wp2_with (at_make; refine wpList_make_full _ rfl _ _ 22 rfl w1.heap.size 5 i0 (.int .u8 0) 1 Tryz.underlying22 hi hz0 hz1 _ _ _ _ 32 rfl rfl rfl rfl (by rw [hz2]; omega) (by unfold maxLen; omega) (Nat.le_refl _) ?_; intro w2 hown hgr; have B2 : Hid (Below w1.heap.size w1 w2) := (Below.refl _ _).grown hgr (Nat.le_refl _) (fun k h => by cases h); have R2 : Hid (Row w2 w1.heap.size 32 (List.replicate 32 0)) := (Row.of (l := List.replicate 32 0) (base := w1.heap.size) (by simpa [Value.cells, toList_madeCells_one] using hown)).1; clear hown hgr)
   refine (putBytes _ _ 32 c 32 32 (shaI k) (List.replicate 32 0) w2 E32.out.symm (by simp) (R1.out.later B2.out).rd R2.out.rd (by intro e; cases e) (by intro e; cases e) (by rw [E32.out]; omega) (by simp)).mono ?_
   rintro e w3 ⟨rfl, r3, b3⟩
   have R3 := hid (r3)
   have B12 := hid (B1.out.trans (B2.out.mono B1.out.size))
   have B3 := hid (B12.out.trans (b3.mono B12.out.size))
   clear r3 b3
   go_wp2
   go_ret
   exact ⟨w2.heap.size, 64, 64, by simp, by rw [HK.out, List.length_append, List.length_replicate, E32.out], B12.out.size, by rw [HK.out]; exact R3.out, B3.out⟩
 ·
  have HK : Hid (keyI k = []) := keyI_none k (by rw [← HN.out]; exact h1)
  have hl1 : isLen (n : Int) = false := isLen_no (by omega)
  go_enter Tryz.func88, Tryz.ntmps88
  go_wp2_with fail
  refine (isShaLength _ _).mono ?_
  rintro e w1 ⟨rfl, rfl⟩
  go_wp2
  go_ret
  exact ⟨w.heap.size, 0, 0, by simp, by rw [HK.out]; rfl, Nat.le_refl _, by rw [HK.out]; exact row_new w [] (by simp), (Below.refl _ _).alloc (Nat.le_refl _) _⟩

def mixer (q : Nat) : Value := .func (.func 104) #[] #[.pointer (some ⟨q, 0, none⟩)]
theorem padMix (p : Int) (w : World) :
  Calls Tryz.prog 91 #[.int .u8 p] w fun e w' => e = .returned (mixer w.heap.size) ∧ Blk w' w.heap.size 5 [.int .u8 p] ∧ Below w.heap.size w w' := by
 have hmf : ∀ (fn : Fn) (first cap : Array Value) (w : World), (Instr.makeFunc fn first cap).run Tryz.prog w = .ok (.func fn first cap) w := fun _ _ _ _ => rfl
 go_enter Tryz.func91, Tryz.ntmps91
 go_wp2
 go_ret
 exact ⟨rfl, Blk.new w 5 [.int .u8 p], (Below.refl _ _).alloc (Nat.le_refl _) _⟩
theorem padMix1 (x p : Int) (q : Nat) (w : World) (h : Blk w q 5 [.int .u8 p]) :
  Calls Tryz.prog 104 #[.int .u8 x, .pointer (some ⟨q, 0, none⟩)] w fun e w' => e = .returned (.int .u8 (bits .xor .u8 x p)) ∧ w = w' := by
 have hc := h.cell 0 rfl
 clear h
 go_enter Tryz.func104, Tryz.ntmps104
 go_wp2
 go_ret
 exact ⟨rfl, rfl⟩

theorem mix_take (p : Int) (l : List Int) (k : Nat) (h : k < l.length) : mix p (l.take (k + 1)) = mix p (l.take k) ++ [bits .xor .u8 (l.getD k 0) p] := by
 have e : l.getD k 0 = l[k] := by simp [List.getD, h]
 rw [List.take_succ_eq_append_getElem h, e]
 simp only [mix, List.map_append, List.map_cons, List.map_nil]

set_option maxHeartbeats 800000 in
theorem mixed (a : Option Addr) (n cap q : Nat) (p : Int) (l : List Int) (w : World) (hn : n = l.length) (hr : Rd w a l) (hq : Blk w q 5 [.int .u8 p]) (hlen : n ≤ 4194304) :
  Calls Tryz.prog 90 #[.slice a n cap, mixer q] w fun e w' =>
   e = .returned (.slice (some ⟨w.heap.size, 0, none⟩) n n) ∧ Row w' w.heap.size n (mix p l) ∧ Below w.heap.size w w' := by
 obtain ⟨i0, hi, hz0, hz1, hz2⟩ := info_parts info8
 have HN : Hid (n = l.length) := hn
 have HR := hid (hr)
 have HQ := hid (hq)
 clear hn hr hq
 unfold mixer
 go_enter Tryz.func90, Tryz.ntmps90
 go_wp2_with (at_make; refine wpList_make_own _ rfl _ _ 22 rfl w.heap.size 5 i0 (.int .u8 0) 1 Tryz.underlying22 hi hz0 hz1 _ _ _ n rfl rfl (by omega) (by rw [hz2]; omega) (by unfold maxLen; omega) (Nat.le_refl _) ?_; intro w1 hown hgr; have B1 : Hid (Below w.heap.size w w1) := (Below.refl _ _).grown hgr (Nat.le_refl _) (fun k h => by cases h); have R1 : Hid (Row w1 w.heap.size n (mix p (l.take 0))) := (Row.of (l := []) hown).1; clear hown hgr)
 go_loopw [5, 13] (fun v i wr => ∃ k : Nat, k ≤ n ∧ i = .int .i64 k ∧ v = .slice (some ⟨w.heap.size, 0, none⟩) k n ∧ Row wr w.heap.size n (mix p (l.take k)) ∧ Below w.heap.size w wr)
  (fun _ i _ => n - (intOf i).toNat)
 case atStart => exact ⟨0, Nat.zero_le _, rfl, rfl, R1.out, B1.out⟩
 case round =>
  obtain ⟨k, hk, rfl, rfl, hRow, hbe⟩ := hrel
  have HRow := hid (hRow)
  have HBe := hid (hbe)
  clear R1 B1 hRow hbe
  by_cases hlt : k < n
  ·
   obtain ⟨b, off, rfl, _, hc⟩ := (HR.out.later HBe.out (Nat.le_refl _)) k (by rw [← HN.out]; exact hlt)
   have HT1 : Hid (mix p (l.take (k + 1)) = mix p (l.take k) ++ [bits .xor .u8 (l.getD k 0) p]) := mix_take p l k (by rw [← HN.out]; exact hlt)
   have HKL : Hid (k = (mix p (l.take k)).length) := by show _ = _; rw [mix_length, List.length_take, ← HN.out]; omega
   generalize l.getD k 0 = z at *
   go_wp2_with (first | (go_at_call 104; refine (padMix1 z p q wr (HQ.out.later HBe.out)).mono ?_; rintro e w2 ⟨rfl, rfl⟩) | (at_builtin; refine wpList_fit _ rfl (.tmp 17) (.tmp 21) rfl w.heap.size k n (mix p (l.take k)) [bits .xor .u8 z p] rfl HKL.out (row_alloc HRow.out _) _ 1 1 rfl rfl (rd_one wr _) (by intro e; cases e) (by rw [← HKL.out]; simp; omega) ?_; intro w3 r3 g3; have R3 := hid (r3); have B3 : Hid (Below w.heap.size w w3) := (HBe.out.alloc HBe.out.size _).grown g3 (by simp; exact Nat.le_trans HBe.out.size (Nat.le_succ _)) (fun k h => by cases h; exact Nat.le_refl _); clear r3 g3))
   go_roundw
   case rel => exact ⟨k + 1, by omega, by go_num, rfl, by rw [HT1.out]; exact R3.out, B3.out⟩
   case measure => simp [intOf]; omega
  ·
   obtain rfl : k = n := by omega
   have HTn : Hid (mix p l = mix p (l.take k)) := by show _ = _; rw [List.take_of_length_le (by rw [← HN.out]; exact Nat.le_refl _)]
   go_wp2
   go_ret
   exact ⟨rfl, by rw [HTn.out]; exact HRow.out, HBe.out⟩

set_option maxHeartbeats 1600000 in
theorem implHmac (a0 : Option Addr) (n0 c0 : Nat) (a1 : Option Addr) (n1 c1 : Nat) (k b : List Int) (w : World) (hT : Tab w) (e0 : n0 = k.length) (e1 : n1 = b.length) (r0 : Rd w a0 k) (r1 : Rd w a1 b) (na0 : a0 = none → c0 = 0) (na1 : a1 = none → c1 = 0) (hb0 : Bytes k) (hb1 : Bytes b) (l0 : n0 ≤ 2097152) (l1 : n1 ≤ 2097152) :
  Calls Tryz.prog 68 #[.slice a0 n0 c0, .slice a1 n1 c1] w fun e w' =>
   ∃ g m c, e = .returned (.slice (some ⟨g, 0, none⟩) m c) ∧ m = (hmacI k b).length ∧ w.heap.size ≤ g ∧ Row w' g c (hmacI k b) ∧ Below w.heap.size w w' := by
 have HT := hid (hT)
 have HN0 : Hid (n0 = k.length) := e0
 have HN1 : Hid (n1 = b.length) := e1
 have HR0 := hid (r0)
 have HR1 := hid (r1)
 have HB0 := hid (hb0)
 have HB1 := hid (hb1)
 clear hT e0 e1 r0 r1 hb0 hb1
 by_cases h1 : n0 ≤ 1048576
 ·
  have HL : Hid ((keyI k).length = 64) := keyI_len k (by rw [← HN0.out]; exact h1)
  by_cases h2 : n1 ≤ 1048512
  ·
   have HH : Hid (hmacI k b = shaI (mix 92 (keyI k) ++ shaI (mix 54 (keyI k) ++ b))) := by
    show _ = _
    unfold hmacI; rw [if_pos ⟨by rw [← HN0.out]; exact h1, by rw [← HN1.out]; exact h2⟩]
   have HKB : Hid (Bytes (keyI k)) := keyI_bytes k HB0.out
   have h2I : ¬ ((n1 : Int) > 1048512) := by omega
   go_enter Tryz.func68, Tryz.ntmps68
   go_wp2_with fail
   refine (implBlockKey a0 n0 c0 k w HT.out HN0.out HR0.out na0 HB0.out l0).mono ?_
   rintro e w1 ⟨gk, mk, ck, rfl, em, k1, r1, b1⟩
   have hm : mk = 64 := by rw [em, HL.out]
   subst hm
   have R1 := hid (r1)
   have B1 := hid (b1)
   clear em k1 r1 b1
   go_wp2_with fail
   refine (padMix 54 w1).mono ?_
   rintro e w2 ⟨rfl, k2, b2⟩
   have K2 := hid (k2)
   have B2 := hid (B1.out.trans (b2.mono B1.out.size))
   have R2 := hid (R1.out.later b2)
   clear k2 b2 R1
   go_wp2_with fail
   refine (mixed _ 64 ck w1.heap.size 54 (keyI k) w2 HL.out.symm R2.out.rd K2.out (by omega)).mono ?_
   rintro e w3 ⟨rfl, r3, b3⟩
   have R3 := hid (r3)
   have B3 := hid (B2.out.trans (b3.mono B2.out.size))
   have RK3 := hid (R2.out.later b3)
   have HML : Hid (64 = (mix 54 (keyI k)).length) := by show _ = _; rw [mix_length, HL.out]
   clear r3 b3 R2 K2
   go_wp2_with fail
   refine (putBytes _ a1 64 64 n1 c1 (mix 54 (keyI k)) b w3 HML.out HN1.out R3.out.rd (HR1.out.later B3.out (Nat.le_refl _)) (by intro e; cases e) na1 (by rw [← HML.out]; omega) (by rw [← HN1.out]; omega)).mono ?_
   rintro e w4 ⟨rfl, r4, b4⟩
   have R4 := hid (r4)
   have B4 := hid (B3.out.trans (b4.mono B3.out.size))
   have RK4 := hid (RK3.out.later b4)
   have HL4 : Hid (64 + n1 = (mix 54 (keyI k) ++ b).length) := by show _ = _; rw [List.length_append, ← HML.out, HN1.out]
   have HB4 : Hid (Bytes (mix 54 (keyI k) ++ b)) := bytes_append (mix_bytes 54 _ HKB.out (by omega) (by omega)) HB1.out
   clear r4 b4 R3 RK3
   go_wp2_with fail
   refine (implSha _ (64 + n1) (64 + n1) _ w4 (HT.out.later B4.out) HL4.out R4.out.rd (by intro e; cases e) HB4.out (by omega)).mono ?_
   rintro e w5 ⟨g5, m5, c5, rfl, em, k5, r5, b5⟩
   have HS5 : Hid ((shaI (mix 54 (keyI k) ++ b)).length = 32) := shaI_len _ (by rw [← HL4.out]; omega)
   have hm5 : m5 = 32 := by rw [em, HS5.out]
   subst hm5
   have R5 := hid (r5)
   have B5 := hid (B4.out.trans (b5.mono B4.out.size))
   have RK5 := hid (RK4.out.later b5)
   clear em k5 r5 b5 R4 RK4
   go_wp2_with fail
   refine (padMix 92 w5).mono ?_
   rintro e w6 ⟨rfl, k6, b6⟩
   have K6 := hid (k6)
   have B6 := hid (B5.out.trans (b6.mono B5.out.size))
   have R6 := hid (R5.out.later b6)
   have RK6 := hid (RK5.out.later b6)
   clear k6 b6 R5 RK5
   go_wp2_with fail
   refine (mixed _ 64 ck w5.heap.size 92 (keyI k) w6 HL.out.symm RK6.out.rd K6.out (by omega)).mono ?_
   rintro e w7 ⟨rfl, r7, b7⟩
   have R7 := hid (r7)
   have B7 := hid (B6.out.trans (b7.mono B6.out.size))
   have RI7 := hid (R6.out.later b7)
   have HML2 : Hid (64 = (mix 92 (keyI k)).length) := by show _ = _; rw [mix_length, HL.out]
   clear r7 b7 R6 K6 RK6
   go_wp2_with fail
   refine (putBytes _ _ 64 64 32 c5 (mix 92 (keyI k)) _ w7 HML2.out HS5.out.symm R7.out.rd RI7.out.rd (by intro e; cases e) (by intro e; cases e) (by rw [← HML2.out]; omega) (by rw [HS5.out]; omega)).mono ?_
   rintro e w8 ⟨rfl, r8, b8⟩
   have R8 := hid (r8)
   have B8 := hid (B7.out.trans (b8.mono B7.out.size))
   have HL8 : Hid (64 + 32 = (mix 92 (keyI k) ++ shaI (mix 54 (keyI k) ++ b)).length) := by show _ = _; rw [List.length_append, ← HML2.out, HS5.out]
   have HB8 : Hid (Bytes (mix 92 (keyI k) ++ shaI (mix 54 (keyI k) ++ b))) := bytes_append (mix_bytes 92 _ HKB.out (by omega) (by omega)) (shaI_bytes _)
   clear r8 b8 R7 RI7
   go_wp2_with fail
   refine (implSha _ (64 + 32) (64 + 32) _ w8 (HT.out.later B8.out) HL8.out R8.out.rd (by intro e; cases e) HB8.out (by omega)).mono ?_
   rintro e w9 ⟨g9, m9, c9, rfl, em, k9, r9, b9⟩
   have EM : Hid (m9 = (hmacI k b).length) := by show _ = _; rw [HH.out]; exact em
   have K9 : Hid (w.heap.size ≤ g9) := Nat.le_trans B8.out.size k9
   have R9 : Hid (Row w9 g9 c9 (hmacI k b)) := by show Row _ _ _ _; rw [HH.out]; exact r9
   have B9 := hid (B8.out.trans (b9.mono B8.out.size))
   clear em k9 r9 b9
   go_wp2
   go_ret
   exact ⟨g9, m9, c9, rfl, EM.out, K9.out, R9.out, B9.out⟩
  ·
   have HH : Hid (hmacI k b = []) := hmacI_none k b (by rw [← HN0.out, ← HN1.out]; omega)
   have h2I : (n1 : Int) > 1048512 := by omega
   go_enter Tryz.func68, Tryz.ntmps68
   go_wp2_with fail
   refine (implBlockKey a0 n0 c0 k w HT.out HN0.out HR0.out na0 HB0.out l0).mono ?_
   rintro e w1 ⟨gk, mk, ck, rfl, em, k1, r1, b1⟩
   have hm : mk = 64 := by rw [em, HL.out]
   subst hm
   have B1 := hid (b1)
   clear em k1 r1 b1
   go_wp2
   go_ret
   exact ⟨w1.heap.size, 0, 0, by simp, by rw [HH.out]; rfl, B1.out.size, by rw [HH.out]; exact row_new w1 [] (by simp), B1.out.alloc B1.out.size _⟩
 ·
  have HH : Hid (hmacI k b = []) := hmacI_none k b (by rw [← HN0.out, ← HN1.out]; omega)
  have HK : Hid (keyI k = []) := keyI_none k (by rw [← HN0.out]; exact h1)
  go_enter Tryz.func68, Tryz.ntmps68
  go_wp2_with fail
  refine (implBlockKey a0 n0 c0 k w HT.out HN0.out HR0.out na0 HB0.out l0).mono ?_
  rintro e w1 ⟨gk, mk, ck, rfl, em, k1, r1, b1⟩
  have hm : mk = 0 := by rw [em, HK.out]; rfl
  subst hm
  have B1 := hid (b1)
  clear em k1 r1 b1
  go_wp2
  go_ret
  exact ⟨w1.heap.size, 0, 0, by simp, by rw [HH.out]; rfl, B1.out.size, by rw [HH.out]; exact row_new w1 [] (by simp), B1.out.alloc B1.out.size _⟩

theorem tag_cut (k b : List Int) : cutOf (hmacI k b) 0 16 = tagI k b := by
 unfold cutOf tagI
 by_cases h : k.length ≤ 1048576 ∧ b.length ≤ 1048512
 ·
  have := hmacI_len k b h.1 h.2
  rw [if_pos (by rw [this]; decide)]
  simp [piece]
 ·
  rw [hmacI_none k b h]; rfl

set_option maxHeartbeats 800000 in
theorem implTag (a0 : Option Addr) (n0 c0 : Nat) (a1 : Option Addr) (n1 c1 : Nat) (k b : List Int) (w : World) (hT : Tab w) (e0 : n0 = k.length) (e1 : n1 = b.length) (r0 : Rd w a0 k) (r1 : Rd w a1 b) (na0 : a0 = none → c0 = 0) (na1 : a1 = none → c1 = 0) (hb0 : Bytes k) (hb1 : Bytes b) (l0 : n0 ≤ 2097152) (l1 : n1 ≤ 2097152) :
  Calls Tryz.prog 35 #[.slice a0 n0 c0, .slice a1 n1 c1] w fun e w' =>
   ∃ g m c, e = .returned (.slice (some ⟨g, 0, none⟩) m c) ∧ m = (tagI k b).length ∧ w.heap.size ≤ g ∧ Row w' g c (tagI k b) ∧ Below w.heap.size w w' := by
 have HT := hid (hT)
 have HN0 : Hid (n0 = k.length) := e0
 have HN1 : Hid (n1 = b.length) := e1
 have HR0 := hid (r0)
 have HR1 := hid (r1)
 have HB0 := hid (hb0)
 have HB1 := hid (hb1)
 clear hT e0 e1 r0 r1 hb0 hb1
 go_enter Tryz.func35, Tryz.ntmps35
 go_wp2_with fail
 refine (implHmac a0 n0 c0 a1 n1 c1 k b w HT.out HN0.out HN1.out HR0.out HR1.out na0 na1 HB0.out HB1.out l0 l1).mono ?_
 rintro e w1 ⟨g, m, c, rfl, em, k1, r1, b1⟩
 have EM : Hid (m = (hmacI k b).length) := em
 have R1 := hid (r1)
 have B1 := hid (b1)
 have hm : m ≤ 32 := by rw [em]; exact hmacI_le k b
 have hmc : m ≤ c := by rw [em]; exact r1.1
 clear em k1 r1 b1
 go_wp2_with fail
 refine (implCut g 0 m c (hmacI k b) 0 16 w1 EM.out R1.out.rd hmc (by omega) (by omega)).mono ?_
 rw [tag_cut]
 rintro e w2 ⟨g2, m2, c2, rfl, em, k2, r2, b2⟩
 have E2 : Hid (m2 = (tagI k b).length) := em
 have K2 : Hid (w.heap.size ≤ g2) := Nat.le_trans B1.out.size k2
 have R2 := hid (r2)
 have B2 := hid (B1.out.trans (b2.mono B1.out.size))
 clear em k2 r2 b2
 go_wp2
 go_ret
 exact ⟨g2, m2, c2, rfl, E2.out, K2.out, R2.out, B2.out⟩
end Go.Proofs.YtpgapjdejelajaaGreatDoor.MacI
