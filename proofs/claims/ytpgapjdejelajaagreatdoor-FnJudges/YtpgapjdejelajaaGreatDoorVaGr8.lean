/-
  Frames as plain data: which are right, their bytes, and back.
  Cookies as plain functions, where sums with a key come in.
  Slices that came in, as slices that read; answers in new memory, as slices that own theirs.
  What spec's JarOk, MintBody and Fresh answer.
  What spec's l2Out and Sha answer: the sum's 32 bytes, in new memory.
  What spec's BlockKey, Hmac and Tag answer.
-/
import Derived.Test.YtpgapjdejelajaaGreatDoorVaFrZ
import Derived.Test.YtpgapjdejelajaaGreatDoorVaGr3
import Derived.Test.YtpgapjdejelajaaGreatDoorVaGr1
import Derived.Test.YtpgapjdejelajaaGreatDoorVaGr5
import Derived.Test.YtpgapjdejelajaaGreatDoorVaGr7
import Derived.Test.YtpgapjdejelajaaGreatDoorVaGr2
set_option linter.unusedVariables false
set_option maxRecDepth 100000
namespace Go.Proofs.YtpgapjdejelajaaGreatDoor.FrP
open Go.RowKit Mem App Words FrZ

def bodyOk (k : Int) (n : Int) : Bool := if k == 4 then decide (n ≤ 40) else if k == 5 || k == 6 then n == 12 else n == 4
def okS (kind id : Int) (cn sn : Nat) (tick : Int) (cookie proof : Nat) (epoch seq : Int) (body tag : Nat) : Bool :=
 if isIn kind 4 8 = true then (id == 0) && (((cn : Int) == 0) && (((sn : Int) == 12) && ((tick == 0) && (((cookie : Int) == 0) && (((proof : Int) == 0) && (isIn epoch 0 4294967295 && (isIn seq 0 281474976710655 && (bodyOk kind body && ((tag : Int) == 16)))))))))
 else if ((epoch == 0) && ((seq == 0) && (((body : Int) == 0) && (((tag : Int) == 0) && ((cn : Int) == 12))))) = false then false
 else if (kind == 1) = true then isIn id 1 9 && (((sn : Int) == 0) && ((tick == 0) && (((cookie : Int) == 0) && ((proof : Int) == 0))))
 else if (kind == 2) = true then (id == 0) && (((sn : Int) == 12) && (isIn tick 0 1000000 && (((cookie : Int) == 16) && ((proof : Int) == 0))))
 else if (kind == 3) = true then isIn id 1 9 && (((sn : Int) == 12) && (isIn tick 0 1000000 && (((cookie : Int) == 16) && ((proof : Int) == 16))))
 else false
def frameOk (D : FrD) : Bool := okS D.kind D.id D.cn.length D.sn.length D.tick D.cookie.length D.proof.length D.epoch D.seq D.body.length D.tag.length
end Go.Proofs.YtpgapjdejelajaaGreatDoor.FrP

namespace Go.Proofs.YtpgapjdejelajaaGreatDoor.CkQ
open Go.RowKit Mem App Words Zone JaZ AddrP AddrS Str CkP MacP DiffP KdfP

def newJ (l : List Int) : JaD := if ((l.length : Int) == 12) = true then ⟨derI l (bs jarB)⟩ else ⟨[]⟩
theorem newJ_yes {l : List Int} (h : ((l.length : Int) == 12) = true) : newJ l = ⟨derI l (bs jarB)⟩ := if_pos h
theorem newJ_no {l : List Int} (h : ((l.length : Int) == 12) = false) : newJ l = ⟨[]⟩ := if_neg (by rw [h]; decide)
theorem newJ_short (l : List Int) : JaShort (newJ l) 32 := by
 cases h : ((l.length : Int) == 12) with
 | true => rw [newJ_yes h]; exact ⟨derI_le _ _⟩
 | false => rw [newJ_no h]; exact ⟨Nat.zero_le _⟩
def mintB (D : JaD) (h p id : Int) (cn sn : Nat) (tick : Int) : Bool := jarOk D && mintF h p id cn sn tick
def mint (D : JaD) (h p id : Int) (cn sn : List Int) (tick : Int) : List Int := if mintB D h p id cn.length sn.length tick = true then tagI D.secret (mintL h p id cn sn tick) else []
theorem mint_yes {D : JaD} {h p id : Int} {cn sn : List Int} {tick : Int} (k : mintB D h p id cn.length sn.length tick = true) : mint D h p id cn sn tick = tagI D.secret (mintL h p id cn sn tick) := if_pos k
theorem mint_no {D : JaD} {h p id : Int} {cn sn : List Int} {tick : Int} (k : mintB D h p id cn.length sn.length tick = false) : mint D h p id cn sn tick = [] := if_neg (by rw [k]; decide)
theorem mint_le (D : JaD) (h p id : Int) (cn sn : List Int) (tick : Int) : (mint D h p id cn sn tick).length ≤ 16 := by
 cases k : mintB D h p id cn.length sn.length tick with
 | true => rw [mint_yes k]; exact tagI_le _ _
 | false => rw [mint_no k]; simp
theorem newJ_ok {l : List Int} : jarOk (newJ l) = ((l.length : Int) == 12) := by
 cases h : ((l.length : Int) == 12) with
 | true =>
  rw [newJ_yes h, jarOk_iff]
  exact expI_len l (bs jarB) 32 ((mayExp_iff _ _ _).2 (by have e : (bs jarB).length = 3 := rfl; have h2 : (l.length : Int) = 12 := (by simpa using h); exact ⟨by decide, by decide, by omega, by omega⟩))
 | false => rw [newJ_no h]; rfl
end Go.Proofs.YtpgapjdejelajaaGreatDoor.CkQ
namespace Go.Proofs.YtpgapjdejelajaaGreatDoor.CkQ
open Go.RowKit Mem App Words Zone JaZ AddrP AddrS Str CkP MacP DiffP KdfP FrZ FrP
def judgeF (D : JaD) (now h p : Int) (F : FrD) : Bool := jarOk D && isIn now 0 1000000 && addrOk h p && frameOk F && (F.kind == 3)
def judgeC (D : JaD) (now h p : Int) (F : FrD) : Int :=
 if judgeF D now h p F = true then (if freshB now F.tick = true then (if sameI F.cookie (mint D h p F.id F.cn F.sn F.tick) = true then 0 else 2) else 9) else 1
theorem judge_1 {D : JaD} {now h p : Int} {F : FrD} (k : judgeF D now h p F = false) : judgeC D now h p F = 1 := by unfold judgeC; rw [k]; rfl
theorem judge_9 {D : JaD} {now h p : Int} {F : FrD} (k : judgeF D now h p F = true) (k2 : freshB now F.tick = false) : judgeC D now h p F = 9 := by unfold judgeC; rw [k, k2]; rfl
theorem judge_2 {D : JaD} {now h p : Int} {F : FrD} (k : judgeF D now h p F = true) (k2 : freshB now F.tick = true) (k3 : sameI F.cookie (mint D h p F.id F.cn F.sn F.tick) = false) : judgeC D now h p F = 2 := by unfold judgeC; rw [k, k2, k3]; rfl
theorem judge_0 {D : JaD} {now h p : Int} {F : FrD} (k : judgeF D now h p F = true) (k2 : freshB now F.tick = true) (k3 : sameI F.cookie (mint D h p F.id F.cn F.sn F.tick) = true) : judgeC D now h p F = 0 := by unfold judgeC; rw [k, k2, k3]; rfl
end Go.Proofs.YtpgapjdejelajaaGreatDoor.CkQ

namespace Go.Proofs.YtpgapjdejelajaaGreatDoor.Zone
open Go.RowKit Mem
theorem SOwn.later {w w' : World} {lo hi : Nat} {s : Sl} {l : List Int} (h : SOwn w lo hi s l) (k : Below w.heap.size w w') : SOwn w' lo hi s l := h.carry (Kept.of_below k hi) (.inl (Nat.le_refl _))
end Go.Proofs.YtpgapjdejelajaaGreatDoor.Zone
namespace Go.Proofs.YtpgapjdejelajaaGreatDoor.Shp
open Go.RowKit Mem MemI Zone
def AnsB (l : List Int) (w : World) : Ending → World → Prop := fun e w' => ∃ S0 : Sl, e = .returned (.slice S0.a S0.n S0.c) ∧ SOwn w' w.heap.size w'.heap.size S0 l ∧ Below w.heap.size w w'
theorem AnsB.of {l : List Int} {w : World} {e : Ending} {w' : World} (hb : Bytes l) (h : ∃ g m cap, e = .returned (.slice (some ⟨g, 0, none⟩) m cap) ∧ m = l.length ∧ w.heap.size ≤ g ∧ Row w' g cap l ∧ Below w.heap.size w w') : AnsB l w e w' := by
 obtain ⟨g, m, c, h1, h2, h3, h4, h5⟩ := h
 exact ⟨⟨some ⟨g, 0, none⟩, m, c⟩, h1, SOwn.row h4 h2 hb h3 h4.lt, h5⟩
end Go.Proofs.YtpgapjdejelajaaGreatDoor.Shp

namespace Go.Proofs.YtpgapjdejelajaaGreatDoor.CkS
open Go.RowKit Mem App Blk Words Zone Res AddrP AddrS JaZ JaL CkP Shp

theorem nil_ans {w x : World} (b : Below w.heap.size w x) : AnsB [] w (.returned (.slice (some ⟨x.heap.size, 0, none⟩) 0 0)) (x.alloc (.cells #[] 5)) :=
 ⟨⟨some ⟨x.heap.size, 0, none⟩, 0, 0⟩, rfl, SOwn.row (row_new x [] (by simp)) rfl (fun z hz => by cases hz) b.size (by rw [World.size_alloc]; exact Nat.lt_succ_self _), b.alloc b.size _⟩

set_option maxHeartbeats 4000000 in
theorem specJarOk (S : JaS) (D : JaD) (w : World) (h : JaRd w S D) :
  Calls Tryz.prog 37 #[jaV D S] w fun e w' => e = .returned (.bool (jarOk D)) ∧ Below w.heap.size w w' := by
 have HN : Hid (((S.secret.n : Int) == 32) = jarOk D) := by show _ = _; rw [h.secret.len]; rfl
 have B0 : Hid (Below w.heap.size w (w.alloc (.cells #[.slice S.secret.a S.secret.n S.secret.c] 25))) := (Below.refl _ _).alloc (Nat.le_refl _) _
 have K0 : Hid (Blk (w.alloc (.cells #[.slice S.secret.a S.secret.n S.secret.c] 25)) w.heap.size 25 [.slice S.secret.a S.secret.n S.secret.c]) := Blk.new w _ _
 have d0 := K0.out.cell 0 rfl
 clear h
 unfold jaV
 go_enter Tryz.func37, Tryz.ntmps37
 go_wp2
 go_ret
 exact ⟨by rw [← HN.out]; rfl, B0.out⟩

set_option maxHeartbeats 4000000 in
theorem specFresh (now tick : Int) (w : World) :
  Calls Tryz.prog 21 #[.int .i64 now, .int .i64 tick] w fun e w' => e = .returned (.bool (freshB now tick)) ∧ w = w' := by
 obtain ⟨v, hv⟩ : ∃ v, freshB now tick = v := ⟨_, rfl⟩
 have HV : Hid (freshB now tick = v) := hv
 rw [hv]
 clear hv
 go_enter Tryz.func21, Tryz.ntmps21
 go_wp2_with fail
 refine (Words.l1In now 0 1000000 w).mono ?_
 rintro e y ⟨rfl, rfl⟩
 cases h0 : isIn now 0 1000000 with
 | false =>
  obtain rfl : v = false := by rw [← HV.out]; unfold freshB; rw [h0]; rfl
  go_wp2
  go_ret
  exact ⟨rfl, rfl⟩
 | true =>
  go_wp2_with fail
  refine (Words.l1In tick 0 1000000 w).mono ?_
  rintro e y ⟨rfl, rfl⟩
  cases h1 : isIn tick 0 1000000 with
  | false =>
   obtain rfl : v = false := by rw [← HV.out]; unfold freshB; rw [h0, h1]; rfl
   go_wp2
   go_ret
   exact ⟨rfl, rfl⟩
  | true =>
   have h0' := of_decide_eq_true h0
   have h1' := of_decide_eq_true h1
   have hwr : IntKind.i64.wrap (now - tick) = now - tick := by rw [IntKind.wrap_i64]; omega
   obtain rfl : v = isIn (now - tick) 0 10 := by rw [← HV.out]; unfold freshB; rw [h0, h1]; rfl
   clear h0' h1'
   go_wp2_with fail
   refine (Words.l1In (now - tick) 0 10 w).mono ?_
   rintro e y ⟨rfl, rfl⟩
   go_wp2
   go_ret
   exact ⟨rfl, rfl⟩
set_option maxHeartbeats 8000000 in
theorem specMintBody (h p id : Int) (c s : Sl) (cn sn : List Int) (tick : Int) (w : World) (hc : SRd w c cn) (hs : SRd w s sn) :
  Calls Tryz.prog 36 #[addrV h p, .int .i64 id, .slice c.a c.n c.c, .slice s.a s.n s.c, .int .i64 tick] w (AnsB (mintL h p id cn sn tick) w) := by
 have HC := hid (hc)
 have HS := hid (hs)
 have HNC : Hid (c.n = cn.length) := hc.len
 have HNS : Hid (s.n = sn.length) := hs.len
 have HZC : Hid (c.a = none → c.c = 0) := hc.nil
 have HZS : Hid (s.a = none → s.c = 0) := hs.nil
 obtain ⟨R, hR⟩ : ∃ R, mintL h p id cn sn tick = R := ⟨_, rfl⟩
 have HRD : Hid (mintL h p id cn sn tick = R) := hR
 rw [hR]
 clear hc hs hR
 obtain ⟨ca, cN, cc⟩ := c
 obtain ⟨sa, sN, sc⟩ := s
 unfold addrV
 go_enter Tryz.func36, Tryz.ntmps36
 obtain ⟨x1, hx1⟩ : ∃ x1, w.alloc (.cells #[.int .i64 h, .int .i64 p] 27) = x1 := ⟨_, rfl⟩
 have HW1 := hid (hx1)
 have b1 : Below w.heap.size w x1 := by rw [← hx1]; exact (Below.refl _ _).alloc (Nat.le_refl _) _
 have KN : Blk x1 w.heap.size 27 [.int .i64 h, .int .i64 p] := by rw [← hx1]; exact Blk.new w _ _
 have HSZ1 : Hid (x1.heap.size = w.heap.size + 1) := by rw [← hx1]; show _ = _; simp
 clear hx1
 have L1 := hid (b1.size)
 have B1 := hid (b1)
 clear b1
 go_upto_region 1 with fail
 rw [HW1.out]
 obtain ⟨ga, hga⟩ : ∃ g, w.heap.size = g := ⟨_, rfl⟩
 have Gga : Hid (w.heap.size = ga ∧ x1.heap.size = ga + 1) := ⟨hga, by rw [← hga]; exact HSZ1.out⟩
 rw [hga] at KN ⊢
 clear HW1 HSZ1 hga
 have KA1 := hid (KN)
 clear KN
 have d0 := KA1.out.cell 0 rfl
 have d1 := KA1.out.cell 1 rfl
 go_wp2_with fail
 refine (specAddrOk h p x1).mono ?_
 rintro e x2 ⟨rfl, b⟩
 have L2 := hid (b.size)
 have B2 := hid (B1.out.trans (b.mono B1.out.size))
 have KA2 := hid (KA1.out.later b)
 clear b B1 KA1
 clear d0 d1
 cases h0 : (addrOk h p) with
 | false =>
  obtain rfl : R = [] := by rw [← HRD.out]; exact mintL_no (by have e1 := HNC.out; have e2 := HNS.out; unfold mintF; rw [← e1, ← e2]; simp [h0])
  go_wp2
  go_ret
  exact nil_ans B2.out
 | true =>
  go_wp2_with fail
  refine (Words.l1In id 1 9 x2).mono ?_
  rintro e y ⟨rfl, rfl⟩
  cases h1 : (isIn id 1 9) with
  | false =>
   obtain rfl : R = [] := by rw [← HRD.out]; exact mintL_no (by have e1 := HNC.out; have e2 := HNS.out; unfold mintF; rw [← e1, ← e2]; simp [h0, h1])
   go_wp2
   go_ret
   exact nil_ans B2.out
  | true =>
   cases h2 : ((cN : Int) == 12) with
   | false =>
    have hne : ((cN : Int) != 12) = true := by simpa using h2
    obtain rfl : R = [] := by rw [← HRD.out]; exact mintL_no (by have e1 := HNC.out; have e2 := HNS.out; unfold mintF; rw [← e1, ← e2]; simp [h0, h1, h2])
    go_wp2
    go_ret
    exact nil_ans B2.out
   | true =>
    have hne2 : ((cN : Int) != 12) = false := by simpa using h2
    cases h3 : ((sN : Int) == 12) with
    | false =>
     have hne : ((sN : Int) != 12) = true := by simpa using h3
     obtain rfl : R = [] := by rw [← HRD.out]; exact mintL_no (by have e1 := HNC.out; have e2 := HNS.out; unfold mintF; rw [← e1, ← e2]; simp [h0, h1, h2, h3])
     go_wp2
     go_ret
     exact nil_ans B2.out
    | true =>
     have hne3 : ((sN : Int) != 12) = false := by simpa using h3
     go_wp2_with fail
     refine (Words.l1In tick 0 1000000 x2).mono ?_
     rintro e y ⟨rfl, rfl⟩
     cases h4 : (isIn tick 0 1000000) with
     | false =>
      obtain rfl : R = [] := by rw [← HRD.out]; exact mintL_no (by have e1 := HNC.out; have e2 := HNS.out; unfold mintF; rw [← e1, ← e2]; simp [h0, h1, h2, h3, h4])
      go_wp2
      go_ret
      exact nil_ans B2.out
     | true =>
      have HF : Hid (mintF h p id cn.length sn.length tick = true) := by have e1 := HNC.out; have e2 := HNS.out; show mintF _ _ _ _ _ _ = true; unfold mintF; rw [← e1, ← e2]; simp [h0, h1, h2, h3, h4]
      have HP := mintF_parts HF.out
      have HL : Hid (cn.length = 12 ∧ sn.length = 12) := ⟨HP.2.2.1, HP.2.2.2.1⟩
      have HI : Hid (1 ≤ id ∧ id ≤ 9) := HP.2.1
      have HQ : Hid (putA [99] h p ++ [id] ++ cn ++ sn ++ putN tick 4 = R) := by show _ = _; rw [← HRD.out, mintL_yes HF.out]
      have hw8 : IntKind.u8.wrap id = id := by rw [IntKind.wrap_u8']; have := HI.out; omega
      have HLP : Hid ((putA [99] h p).length = 7) := putA_len h0 [99]
      clear HP h0 h1 h2 h3 h4
      have d0 := KA2.out.cell 0 rfl
      have d1 := KA2.out.cell 1 rfl
      have KAq := KA2.out.alloc (.cells #[.int .u8 99] 5)
      have e0 := KAq.cell 0 rfl
      have e1 := KAq.cell 1 rfl
      go_wp2_with fail
      obtain ⟨x3, hx3⟩ : ∃ zz, x2.alloc (.cells #[.int .u8 99] 5) = zz := ⟨_, rfl⟩
      have HW3 := hid (hx3)
      have b : Below x2.heap.size x2 x3 := by rw [← hx3]; exact (Below.refl _ _).alloc (Nat.le_refl _) _
      have R9 : Row x3 x2.heap.size 1 [99] := by rw [← hx3]; exact row_new x2 [99] (by simp [maxLen])
      clear hx3 KAq e0 e1
      clear d0 d1
      clear KA2
      have L3 := hid (b.size)
      have B3 := hid (B2.out.trans (b.mono B2.out.size))
      clear b B2
      rw [HW3.out]
      refine (specPutAddr (some ⟨x2.heap.size, 0, none⟩) 1 1 [99] h p x3 rfl R9.rd (by intro e; cases e) (by omega)).mono ?_
      rintro e x4 ⟨g1, m1, c1, rfl, em, kg, rr, b⟩
      have R1 := hid (rr)
      have E1 : Hid (m1 = (putA [99] h p).length) := em
      obtain rfl : 7 = m1 := by rw [em, HLP.out]
      have G1 : Hid (w.heap.size ≤ g1) := Nat.le_trans B3.out.size kg
      clear em kg rr R9 HW3
      have L4 := hid (b.size)
      have B4 := hid (B3.out.trans (b.mono B3.out.size))
      clear b B3
      have A1 : Hid (Below w.heap.size w (x4.alloc (.cells #[.int .u8 id] 5))) := B4.out.alloc B4.out.size _
      have Q1 : Hid (Row (x4.alloc (.cells #[.int .u8 id] 5)) g1 c1 (putA [99] h p)) := row_alloc R1.out _
      have Q2 : Hid (Rd (x4.alloc (.cells #[.int .u8 id] 5)) (some ⟨x4.heap.size, 0, none⟩) [id]) := (row_new x4 [id] (by simp [maxLen])).rd
      go_wp2_with (first | (at_builtin; refine wpList_app _ rfl (.tmp 38) (.tmp 41) rfl w.heap.size g1 7 c1 (putA [99] h p) ([id]) rfl E1.out Q1.out G1.out (some ⟨x4.heap.size, 0, none⟩) 1 1 rfl rfl Q2.out (by intro e; cases e) (by rw [HLP.out]; simp) ?_; intro g2 c2 y2 rr bb ll gr; have R2 := hid (rr); have G2 : Hid (w.heap.size ≤ g2) := bb; have B2_ : Hid (Below w.heap.size w y2) := A1.out.grown gr A1.out.size (fun k h => by cases h; exact G1.out); clear rr bb ll gr) | (at_builtin; refine wpList_app _ rfl (.tmp 43) (.tmp 44) rfl w.heap.size g2 8 c2 (putA [99] h p ++ [id]) (cn) rfl (by rw [List.length_append, HLP.out]; rfl) R2.out G2.out ca cN cc rfl HNC.out ((HC.out.rd).later B2_.out (Nat.le_refl _)) HZC.out (by rw [List.length_append, HLP.out, HL.out.1]; simp) ?_; intro g3 c3 y3 rr bb ll gr; have R3 := hid (rr); have G3 : Hid (w.heap.size ≤ g3) := bb; have B3_ : Hid (Below w.heap.size w y3) := B2_.out.grown gr B2_.out.size (fun k h => by cases h; exact G2.out); clear rr bb ll gr) | (at_builtin; refine wpList_app _ rfl (.tmp 45) (.tmp 46) rfl w.heap.size g3 (8 + cN) c3 (putA [99] h p ++ [id] ++ cn) (sn) rfl (by rw [List.length_append, List.length_append, HLP.out, HNC.out]; rfl) R3.out G3.out sa sN sc rfl HNS.out ((HS.out.rd).later B3_.out (Nat.le_refl _)) HZS.out (by rw [List.length_append, List.length_append, HLP.out, HL.out.1, HL.out.2]; simp) ?_; intro g4 c4 y4 rr bb ll gr; have R4 := hid (rr); have G4 : Hid (w.heap.size ≤ g4) := bb; have B4_ : Hid (Below w.heap.size w y4) := B3_.out.grown gr B3_.out.size (fun k h => by cases h; exact G3.out); clear rr bb ll gr))
      refine (specPutN (some ⟨g4, 0, none⟩) (8 + cN + sN) c4 (putA [99] h p ++ [id] ++ cn ++ sn) tick 4 y4 (by have e1 := HNC.out; have e2 := HNS.out; rw [List.length_append, List.length_append, List.length_append, HLP.out, ← e1, ← e2]; rfl) R4.out.rd (by intro e; cases e) (by rw [List.length_append, List.length_append, List.length_append, HLP.out, HL.out.1, HL.out.2]; simp)).mono ?_
      rintro e y5 ⟨g5, m5, c5, rfl, em, kg, rr, b⟩
      have E5 : Hid (m5 = R.length) := by rw [← HQ.out]; exact em
      have R5 : Hid (Row y5 g5 c5 R) := by rw [← HQ.out]; exact rr
      have G5 : Hid (w.heap.size ≤ g5) := Nat.le_trans B4_.out.size kg
      have B5 := hid (B4_.out.trans (b.mono B4_.out.size))
      have HRB : Hid (Bytes R) := by rw [← HRD.out]; exact mintL_bytes HC.out.bytes HS.out.bytes
      clear em kg rr b
      go_wp2
      go_ret
      exact ⟨⟨some ⟨g5, 0, none⟩, m5, c5⟩, rfl, SOwn.row R5.out E5.out HRB.out G5.out R5.out.lt, B5.out⟩
end Go.Proofs.YtpgapjdejelajaaGreatDoor.CkS

namespace Go.Proofs.YtpgapjdejelajaaGreatDoor.ShaS
open Go.RowKit Mem MemI Blk App Get ShaP Word Bits Sched Words WordsOf Comp CompS Go.Proofs.YtpgapjdejelajaaGreatDoor.Start Cuts Pads Adds Ends

theorem putN4 (z : Int) : putN z 4 = num z 4 := rfl
set_option maxHeartbeats 800000 in
theorem l2Out (gh ch : Nat) (h : List Int) (w : World) (hh : h.length = 8) (hr : IRow w gh ch h) :
  Calls Tryz.prog 108 #[.slice (some ⟨gh, 0, none⟩) 8 ch] w fun e w' =>
   ∃ g c, e = .returned (.slice (some ⟨g, 0, none⟩) 32 c) ∧ w.heap.size ≤ g ∧ Row w' g c (outB h) ∧ Below w.heap.size w w' := by
 have HH : Hid (h.length = 8) := hh
 have HR := hid (hr)
 have A0 : Hid (Below w.heap.size w (w.alloc (.cells #[] 5))) := (Below.refl _ _).alloc (Nat.le_refl _) _
 have R0 : Hid (Row (w.alloc (.cells #[] 5)) w.heap.size 0 (outB (h.take 0))) := row_new w [] (by simp)
 clear hh hr
 go_enter Tryz.func108, Tryz.ntmps108
 go_wp2
 go_loopw [3, 4] (fun v i wr => ∃ k gg cc : Nat, k ≤ 8 ∧ i = .int .i64 k ∧ v = .slice (some ⟨gg, 0, none⟩) (4 * k) cc ∧ w.heap.size ≤ gg ∧ Row wr gg cc (outB (h.take k)) ∧ Below w.heap.size w wr)
  (fun _ i _ => 8 - (intOf i).toNat)
 case atStart => exact ⟨0, w.heap.size, 0, Nat.zero_le _, rfl, rfl, Nat.le_refl _, R0.out, A0.out⟩
 case round =>
  obtain ⟨k, gg, cc, hk, rfl, rfl, hgg, hRow, hbe⟩ := hrel
  have HRow := hid (hRow)
  have HBe := hid (hbe)
  clear R0 A0 hRow hbe
  by_cases hlt : k < 8
  ·
   have hc := (HR.out.later HBe.out).cell k (by rw [HH.out]; exact hlt)
   have HT1 : Hid (outB (h.take (k + 1)) = outB (h.take k) ++ putN (h.getD k 0) 4) := by
    show _ = _
    rw [List.take_succ_eq_append_getElem (by rw [HH.out]; exact hlt), outB_snoc, putN4]
    simp [List.getD, HH.out, hlt]
   have HOL : Hid (4 * k = (outB (h.take k)).length) := by show _ = _; rw [outB_length, List.length_take, HH.out]; omega
   generalize h.getD k 0 = z at *
   go_wp2_with fail
   refine (specPutN _ (4 * k) cc _ z 4 wr HOL.out HRow.out.rd (by intro e; cases e) (by rw [← HOL.out]; omega)).mono ?_
   rintro e w2 ⟨g2, m2, c2, rfl, e2, k2, r2, b2⟩
   have HM : Hid (m2 = 4 * (k + 1)) := by show _ = _; rw [e2, List.length_append, ← HOL.out, putN4, num_length]; omega
   have K2 : Hid (w.heap.size ≤ g2) := Nat.le_trans HBe.out.size k2
   have R2 := hid (r2)
   have B2 := hid (HBe.out.trans (b2.mono HBe.out.size))
   clear e2 k2 r2 b2
   go_wp2
   go_roundw
   case rel => exact ⟨k + 1, g2, c2, by omega, by go_num, by rw [HM.out], K2.out, by rw [HT1.out]; exact R2.out, B2.out⟩
   case measure => simp [intOf]; omega
  ·
   obtain rfl : k = 8 := by omega
   have HT8 : Hid (outB h = outB (h.take 8)) := by show _ = _; rw [List.take_of_length_le (by rw [HH.out]; exact Nat.le_refl _)]
   go_wp2
   go_ret
   exact ⟨gg, cc, rfl, hgg, by rw [HT8.out]; exact HRow.out, HBe.out⟩

theorem compI_ok (h b : List Int) (hh : h.length = 8) (hw : Wds h) (hb : b.length = 64) : compI h b = comp h b := by
 unfold compI; rw [if_pos ⟨(okw_iff h).2 ⟨hh, hw⟩, hb⟩]

set_option maxHeartbeats 2000000 in
theorem specSha (a : Option Addr) (n cap : Nat) (b : List Int) (w : World) (hn : n = b.length) (hr : Rd w a b) (na : a = none → cap = 0) (hb : Bytes b) (hl : n ≤ 2097152) :
  Calls Tryz.prog 93 #[.slice a n cap] w fun e w' =>
   ∃ g m c, e = .returned (.slice (some ⟨g, 0, none⟩) m c) ∧ m = (shaI b).length ∧ w.heap.size ≤ g ∧ Row w' g c (shaI b) ∧ Below w.heap.size w w' := by
 have HN : Hid (n = b.length) := hn
 have HR := hid (hr)
 have HB := hid (hb)
 have A0 : Hid (Below w.heap.size w (w.alloc (.cells #[] 5))) := (Below.refl _ _).alloc (Nat.le_refl _) _
 have R0 : Hid (Row (w.alloc (.cells #[] 5)) w.heap.size 0 []) := row_new w [] (by simp)
 clear hn hr hb
 by_cases h1 : n ≤ 1048576
 ·
  have HS : Hid (shaI b = outB (run start8 (b ++ padI (n : Int)) ((b ++ padI (n : Int)).length / 64))) := by
   show _ = _
   unfold shaI; rw [if_pos (by rw [← HN.out]; exact h1), padI_nat n h1, HN.out]; rfl
  have HPL : Hid ((padI (n : Int)).length = 9 + (64 - (n + 9) % 64) % 64) := by show _ = _; rw [padI_nat n h1, padOf_length]
  go_enter Tryz.func93, Tryz.ntmps93
  go_wp2_with (at_builtin; refine wpList_app _ rfl (.tmp 10) (.tmp 11) rfl w.heap.size w.heap.size 0 0 [] b rfl rfl R0.out (Nat.le_refl _) a n cap rfl HN.out (HR.out.later A0.out (Nat.le_refl _)) na (by rw [← HN.out]; simp; omega) ?_; intro g1 c1 w1 r1 b1 l1 gr1; have R1 : Hid (Row w1 g1 c1 b) := (List.nil_append b) ▸ r1; have B1 : Hid (Below w.heap.size w w1) := A0.out.grown gr1 A0.out.size (fun k h => by cases h; exact Nat.le_refl _); clear r1 gr1 l1)
  refine (specPad (n : Int) w1).mono ?_
  rintro e w2 ⟨gp, mp, cp, rfl, e2, k2, r2, b2⟩
  have R2 := hid (r2)
  have E2 : Hid (mp = (padI (n : Int)).length) := e2
  have B2 := hid (B1.out.trans (b2.mono B1.out.size))
  have R12 := hid (R1.out.later b2)
  clear r2 e2 k2 b2
  go_wp2_with (at_builtin; refine wpList_app _ rfl (.tmp 12) (.tmp 15) rfl w.heap.size g1 n c1 b (padI (n : Int)) (by simp [Act.eval]) HN.out R12.out b1 (some ⟨gp, 0, none⟩) mp cp rfl E2.out R2.out.rd (by intro e; cases e) (by rw [← HN.out, HPL.out]; omega) ?_; intro g3 c3 w3 r3 b3 l3 gr3; have R3 := hid (r3); have B3 : Hid (Below w.heap.size w w3) := B2.out.grown gr3 B2.out.size (fun k h => by cases h; exact b1); clear r3 gr3 l3)
  obtain ⟨x, hx⟩ : ∃ x, b ++ padI (n : Int) = x := ⟨_, rfl⟩
  rw [hx] at HS R3
  obtain ⟨L, hL⟩ : ∃ L, n + mp = L := ⟨_, rfl⟩
  have HL : Hid (x.length = L) := by rw [← hx, ← hL, List.length_append, ← HN.out, ← E2.out]; simp [Hid]
  obtain ⟨Q, hQ⟩ : ∃ Q, L = 64 * Q := ⟨L / 64, by have := hid2 HPL E2; omega⟩
  subst hQ
  have HXB : Hid (Bytes x) := by
   rw [← hx]
   exact fun z hz => (List.mem_append.1 hz).elim (HB.out z) (padI_bytes _ z)
  have hQm : 64 * Q ≤ 4194304 := by have := hid2 HPL E2; omega
  rw [hL]
  clear hL hx R1 B1 R2 R12 B2 E2 HPL
  go_wp2_with fail
  refine (specStart w3).mono ?_
  rintro e w4 ⟨rfl, r4, b4⟩
  have HS8 : Hid (start8.length = 8) := (rfl : start8.length = 8)
  have HSW : Hid (Wds start8) := start8_wds
  have KH := hid (B3.out.size)
  have RH := hid (r4)
  have RX := hid (R3.out.later b4)
  have BX := hid (B3.out.trans (b4.mono B3.out.size))
  clear r4 b4 R3 B3
  go_wp2
  go_loopw [4, 5] (fun v i wr => ∃ q gh ch : Nat, q ≤ Q ∧ i = .int .i64 (64 * (q : Int)) ∧ v = .slice (some ⟨gh, 0, none⟩) 8 ch ∧ w.heap.size ≤ gh ∧ IRow wr gh ch (run start8 x q) ∧ Row wr g3 c3 x ∧ Below w.heap.size w wr)
   (fun _ i _ => 64 * Q - (intOf i).toNat)
  case atStart => exact ⟨0, w3.heap.size, 8, Nat.zero_le _, rfl, rfl, KH.out, RH.out, RX.out, BX.out⟩
  case round =>
   obtain ⟨q, gh, ch, hq, rfl, rfl, hgh, hH, hX, hbe⟩ := hrel
   have HH := hid (hH)
   have HX := hid (hX)
   have HBe := hid (hbe)
   have HRL : Hid ((run start8 x q).length = 8) := run_length start8 x q HS8.out
   have HRW : Hid (Wds (run start8 x q)) := run_wds start8 x q HSW.out
   have hc3 : 64 * Q ≤ c3 := by have := hX.1; rw [HL.out] at this; exact this
   clear hH hX hbe KH RH RX BX
   by_cases hlt : q < Q
   ·
    have HPL2 : Hid ((piece x (64 * q) 64).length = 64) := piece_length x (64 * q) 64 (by rw [HL.out]; omega)
    have HP : Hid (Rd wr (some ⟨g3, 64 * q, none⟩) (piece x (64 * q) 64)) := by
     have := rd_piece HX.out.rd (64 * q) 64 (by rw [HL.out]; omega)
     rwa [Nat.zero_add] at this
    have HPB : Hid (Bytes (piece x (64 * q) 64)) := piece_bytes HXB.out _ _
    have HCI : Hid (compI (run start8 x q) (piece x (64 * q) 64) = run start8 x (q + 1)) := compI_ok _ _ HRL.out HRW.out HPL2.out
    have i1 : (64 * (q : Int)) < 64 * (Q : Int) := by omega
    have i2 : (64 * (q : Int)) + 64 ≤ 64 * (Q : Int) := by omega
    go_wp2_with fail
    refine (specCompress (some ⟨gh, 0, none⟩) 8 ch (run start8 x q) (some ⟨g3, 64 * q, none⟩) _ _ (piece x (64 * q) 64) wr HRL.out.symm HH.out.rd (by intro e; cases e) (by omega) (by rw [HPL2.out]) HP.out HPB.out (by omega)).mono ?_
    rintro e w5 ⟨g5, m5, c5, rfl, e5, k5, r5, b5⟩
    rw [HCI.out] at e5 r5
    obtain rfl : m5 = 8 := by rw [e5, run_length start8 x (q + 1) HS8.out]
    have R5 := hid (r5)
    have K5 : Hid (w.heap.size ≤ g5) := Nat.le_trans HBe.out.size k5
    have B5 := hid (HBe.out.trans (b5.mono HBe.out.size))
    have X5 := hid (HX.out.later b5)
    clear r5 e5 k5 b5 HCI HPB HP HPL2
    go_wp2
    go_roundw
    case rel => exact ⟨q + 1, g5, c5, by omega, by go_num, rfl, K5.out, R5.out, X5.out, B5.out⟩
    case measure => simp [intOf]; omega
   ·
    obtain rfl : q = Q := by omega
    have i3 : ¬ (64 * (q : Int) < 64 * (q : Int)) := by omega
    go_wp2_with fail
    refine (l2Out gh ch (run start8 x q) wr HRL.out HH.out).mono ?_
    rintro e w6 ⟨g6, c6, rfl, k6, r6, b6⟩
    have HE : Hid (shaI b = outB (run start8 x q)) := by
     show _ = _
     rw [HS.out, HL.out, Nat.mul_div_cancel_left q (by omega)]
    have HE2 : Hid ((shaI b).length = 32) := by show _ = _; rw [HE.out, outB_length, HRL.out]
    have K6 : Hid (w.heap.size ≤ g6) := Nat.le_trans HBe.out.size k6
    have R6 : Hid (Row w6 g6 c6 (shaI b)) := by show Row _ _ _ _; rw [HE.out]; exact r6
    have B6 := hid (HBe.out.trans (b6.mono HBe.out.size))
    clear r6 k6 b6
    go_wp2
    go_ret
    exact ⟨g6, 32, c6, rfl, HE2.out.symm, K6.out, R6.out, B6.out⟩
 ·
  have HS : Hid (shaI b = []) := by show _ = _; unfold shaI; rw [if_neg (by rw [← HN.out]; exact h1)]
  clear HR HB
  go_enter Tryz.func93, Tryz.ntmps93
  go_wp2
  go_ret
  exact ⟨w.heap.size, 0, 0, by simp, by rw [HS.out]; rfl, Nat.le_refl _, by rw [HS.out]; exact R0.out, A0.out⟩
end Go.Proofs.YtpgapjdejelajaaGreatDoor.ShaS

namespace Go.Proofs.YtpgapjdejelajaaGreatDoor.MacS
open Go.RowKit Mem MemI Blk App Get ShaP Cuts Ends ShaS MacP Pads AppAt

theorem keyI_of (k : List Int) (h : k.length ≤ 1048576) : keyI k = short k ++ List.replicate (64 - (short k).length) 0 := by unfold keyI; rw [if_pos h]
theorem zeros_snoc (l : List Int) (j : Nat) : l ++ List.replicate j (0 : Int) ++ [0] = l ++ List.replicate (j + 1) 0 := by
 rw [List.append_assoc, List.replicate_succ']
theorem mix_take (p : Int) (l : List Int) (k : Nat) (h : k < l.length) : mix p (l.take (k + 1)) = mix p (l.take k) ++ [bits .xor .u8 (l.getD k 0) p] := by
 have e : l.getD k 0 = l[k] := by simp [List.getD, h]
 rw [List.take_succ_eq_append_getElem h, e]
 simp only [mix, List.map_append, List.map_cons, List.map_nil]

set_option maxHeartbeats 1600000 in
theorem specBlockKey (a : Option Addr) (n cap : Nat) (k : List Int) (w : World) (hn : n = k.length) (hr : Rd w a k) (na : a = none → cap = 0) (hb : Bytes k) (hl : n ≤ 2097152) :
  Calls Tryz.prog 92 #[.slice a n cap] w fun e w' =>
   ∃ g m c, e = .returned (.slice (some ⟨g, 0, none⟩) m c) ∧ m = (keyI k).length ∧ w.heap.size ≤ g ∧ Row w' g c (keyI k) ∧ Below w.heap.size w w' := by
 have HN : Hid (n = k.length) := hn
 have HR := hid (hr)
 have HB := hid (hb)
 have A0 : Hid (Below w.heap.size w (w.alloc (.cells #[] 5))) := (Below.refl _ _).alloc (Nat.le_refl _) _
 have R0 : Hid (Row (w.alloc (.cells #[] 5)) w.heap.size 0 []) := row_new w [] (by simp)
 clear hn hr hb
 by_cases h1 : n ≤ 1048576
 ·
  have HK : Hid (keyI k = short k ++ List.replicate (64 - (short k).length) 0) := keyI_of k (by rw [← HN.out]; exact h1)
  have HSL : Hid ((short k).length ≤ 64) := short_len k (by rw [← HN.out]; exact h1)
  have h1I : ¬ ((n : Int) > 1048576) := by omega
  by_cases h2 : n ≤ 64
  ·
   have h2I : ¬ ((n : Int) > 64) := by omega
   have HSH : Hid (short k = k) := by show _ = _; unfold short; rw [if_pos (by rw [← HN.out]; exact h2)]
   go_enter Tryz.func92, Tryz.ntmps92
   go_wp2_with (at_builtin; refine wpList_app _ rfl (.tmp 8) (.tmp 9) rfl w.heap.size w.heap.size 0 0 [] k rfl rfl R0.out (Nat.le_refl _) a n cap rfl HN.out (HR.out.later A0.out (Nat.le_refl _)) na (by rw [← HN.out]; simp; omega) ?_; intro g1 c1 w1 r1 b1 l1 gr1; have R1 : Hid (Row w1 g1 c1 k) := (List.nil_append k) ▸ r1; have G1 : Hid (w.heap.size ≤ g1) := b1; have B1 : Hid (Below w.heap.size w w1) := A0.out.grown gr1 A0.out.size (fun k h => by cases h; exact Nat.le_refl _); clear r1 b1 l1 gr1)
   have EM : Hid (n = (short k).length) := by show _ = _; rw [HSH.out]; exact HN.out
   have R2 : Hid (Row w1 g1 c1 (short k)) := by show Row _ _ _ _; rw [HSH.out]; exact R1.out
   clear R1
   go_loopw [3] (fun v wr => ∃ j gg cc : Nat, n + j ≤ 64 ∧ v = .slice (some ⟨gg, 0, none⟩) (n + j) cc ∧ w.heap.size ≤ gg ∧ Row wr gg cc (short k ++ List.replicate j 0) ∧ Below w.heap.size w wr)
    (fun v _ => 64 - lenOf v)
   case atStart => exact ⟨0, g1, c1, by have := hid2 HSL EM; omega, by simp, G1.out, by simpa using R2.out, B1.out⟩
   case round =>
    obtain ⟨j, gg, cc, hj, rfl, hgg, hRow, hbe⟩ := hrel
    have HRow := hid (hRow)
    have HBe := hid (hbe)
    clear R2 B1 hRow hbe
    by_cases hlt : n + j < 64
    ·
     have hI : ((n + j : Nat) : Int) < 64 := by omega
     have HLN : Hid (n + j = (short k ++ List.replicate j (0 : Int)).length) := by show _ = _; rw [List.length_append, List.length_replicate, EM.out]
     have A1 : Hid (Below w.heap.size w (wr.alloc (.cells #[.int .u8 0] 5))) := HBe.out.alloc HBe.out.size _
     generalize hL : n + j = L at *
     go_wp2_with (at_builtin; refine wpList_app _ rfl (.tmp 19) (.tmp 20) rfl w.heap.size gg L cc (short k ++ List.replicate j 0) [0] rfl HLN.out (row_alloc HRow.out _) hgg (some ⟨wr.heap.size, 0, none⟩) 1 1 rfl rfl (rd_one wr 0) (by intro e; cases e) (by rw [← HLN.out]; simp; omega) ?_; intro g3 c3 w3 r3 k3 l3 gr3; have R3 : Hid (Row w3 g3 c3 (short k ++ List.replicate (j + 1) 0)) := (zeros_snoc (short k) j) ▸ r3; have G3 : Hid (w.heap.size ≤ g3) := k3; have B3 : Hid (Below w.heap.size w w3) := A1.out.grown gr3 A1.out.size (fun k h => by cases h; exact hgg); clear r3 k3 l3 gr3)
     go_roundw
     case rel => exact ⟨j + 1, g3, c3, by omega, by rw [← Nat.add_assoc, hL], G3.out, R3.out, B3.out⟩
     case measure => simp [lenOf]; omega
    ·
     have hI : ¬ (((n + j : Nat) : Int) < 64) := by omega
     have HJ : Hid (j = 64 - (short k).length) := by show _ = _; have := EM.out; omega
     have HM : Hid (n + j = 64) := by show _ = _; omega
     go_wp2
     go_ret
     exact ⟨gg, n + j, cc, rfl, by rw [HK.out, HM.out, List.length_append, List.length_replicate]; have := HSL.out; omega, hgg, by rw [HK.out, ← HJ.out]; exact HRow.out, HBe.out⟩
  ·
   have h2I : (n : Int) > 64 := by omega
   have HSH : Hid (short k = shaI k) := by show _ = _; unfold short; rw [if_neg (by rw [← HN.out]; exact h2)]
   go_enter Tryz.func92, Tryz.ntmps92
   go_wp2_with (at_builtin; refine wpList_app _ rfl (.tmp 8) (.tmp 9) rfl w.heap.size w.heap.size 0 0 [] k rfl rfl R0.out (Nat.le_refl _) a n cap rfl HN.out (HR.out.later A0.out (Nat.le_refl _)) na (by rw [← HN.out]; simp; omega) ?_; intro g1 c1 w1 r1 b1 l1 gr1; have R1 : Hid (Row w1 g1 c1 k) := (List.nil_append k) ▸ r1; have G1 : Hid (w.heap.size ≤ g1) := b1; have B1 : Hid (Below w.heap.size w w1) := A0.out.grown gr1 A0.out.size (fun k h => by cases h; exact Nat.le_refl _); clear r1 b1 l1 gr1)
   refine (specSha a n cap k w1 HN.out (HR.out.later B1.out (Nat.le_refl _)) na HB.out (by omega)).mono ?_
   rintro e w2 ⟨g2, m2, c2, rfl, e2, k2, r2, b2⟩
   have EM : Hid (m2 = (short k).length) := by show _ = _; rw [HSH.out]; exact e2
   have R2 : Hid (Row w2 g2 c2 (short k)) := by show Row _ _ _ _; rw [HSH.out]; exact r2
   have G2 : Hid (w.heap.size ≤ g2) := Nat.le_trans B1.out.size k2
   have B2 := hid (B1.out.trans (b2.mono B1.out.size))
   clear R1 e2 r2 k2 b2
   go_wp2
   go_loopw [3] (fun v wr => ∃ j gg cc : Nat, m2 + j ≤ 64 ∧ v = .slice (some ⟨gg, 0, none⟩) (m2 + j) cc ∧ w.heap.size ≤ gg ∧ Row wr gg cc (short k ++ List.replicate j 0) ∧ Below w.heap.size w wr)
    (fun v _ => 64 - lenOf v)
   case atStart => exact ⟨0, g2, c2, by have := hid2 HSL EM; omega, by simp, G2.out, by simpa using R2.out, B2.out⟩
   case round =>
    obtain ⟨j, gg, cc, hj, rfl, hgg, hRow, hbe⟩ := hrel
    have HRow := hid (hRow)
    have HBe := hid (hbe)
    clear R2 B2 hRow hbe
    by_cases hlt : m2 + j < 64
    ·
     have hI : ((m2 + j : Nat) : Int) < 64 := by omega
     have HLN : Hid (m2 + j = (short k ++ List.replicate j (0 : Int)).length) := by show _ = _; rw [List.length_append, List.length_replicate, EM.out]
     have A1 : Hid (Below w.heap.size w (wr.alloc (.cells #[.int .u8 0] 5))) := HBe.out.alloc HBe.out.size _
     generalize hL : m2 + j = L at *
     go_wp2_with (at_builtin; refine wpList_app _ rfl (.tmp 19) (.tmp 20) rfl w.heap.size gg L cc (short k ++ List.replicate j 0) [0] rfl HLN.out (row_alloc HRow.out _) hgg (some ⟨wr.heap.size, 0, none⟩) 1 1 rfl rfl (rd_one wr 0) (by intro e; cases e) (by rw [← HLN.out]; simp; omega) ?_; intro g3 c3 w3 r3 k3 l3 gr3; have R3 : Hid (Row w3 g3 c3 (short k ++ List.replicate (j + 1) 0)) := (zeros_snoc (short k) j) ▸ r3; have G3 : Hid (w.heap.size ≤ g3) := k3; have B3 : Hid (Below w.heap.size w w3) := A1.out.grown gr3 A1.out.size (fun k h => by cases h; exact hgg); clear r3 k3 l3 gr3)
     go_roundw
     case rel => exact ⟨j + 1, g3, c3, by omega, by rw [← Nat.add_assoc, hL], G3.out, R3.out, B3.out⟩
     case measure => simp [lenOf]; omega
    ·
     have hI : ¬ (((m2 + j : Nat) : Int) < 64) := by omega
     have HJ : Hid (j = 64 - (short k).length) := by show _ = _; have := EM.out; omega
     have HM : Hid (m2 + j = 64) := by show _ = _; omega
     go_wp2
     go_ret
     exact ⟨gg, m2 + j, cc, rfl, by rw [HK.out, HM.out, List.length_append, List.length_replicate]; have := HSL.out; omega, hgg, by rw [HK.out, ← HJ.out]; exact HRow.out, HBe.out⟩
 ·
  have HK : Hid (keyI k = []) := keyI_none k (by rw [← HN.out]; exact h1)
  have h1I : (n : Int) > 1048576 := by omega
  go_enter Tryz.func92, Tryz.ntmps92
  go_wp2
  go_ret
  exact ⟨w.heap.size, 0, 0, by simp, by rw [HK.out]; rfl, Nat.le_refl _, by rw [HK.out]; exact R0.out, A0.out⟩

set_option maxHeartbeats 3200000 in
theorem specHmac (a0 : Option Addr) (n0 c0 : Nat) (a1 : Option Addr) (n1 c1 : Nat) (k b : List Int) (w : World) (e0 : n0 = k.length) (e1 : n1 = b.length) (r0 : Rd w a0 k) (r1 : Rd w a1 b) (na0 : a0 = none → c0 = 0) (na1 : a1 = none → c1 = 0) (hb0 : Bytes k) (hb1 : Bytes b) (l0 : n0 ≤ 2097152) (l1 : n1 ≤ 2097152) :
  Calls Tryz.prog 71 #[.slice a0 n0 c0, .slice a1 n1 c1] w fun e w' =>
   ∃ g m c, e = .returned (.slice (some ⟨g, 0, none⟩) m c) ∧ m = (hmacI k b).length ∧ w.heap.size ≤ g ∧ Row w' g c (hmacI k b) ∧ Below w.heap.size w w' := by
 have HN0 : Hid (n0 = k.length) := e0
 have HN1 : Hid (n1 = b.length) := e1
 have HR0 := hid (r0)
 have HR1 := hid (r1)
 have HB0 := hid (hb0)
 have HB1 := hid (hb1)
 clear e0 e1 r0 r1 hb0 hb1
 by_cases h1 : n0 ≤ 1048576 ∧ n1 ≤ 1048512
 ·
  have HL : Hid ((keyI k).length = 64) := keyI_len k (by rw [← HN0.out]; exact h1.1)
  have HH : Hid (hmacI k b = shaI (mix 92 (keyI k) ++ shaI (mix 54 (keyI k) ++ b))) := by
   show _ = _
   unfold hmacI; rw [if_pos ⟨by rw [← HN0.out]; exact h1.1, by rw [← HN1.out]; exact h1.2⟩]
  have HKB : Hid (Bytes (keyI k)) := keyI_bytes k HB0.out
  obtain ⟨h1a, h1b⟩ := h1
  have h1I : ¬ ((n0 : Int) > 1048576) := by omega
  have h2I : ¬ ((n1 : Int) > 1048512) := by omega
  go_enter Tryz.func71, Tryz.ntmps71
  go_wp2_with fail
  refine (specBlockKey a0 n0 c0 k w HN0.out HR0.out na0 HB0.out l0).mono ?_
  rintro e w1 ⟨gk, mk, ck, rfl, em, k1, r1, b1⟩
  have hm : mk = 64 := by rw [em, HL.out]
  subst hm
  have R1 := hid (r1)
  have B1 := hid (b1)
  obtain ⟨y, hy⟩ : ∃ y, keyI k = y := ⟨_, rfl⟩
  rw [hy] at HH HKB HL R1
  clear em k1 r1 b1 hy
  obtain ⟨w3, hw3⟩ : ∃ w3, (w1.alloc (.cells #[] 5)).alloc (.cells #[] 5) = w3 := ⟨_, rfl⟩
  have HW3 := hid (hw3)
  have RI3 : Hid (Row w3 w1.heap.size 0 (mix 54 (y.take 0))) := by rw [← hw3]; exact row_alloc (row_new w1 [] (by simp)) _
  have RO3 : Hid (Row w3 (w1.heap.size + 1) 0 (mix 92 (y.take 0))) := by
   have := row_new (w1.alloc (.cells #[] 5)) [] (by simp)
   rw [show (w1.alloc (.cells #[] 5)).heap.size = w1.heap.size + 1 by simp] at this
   rw [← hw3]; exact this
  have B3 : Hid (Below w.heap.size w w3) := by rw [← hw3]; exact (B1.out.alloc B1.out.size _).alloc (by simp; exact Nat.le_trans B1.out.size (Nat.le_succ _)) _
  have BK3 : Hid (Below w1.heap.size w1 w3) := by rw [← hw3]; exact ((Below.refl _ _).alloc (Nat.le_refl _) _).alloc (by simp) _
  have RK3 := hid (R1.out.later BK3.out)
  have HGK : Hid (gk < w1.heap.size) := R1.out.lt
  clear hw3 R1
  go_wp2
  rw [HW3.out]
  go_loopw [6, 7, 8] (fun v u i wr => ∃ j gi ci go co : Nat, j ≤ 64 ∧ i = .int .i64 j ∧ v = .slice (some ⟨gi, 0, none⟩) j ci ∧ u = .slice (some ⟨go, 0, none⟩) j co ∧ w1.heap.size ≤ gi ∧ w1.heap.size ≤ go ∧ gi ≠ go ∧ Row wr gi ci (mix 54 (y.take j)) ∧ Row wr go co (mix 92 (y.take j)) ∧ Below w1.heap.size w1 wr ∧ Row wr gk ck y)
   (fun _ _ i _ => 64 - (intOf i).toNat)
  case atStart => exact ⟨0, w1.heap.size, 0, w1.heap.size + 1, 0, by omega, rfl, rfl, rfl, Nat.le_refl _, by omega, by omega, RI3.out, RO3.out, BK3.out, RK3.out⟩
  case round =>
   obtain ⟨j, gi, ci, go, co, hj, rfl, rfl, rfl, hgi, hgo, hne, hRi, hRo, hbe, hK⟩ := hrel
   have HRi := hid (hRi)
   have HRo := hid (hRo)
   have HBe := hid (hbe)
   have HK := hid (hK)
   have HNE : Hid (gi ≠ go) := hne
   clear RI3 RO3 B3 BK3 RK3 hRi hRo hbe hK hne
   have ML : ∀ p, j = (mix p (y.take j)).length := fun p => by rw [mix_length, List.length_take, HL.out]; omega
   have HML : Hid (∀ p, j = (mix p (y.take j)).length) := ML
   clear ML
   by_cases hlt : j < 64
   ·
    have hc := HK.out.cell j (by rw [HL.out]; exact hlt)
    have T1 : Hid (∀ p, mix p (y.take (j + 1)) = mix p (y.take j) ++ [bits .xor .u8 (y.getD j 0) p]) := fun p => mix_take p y j (by rw [HL.out]; exact hlt)
    obtain ⟨z, hz⟩ : ∃ z, y.getD j 0 = z := ⟨_, rfl⟩
    have HZ : Hid (z = y.getD j 0) := hz.symm
    rw [hz] at hc T1
    clear hz
    go_wp2_with (first | (at_builtin; refine wpList_app_at _ rfl (.tmp 26) (.tmp 32) rfl w1.heap.size gi j ci (mix 54 (y.take j)) [bits .xor .u8 z 54] rfl (HML.out 54) (row_alloc HRi.out _) hgi (some ⟨wr.heap.size, 0, none⟩) 1 1 rfl rfl (rd_one wr _) (by intro e; cases e) (by rw [← HML.out 54, List.length_singleton]; omega) ?_; intro g4 c4 w4 r4 k4 l4 gr4; have RI4 : Hid (Row w4 g4 c4 (mix 54 (y.take (j + 1)))) := (by show Row _ _ _ _; rw [T1.out 54]; exact r4); have GI4 : Hid (w1.heap.size ≤ g4) := k4; have RO4 : Hid (Row w4 go co (mix 92 (y.take j))) := (row_alloc HRo.out _).keep (gr4.block go (row_alloc HRo.out _).lt (by simp only [ne_eq, Option.some.injEq]; exact Ne.symm HNE.out)); have NE4 : Hid (g4 ≠ go) := (by rcases l4 with rfl | h; exact HNE.out; exact Nat.ne_of_gt (Nat.lt_of_lt_of_le (row_alloc HRo.out _).lt h)); have HK4 : Hid (Row w4 gk ck y) := (row_alloc HK.out _).keep (gr4.block gk (row_alloc HK.out _).lt (by simp only [ne_eq, Option.some.injEq]; exact Nat.ne_of_lt (Nat.lt_of_lt_of_le HGK.out hgi))); have B4 : Hid (Below w1.heap.size w1 w4) := (HBe.out.alloc HBe.out.size _).grown gr4 (Below.size (HBe.out.alloc HBe.out.size _)) (fun k h => by cases h; exact hgi); have hc4 : w4.cell? ⟨gk, j, none⟩ = some (.int .u8 z) := (by rw [HZ.out]; exact HK4.out.cell j (by rw [HL.out]; exact hlt)); clear r4 k4 l4 gr4) | (at_builtin; refine wpList_app_at _ rfl (.tmp 34) (.tmp 40) rfl w1.heap.size go j co (mix 92 (y.take j)) [bits .xor .u8 z 92] rfl (HML.out 92) (row_alloc RO4.out _) hgo (some ⟨w4.heap.size, 0, none⟩) 1 1 rfl rfl (rd_one w4 _) (by intro e; cases e) (by rw [← HML.out 92, List.length_singleton]; omega) ?_; intro g5 c5 w5 r5 k5 l5 gr5; have RO5 : Hid (Row w5 g5 c5 (mix 92 (y.take (j + 1)))) := (by show Row _ _ _ _; rw [T1.out 92]; exact r5); have GO5 : Hid (w1.heap.size ≤ g5) := k5; have RI5 : Hid (Row w5 g4 c4 (mix 54 (y.take (j + 1)))) := (row_alloc RI4.out _).keep (gr5.block g4 (row_alloc RI4.out _).lt (by simp only [ne_eq, Option.some.injEq]; exact NE4.out)); have NE5 : Hid (g4 ≠ g5) := (by rcases l5 with rfl | h; exact NE4.out; exact Nat.ne_of_lt (Nat.lt_of_lt_of_le (row_alloc RI4.out _).lt h)); have HK5 : Hid (Row w5 gk ck y) := (row_alloc HK4.out _).keep (gr5.block gk (row_alloc HK4.out _).lt (by simp only [ne_eq, Option.some.injEq]; exact Nat.ne_of_lt (Nat.lt_of_lt_of_le HGK.out hgo))); have B5 : Hid (Below w1.heap.size w1 w5) := (B4.out.alloc B4.out.size _).grown gr5 (Below.size (B4.out.alloc B4.out.size _)) (fun k h => by cases h; exact hgo); clear r5 k5 l5 gr5))
    go_roundw
    case rel => exact ⟨j + 1, g4, c4, g5, c5, by omega, by go_num, rfl, rfl, GI4.out, GO5.out, NE5.out, RI5.out, RO5.out, B5.out, HK5.out⟩
    case measure => simp [intOf]; omega
   ·
    obtain rfl : j = 64 := by omega
    have TY : Hid (y.take 64 = y) := by show _ = _; rw [List.take_of_length_le (by rw [HL.out]; exact Nat.le_refl _)]
    rw [TY.out] at HRi HRo HML
    have BW := hid (B1.out.trans (HBe.out.mono B1.out.size))
    go_wp2_with (first | (at_builtin; refine wpList_app_at _ rfl (.tmp 43) (.tmp 44) rfl w1.heap.size gi 64 ci (mix 54 y) b rfl (HML.out 54) HRi.out hgi a1 n1 c1 rfl HN1.out (HR1.out.later BW.out (Nat.le_refl _)) na1 (by rw [← HML.out 54, ← HN1.out]; omega) ?_; intro g6 c6 w6 r6 k6 l6 gr6; have R6 := hid (r6); have RO6 := hid (HRo.out.keep (gr6.block go HRo.out.lt (by simp only [ne_eq, Option.some.injEq]; exact Ne.symm HNE.out))); have B6 : Hid (Below w1.heap.size w1 w6) := HBe.out.grown gr6 HBe.out.size (fun k h => by cases h; exact hgi); clear r6 k6 l6 gr6) | fail)
    have BW6 := hid (B1.out.trans (B6.out.mono B1.out.size))
    have HL6 : Hid (64 + n1 = (mix 54 y ++ b).length) := by show _ = _; rw [List.length_append, ← HML.out 54, HN1.out]
    have HB6 : Hid (Bytes (mix 54 y ++ b)) := bytes_append (mix_bytes 54 _ HKB.out (by omega) (by omega)) HB1.out
    refine (specSha _ (64 + n1) c6 _ w6 HL6.out R6.out.rd (by intro e; cases e) HB6.out (by omega)).mono ?_
    rintro e w7 ⟨g7, m7, c7, rfl, em, k7, r7, b7⟩
    have HS7 : Hid ((shaI (mix 54 y ++ b)).length = 32) := shaI_len _ (by rw [← HL6.out]; omega)
    have hm7 : m7 = 32 := by rw [em, HS7.out]
    subst hm7
    have R7 := hid (r7)
    have RO7 := hid (RO6.out.later b7)
    have B7 := hid (B6.out.trans (b7.mono B6.out.size))
    clear em k7 r7 b7 R6 RO6 B6 BW6
    go_wp2_with (first | (at_builtin; refine wpList_app_at _ rfl (.tmp 42) (.tmp 46) rfl w1.heap.size go 64 co (mix 92 y) (shaI (mix 54 y ++ b)) rfl (HML.out 92) RO7.out hgo (some ⟨g7, 0, none⟩) 32 c7 rfl HS7.out.symm R7.out.rd (by intro e; cases e) (by rw [← HML.out 92, HS7.out]; omega) ?_; intro g8 c8 w8 r8 k8 l8 gr8; have R8 := hid (r8); have B8 : Hid (Below w1.heap.size w1 w8) := B7.out.grown gr8 B7.out.size (fun k h => by cases h; exact hgo); clear r8 k8 l8 gr8) | fail)
    have BW8 := hid (B1.out.trans (B8.out.mono B1.out.size))
    have HL8 : Hid (64 + 32 = (mix 92 y ++ shaI (mix 54 y ++ b)).length) := by show _ = _; rw [List.length_append, ← HML.out 92, HS7.out]
    have HB8 : Hid (Bytes (mix 92 y ++ shaI (mix 54 y ++ b))) := bytes_append (mix_bytes 92 _ HKB.out (by omega) (by omega)) (shaI_bytes _)
    refine (specSha _ (64 + 32) c8 _ w8 HL8.out R8.out.rd (by intro e; cases e) HB8.out (by omega)).mono ?_
    rintro e w9 ⟨g9, m9, c9, rfl, em, k9, r9, b9⟩
    have EM : Hid (m9 = (hmacI k b).length) := by show _ = _; rw [HH.out]; exact em
    have K9 : Hid (w.heap.size ≤ g9) := Nat.le_trans BW8.out.size k9
    have R9 : Hid (Row w9 g9 c9 (hmacI k b)) := by show Row _ _ _ _; rw [HH.out]; exact r9
    have B9 := hid (BW8.out.trans (b9.mono BW8.out.size))
    clear em k9 r9 b9
    go_wp2
    go_ret
    exact ⟨g9, m9, c9, rfl, EM.out, K9.out, R9.out, B9.out⟩
 ·
  have HH : Hid (hmacI k b = []) := hmacI_none k b (by rw [← HN0.out, ← HN1.out]; exact h1)
  have A0 : Hid (Below w.heap.size w (w.alloc (.cells #[] 5))) := (Below.refl _ _).alloc (Nat.le_refl _) _
  have R0 : Hid (Row (w.alloc (.cells #[] 5)) w.heap.size 0 []) := row_new w [] (by simp)
  by_cases h2 : n0 ≤ 1048576
  ·
   have h1I : ¬ ((n0 : Int) > 1048576) := by omega
   have h2I : (n1 : Int) > 1048512 := by omega
   clear h1
   go_enter Tryz.func71, Tryz.ntmps71
   go_wp2
   go_ret
   exact ⟨w.heap.size, 0, 0, by simp, by rw [HH.out]; rfl, Nat.le_refl _, by rw [HH.out]; exact R0.out, A0.out⟩
  ·
   have h1I : (n0 : Int) > 1048576 := by omega
   clear h1
   go_enter Tryz.func71, Tryz.ntmps71
   go_wp2
   go_ret
   exact ⟨w.heap.size, 0, 0, by simp, by rw [HH.out]; rfl, Nat.le_refl _, by rw [HH.out]; exact R0.out, A0.out⟩

set_option maxHeartbeats 800000 in
theorem specTag (a0 : Option Addr) (n0 c0 : Nat) (a1 : Option Addr) (n1 c1 : Nat) (k b : List Int) (w : World) (e0 : n0 = k.length) (e1 : n1 = b.length) (r0 : Rd w a0 k) (r1 : Rd w a1 b) (na0 : a0 = none → c0 = 0) (na1 : a1 = none → c1 = 0) (hb0 : Bytes k) (hb1 : Bytes b) (l0 : n0 ≤ 2097152) (l1 : n1 ≤ 2097152) :
  Calls Tryz.prog 38 #[.slice a0 n0 c0, .slice a1 n1 c1] w fun e w' =>
   ∃ g m c, e = .returned (.slice (some ⟨g, 0, none⟩) m c) ∧ m = (tagI k b).length ∧ w.heap.size ≤ g ∧ Row w' g c (tagI k b) ∧ Below w.heap.size w w' := by
 have HN0 : Hid (n0 = k.length) := e0
 have HN1 : Hid (n1 = b.length) := e1
 have HR0 := hid (r0)
 have HR1 := hid (r1)
 have HB0 := hid (hb0)
 have HB1 := hid (hb1)
 clear e0 e1 r0 r1 hb0 hb1
 go_enter Tryz.func38, Tryz.ntmps38
 go_wp2_with fail
 refine (specHmac a0 n0 c0 a1 n1 c1 k b w HN0.out HN1.out HR0.out HR1.out na0 na1 HB0.out HB1.out l0 l1).mono ?_
 rintro e w1 ⟨g, m, c, rfl, em, k1, r1, b1⟩
 have EM : Hid (m = (hmacI k b).length) := em
 have R1 := hid (r1)
 have B1 := hid (b1)
 have hm : m = 32 ∨ m = 0 := by
  rw [em]
  by_cases h : k.length ≤ 1048576 ∧ b.length ≤ 1048512
  ·
   exact .inl (hmacI_len k b h.1 h.2)
  ·
   exact .inr (by rw [hmacI_none k b h]; rfl)
 have hmc : m ≤ c := by rw [em]; exact r1.1
 have A1 : Hid (Below w.heap.size w (w1.alloc (.cells #[] 5))) := B1.out.alloc B1.out.size _
 have N1 : Hid (Row (w1.alloc (.cells #[] 5)) w1.heap.size 0 []) := row_new w1 [] (by simp)
 clear em k1 r1 b1
 rcases hm with rfl | rfl
 ·
  have hcI : (32 : Int) ≤ (c : Int) := by omega
  have TL : Hid (16 = (tagI k b).length) := by show _ = _; unfold tagI; rw [List.length_take, ← EM.out]; rfl
  have RT : Hid (Rd (w1.alloc (.cells #[] 5)) (some ⟨g, 0, none⟩) (tagI k b)) := by
   have h1 := (row_alloc R1.out (.cells #[] 5)).rd
   show Rd _ _ _
   intro i hi
   rw [← TL.out] at hi
   obtain ⟨x, off, e, hx, hh⟩ := h1 i (by rw [← EM.out]; omega)
   refine ⟨x, off, e, hx, ?_⟩
   rw [hh]
   unfold tagI
   simp [List.getD, hi]
  go_wp2_with (at_builtin; refine wpList_app _ rfl (.tmp 13) (.tmp 15) rfl w.heap.size w1.heap.size 0 0 [] (tagI k b) rfl rfl N1.out B1.out.size (some ⟨g, 0, none⟩) 16 c rfl TL.out RT.out (by intro e; cases e) (by rw [← TL.out]; simp) ?_; intro g2 c2 w2 r2 k2 l2 gr2; have R2 : Hid (Row w2 g2 c2 (tagI k b)) := (List.nil_append (tagI k b)) ▸ r2; have G2 : Hid (w.heap.size ≤ g2) := k2; have B2 : Hid (Below w.heap.size w w2) := A1.out.grown gr2 A1.out.size (fun k h => by cases h; exact B1.out.size); clear r2 k2 l2 gr2)
  go_ret
  exact ⟨g2, 16, c2, rfl, TL.out, G2.out, R2.out, B2.out⟩
 ·
  have HT : Hid (tagI k b = []) := by
   show _ = _
   have : hmacI k b = [] := List.eq_nil_of_length_eq_zero EM.out.symm
   unfold tagI; rw [this]; rfl
  go_wp2
  go_ret
  exact ⟨w1.heap.size, 0, 0, by simp, by rw [HT.out]; rfl, B1.out.size, by rw [HT.out]; exact N1.out, A1.out⟩
end Go.Proofs.YtpgapjdejelajaaGreatDoor.MacS
