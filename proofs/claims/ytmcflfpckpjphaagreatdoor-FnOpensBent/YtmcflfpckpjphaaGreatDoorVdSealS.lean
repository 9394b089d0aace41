/-
  What spec seals.
-/
import Derived.Test.YtmcflfpckpjphaaGreatDoorVdUnsS
import Derived.Test.YtmcflfpckpjphaaGreatDoorVdBas6
import Derived.Test.YtmcflfpckpjphaaGreatDoorVdBas3
set_option maxRecDepth 100000
namespace Go.Proofs.YtmcflfpckpjphaaGreatDoor.SealS
open Go.RowKit Mem App Blk Words Zone Res MacP MacS KdfP StrS FrZ FrL FrP FrG FrS FrQ FrQ2 SlP SlS SlQ Shp UnsS

theorem grown_none_below {w w' : World} (h : w.grownBy w' none) : Below w.heap.size w w' := (Below.refl _ _).grown h (Nat.le_refl _) (fun k hk => by cases hk)
theorem wpList_own (w : World) {ops : Array Oper} {rest : List Oper} {o : Oper} {a : Act} {Q : Exit → Act → World → Prop} (hgd : o.guard = none) (s x : Operand)
  (ho : o.op = .call { callee := .builtin .append, args := #[s, x], argTypes := #[22, 22] })
  (lo hi : Nat) (S : Sl) (l y : List Int) (hs : a.eval s = .slice S.a S.n S.c) (hS : SOwn w lo hi S l)
  (ad : Addr) (m c : Nat) (hx : a.eval x = .slice (some ad) m c) (hm : m = y.length) (hrd : Rd w (some ad) y) (hy : y ≠ []) (hsum : l.length + y.length ≤ 100000000)
  (h : ∀ g' cap' w', Row w' g' cap' (l ++ y) → lo ≤ g' ∨ w.heap.size ≤ g' → Kept lo hi w w' → wpList Tryz.prog ops Q rest (a.put o.dst (.slice (some ⟨g', 0, none⟩) (S.n + m) cap')) w') :
  wpList Tryz.prog ops Q (o :: rest) a w := by
 obtain ⟨_, ⟨rfl, rfl⟩ | ⟨g, h1, h2, h3, h4, h5⟩⟩ := hS
 ·
  obtain ⟨i0, hinf, hz0, hz1, hz2⟩ := info_parts info8
  subst hm
  have hown0 : w.ownsRow w.heap.size 5 1 (.slice none 0 0) 0 [] := ⟨rfl, .inl ⟨rfl, rfl⟩⟩
  refine wpList_append_own w hgd s x 22 ho w.heap.size 5 i0 (.int .u8 0) 1 1 Tryz.underlying22 hinf hz0 hz1 hz2 rfl (by decide) _ _ _ hs hown0 ad y.length c (y.map (Value.int .u8)) hx (by simp) (Rd.cells hrd) (ints_oneCell _ _) (by unfold maxLen; omega) (by simp at hsum; omega) (by simp) ?_
  intro v' w' hown hgr hiff
  rcases hown.2 with ⟨hv, h0⟩ | ⟨g', cap', cur, rfl, hb, hg', _⟩
  ·
   exfalso
   have : y.length = 0 := by simpa using h0
   exact hy (List.length_eq_zero_iff.1 this)
  ·
   rw [List.nil_append] at hown
   obtain ⟨r1, r2, _, r4⟩ := Row.of hown
   exact h g' cap' w' r1 (.inr r2) (Kept.of_below (grown_none_below hgr) 0).any
 ·
  obtain ⟨sa, sn, sc⟩ := S
  simp only at h1 h2 h5 hs
  subst h1
  refine wpList_app w hgd s x ho g g sn sc l y hs h2 h5 (Nat.le_refl _) (some ad) m c hx hm hrd (by intro e; cases e) hsum ?_
  intro g' cap' w' r1 r2 r4 gr
  exact h g' cap' w' r1 (.inl (Nat.le_trans h3 r2)) ((Kept.of_grown gr).mono h3 h4)
def draftS (s p t : Sl) : FrS := ⟨⟨none, 0, 0⟩, s, ⟨none, 0, 0⟩, ⟨none, 0, 0⟩, p, t⟩
theorem draft_rd {w : World} {s p t : Sl} {l pl u : List Int} {epoch seq kind : Int} (h1 : SRd w s l) (h2 : SRd w p pl) (h3 : SRd w t u) : FrRd w (draftS s p t) (draftD l epoch seq kind pl u) :=
 ⟨nilRd w, h1, nilRd w, nilRd w, h2, h3⟩
theorem zeros_bytes (n : Nat) : Bytes (List.replicate n (0 : Int)) := fun z hz => by have := List.eq_of_mem_replicate hz; omega

theorem sown_block {w : World} {lo hi : Nat} {s : Sl} {l : List Int} (h : SOwn w lo hi s l) : s.a = none ∨ ∃ g, s.a = some ⟨g, 0, none⟩ ∧ lo ≤ g ∧ g < hi := by
 obtain ⟨_, ⟨rfl, _⟩ | ⟨g, h1, _, h3, h4, _⟩⟩ := h
 ·
  exact .inl rfl
 ·
  exact .inr ⟨g, h1, h3, h4⟩
theorem sown_apart {w : World} {a b c d : Nat} {s t : Sl} {l u : List Int} (h : SOwn w a b s l) (k : SOwn w c d t u) (z : b ≤ c ∨ d ≤ a) : s.a = none ∨ s.a ≠ t.a := by
 rcases sown_block h with h | ⟨g, h1, h2, h3⟩
 ·
  exact .inl h
 ·
  refine .inr ?_
  rcases sown_block k with k | ⟨g', k1, k2, k3⟩
  ·
   rw [h1, k]; intro e; cases e
  ·
   rw [h1, k1]; intro e; simp only [Option.some.injEq, Addr.mk.injEq, and_true] at e; omega
theorem draft_own {w : World} {lo hi a b c d e f : Nat} {s p t : Sl} {l u v : List Int} {epoch seq kind : Int} (h1 : SOwn w a b s l) (h2 : SOwn w c d p u) (h3 : SOwn w e f t v) (z1 : lo ≤ a ∧ b ≤ hi) (z2 : lo ≤ c ∧ d ≤ hi) (z3 : lo ≤ e ∧ f ≤ hi) (z4 : b ≤ c) (z5 : b ≤ e ∧ d ≤ e) : FrOwn w lo hi (draftS s p t) (draftD l epoch seq kind u v) :=
 ⟨SOwn.nil _ _ _, h1.mono z1.1 z1.2, SOwn.nil _ _ _, SOwn.nil _ _ _, h2.mono z2.1 z2.2, h3.mono z3.1 z3.2, by
  have q1 := sown_apart h1 h2 (.inl z4)
  have q2 := sown_apart h1 h3 (.inl z5.1)
  have q3 := sown_apart h2 h3 (.inl z5.2)
  have n1 : s.a = none ∨ s.a ≠ none := by cases s.a <;> simp
  constructor <;> first | exact .inl rfl | exact q1 | exact q2 | exact q3 | exact n1⟩

def AnsS (D : FrD) (ok : Bool) (w : World) : Ending → World → Prop := fun e w' => ∃ S0 : FrS, e = .returned (.tuple #[frV D S0, .bool ok]) ∧ FrOwn w' w.heap.size w'.heap.size S0 D ∧ Below w.heap.size w w'
theorem own_nil (w : World) (lo hi : Nat) : FrOwn w lo hi ⟨⟨none, 0, 0⟩, ⟨none, 0, 0⟩, ⟨none, 0, 0⟩, ⟨none, 0, 0⟩, ⟨none, 0, 0⟩, ⟨none, 0, 0⟩⟩ zeroF :=
 ⟨SOwn.nil _ _ _, SOwn.nil _ _ _, SOwn.nil _ _ _, SOwn.nil _ _ _, SOwn.nil _ _ _, SOwn.nil _ _ _, ⟨.inl rfl, .inl rfl, .inl rfl, .inl rfl, .inl rfl, .inl rfl, .inl rfl, .inl rfl, .inl rfl, .inl rfl, .inl rfl, .inl rfl, .inl rfl, .inl rfl, .inl rfl⟩⟩

set_option maxHeartbeats 8000000 in
theorem specSeal (k s p : Sl) (lk l pl : List Int) (role epoch seq kind : Int) (w : World) (hk : SRd w k lk) (hs : SRd w s l) (hp : SRd w p pl) :
  Calls Tryz.prog 14 #[.slice k.a k.n k.c, .int .i64 role, .slice s.a s.n s.c, .int .i64 epoch, .int .i64 seq, .int .i64 kind, .slice p.a p.n p.c] w (AnsS (sealF lk role l epoch seq kind pl) (sealB lk role l epoch seq kind pl) w) := by
 have HK := hid (hk)
 have HS := hid (hs)
 have HP := hid (hp)
 have HLK : Hid (k.n = lk.length ∧ s.n = l.length ∧ p.n = pl.length) := ⟨hk.len, hs.len, hp.len⟩
 have HSN : Hid (s.a = none → s.c = 0) := hs.nil
 clear hk hs hp
 obtain ⟨v, hv⟩ : ∃ v, sealB lk role l epoch seq kind pl = v := ⟨_, rfl⟩
 have HV : Hid (sealB lk role l epoch seq kind pl = v) := hv
 obtain ⟨R, hR⟩ : ∃ R, sealF lk role l epoch seq kind pl = R := ⟨_, rfl⟩
 have HR : Hid (sealF lk role l epoch seq kind pl = R) := hR
 rw [hv, hR]
 clear hv hR
 go_enter Tryz.func14, Tryz.ntmps14
 obtain ⟨x1, hx1⟩ : ∃ x1, w.alloc (.cells #[.int .i64 0, .int .i64 0, .slice none 0 0, .slice none 0 0, .int .i64 0, .slice none 0 0, .slice none 0 0, .int .i64 0, .int .i64 0, .slice none 0 0, .slice none 0 0] 27) = x1 := ⟨_, rfl⟩
 have HW1 := hid (hx1)
 have b1 : Below w.heap.size w x1 := by rw [← hx1]; exact (Below.refl _ _).alloc (Nat.le_refl _) _
 have KN : Blk x1 w.heap.size 27 [.int .i64 0, .int .i64 0, .slice none 0 0, .slice none 0 0, .int .i64 0, .slice none 0 0, .slice none 0 0, .int .i64 0, .int .i64 0, .slice none 0 0, .slice none 0 0] := by rw [← hx1]; exact Blk.new w _ _
 have HSZ1 : Hid (x1.heap.size = w.heap.size + 1) := by rw [← hx1]; show _ = _; simp
 clear hx1
 have L1 := hid (b1.size)
 have B1 := hid (b1)
 clear b1
 go_upto_region 1 with fail
 rw [HW1.out]
 obtain ⟨go, hgo⟩ : ∃ g, w.heap.size = g := ⟨_, rfl⟩
 have Ggo : Hid (w.heap.size = go ∧ x1.heap.size = go + 1) := ⟨hgo, by rw [← hgo]; exact HSZ1.out⟩
 rw [hgo] at KN ⊢
 clear HW1 HSZ1 hgo
 have KO1 := hid (KN)
 clear KN
 go_wp2_with fail
 refine (specHeadOf role s l epoch seq x1 (HS.out.later B1.out)).mono ?_
 rintro e x2 ⟨gh, mh, ch, rfl, em, kg, rr, b⟩
 have oN : SOwn x2 x1.heap.size x2.heap.size ⟨some ⟨gh, 0, none⟩, mh, ch⟩ (headL role l epoch seq) := SOwn.row rr em (headL_bytes _ _ _ _ HS.out.bytes) kg rr.lt
 clear em kg rr
 have L2 := hid (b.size)
 have B2 := hid (B1.out.trans (b.mono B1.out.size))
 have KO2 := hid (KO1.out.later b)
 clear b B1 KO1
 have Oh_2 := hid (oN)
 clear oN
 have HHN : Hid (mh = (headL role l epoch seq).length) := Oh_2.out.len
 have co0 := KO2.out.cell 0 rfl
 have fo0 := KO2.out.frozen 0
 have co1 := KO2.out.cell 1 rfl
 have fo1 := KO2.out.frozen 1
 have co2 := KO2.out.cell 2 rfl
 have fo2 := KO2.out.frozen 2
 have co3 := KO2.out.cell 3 rfl
 have fo3 := KO2.out.frozen 3
 have co4 := KO2.out.cell 4 rfl
 have fo4 := KO2.out.frozen 4
 have co5 := KO2.out.cell 5 rfl
 have fo5 := KO2.out.frozen 5
 have co6 := KO2.out.cell 6 rfl
 have fo6 := KO2.out.frozen 6
 have co7 := KO2.out.cell 7 rfl
 have fo7 := KO2.out.frozen 7
 have co8 := KO2.out.cell 8 rfl
 have fo8 := KO2.out.frozen 8
 have co9 := KO2.out.cell 9 rfl
 have fo9 := KO2.out.frozen 9
 have co10 := KO2.out.cell 10 rfl
 have fo10 := KO2.out.frozen 10
 cases h0 : ((k.n : Int) == 32) with
 | false =>
  have hne : ((k.n : Int) != 32) = true := by simpa using h0
  have HF : Hid (sealB lk role l epoch seq kind pl = false) := by have q := HLK.out.1; have q3 := HLK.out.2.2; show sealB _ _ _ _ _ _ _ = false; unfold sealB sealOk; rw [← q, h0]; rfl
  obtain rfl : v = false := by rw [← HV.out]; exact HF.out
  obtain rfl : R = zeroF := by rw [← HR.out]; exact sealF_no HF.out
  go_wp2
  obtain ⟨k1, k2, k3⟩ := fr_stored (D := zeroF) (S := (⟨⟨none, 0, 0⟩, ⟨none, 0, 0⟩, ⟨none, 0, 0⟩, ⟨none, 0, 0⟩, ⟨none, 0, 0⟩, ⟨none, 0, 0⟩⟩ : FrS)) KO2.out (own_nil x2 x2.heap.size x2.heap.size) (.inl (by have := hid3 L1 Ggo L2; omega))
  exact bodyPost_ret (v := .tuple #[frV zeroF (⟨⟨none, 0, 0⟩, ⟨none, 0, 0⟩, ⟨none, 0, 0⟩, ⟨none, 0, 0⟩, ⟨none, 0, 0⟩, ⟨none, 0, 0⟩⟩ : FrS), .bool false]) (res2 rfl (is_cell rfl k1 aggFr) (is_tmp rfl)) rfl ⟨(⟨⟨none, 0, 0⟩, ⟨none, 0, 0⟩, ⟨none, 0, 0⟩, ⟨none, 0, 0⟩, ⟨none, 0, 0⟩, ⟨none, 0, 0⟩⟩ : FrS), rfl, own_nil _ _ _, k3 _ _ (by have := hid3 L1 Ggo L2; omega) B2.out⟩
 | true =>
  have hne : ((k.n : Int) != 32) = false := by simpa using h0
  cases h1 : headOk role l.length epoch seq with
  | false =>
   have hie : ((mh : Int) == 0) = true := by have q := HHN.out; rw [(headL_nil role l epoch seq).2 h1] at q; rw [q]; rfl
   have HF : Hid (sealB lk role l epoch seq kind pl = false) := by have q := HLK.out.1; have q3 := HLK.out.2.2; show sealB _ _ _ _ _ _ _ = false; unfold sealB sealOk; rw [h1]; simp
   obtain rfl : v = false := by rw [← HV.out]; exact HF.out
   obtain rfl : R = zeroF := by rw [← HR.out]; exact sealF_no HF.out
   go_wp2
   obtain ⟨k1, k2, k3⟩ := fr_stored (D := zeroF) (S := (⟨⟨none, 0, 0⟩, ⟨none, 0, 0⟩, ⟨none, 0, 0⟩, ⟨none, 0, 0⟩, ⟨none, 0, 0⟩, ⟨none, 0, 0⟩⟩ : FrS)) KO2.out (own_nil x2 x2.heap.size x2.heap.size) (.inl (by have := hid3 L1 Ggo L2; omega))
   exact bodyPost_ret (v := .tuple #[frV zeroF (⟨⟨none, 0, 0⟩, ⟨none, 0, 0⟩, ⟨none, 0, 0⟩, ⟨none, 0, 0⟩, ⟨none, 0, 0⟩, ⟨none, 0, 0⟩⟩ : FrS), .bool false]) (res2 rfl (is_cell rfl k1 aggFr) (is_tmp rfl)) rfl ⟨(⟨⟨none, 0, 0⟩, ⟨none, 0, 0⟩, ⟨none, 0, 0⟩, ⟨none, 0, 0⟩, ⟨none, 0, 0⟩, ⟨none, 0, 0⟩⟩ : FrS), rfl, own_nil _ _ _, k3 _ _ (by have := hid3 L1 Ggo L2; omega) B2.out⟩
  | true =>
   have hie : ((mh : Int) == 0) = false := by have q := HHN.out; rw [headL_len role l epoch seq h1] at q; rw [q]; rfl
   go_wp2_with fail
   refine (specSealed kind x2).mono ?_
   rintro e y ⟨rfl, rfl⟩
   cases h2 : isIn kind 4 8 with
   | false =>
    have HF : Hid (sealB lk role l epoch seq kind pl = false) := by have q := HLK.out.1; have q3 := HLK.out.2.2; show sealB _ _ _ _ _ _ _ = false; unfold sealB sealOk; rw [h2]; simp
    obtain rfl : v = false := by rw [← HV.out]; exact HF.out
    obtain rfl : R = zeroF := by rw [← HR.out]; exact sealF_no HF.out
    go_wp2
    obtain ⟨k1, k2, k3⟩ := fr_stored (D := zeroF) (S := (⟨⟨none, 0, 0⟩, ⟨none, 0, 0⟩, ⟨none, 0, 0⟩, ⟨none, 0, 0⟩, ⟨none, 0, 0⟩, ⟨none, 0, 0⟩⟩ : FrS)) KO2.out (own_nil x2 x2.heap.size x2.heap.size) (.inl (by have := hid3 L1 Ggo L2; omega))
    exact bodyPost_ret (v := .tuple #[frV zeroF (⟨⟨none, 0, 0⟩, ⟨none, 0, 0⟩, ⟨none, 0, 0⟩, ⟨none, 0, 0⟩, ⟨none, 0, 0⟩, ⟨none, 0, 0⟩⟩ : FrS), .bool false]) (res2 rfl (is_cell rfl k1 aggFr) (is_tmp rfl)) rfl ⟨(⟨⟨none, 0, 0⟩, ⟨none, 0, 0⟩, ⟨none, 0, 0⟩, ⟨none, 0, 0⟩, ⟨none, 0, 0⟩, ⟨none, 0, 0⟩⟩ : FrS), rfl, own_nil _ _ _, k3 _ _ (by have := hid3 L1 Ggo L2; omega) B2.out⟩
   | true =>
    go_wp2_with fail
    refine (l7Body kind (p.n : Int) x2).mono ?_
    rintro e y ⟨rfl, rfl⟩
    cases h3 : bodyOk kind (p.n : Int) with
    | false =>
     have HF : Hid (sealB lk role l epoch seq kind pl = false) := by have q := HLK.out.1; have q3 := HLK.out.2.2; show sealB _ _ _ _ _ _ _ = false; unfold sealB sealOk; rw [← q3, h3]; simp
     obtain rfl : v = false := by rw [← HV.out]; exact HF.out
     obtain rfl : R = zeroF := by rw [← HR.out]; exact sealF_no HF.out
     go_wp2
     obtain ⟨k1, k2, k3⟩ := fr_stored (D := zeroF) (S := (⟨⟨none, 0, 0⟩, ⟨none, 0, 0⟩, ⟨none, 0, 0⟩, ⟨none, 0, 0⟩, ⟨none, 0, 0⟩, ⟨none, 0, 0⟩⟩ : FrS)) KO2.out (own_nil x2 x2.heap.size x2.heap.size) (.inl (by have := hid3 L1 Ggo L2; omega))
     exact bodyPost_ret (v := .tuple #[frV zeroF (⟨⟨none, 0, 0⟩, ⟨none, 0, 0⟩, ⟨none, 0, 0⟩, ⟨none, 0, 0⟩, ⟨none, 0, 0⟩, ⟨none, 0, 0⟩⟩ : FrS), .bool false]) (res2 rfl (is_cell rfl k1 aggFr) (is_tmp rfl)) rfl ⟨(⟨⟨none, 0, 0⟩, ⟨none, 0, 0⟩, ⟨none, 0, 0⟩, ⟨none, 0, 0⟩, ⟨none, 0, 0⟩, ⟨none, 0, 0⟩⟩ : FrS), rfl, own_nil _ _ _, k3 _ _ (by have := hid3 L1 Ggo L2; omega) B2.out⟩
    | true =>
     have HY : Hid (sealB lk role l epoch seq kind pl = true) := by have q := HLK.out.1; have q3 := HLK.out.2.2; show sealB _ _ _ _ _ _ _ = true; unfold sealB sealOk; rw [← q, ← q3, h0, h1, h2, h3]; rfl
     obtain rfl : v = true := by rw [← HV.out]; exact HY.out
     obtain rfl : R = sealD lk role l epoch seq kind pl := by rw [← HR.out]; exact sealF_yes HY.out
     have HL : Hid (lk.length = 32 ∧ l.length ≤ 12 ∧ pl.length ≤ 40) := ⟨(seal_may HY.out).1, by have := ((headOk_iff _ _ _ _).1 (seal_may HY.out).2.1).2.1; omega, (seal_may HY.out).2.2.2.2.1⟩
     clear h0 h1 h2 h3 co0 fo0 co1 fo1 co2 fo2 co3 fo3 co4 fo4 co5 fo5 co6 fo6 co7 fo7 co8 fo8 co9 fo9 co10 fo10
     have A0 : Hid (Below x2.heap.size x2 (x2.alloc (.cells #[] 5))) := (Below.refl _ _).alloc (Nat.le_refl _) _
     have R0 : Hid (Row (x2.alloc (.cells #[] 5)) x2.heap.size 0 []) := row_new x2 [] (by simp)
     go_wp2_with (at_builtin; refine wpList_app _ rfl (.tmp 46) (.tmp 47) rfl x2.heap.size x2.heap.size 0 0 [] l rfl rfl R0.out (Nat.le_refl _) s.a s.n s.c rfl HLK.out.2.1 ((HS.out.later (B2.out.trans (A0.out.mono B2.out.size))).rd) HSN.out (by have := HL.out; simp; omega) ?_; intro gs cs x3 rr b1 ll gr; have RS := hid (rr); have TS : Hid (Below x2.heap.size x2 x3) := A0.out.grown gr A0.out.size (fun k h => by cases h; exact Nat.le_refl _); have GS : Hid (x2.heap.size ≤ gs) := b1; clear rr b1 ll gr)
     have b := TS.out
     have L3 := hid (b.size)
     have B3 := hid (B2.out.trans (b.mono B2.out.size))
     have KO3 := hid (KO2.out.later b)
     have Oh_3 := hid (Oh_2.out.later b)
     clear b B2 KO2 Oh_2
     have ON3 : Hid (SOwn x3 x2.heap.size x3.heap.size ⟨some ⟨gs, 0, none⟩, s.n, cs⟩ l) := SOwn.row RS.out HLK.out.2.1 HS.out.bytes GS.out RS.out.lt
     clear A0 R0 RS TS GS
     have HHL : Hid (mh ≤ 23) := by have h1 := HHN.out; have h2 := headL_le role l epoch seq; show _ ≤ _; omega
     refine (specMix k.a k.n k.c (some ⟨gh, 0, none⟩) mh ch p.a p.n p.c lk (headL role l epoch seq) pl x3 HLK.out.1 Oh_3.out.len HLK.out.2.2 (HK.out.later B3.out).rd Oh_3.out.rd.rd (HP.out.later B3.out).rd HK.out.nil (by intro e; cases e) HK.out.bytes Oh_3.out.rd.bytes HP.out.bytes (by have := hid2 HL HLK; omega) (by have := HHL.out; omega) (by have := hid2 HL HLK; omega)).mono ?_
     rintro e x4 ⟨gb, mb, cb, rfl, em, kg, rr, b⟩
     have oN : SOwn x4 x3.heap.size x4.heap.size ⟨some ⟨gb, 0, none⟩, mb, cb⟩ (mixI lk (headL role l epoch seq) pl) := SOwn.row rr em (mixI_bytes _ _ _ HP.out.bytes) kg rr.lt
     clear em kg rr
     have L4 := hid (b.size)
     have B4 := hid (B3.out.trans (b.mono B3.out.size))
     have KO4 := hid (KO3.out.later b)
     have Oh_4 := hid (Oh_3.out.later b)
     have ON4 := hid (ON3.out.later b)
     clear b B3 KO3 Oh_3 ON3
     have Ob_4 := hid (oN)
     clear oN
     clear Oh_4
     obtain ⟨x5, hx5⟩ : ∃ x5, x4.alloc (.cells #[.int .i64 kind, .int .i64 0, .slice none 0 0, .slice (some ⟨gs, 0, none⟩) s.n cs, .int .i64 0, .slice none 0 0, .slice none 0 0, .int .i64 epoch, .int .i64 seq, .slice (some ⟨gb, 0, none⟩) mb cb, .slice none 0 0] 27) = x5 := ⟨_, rfl⟩
     have HW5 := hid (hx5)
     have b5 : Below x4.heap.size x4 x5 := by rw [← hx5]; exact (Below.refl _ _).alloc (Nat.le_refl _) _
     have KN : Blk x5 x4.heap.size 27 [.int .i64 kind, .int .i64 0, .slice none 0 0, .slice (some ⟨gs, 0, none⟩) s.n cs, .int .i64 0, .slice none 0 0, .slice none 0 0, .int .i64 epoch, .int .i64 seq, .slice (some ⟨gb, 0, none⟩) mb cb, .slice none 0 0] := by rw [← hx5]; exact Blk.new x4 _ _
     have HSZ5 : Hid (x5.heap.size = x4.heap.size + 1) := by rw [← hx5]; show _ = _; simp
     clear hx5
     have L5 := hid (b5.size)
     have B5 := hid (B4.out.trans (b5.mono B4.out.size))
     have KO5 := hid (KO4.out.later b5)
     have ON5 := hid (ON4.out.later b5)
     have Ob_5 := hid (Ob_4.out.later b5)
     clear b5 B4 KO4 ON4 Ob_4
     go_upto_region 5 with fail
     rw [HW5.out]
     obtain ⟨gd, hgd⟩ : ∃ g, x4.heap.size = g := ⟨_, rfl⟩
     have Ggd : Hid (x4.heap.size = gd ∧ x5.heap.size = gd + 1) := ⟨hgd, by rw [← hgd]; exact HSZ5.out⟩
     rw [hgd] at KN ⊢
     clear HW5 HSZ5 hgd
     have KD5 := hid (KN)
     clear KN
     have SZ : Hid (w.heap.size ≤ go ∧ go + 1 ≤ x2.heap.size ∧ x2.heap.size ≤ x3.heap.size ∧ x3.heap.size ≤ x3.heap.size ∧ x3.heap.size ≤ x4.heap.size ∧ x4.heap.size ≤ gd ∧ gd + 1 = x5.heap.size) := by have := hid7 L1 Ggo L2 L3 L4 L5 Ggd; show _ ∧ _; omega
     go_wp2
     go_loopw [18] (fun i wr => ∃ (j : Nat) (S : Sl) (hi : Nat), j ≤ 16 ∧ i = .int .i64 j ∧ Blk wr go 27 [.int .i64 0, .int .i64 0, .slice none 0 0, .slice none 0 0, .int .i64 0, .slice none 0 0, .slice none 0 0, .int .i64 0, .int .i64 0, .slice none 0 0, .slice none 0 0] ∧ Blk wr gd 27 [.int .i64 kind, .int .i64 0, .slice none 0 0, .slice (some ⟨gs, 0, none⟩) s.n cs, .int .i64 0, .slice none 0 0, .slice none 0 0, .int .i64 epoch, .int .i64 seq, .slice (some ⟨gb, 0, none⟩) mb cb, .slice S.a S.n S.c] ∧ SOwn wr x5.heap.size hi S (List.replicate j 0) ∧ hi ≤ wr.heap.size ∧ x5.heap.size ≤ wr.heap.size ∧ Below w.heap.size w wr ∧ SOwn wr x2.heap.size x3.heap.size ⟨some ⟨gs, 0, none⟩, s.n, cs⟩ l ∧ SOwn wr x3.heap.size x4.heap.size ⟨some ⟨gb, 0, none⟩, mb, cb⟩ (mixI lk (headL role l epoch seq) pl)) (fun i _ => 16 - (intOf i).toNat)
     case atStart => exact ⟨0, ⟨none, 0, 0⟩, x5.heap.size, Nat.zero_le _, rfl, KO5.out, KD5.out, SOwn.nil _ _ _, Nat.le_refl _, Nat.le_refl _, B5.out, ON5.out, Ob_5.out⟩
     case round =>
      obtain ⟨j, S, hi, hj, rfl, hko, hkd, hown, hhi, hxx, hbe, hon, hob⟩ := hrel
      have KO := hid (hko)
      have KD := hid (hkd)
      have OW := hid (hown)
      have HHI : Hid (hi ≤ wr.heap.size) := hhi
      have HXX := hid (hxx)
      have HBe := hid (hbe)
      have ON := hid (hon)
      have OB := hid (hob)
      have HSN2 : Hid (S.n = j) := by have := hown.len; rw [List.length_replicate] at this; exact this
      clear hko hkd hown hhi hxx hbe hon hob KO5 KD5 B5 ON5 Ob_5
      by_cases hlt : j < 16
      ·
       have ba : Below wr.heap.size wr (wr.alloc (.cells #[.int .u8 0] 5)) := (Below.refl _ _).alloc (Nat.le_refl _) _
       have KOa := hid (KO.out.later ba)
       have KDa := hid (KD.out.later ba)
       have OWa := hid (OW.out.later ba)
       have BEa := hid (HBe.out.trans (ba.mono HBe.out.size))
       have ONa := hid (ON.out.later ba)
       have OBa := hid (OB.out.later ba)
       have SZA : Hid ((wr.alloc (.cells #[.int .u8 0] 5)).heap.size = wr.heap.size + 1) := by show _ = _; simp
       have d10 := KD.out.cell 10 rfl
       clear ba KO KD OW ON OB
       go_wp2_with (at_builtin; refine wpList_own _ rfl (.tmp 61) (.tmp 62) rfl x5.heap.size hi S (List.replicate j 0) [0] rfl OWa.out ⟨wr.heap.size, 0, none⟩ 1 1 rfl rfl (rd_one wr 0) (by simp) (by simp; omega) ?_; intro q3 c3 w3 r3 k3 kp3; have R3 := hid (r3); have K3 : Hid (x5.heap.size ≤ q3) := (by show _ ≤ _; rcases k3 with h | h; (· exact h); (· have := hid2 SZA HXX; omega)); have KO3 := hid (KOa.out.keep (kp3.block _ KOa.out.lt (.inl (by have := SZ.out; omega)))); have KD3 := hid (KDa.out.keep (kp3.block _ KDa.out.lt (.inl (by have := SZ.out; omega)))); have B3 := hid (BEa.out.trans (kp3.below (by have := SZ.out; omega) BEa.out.size)); have ON3 := hid (ONa.out.carry kp3 (.inl (by have := SZ.out; omega))); have OB3 := hid (OBa.out.carry kp3 (.inl (by have := SZ.out; omega))); have SZ3 : Hid (x5.heap.size ≤ w3.heap.size) := Nat.le_trans (by have := hid2 SZA HXX; omega) kp3.size; clear r3 k3 kp3 d10; have q0 := KD3.out.cell 10 rfl; have f0 := KD3.out.frozen 10)
       go_wp2
       go_roundw
       case rel => exact ⟨j + 1, ⟨some ⟨q3, 0, none⟩, S.n + 1, c3⟩, w3.heap.size, by omega, by go_num, KO3.out.other (by show go ≠ gd; have := SZ.out; omega) _, KD3.out.set 10 _ (by simp [maxLen]), SOwn.row ((R3.out.keep (Below.heap_setCell w3 ⟨gd, 10, none⟩ _ q3 (by show q3 ≠ gd; have := hid2 SZ K3; omega))) |> fun h => by rw [show List.replicate (j + 1) (0 : Int) = List.replicate j 0 ++ [0] from List.replicate_succ']; exact h) (by rw [HSN2.out, List.length_replicate]) (zeros_bytes _) K3.out R3.out.lt, by simp, by simp; exact SZ3.out, B3.out.setCell (by show w.heap.size ≤ gd; have := SZ.out; omega) _, ON3.out.carry (Kept.setCell _ _ _ _) (.inl (by have := SZ.out; omega)), OB3.out.carry (Kept.setCell _ _ _ _) (.inl (by have := SZ.out; omega))⟩
       case measure => simp [intOf]; omega
      ·
       obtain rfl : j = 16 := by omega
       have B100 := hid (HBe.out)
       have KO100 := hid (KO.out)
       have KD100 := hid (KD.out)
       have ON100 := hid (ON.out)
       have Ob_100 := hid (OB.out)
       have OT100 := hid (OW.out)
       clear HBe KO KD ON OB OW
       obtain ⟨d0, d1, d2, d3, d4, d5, d6, d7, d8, d9, d10⟩ := cells11 KD100.out
       go_wp2_with fail
       refine (specTagInput role (draftS ⟨some ⟨gs, 0, none⟩, s.n, cs⟩ ⟨some ⟨gb, 0, none⟩, mb, cb⟩ S) (draftD l epoch seq kind (mixI lk (headL role l epoch seq) pl) (List.replicate 16 0)) wr (draft_rd ON100.out.rd Ob_100.out.rd OT100.out.rd)).mono ?_
       rintro e x101 ⟨gi, mi, ci, rfl, em, kg, rr, b⟩
       have oN : SOwn x101 wr.heap.size x101.heap.size ⟨some ⟨gi, 0, none⟩, mi, ci⟩ (tagIn role (draftD l epoch seq kind (mixI lk (headL role l epoch seq) pl) (List.replicate 16 0))) := SOwn.row rr em (tagIn_bytes _ _ HS.out.bytes (mixI_bytes _ _ _ HP.out.bytes)) kg rr.lt
       clear em kg rr
       have L101 := hid (b.size)
       have B101 := hid (B100.out.trans (b.mono B100.out.size))
       have KO101 := hid (KO100.out.later b)
       have KD101 := hid (KD100.out.later b)
       have ON101 := hid (ON100.out.later b)
       have Ob_101 := hid (Ob_100.out.later b)
       have OT101 := hid (OT100.out.later b)
       clear b B100 KO100 KD100 ON100 Ob_100 OT100
       have Oi_101 := hid (oN)
       clear oN
       clear d0 d1 d2 d3 d4 d5 d6 d7 d8 d9 d10
       have HIL : Hid (mi ≤ 65) := by have h1 := Oi_101.out.len; have h2 := tagIn_le role (draftD l epoch seq kind (mixI lk (headL role l epoch seq) pl) (List.replicate 16 0)); simp only at h1; show _ ≤ _; omega
       go_wp2_with fail
       refine (specTag k.a k.n k.c (some ⟨gi, 0, none⟩) mi ci lk (tagIn role (draftD l epoch seq kind (mixI lk (headL role l epoch seq) pl) (List.replicate 16 0))) x101 HLK.out.1 Oi_101.out.len (HK.out.later B101.out).rd Oi_101.out.rd.rd HK.out.nil (by intro e; cases e) HK.out.bytes Oi_101.out.rd.bytes (by have := hid2 HL HLK; omega) (by have := HIL.out; omega)).mono ?_
       rintro e x102 ⟨gt, mt, ct, rfl, em, kg, rr, b⟩
       have oN : SOwn x102 x101.heap.size x102.heap.size ⟨some ⟨gt, 0, none⟩, mt, ct⟩ (tagI lk (tagIn role (draftD l epoch seq kind (mixI lk (headL role l epoch seq) pl) (List.replicate 16 0)))) := SOwn.row rr em (tagI_bytes _ _) kg rr.lt
       clear em kg rr
       have L102 := hid (b.size)
       have B102 := hid (B101.out.trans (b.mono B101.out.size))
       have KO102 := hid (KO101.out.later b)
       have KD102 := hid (KD101.out.later b)
       have ON102 := hid (ON101.out.later b)
       have Ob_102 := hid (Ob_101.out.later b)
       have OT102 := hid (OT101.out.later b)
       have Oi_102 := hid (Oi_101.out.later b)
       clear b B101 KO101 KD101 ON101 Ob_101 OT101 Oi_101
       have Ot_102 := hid (oN)
       clear oN
       clear OT102
       have co := KD102.out.cell 10 rfl
       have fo := KD102.out.frozen 10
       obtain ⟨x103, hx103⟩ : ∃ x103, x102.setCell ⟨gd, 10, none⟩ (.slice (some ⟨gt, 0, none⟩) mt ct) = x103 := ⟨_, rfl⟩
       have HW103 := hid (hx103)
       have L103 : Hid (x103.heap.size = x102.heap.size) := by rw [← hx103]; show _ = _; simp
       have B103 : Hid (Below w.heap.size w x103) := by rw [← hx103]; exact B102.out.setCell (by show _ ≤ gd; have := hid5 SZ HXX HHI L101 L102; omega) _
       have KO103 : Hid (Blk x103 go 27 [.int .i64 0, .int .i64 0, .slice none 0 0, .slice none 0 0, .int .i64 0, .slice none 0 0, .slice none 0 0, .int .i64 0, .int .i64 0, .slice none 0 0, .slice none 0 0]) := by rw [← hx103]; exact KO102.out.other (by show go ≠ gd; have := hid5 SZ HXX HHI L101 L102; omega) _
       have KD103 : Hid (Blk x103 gd 27 [.int .i64 kind, .int .i64 0, .slice none 0 0, .slice (some ⟨gs, 0, none⟩) s.n cs, .int .i64 0, .slice none 0 0, .slice none 0 0, .int .i64 epoch, .int .i64 seq, .slice (some ⟨gb, 0, none⟩) mb cb, .slice (some ⟨gt, 0, none⟩) mt ct]) := by rw [← hx103]; exact KD102.out.set 10 _ (by simp [maxLen])
       have ON103 : Hid (SOwn x103 x2.heap.size x3.heap.size ⟨some ⟨gs, 0, none⟩, s.n, cs⟩ l) := by rw [← hx103]; exact ON102.out.carry (Kept.setCell _ _ _ _) (by have := hid5 SZ HXX HHI L101 L102; omega)
       have Ob_103 : Hid (SOwn x103 x3.heap.size x4.heap.size ⟨some ⟨gb, 0, none⟩, mb, cb⟩ (mixI lk (headL role l epoch seq) pl)) := by rw [← hx103]; exact Ob_102.out.carry (Kept.setCell _ _ _ _) (by have := hid5 SZ HXX HHI L101 L102; omega)
       have Oi_103 : Hid (SOwn x103 wr.heap.size x101.heap.size ⟨some ⟨gi, 0, none⟩, mi, ci⟩ (tagIn role (draftD l epoch seq kind (mixI lk (headL role l epoch seq) pl) (List.replicate 16 0)))) := by rw [← hx103]; exact Oi_102.out.carry (Kept.setCell _ _ _ _) (by have := hid5 SZ HXX HHI L101 L102; omega)
       have Ot_103 : Hid (SOwn x103 x101.heap.size x102.heap.size ⟨some ⟨gt, 0, none⟩, mt, ct⟩ (tagI lk (tagIn role (draftD l epoch seq kind (mixI lk (headL role l epoch seq) pl) (List.replicate 16 0))))) := by rw [← hx103]; exact Ot_102.out.carry (Kept.setCell _ _ _ _) (by have := hid5 SZ HXX HHI L101 L102; omega)
       clear hx103 B102 KO102 KD102 ON102 Ob_102 Oi_102 Ot_102
       go_upto_region 10 with fail
       rw [HW103.out]
       clear HW103 co fo
       obtain ⟨d0, d1, d2, d3, d4, d5, d6, d7, d8, d9, d10⟩ := cells11 KD103.out
       have co0 := KO103.out.cell 0 rfl
       have fo0 := KO103.out.frozen 0
       have co1 := KO103.out.cell 1 rfl
       have fo1 := KO103.out.frozen 1
       have co2 := KO103.out.cell 2 rfl
       have fo2 := KO103.out.frozen 2
       have co3 := KO103.out.cell 3 rfl
       have fo3 := KO103.out.frozen 3
       have co4 := KO103.out.cell 4 rfl
       have fo4 := KO103.out.frozen 4
       have co5 := KO103.out.cell 5 rfl
       have fo5 := KO103.out.frozen 5
       have co6 := KO103.out.cell 6 rfl
       have fo6 := KO103.out.frozen 6
       have co7 := KO103.out.cell 7 rfl
       have fo7 := KO103.out.frozen 7
       have co8 := KO103.out.cell 8 rfl
       have fo8 := KO103.out.frozen 8
       have co9 := KO103.out.cell 9 rfl
       have fo9 := KO103.out.frozen 9
       have co10 := KO103.out.cell 10 rfl
       have fo10 := KO103.out.frozen 10
       go_wp2
       have SZ2 : Hid (x5.heap.size ≤ x101.heap.size ∧ x101.heap.size ≤ x102.heap.size ∧ x102.heap.size ≤ x103.heap.size) := by have := hid6 SZ HXX HHI L101 L102 L103; show _ ∧ _; omega
       have OW : FrOwn x103 x2.heap.size x103.heap.size (draftS ⟨some ⟨gs, 0, none⟩, s.n, cs⟩ ⟨some ⟨gb, 0, none⟩, mb, cb⟩ ⟨some ⟨gt, 0, none⟩, mt, ct⟩) (sealD lk role l epoch seq kind pl) := draft_own (ON103.out) (Ob_103.out) (Ot_103.out) (by have := hid2 SZ SZ2; omega) (by have := hid2 SZ SZ2; omega) (by have := hid2 SZ SZ2; omega) (by have := hid2 SZ SZ2; omega) (by have := hid2 SZ SZ2; omega)
       obtain ⟨k1, k2, k3⟩ := fr_stored (D := sealD lk role l epoch seq kind pl) (S := (draftS ⟨some ⟨gs, 0, none⟩, s.n, cs⟩ ⟨some ⟨gb, 0, none⟩, mb, cb⟩ ⟨some ⟨gt, 0, none⟩, mt, ct⟩)) KO103.out OW (.inl (by have := SZ.out; omega))
       exact bodyPost_ret (v := .tuple #[frV (sealD lk role l epoch seq kind pl) (draftS ⟨some ⟨gs, 0, none⟩, s.n, cs⟩ ⟨some ⟨gb, 0, none⟩, mb, cb⟩ ⟨some ⟨gt, 0, none⟩, mt, ct⟩), .bool true]) (res2 rfl (is_cell rfl k1 aggFr) (is_tmp rfl)) rfl ⟨(draftS ⟨some ⟨gs, 0, none⟩, s.n, cs⟩ ⟨some ⟨gb, 0, none⟩, mb, cb⟩ ⟨some ⟨gt, 0, none⟩, mt, ct⟩), rfl, k2.mono (by have := SZ.out; omega) (by rw [fr_size]; exact Nat.le_refl _), k3 _ _ (by have := SZ.out; omega) B103.out⟩

end Go.Proofs.YtmcflfpckpjphaaGreatDoor.SealS
