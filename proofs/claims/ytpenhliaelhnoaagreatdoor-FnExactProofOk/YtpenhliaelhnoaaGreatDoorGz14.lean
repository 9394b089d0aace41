/-
  What impl lays as a head, and as what a tag is of.
  What is sealed, and opened, as plain functions.
  A range over a function that hands each round a value in new memory: each round is told what the iterator says of that value in the world where it is handed over (the library's contracts hand a round a value alone).
  What impl's BlockOf and canStream answer, and the iterator of a stream's blocks, where the table of round words holds what the program's text lays into it.
-/
import Derived.Test.YtpenhliaelhnoaaGreatDoorGz13
import Derived.Test.YtpenhliaelhnoaaGreatDoorGz12
import Derived.Test.YtpenhliaelhnoaaGreatDoorGz5
import Derived.RangeFuncNested
import Derived.RangeFuncBound
import Derived.RangeFuncCalls
import Derived.RangeFuncLeaves
import Derived.Test.YtpenhliaelhnoaaGreatDoorGz1
import Derived.Test.YtpenhliaelhnoaaGreatDoorGz9
import Derived.Test.YtpenhliaelhnoaaGreatDoorGz8
import Derived.Shelf.Abstract
import Derived.Shelf.RegionOpen
import Derived.WalkKit
import Derived.OwnWalkIn
import Derived.TacticsInMore
import Derived.LoopNIn
import Derived.LoopIn
set_option linter.unusedVariables false

namespace Go.Proofs.YtpenhliaelhnoaaGreatDoor.SlI
open Go.RowKit Go.Proofs.YtpenhliaelhnoaaGreatDoor.Mem Go.Proofs.YtpenhliaelhnoaaGreatDoor.App Go.Proofs.YtpenhliaelhnoaaGreatDoor.Blk Go.Proofs.YtpenhliaelhnoaaGreatDoor.Words Go.Proofs.YtpenhliaelhnoaaGreatDoor.Zone Go.Proofs.YtpenhliaelhnoaaGreatDoor.Res Go.Proofs.YtpenhliaelhnoaaGreatDoor.FrZ Go.Proofs.YtpenhliaelhnoaaGreatDoor.FrP Go.Proofs.YtpenhliaelhnoaaGreatDoor.FrG Go.Proofs.YtpenhliaelhnoaaGreatDoor.FrQ Go.Proofs.YtpenhliaelhnoaaGreatDoor.SlP Go.Proofs.YtpenhliaelhnoaaGreatDoor.FrW Go.Proofs.YtpenhliaelhnoaaGreatDoor.FrQ2 Go.Proofs.YtpenhliaelhnoaaGreatDoor.FrQ3 Go.Proofs.YtpenhliaelhnoaaGreatDoor.FrO2 Go.Proofs.YtpenhliaelhnoaaGreatDoor.FrSe

set_option maxRecDepth 100000 in
theorem new_nil {w x : World} (b : Below w.heap.size w x) : New w [] (.returned (.slice (some ⟨x.heap.size, 0, none⟩) 0 0)) (x.alloc (.cells #[] 5)) :=
  ⟨x.heap.size, 0, 0, rfl, rfl, b.size, ⟨Nat.le_refl _, by unfold maxLen; omega, #[], heap_alloc_new x _, rfl, rfl⟩, b.alloc b.size _⟩
set_option maxRecDepth 100000 in
theorem new_to {w : World} {l l' : List Int} {e : Ending} {w' : World} (h : New w l e w') (hl : l = l') : New w l' e w' := hl ▸ h
set_option maxRecDepth 100000 in
theorem lay_head {role : Int} {l : List Int} {epoch seq : Int} (h : headOk role l.length epoch seq = true) : [] ++ putN role 1 ++ l ++ putN epoch 4 ++ putN seq 6 = headL role l epoch seq := by
  rw [headL_yes _ _ _ _ h]
  have h1 := ((headOk_iff _ _ _ _).1 h).1
  rw [putN_one role h1.1 (by omega)]
  rfl

set_option maxRecDepth 100000 in
theorem rd_one8 {w : World} {g : Nat} (k : Blk w g 5 [.int .u8 116]) : SRd w ⟨some ⟨g, 0, none⟩, 1, 1⟩ [116] :=
  ⟨rfl, (fun i hi => by
    have : i = 0 := by simpa using hi
    subst this
    exact ⟨g, 0, rfl, k.lt, k.cell 0 rfl⟩), (fun e => by cases e), Nat.le_refl _, bytes_one (by omega) (by omega)⟩
set_option maxRecDepth 100000 in
theorem lay_tag {role : Int} {D : FrD} (h : canTag role D = true) : [116] ++ headL role D.sn D.epoch D.seq ++ putN D.kind 1 ++ D.body = tagIn role D := by
  rw [tagIn_yes _ _ h]
  have hk := (canTag_parts h).2.1
  rw [putN_one D.kind (by omega) (by omega)]
end Go.Proofs.YtpenhliaelhnoaaGreatDoor.SlI

namespace Go.Proofs.YtpenhliaelhnoaaGreatDoor.SlQ
open Go.RowKit Go.Proofs.YtpenhliaelhnoaaGreatDoor.Mem Go.Proofs.YtpenhliaelhnoaaGreatDoor.App Go.Proofs.YtpenhliaelhnoaaGreatDoor.Words Go.Proofs.YtpenhliaelhnoaaGreatDoor.FrZ Go.Proofs.YtpenhliaelhnoaaGreatDoor.FrP Go.Proofs.YtpenhliaelhnoaaGreatDoor.FrG Go.Proofs.YtpenhliaelhnoaaGreatDoor.KdfP Go.Proofs.YtpenhliaelhnoaaGreatDoor.MacP Go.Proofs.YtpenhliaelhnoaaGreatDoor.SlP

/-- Whether a frame of these is sealed: key of k bytes, name of n, text of p. -/
def sealOk (k : Int) (role n epoch seq kind p : Int) : Bool := (k == 32) && (headOk role n epoch seq && (isIn kind 4 8 && bodyOk kind p))
set_option maxRecDepth 100000 in
theorem sealOk_iff (k role n epoch seq kind p : Int) : sealOk k role n epoch seq kind p = true ↔ k = 32 ∧ headOk role n epoch seq = true ∧ (4 ≤ kind ∧ kind ≤ 8) ∧ bodyOk kind p = true := by
  unfold sealOk isIn; simp [and_assoc]
/-- The frame as it is tagged: with whatever tag of 16 bytes. -/
def draftD (sn : List Int) (epoch seq kind : Int) (body tag : List Int) : FrD := ⟨kind, 0, [], sn, 0, [], [], epoch, seq, body, tag⟩
set_option maxRecDepth 100000 in
theorem draft_tagIn (role : Int) (sn : List Int) (epoch seq kind : Int) (body tag tag' : List Int) (h : tag.length = tag'.length) : tagIn role (draftD sn epoch seq kind body tag) = tagIn role (draftD sn epoch seq kind body tag') := by
  have e : canTag role (draftD sn epoch seq kind body tag) = canTag role (draftD sn epoch seq kind body tag') := by
    unfold canTag frameOk draftD; simp only [h]
  unfold tagIn; rw [e]; rfl
set_option maxRecDepth 100000 in
theorem draft_can (role : Int) (sn : List Int) (epoch seq kind : Int) (body tag : List Int) (ht : tag.length = 16) : canTag role (draftD sn epoch seq kind body tag) = (headOk role sn.length epoch seq && (isIn kind 4 8 && bodyOk kind body.length)) := by
  rw [Bool.eq_iff_iff]
  constructor
  · intro h
    obtain ⟨h1, h2, h3⟩ := canTag_parts h
    have h4 := canTag_head h
    obtain ⟨_, _, h6, _, _, _, h7, h8, h9, _⟩ := (sealed_parts h2).1 h3
    rw [Bool.and_eq_true, Bool.and_eq_true]
    exact ⟨h4, isIn_yes h2, h9⟩
  · intro h
    rw [Bool.and_eq_true, Bool.and_eq_true] at h
    obtain ⟨h1, h2, h3⟩ := h
    obtain ⟨r1, r2, r3, r4⟩ := (headOk_iff _ _ _ _).1 h1
    have hk : 4 ≤ kind ∧ kind ≤ 8 := by unfold isIn at h2; simpa using h2
    exact canTag_of r1 hk ((sealed_parts (D := draftD sn epoch seq kind body tag) hk).2 ⟨rfl, rfl, by show sn.length = 12; omega, rfl, rfl, rfl, r3, r4, h3, ht⟩)
/-- What is sealed. -/
def sealD (key : List Int) (role : Int) (sn : List Int) (epoch seq kind : Int) (plain : List Int) : FrD :=
  draftD sn epoch seq kind (mixI key (headL role sn epoch seq) plain) (tagI key (tagIn role (draftD sn epoch seq kind (mixI key (headL role sn epoch seq) plain) (List.replicate 16 0))))
/-- Whether it is sealed, and what. -/
def sealB (key : List Int) (role : Int) (sn : List Int) (epoch seq kind : Int) (plain : List Int) : Bool := sealOk key.length role sn.length epoch seq kind plain.length
def sealF (key : List Int) (role : Int) (sn : List Int) (epoch seq kind : Int) (plain : List Int) : FrD := if sealB key role sn epoch seq kind plain = true then sealD key role sn epoch seq kind plain else zeroF
/-- Whether it is opened, and what it was. -/
def unsealB (key : List Int) (role : Int) (D : FrD) : Bool := ((key.length : Int) == 32) && (canTag role D && decide (D.tag = tagI key (tagIn role D)))
def unsealL (key : List Int) (role : Int) (D : FrD) : List Int := if unsealB key role D = true then mixI key (headL role D.sn D.epoch D.seq) D.body else []

set_option maxRecDepth 100000 in
theorem seal_may {key : List Int} {role : Int} {sn : List Int} {epoch seq kind : Int} {plain : List Int} (h : sealB key role sn epoch seq kind plain = true) :
    key.length = 32 ∧ headOk role sn.length epoch seq = true ∧ (4 ≤ kind ∧ kind ≤ 8) ∧ bodyOk kind plain.length = true ∧ plain.length ≤ 40 ∧ mayStr key (headL role sn epoch seq) (plain.length : Int) = true := by
  obtain ⟨h1, h2, h3, h4⟩ := (sealOk_iff _ _ _ _ _ _ _).1 h
  have h5 := bodyOk_le h4
  have h6 := headL_le role sn epoch seq
  exact ⟨by omega, h2, h3, h4, by omega, (mayStr_iff _ _ _).2 ⟨by omega, by omega, by omega, by omega⟩⟩
set_option maxRecDepth 100000 in
theorem seal_body {key : List Int} {role : Int} {sn : List Int} {epoch seq kind : Int} {plain : List Int} (h : sealB key role sn epoch seq kind plain = true) : (mixI key (headL role sn epoch seq) plain).length = plain.length := by
  exact mixI_len _ _ _ (seal_may h).2.2.2.2.2
set_option maxRecDepth 100000 in
theorem seal_can {key : List Int} {role : Int} {sn : List Int} {epoch seq kind : Int} {plain : List Int} (tag : List Int) (ht : tag.length = 16) (h : sealB key role sn epoch seq kind plain = true) : canTag role (draftD sn epoch seq kind (mixI key (headL role sn epoch seq) plain) tag) = true := by
  rw [draft_can _ _ _ _ _ _ _ ht, seal_body h]
  obtain ⟨_, h2, h3, h4, _⟩ := seal_may h
  rw [h2, isIn_yes h3, h4]; rfl
set_option maxRecDepth 100000 in
theorem seal_tag_len {key : List Int} {role : Int} {sn : List Int} {epoch seq kind : Int} {plain : List Int} (h : sealB key role sn epoch seq kind plain = true) : (sealD key role sn epoch seq kind plain).tag.length = 16 := by
  exact tagI_len _ _ (by have := (seal_may h).1; omega) (by have := tagIn_le role (draftD sn epoch seq kind (mixI key (headL role sn epoch seq) plain) (List.replicate 16 0)); omega)
set_option maxRecDepth 100000 in
theorem seal_canD {key : List Int} {role : Int} {sn : List Int} {epoch seq kind : Int} {plain : List Int} (h : sealB key role sn epoch seq kind plain = true) : canTag role (sealD key role sn epoch seq kind plain) = true := seal_can _ (seal_tag_len h) h
set_option maxRecDepth 100000 in
theorem seal_ok {key : List Int} {role : Int} {sn : List Int} {epoch seq kind : Int} {plain : List Int} (h : sealB key role sn epoch seq kind plain = true) : frameOk (sealD key role sn epoch seq kind plain) = true := (canTag_parts (seal_canD h)).2.2
set_option maxRecDepth 100000 in
theorem seal_tag {key : List Int} {role : Int} {sn : List Int} {epoch seq kind : Int} {plain : List Int} (h : sealB key role sn epoch seq kind plain = true) : (sealD key role sn epoch seq kind plain).tag = tagI key (tagIn role (sealD key role sn epoch seq kind plain)) := by
  exact congrArg (tagI key) (draft_tagIn role sn epoch seq kind _ _ _ (by rw [List.length_replicate]; exact (seal_tag_len h).symm))
set_option maxRecDepth 100000 in
theorem seal_unseal {key : List Int} {role : Int} {sn : List Int} {epoch seq kind : Int} {plain : List Int} (h : sealB key role sn epoch seq kind plain = true) : unsealB key role (sealD key role sn epoch seq kind plain) = true := by
  unfold unsealB
  rw [seal_canD h, decide_eq_true (seal_tag h)]
  have := (seal_may h).1
  simp [this]
set_option maxRecDepth 100000 in
theorem seal_back {key : List Int} {role : Int} {sn : List Int} {epoch seq kind : Int} {plain : List Int} (hb : Bytes plain) (h : sealB key role sn epoch seq kind plain = true) : unsealL key role (sealD key role sn epoch seq kind plain) = plain := by
  unfold unsealL
  rw [if_pos (seal_unseal h)]
  exact mixI_twice _ _ _ hb (seal_may h).2.2.2.2.2
set_option maxRecDepth 100000 in
theorem sealF_yes {key : List Int} {role : Int} {sn : List Int} {epoch seq kind : Int} {plain : List Int} (h : sealB key role sn epoch seq kind plain = true) : sealF key role sn epoch seq kind plain = sealD key role sn epoch seq kind plain := by unfold sealF; rw [if_pos h]
set_option maxRecDepth 100000 in
theorem sealF_no {key : List Int} {role : Int} {sn : List Int} {epoch seq kind : Int} {plain : List Int} (h : sealB key role sn epoch seq kind plain = false) : sealF key role sn epoch seq kind plain = zeroF := by unfold sealF; rw [if_neg (by rw [h]; simp)]
set_option maxRecDepth 100000 in
theorem unsealL_yes {key : List Int} {role : Int} {D : FrD} (h : unsealB key role D = true) : unsealL key role D = mixI key (headL role D.sn D.epoch D.seq) D.body := by unfold unsealL; rw [if_pos h]
set_option maxRecDepth 100000 in
theorem unsealL_no {key : List Int} {role : Int} {D : FrD} (h : unsealB key role D = false) : unsealL key role D = [] := by unfold unsealL; rw [if_neg (by rw [h]; simp)]
set_option maxRecDepth 100000 in
theorem unseal_parts {key : List Int} {role : Int} {D : FrD} (h : unsealB key role D = true) : key.length = 32 ∧ canTag role D = true ∧ D.tag = tagI key (tagIn role D) := by
  unfold unsealB at h; simp at h; exact ⟨by omega, h.2.1, h.2.2⟩
set_option maxRecDepth 100000 in
theorem mixI_bytes (k h b : List Int) (hb : Bytes b) : Bytes (mixI k h b) := by
  by_cases e : mayStr k h (b.length : Int) = true
  · rw [mixI_of _ _ _ e]; exact xors_bytes hb (strI_bytes _ _ _)
  · rw [mixI_no _ _ _ (by simpa using e)]; exact fun z hz => by cases hz
set_option maxRecDepth 100000 in
theorem unsealL_le (key : List Int) (role : Int) (D : FrD) : (unsealL key role D).length ≤ 200 := by
  unfold unsealL; split
  · exact mixI_le _ _ _
  · simp
set_option maxRecDepth 100000 in
theorem sealD_short {key : List Int} {role : Int} {sn : List Int} {epoch seq kind : Int} {plain : List Int} (h : sealB key role sn epoch seq kind plain = true) : FrShort (sealD key role sn epoch seq kind plain) 100 := FrQ3.short_ok _ (seal_ok h)
set_option maxRecDepth 100000 in
theorem zeroF_short (n : Nat) : FrShort zeroF n := ⟨Nat.zero_le _, Nat.zero_le _, Nat.zero_le _, Nat.zero_le _, Nat.zero_le _, Nat.zero_le _⟩
set_option maxRecDepth 100000 in
theorem short_le {D : FrD} {n m : Nat} (h : FrShort D n) (hm : n ≤ m) : FrShort D m := ⟨by have := h.cn; omega, by have := h.sn; omega, by have := h.cookie; omega, by have := h.proof; omega, by have := h.body; omega, by have := h.tag; omega⟩
set_option maxRecDepth 100000 in
theorem sealF_short (key : List Int) (role : Int) (sn : List Int) (epoch seq kind : Int) (plain : List Int) : FrShort (sealF key role sn epoch seq kind plain) 100 := by
  by_cases h : sealB key role sn epoch seq kind plain = true
  · rw [sealF_yes h]; exact sealD_short h
  · rw [sealF_no (by simpa using h)]; exact zeroF_short _
end Go.Proofs.YtpenhliaelhnoaaGreatDoor.SlQ

namespace Go.Proofs.YtpenhliaelhnoaaGreatDoor.Ranges
open Go.RowKit

/-- All cells lie as they lay. -/
structure CellsKept (W W' : World) : Prop where
  size : W.heap.size ≤ W'.heap.size
  same : ∀ (k : Nat) (o : Obj), W.heap[k]? = some o → o.isCells = true → W'.heap[k]? = some o

set_option maxRecDepth 100000 in
theorem CellsKept.of_below {W W' : World} (h : Below W.heap.size W W') : CellsKept W W' :=
  ⟨h.size, fun k _ hk _ => (h.block k (Array.getElem?_eq_some_iff.1 hk).1).trans hk⟩
set_option maxRecDepth 100000 in
theorem CellsKept.put {W : World} {l : Nat} {o : Obj} (o' : Obj) (h : W.heap[l]? = some o) (ho : o.isCells = false) : CellsKept W (W.putObj l o') :=
  ⟨by simp, fun k x hk hx => by
    have e : k ≠ l := by rintro rfl; rw [h] at hk; cases hk; rw [ho] at hx; cases hx
    exact (World.putObj_heap_other e).trans hk⟩
set_option maxRecDepth 100000 in
theorem CellsKept.trans {A B C : World} (h : CellsKept A B) (k : CellsKept B C) : CellsKept A C := ⟨Nat.le_trans h.size k.size, fun i o hi ho => k.same i o (h.same i o hi ho) ho⟩
set_option maxRecDepth 100000 in
theorem below_put {n₀ l : Nat} {u W : World} {o : Obj} (o' : Obj) (h : Below n₀ u W) (hl : n₀ ≤ l) (ho : W.heap[l]? = some o) : Below n₀ u (W.putObj l o') :=
  h.grown (grownBy_putObj' W l o') (by have := (Array.getElem?_eq_some_iff.1 ho).1; omega) (fun k e => by cases e; exact hl)

/-- What speaks of cells, and of what lay below n₀, alone. -/
def Celled (n₀ : Nat) (p : World → Prop) : Prop := ∀ W W', p W → CellsKept W W' → Below n₀ W W' → p W'

/-- The iterator's word: called in W with any yield whose rounds keep U and carry J on by one, given what G says of the value, it hands over N values, or fewer if a round said no more. -/
def Feeds (F : Fence) (n : Nat) (P : Program) (gf : Nat) (lb : Array Value) (N : Nat) (G : Nat → Value → World → Prop) (U : World → Prop) (W : World) : Prop :=
  ∀ (l : Nat) (J : Nat → World → Prop) (Jx : World → Prop), (∀ i A B, J i A → Below A.heap.size A B → J i B) → (∀ i A, J i A → U A) →
    (∀ i v A, i < N → J i A → G i v A → YieldAt F (n - 1) P l #[v] A fun e B => (e = .returned (.bool true) ∧ J (i + 1) B) ∨ (e = .returned (.bool false) ∧ Jx B)) →
    J 0 W → CallsIn F n P gf (#[.func (.yield l) #[] #[]] ++ lb) W fun e B => (∃ v, e = .returned v) ∧ (J N B ∨ Jx B)

/-- How a round's body may be left. -/
def bodyPost (J : World → Prop) (Jx : Code → World → Prop) (A : World) : Exit → Act → World → Prop
  | .normal, _, B => KeepsOthers A B ∧ J B
  | .ret, _, B => KeepsOthers A B ∧ Jx .ret B
  | .exit id, _, B => KeepsOthers A B ∧ Jx (.exit id) B
  | .goto t, _, B => KeepsOthers A B ∧ Jx (.goto t) B
  | _, _, _ => False

set_option maxRecDepth 100000 in
theorem range_fed {F : Fence} {n : Nat} {P : Program} {g : Operand} {p : Tmp} {assign body : Code} {Q : Exit → Act → World → Prop} {a : Act} {w : World}
    (hro : F.round = none) (h1 : 1 ≤ n) {gf : Nat} {lb : Array Value} (hg : a.eval g = .func (.func gf) #[] lb) (hF : F.fn gf) (eg : ∀ args w, (callFunc gf args).run P w = .ok (.enter gf args) w)
    (N : Nat) (G : Nat → Value → World → Prop) (U : World → Prop) (hfeed : ∀ W, Feeds F (n - 1) P gf lb N G U W)
    (I : Nat → World → Prop) (Ix : Code → World → Prop) (hG : ∀ i v, Celled w.heap.size (G i v)) (hI : ∀ i, Celled w.heap.size (I i)) (hIx : ∀ c, Celled w.heap.size (Ix c)) (hU : ∀ i W, I i W → U W) (h0 : I 0 w) (a₁ : Value → Act)
    (hassign : ∀ (l : Nat) (v : Value) (W : World) (K : Act → World → Prop), K (a₁ v) W →
      assign.wpIn (F.inRound l) (n - 1 - 1) P (Exit.then K (fun _ _ _ => False)) { tmps := a.tmps.setIfInBounds p v, defers := [] } W)
    (hbody : ∀ (l i : Nat) (v : Value) (W : World), i < N → I i W → G i v W → body.wpIn (F.inRound l) (n - 1 - 1) P (bodyPost (I (i + 1)) Ix W) (a₁ v) W)
    (hdone : ∀ (D : Nat) (W : World), w.heap.size ≤ D → I N W → W.heap[D]? = some (.deferred (some [])) → Q .normal { a with defers := { target := .collected D, args := #[] } :: a.defers } W)
    (hstop : ∀ (D : Nat) (c : Code) (W : World), w.heap.size ≤ D → Ix c W → W.heap[D]? = some (.deferred (some [])) → c.wpIn F n P Q { a with defers := { target := .collected D, args := #[] } :: a.defers } W) :
    (Code.rangeFunc g #[p] assign body).wpIn F n P Q a w := by
  refine wpIn_rangeFunc fun fn hfn => ?_
  rw [hro]
  generalize hrec : (fun (st : LoopState) (pe : Option Code) => ({ state := st, pending := pe, fn, tmps := a.tmps, params := #[p], assign, body, defers := w.heap.size } : Loop)) = mk
  generalize hD : w.heap.size = D at *
  have hA := run_enterLoop_outer (P := P) (w := w) fn a.tmps #[p] assign body
  rw [hD] at hA
  generalize hW : (w.alloc (.deferred (some []))).alloc (.loop { state := .ready, pending := none, fn, tmps := a.tmps, params := #[p], assign, body, defers := D }) = W at hA
  have hl : W.heap[D + 1]? = some (.loop (mk .ready none)) := by
    have := World.alloc_heap_new (w.alloc (.deferred (some []))) (.loop (mk .ready none))
    rw [World.size_alloc, hD] at this
    rw [← hW, ← hrec]; rw [← hrec] at this; exact this
  have hd : W.heap[D]? = some (.deferred (some [])) := by
    rw [← hW, ← hD]; exact (Below.heap_alloc _ _ _ (by simp)).trans (World.alloc_heap_new w _)
  have hb : Below D w W := by rw [← hW, ← hD]; exact ((Below.refl _ w).alloc (Nat.le_refl _) _).alloc (by simp) _
  have hw0 : CellsKept w W := CellsKept.of_below (by rw [hD]; exact hb)
  refine ⟨D + 1, _, W, { target := .fn (.func gf) lb, args := #[.func (.yield (D + 1)) #[] #[]] }, W, gf, #[.func (.yield (D + 1)) #[] #[]] ++ lb, W, hA, ?_, ?_, ?_, fun _ => h1, ?_⟩
  · simp only [resolve, hg]; simp [go_sem]
  · intro f hf; simp [Target.leads] at hf; subst hf; exact hF
  · simp [invoke, go_sem, eg]
  refine (hfeed W (D + 1)
    (fun i A => I i A ∧ D ≤ A.heap.size ∧ A.heap[D + 1]? = some (.loop (mk .ready none)) ∧ A.heap[D]? = some (.deferred (some [])))
    (fun A => ∃ c, Ix c A ∧ D ≤ A.heap.size ∧ A.heap[D + 1]? = some (.loop (mk .done (some c))) ∧ A.heap[D]? = some (.deferred (some [])))
    ?_ (fun i A h => hU i A h.1) ?_ ⟨hI _ _ _ h0 hw0 hb, by rw [← hD]; exact hb.size, hl, hd⟩).mono ?_
  · rintro i A B ⟨q1, q2, q3, q4⟩ hAB
    have c1 := (Array.getElem?_eq_some_iff.1 q3).1
    have c2 := (Array.getElem?_eq_some_iff.1 q4).1
    exact ⟨hI _ _ _ q1 (CellsKept.of_below hAB) (hAB.mono (by omega)), Nat.le_trans q2 hAB.size, (hAB.block _ c1).trans q3, (hAB.block _ c2).trans q4⟩
  · rintro i v A hi ⟨q1, q2, q3, q4⟩ hv
    have lt1 := (Array.getElem?_eq_some_iff.1 q3).1
    have y := run_yield (P := P) (args := #[v]) q3 (by rw [← hrec]; rfl)
    refine ⟨fn, a.tmps.setIfInBounds p v, assign, body, ?_, roundIn_of_wpIn hfn (hassign _ v A _ ⟨_, run_beginRound q3 (by rw [← hrec]), ?_⟩)⟩
    · rw [y, ← hrec]; simp
    generalize hB : A.putObj (D + 1) (.loop { mk .ready none with state := .busy }) = B
    have kB : CellsKept A B := by rw [← hB]; exact CellsKept.put _ q3 rfl
    have bB : Below D A B := by rw [← hB]; exact below_put _ (Below.refl _ _) (by omega) q3
    have lB : B.heap[D + 1]? = some (.loop { mk .ready none with state := .busy }) := by rw [← hB]; exact World.putObj_heap_same lt1
    have dB : B.heap[D]? = some (.deferred (some [])) := by rw [← hB]; exact (World.putObj_heap_other (by omega)).trans q4
    refine wpIn_mono (hbody _ i v B hi (hI _ _ _ q1 kB bB) (hG _ _ _ _ hv kB bB)) ?_
    have last : ∀ (j : Option Code) (C : World), KeepsOthers B C →
        ∃ C', (Instr.endRound (D + 1) j).run P C = .ok (.bool j.isNone) C' ∧ CellsKept C C' ∧ Below D C C' ∧ D ≤ C'.heap.size ∧ C'.heap[D + 1]? = some (.loop (mk (if j.isNone then .ready else .done) j)) ∧ C'.heap[D]? = some (.deferred (some [])) := by
      intro j C hk
      have lC := hk.same _ _ lB rfl
      have dC := hk.same _ _ dB rfl
      refine ⟨_, run_endRound j lC, CellsKept.put _ lC rfl, below_put _ (Below.refl _ _) (by omega) lC, by have := (Array.getElem?_eq_some_iff.1 lC).1; simp; omega, ?_, (World.putObj_heap_other (by omega)).trans dC⟩
      rw [World.putObj_heap_same (Array.getElem?_eq_some_iff.1 lC).1, ← hrec]
    rintro e a3 C hp
    cases e with
    | normal =>
      obtain ⟨hk, hj⟩ := hp
      obtain ⟨C', r, k', b', s', l', d'⟩ := last none C hk
      exact ⟨_, C', r, .inl ⟨rfl, hI _ _ _ hj k' b', s', l', d'⟩⟩
    | ret =>
      obtain ⟨hk, hj⟩ := hp
      obtain ⟨C', r, k', b', s', l', d'⟩ := last (some .ret) C hk
      exact ⟨_, C', r, .inr ⟨rfl, .ret, hIx _ _ _ hj k' b', s', l', d'⟩⟩
    | exit id =>
      obtain ⟨hk, hj⟩ := hp
      obtain ⟨C', r, k', b', s', l', d'⟩ := last (some (.exit id)) C hk
      exact ⟨_, C', r, .inr ⟨rfl, .exit id, hIx _ _ _ hj k' b', s', l', d'⟩⟩
    | goto t =>
      obtain ⟨hk, hj⟩ := hp
      obtain ⟨C', r, k', b', s', l', d'⟩ := last (some (.goto t)) C hk
      exact ⟨_, C', r, .inr ⟨rfl, .goto t, hIx _ _ _ hj k' b', s', l', d'⟩⟩
    | panic ch => exact hp.elim
    | outgrown => exact hp.elim
  · rintro e B ⟨⟨v, rfl⟩, ⟨q1, q2, q3, q4⟩ | ⟨c, q1, q2, q3, q4⟩⟩
    · refine ⟨none, B.putObj (D + 1) (.loop { mk .ready none with state := .exhausted }), ?_, ?_⟩
      · rw [run_endLoop q3 (by rw [← hrec]; simp), ← hrec]
      · exact hdone D _ (Nat.le_refl _) (hI _ _ _ q1 (CellsKept.put _ q3 rfl) (below_put _ (Below.refl _ _) (by omega) q3)) ((World.putObj_heap_other (by omega)).trans q4)
    · refine ⟨some c, B.putObj (D + 1) (.loop { mk .done (some c) with state := .exhausted }), ?_, ?_⟩
      · rw [run_endLoop q3 (by rw [← hrec]; simp), ← hrec]
      · exact hstop D c _ (Nat.le_refl _) (hIx _ _ _ q1 (CellsKept.put _ q3 rfl) (below_put _ (Below.refl _ _) (by omega) q3)) ((World.putObj_heap_other (by omega)).trans q4)
end Go.Proofs.YtpenhliaelhnoaaGreatDoor.Ranges

namespace Go.Proofs.YtpenhliaelhnoaaGreatDoor.StrB
open Go.RowKit Go.Proofs.YtpenhliaelhnoaaGreatDoor.Mem Go.Proofs.YtpenhliaelhnoaaGreatDoor.App Go.Proofs.YtpenhliaelhnoaaGreatDoor.Blk Go.Proofs.YtpenhliaelhnoaaGreatDoor.Pads Go.Proofs.YtpenhliaelhnoaaGreatDoor.ShaP Go.Proofs.YtpenhliaelhnoaaGreatDoor.Comp Go.Proofs.YtpenhliaelhnoaaGreatDoor.MacP Go.Proofs.YtpenhliaelhnoaaGreatDoor.MacI Go.Proofs.YtpenhliaelhnoaaGreatDoor.KdfP Go.Proofs.YtpenhliaelhnoaaGreatDoor.Ranges
attribute [local go_sem] Oper.semAt_some

/-- What the iterator has captured: the key, the head. -/
def caught (q : Nat) : Array Value := #[.pointer (some ⟨q, 0, none⟩), .pointer (some ⟨q + 1, 0, none⟩)]
/-- What the iterator says of the i-th value. -/
def Given (k h : List Int) (i : Nat) (v : Value) (W : World) : Prop := ∃ g c, v = .slice (some ⟨g, 0, none⟩) 32 c ∧ Row W g c (sblk k h i)

/-- What the iterator reads. -/
def Reads (q : Nat) (a0 : Option Addr) (n0 c0 : Nat) (a1 : Option Addr) (n1 c1 : Nat) (k h : List Int) (W : World) : Prop :=
  Tab W ∧ Rd W a0 k ∧ Rd W a1 h ∧ Blk W q 22 [.slice a0 n0 c0] ∧ Blk W (q + 1) 22 [.slice a1 n1 c1]

end Go.Proofs.YtpenhliaelhnoaaGreatDoor.StrB
