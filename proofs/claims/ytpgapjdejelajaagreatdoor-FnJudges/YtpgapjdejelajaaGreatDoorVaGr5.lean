/-
  Memory in zones: a step keeps all blocks outside of a zone; what lies in a zone is carried over steps that keep it.
  What the laws' helpers over a slice of bytes answer, with the slice as one value and its memory as a zone.
  The struct Jar: its data, its value, what it reads as, what it owns; and what the laws' helpers over it answer.
  Slices of ints as values whose memory lies in a zone, and what the laws' helpers over them answer.
  How long the lists of a Jar are, all in all.
  Cookies as plain functions: jars, what a cookie is of, cookies, how long they live, and how a finish is judged.
  What impl's and spec's Cut answer at every slice of at most 4,194,304 bytes that is not nil and every two ints: the same bytes, in new memory, and the same word on whether they were there.
  What impl's wordsOf answers at every slice of ints of at most 4,194,304: whether they are eight words, and then those.
  What impl's and spec's Schedule answer at every slice of bytes of at most 4,194,304: the same words, in new memory.
  What spec's Schedule answers at every slice of bytes of at most 4,194,304: the words of impl's, in new memory.
-/
import Derived.Test.YtpgapjdejelajaaGreatDoorVaGr1
import Derived.Test.YtpgapjdejelajaaGreatDoorVaGr3
import Derived.Deep.CutBlock
import Derived.Test.YtpgapjdejelajaaGreatDoorVaGr2
import Derived.Test.YtpgapjdejelajaaGreatDoorVaGr4
import Derived.ChangeKeysEq
import Derived.Deep.RegionLaw
set_option linter.unusedVariables false
set_option maxRecDepth 100000
namespace Go.Proofs.YtpgapjdejelajaaGreatDoor.Zone
open Go.RowKit Mem Blk

structure Kept (lo hi : Nat) (w w' : World) : Prop where
 os : w'.os = w.os
 tape : w'.tape = w.tape
 output : w'.output = w.output
 size : w.heap.size ≤ w'.heap.size
 block : ∀ i, i < w.heap.size → (i < lo ∨ hi ≤ i) → w'.heap[i]? = w.heap[i]?

theorem Kept.of_below {w w' : World} (h : Below w.heap.size w w') (n : Nat) : Kept n n w w' := ⟨h.os, h.tape, h.output, h.size, fun i hi _ => h.block i hi⟩
theorem Kept.refl (lo hi : Nat) (w : World) : Kept lo hi w w := ⟨rfl, rfl, rfl, Nat.le_refl _, fun _ _ _ => rfl⟩
theorem Kept.of_grown {w w' : World} {g : Nat} (h : w.grownBy w' (some g)) : Kept g (g + 1) w w' := ⟨h.os, h.tape, h.output, h.size, fun i hi hg => h.block i hi (by simp only [ne_eq, Option.some.injEq]; omega)⟩
theorem Kept.trans {lo hi : Nat} {a b c : World} (h : Kept lo hi a b) (k : Kept lo hi b c) : Kept lo hi a c :=
 ⟨k.os.trans h.os, k.tape.trans h.tape, k.output.trans h.output, Nat.le_trans h.size k.size, fun i hi hg => (k.block i (Nat.lt_of_lt_of_le hi h.size) hg).trans (h.block i hi hg)⟩
theorem Kept.mono {lo hi lo' hi' : Nat} {a b : World} (h : Kept lo hi a b) (h1 : lo' ≤ lo) (h2 : hi ≤ hi') : Kept lo' hi' a b :=
 ⟨h.os, h.tape, h.output, h.size, fun i hi hg => h.block i hi (by omega)⟩
theorem Kept.below {lo hi n : Nat} {a b : World} (h : Kept lo hi a b) (h1 : n ≤ lo) (h2 : n ≤ a.heap.size) : Below n a b := ⟨h.os, h.tape, h.output, h.size, fun i hi => h.block i (by omega) (by omega)⟩
theorem Kept.setCell (w : World) (g i : Nat) (v : Value) : Kept g (g + 1) w (w.setCell ⟨g, i, none⟩ v) :=
 ⟨rfl, rfl, rfl, by simp, fun k _ hk => Below.heap_setCell w _ v k (by show k ≠ g; omega)⟩

structure Sl where
 a : Option Addr
 n : Nat
 c : Nat
structure SRd (w : World) (s : Sl) (l : List Int) : Prop where
 len : s.n = l.length
 rd : Rd w s.a l
 nil : s.a = none → s.c = 0
 cap : s.n ≤ s.c
 bytes : Bytes l

def SOwn (w : World) (lo hi : Nat) (s : Sl) (l : List Int) : Prop :=
 Bytes l ∧ ((s = ⟨none, 0, 0⟩ ∧ l = []) ∨ ∃ g, s.a = some ⟨g, 0, none⟩ ∧ s.n = l.length ∧ lo ≤ g ∧ g < hi ∧ Row w g s.c l)

theorem SOwn.rd {w : World} {lo hi : Nat} {s : Sl} {l : List Int} (h : SOwn w lo hi s l) : SRd w s l := by
 obtain ⟨hb, h | ⟨g, h1, h2, h3, h4, h5⟩⟩ := h
 ·
  obtain ⟨rfl, rfl⟩ := h
  exact ⟨rfl, (fun i hi => by cases hi), fun _ => rfl, Nat.le_refl _, hb⟩
 ·
  exact ⟨h2, by rw [h1]; exact h5.rd, (fun e => by rw [h1] at e; cases e), by rw [h2]; exact h5.1, hb⟩
theorem SOwn.carry {w w' : World} {lo hi a b : Nat} {s : Sl} {l : List Int} (h : SOwn w lo hi s l) (k : Kept a b w w') (d : hi ≤ a ∨ b ≤ lo) : SOwn w' lo hi s l := by
 obtain ⟨hb, h | ⟨g, h1, h2, h3, h4, h5⟩⟩ := h
 ·
  exact ⟨hb, .inl h⟩
 ·
  exact ⟨hb, .inr ⟨g, h1, h2, h3, h4, h5.keep (k.block g h5.lt (by omega))⟩⟩
theorem SOwn.len {w : World} {lo hi : Nat} {s : Sl} {l : List Int} (h : SOwn w lo hi s l) : s.n = l.length := h.rd.len
theorem SOwn.mono {w : World} {lo hi lo' hi' : Nat} {s : Sl} {l : List Int} (h : SOwn w lo hi s l) (h1 : lo' ≤ lo) (h2 : hi ≤ hi') : SOwn w lo' hi' s l := by
 obtain ⟨hb, h | ⟨g, q1, q2, q3, q4, q5⟩⟩ := h
 ·
  exact ⟨hb, .inl h⟩
 ·
  exact ⟨hb, .inr ⟨g, q1, q2, by omega, by omega, q5⟩⟩
theorem SOwn.nil (w : World) (lo hi : Nat) : SOwn w lo hi ⟨none, 0, 0⟩ [] := ⟨(fun z hz => by cases hz), .inl ⟨rfl, rfl⟩⟩
theorem SOwn.row {w : World} {lo hi g n c : Nat} {l : List Int} (h : Row w g c l) (hn : n = l.length) (hb : Bytes l) (h1 : lo ≤ g) (h2 : g < hi) : SOwn w lo hi ⟨some ⟨g, 0, none⟩, n, c⟩ l := ⟨hb, .inr ⟨g, rfl, hn, h1, h2, h⟩⟩
theorem SRd.later {w w' : World} {s : Sl} {l : List Int} (h : SRd w s l) (b : Below w.heap.size w w') : SRd w' s l := ⟨h.len, h.rd.later b (Nat.le_refl _), h.nil, h.cap, h.bytes⟩
end Go.Proofs.YtpgapjdejelajaaGreatDoor.Zone

namespace Go.Proofs.YtpgapjdejelajaaGreatDoor.JaZ
open Go.RowKit Mem Blk Zone Res

structure JaD where
 secret : List Int
structure JaS where
 secret : Sl
def jaV (_D : JaD) (S : JaS) : Value := .agg #[.slice S.secret.a S.secret.n S.secret.c]
structure JaRd (w : World) (S : JaS) (D : JaD) : Prop where
 secret : SRd w S.secret D.secret
structure JaApart (S : JaS) : Prop where
structure JaOwn (w : World) (lo hi : Nat) (S : JaS) (D : JaD) : Prop where
 secret : SOwn w lo hi S.secret D.secret
 apart : JaApart S
theorem JaOwn.rd {w : World} {lo hi : Nat} {S : JaS} {D : JaD} (h : JaOwn w lo hi S D) : JaRd w S D := ⟨h.secret.rd⟩
theorem JaOwn.carry {w w' : World} {lo hi a b : Nat} {S : JaS} {D : JaD} (h : JaOwn w lo hi S D) (k : Kept a b w w') (d : hi ≤ a ∨ b ≤ lo) : JaOwn w' lo hi S D := ⟨h.secret.carry k d, h.apart⟩
theorem JaOwn.later {w w' : World} {lo hi : Nat} {S : JaS} {D : JaD} (h : JaOwn w lo hi S D) (k : Below w.heap.size w w') : JaOwn w' lo hi S D := h.carry (Kept.of_below k hi) (.inl (Nat.le_refl _))
theorem JaOwn.mono {w : World} {lo hi lo' hi' : Nat} {S : JaS} {D : JaD} (h : JaOwn w lo hi S D) (h1 : lo' ≤ lo) (h2 : hi ≤ hi') : JaOwn w lo' hi' S D := ⟨h.secret.mono h1 h2, h.apart⟩
theorem JaRd.later {w w' : World} {S : JaS} {D : JaD} (h : JaRd w S D) (k : Below w.heap.size w w') : JaRd w' S D := ⟨h.secret.later k⟩
structure JaShort (D : JaD) (n : Nat) : Prop where
 secret : D.secret.length ≤ n
theorem aggJa : aggB Tryz.prog 25 1 = true := by kernel_rfl

end Go.Proofs.YtpgapjdejelajaaGreatDoor.JaZ

namespace Go.Proofs.YtpgapjdejelajaaGreatDoor.JaL
open Go.RowKit Mem Blk Zone JaZ
theorem ja_kept (w : World) (g : Nat) (v0 : Value) : Kept g (g + 1) w (w.setCell ⟨g, 0, none⟩ (v0)) := Kept.setCell _ _ _ _
theorem ja_size (w : World) (g : Nat) (v0 : Value) : (w.setCell ⟨g, 0, none⟩ (v0)).heap.size = w.heap.size := by simp
theorem ja_stored {w : World} {g lo hi : Nat} {u0 : Value} {D : JaD} {S : JaS} (k : Blk w g 25 [u0]) (o : JaOwn w lo hi S D) (d : g + 1 ≤ lo ∨ hi ≤ g) :
  Blk (w.setCell ⟨g, 0, none⟩ (.slice S.secret.a S.secret.n S.secret.c)) g 25 [.slice S.secret.a S.secret.n S.secret.c] ∧ JaOwn (w.setCell ⟨g, 0, none⟩ (.slice S.secret.a S.secret.n S.secret.c)) lo hi S D ∧ (∀ B a, B ≤ g → Below B a w → Below B a (w.setCell ⟨g, 0, none⟩ (.slice S.secret.a S.secret.n S.secret.c))) := by
 refine ⟨k.set 0 _ (by simp [maxLen]), o.carry (ja_kept w g _) (by omega), fun B a hB h => ?_⟩
 exact h.setCell (by exact hB) _
end Go.Proofs.YtpgapjdejelajaaGreatDoor.JaL

namespace Go.Proofs.YtpgapjdejelajaaGreatDoor.CkP
open Go.RowKit Mem App Words Zone JaZ AddrP AddrS Str

def jarB : ByteArray := ⟨#[106, 97, 114]⟩
def jarOk (D : JaD) : Bool := ((D.secret.length : Int) == 32)
theorem jarOk_iff {D : JaD} : jarOk D = true ↔ D.secret.length = 32 := by unfold jarOk; simp; omega
def mintF (h p id : Int) (cn sn : Nat) (tick : Int) : Bool := addrOk h p && isIn id 1 9 && ((cn : Int) == 12) && ((sn : Int) == 12) && isIn tick 0 1000000
theorem mintF_parts {h p id : Int} {cn sn : Nat} {tick : Int} (k : mintF h p id cn sn tick = true) : addrOk h p = true ∧ (1 ≤ id ∧ id ≤ 9) ∧ cn = 12 ∧ sn = 12 ∧ (0 ≤ tick ∧ tick ≤ 1000000) := by
 unfold mintF isIn at k
 simp only [Bool.and_eq_true, decide_eq_true_eq, beq_iff_eq] at k
 obtain ⟨⟨⟨⟨k1, k2⟩, k3⟩, k4⟩, k5⟩ := k
 exact ⟨k1, k2, by omega, by omega, k5⟩
def mintL (h p id : Int) (cn sn : List Int) (tick : Int) : List Int := if mintF h p id cn.length sn.length tick = true then putA [99] h p ++ [id] ++ cn ++ sn ++ putN tick 4 else []
theorem mintL_yes {h p id : Int} {cn sn : List Int} {tick : Int} (k : mintF h p id cn.length sn.length tick = true) : mintL h p id cn sn tick = putA [99] h p ++ [id] ++ cn ++ sn ++ putN tick 4 := if_pos k
theorem mintL_no {h p id : Int} {cn sn : List Int} {tick : Int} (k : mintF h p id cn.length sn.length tick = false) : mintL h p id cn sn tick = [] := if_neg (by rw [k]; decide)
theorem putA_len {h p : Int} (k : addrOk h p = true) (l : List Int) : (putA l h p).length = l.length + 6 := by
 unfold putA; rw [if_pos k, List.length_append, List.length_append, num_length, num_length]
theorem putN4_len (n : Int) : (putN n 4).length = 4 := by show (num n 4).length = 4; rw [num_length]
theorem mintL_len {h p id : Int} {cn sn : List Int} {tick : Int} (k : mintF h p id cn.length sn.length tick = true) : (mintL h p id cn sn tick).length = 36 := by
 obtain ⟨k1, _, k3, k4, _⟩ := mintF_parts k
 rw [mintL_yes k]
 simp only [List.length_append, putA_len k1, putN4_len, k3, k4]
 rfl
theorem app_bytes {a b : List Int} (ha : Bytes a) (hb : Bytes b) : Bytes (a ++ b) := by
 intro z hz
 rcases List.mem_append.1 hz with h | h
 ·
  exact ha z h
 ·
  exact hb z h
theorem putA_bytes {l : List Int} (h p : Int) (hl : Bytes l) : Bytes (putA l h p) := by
 unfold putA; split
 ·
  exact app_bytes (app_bytes hl (num_bytes _ _)) (num_bytes _ _)
 ·
  exact hl
theorem one_bytes {x : Int} (h0 : 0 ≤ x) (h1 : x ≤ 255) : Bytes [x] := by
 intro z hz; simp at hz; omega
theorem num4_bytes (n : Int) : Bytes (putN n 4) := by
 show Bytes (num n 4); exact num_bytes _ _
theorem mintL_bytes {h p id : Int} {cn sn : List Int} {tick : Int} (hc : Bytes cn) (hs : Bytes sn) : Bytes (mintL h p id cn sn tick) := by
 cases k : mintF h p id cn.length sn.length tick with
 | true =>
  have q := (mintF_parts k).2.1
  rw [mintL_yes k]
  exact app_bytes (app_bytes (app_bytes (app_bytes (putA_bytes _ _ (one_bytes (by omega) (by omega))) (one_bytes (by omega) (by omega))) hc) hs) (num4_bytes _)
 | false => rw [mintL_no k]; intro z hz; cases hz
def freshB (now tick : Int) : Bool := isIn now 0 1000000 && isIn tick 0 1000000 && isIn (now - tick) 0 10
end Go.Proofs.YtpgapjdejelajaaGreatDoor.CkP

namespace Go.Proofs.YtpgapjdejelajaaGreatDoor.Cuts
open Go.RowKit Mem App Get

def cutOf (l : List Int) (i k : Int) : List Int := if there l.length i k = true then piece l i.toNat k.toNat else []
theorem rd_piece {w : World} {b off : Nat} {l : List Int} (h : Rd w (some ⟨b, off, none⟩) l) (i k : Nat) (hk : i + k ≤ l.length) : Rd w (some ⟨b, off + i, none⟩) (piece l i k) := by
 intro j hj
 rw [piece_length l i k hk] at hj
 obtain ⟨b', off', e, h1, h2⟩ := h (i + j) (by omega)
 simp only [Option.some.injEq, Addr.mk.injEq, and_true] at e
 obtain ⟨rfl, rfl⟩ := e
 refine ⟨b, off + i, rfl, h1, ?_⟩
 have e : (piece l i k).getD j 0 = l.getD (i + j) 0 := by simp [piece, List.getD, hj]
 rw [e, Nat.add_assoc]
 exact h2

set_option maxHeartbeats 800000 in
theorem implCut (b off len cap : Nat) (l : List Int) (i k : Int) (w : World) (hl : len = l.length) (hr : Rd w (some ⟨b, off, none⟩) l) (hlc : len ≤ cap) (hlen : len ≤ 4194304) (hi : i ≤ 9223372036854775807) :
  Calls Tryz.prog 67 #[.slice (some ⟨b, off, none⟩) len cap, .int .i64 i, .int .i64 k] w fun e w' =>
   ∃ g m c, e = .returned (.tuple #[.slice (some ⟨g, 0, none⟩) m c, .bool (there len i k)]) ∧ m = (cutOf l i k).length ∧ w.heap.size ≤ g ∧ Row w' g c (cutOf l i k) ∧ Below w.heap.size w w' := by
 have HR := hid (hr)
 have HL : Hid (len = l.length) := hl
 clear hr hl
 by_cases ht : there len i k = true
 ·
  have HC : Hid (cutOf l i k = piece l i.toNat k.toNat) := by
   show cutOf l i k = _
   unfold cutOf; rw [if_pos (by rw [← HL.out]; exact ht)]
  have ht' : 0 ≤ i ∧ 0 ≤ k ∧ k ≤ (len : Int) - i := by simpa [there] using ht
  obtain ⟨I, rfl⟩ := Int.eq_ofNat_of_zero_le ht'.1
  obtain ⟨K, rfl⟩ := Int.eq_ofNat_of_zero_le ht'.2.1
  rw [Int.toNat_natCast, Int.toNat_natCast] at HC
  have k3 : I + K ≤ len := by omega
  have HK : Hid (I + K ≤ l.length) := by show _ ≤ _; rw [← HL.out]; exact k3
  have HP : Hid (Rd w (some ⟨b, off + I, none⟩) (piece l I K)) := rd_piece HR.out I K HK.out
  have HN : Hid (K = (piece l I K).length) := by show _ = _; rw [piece_length l I K HK.out]
  have HM : Hid (I + K - I = (piece l I K).length) := by show _ = _; rw [piece_length l I K HK.out]; omega
  clear ht'
  by_cases hc : cap = I
  ·
   have hk0 : K = 0 := by omega
   subst hk0
   subst hc
   have ht0 : there len (cap : Int) 0 = true := by simpa using ht
   have HC0 : Hid (cutOf l (cap : Int) ((0 : Nat) : Int) = []) := by show _ = _; rw [HC.out]; simp [piece]
   clear ht HC
   go_enter Tryz.func67, Tryz.ntmps67
   go_wp2_with fail
   refine (allThere _ len _ _ _ _ hlen hi).mono ?_
   rintro e w1 ⟨rfl, rfl⟩
   go_wp2_with fail
   refine (putBytes _ none 0 0 0 0 [] [] w rfl rfl (by intro i hi; cases hi) (by intro i hi; cases hi) (fun _ => rfl) (fun _ => rfl) (by simp) (by simp)).mono ?_
   rintro e w2 ⟨rfl, h3, h4⟩
   go_wp2
   go_ret2
   exact ⟨w.heap.size, 0, 0, by simp [ht0], by rw [HC0.out]; rfl, Nat.le_refl _, by rw [HC0.out]; exact h3, h4⟩
  ·
   go_enter Tryz.func67, Tryz.ntmps67
   go_wp2_with fail
   refine (allThere _ len cap _ _ _ hlen hi).mono ?_
   rintro e w1 ⟨rfl, rfl⟩
   go_wp2_with fail
   refine (putBytes _ none _ _ 0 0 (piece l I K) [] w HN.out rfl HP.out (by intro i hi; cases hi) (by intro h; cases h) (fun _ => rfl) (by rw [← HN.out]; omega) (by simp)).mono ?_
   rintro e w2 ⟨rfl, h3, h4⟩
   go_wp2
   go_ret2
   exact ⟨w.heap.size, K, K, by simp [ht], by rw [HC.out, ← HN.out], Nat.le_refl _, by rw [HC.out]; simpa using h3, h4⟩
 ·
  have hf : there len i k = false := by simpa using ht
  have HC : Hid (cutOf l i k = []) := by
   show cutOf l i k = _
   unfold cutOf; rw [if_neg (by rw [← HL.out]; exact ht)]
  clear ht
  go_enter Tryz.func67, Tryz.ntmps67
  go_wp2_with fail
  refine (allThere _ len cap _ _ _ hlen hi).mono ?_
  rintro e w1 ⟨rfl, rfl⟩
  go_wp2
  go_ret2
  exact ⟨w.heap.size, 0, 0, by simp [hf], by rw [HC.out]; rfl, Nat.le_refl _, by rw [HC.out]; exact row_new w [] (by simp), (Below.refl _ _).alloc (Nat.le_refl _) _⟩

end Go.Proofs.YtpgapjdejelajaaGreatDoor.Cuts

namespace Go.Proofs.YtpgapjdejelajaaGreatDoor.WordsOf
open Go.RowKit Mem MemI Blk App Get ShaP Word Bits Sched Words

theorem blk_drew {w : World} {g : Nat} {t : TypeId} {cs : List Value} (h : Blk w g t cs) : Blk w.drew g t cs := h
end Go.Proofs.YtpgapjdejelajaaGreatDoor.WordsOf

namespace Go.Proofs.YtpgapjdejelajaaGreatDoor.Sched2
open Go.RowKit Mem MemI Blk App Get ShaP Word Bits Sched

def schedI (b : List Int) : List Int := if b.length = 64 then sched b else []
end Go.Proofs.YtpgapjdejelajaaGreatDoor.Sched2

namespace Go.Proofs.YtpgapjdejelajaaGreatDoor.SchedS
open Go.RowKit Mem MemI Blk App Get ShaP Word Bits Sched Sched2

theorem istep_app {ops : Array Oper} {o : Oper} {a : Act} {w : World} {K : Act → World → Prop} {Q : Exit → Act → World → Prop} {E : Prop}
  (hgd : o.guard = none) (s x : Operand) (hop : o.op = .call { callee := .builtin .append, args := #[s, x], argTypes := #[63, 63] })
  (base g n cap : Nat) (l y : List Int) (hs : a.eval s = .slice (some ⟨g, 0, none⟩) n cap) (hn : n = l.length) (hrow : IRow w g cap l) (hbg : base ≤ g)
  (ad : Addr) (m c : Nat) (hx : a.eval x = .slice (some ad) m c) (hm : m = y.length) (hrd : IRd w (some ad) y) (hsum : l.length + y.length ≤ 100000000)
  (hK : ∀ g' cap' w', IRow w' g' cap' (l ++ y) → base ≤ g' → g' < w'.heap.size → w.grownBy w' (some g) → K (a.put o.dst (.slice (some ⟨g', 0, none⟩) (n + m) cap')) w') :
  if Region.wanted o (yielded ops a.tmps) = true then Oper.wp Tryz.prog o a w K Q else E := by
 have hw : Region.wanted o (yielded ops a.tmps) = true := by simp [Region.wanted, hgd]
 rw [if_pos hw]
 obtain ⟨i0, hi, hz0, hz1, hz2⟩ := info_parts info64
 subst hn hm
 have hlt := hrow.lt
 refine wp_append_own w s x 63 hop base 3 i0 (.int .i64 0) 1 8 Tryz.underlying63 hi hz0 hz1 hz2 rfl (by decide) _ _ _ hs (hrow.owns hbg) ad y.length c (y.map (Value.int .i64)) hx (by simp) (IRd.cells hrd) (ints_oneCell _ _) (by unfold maxLen; omega) (by omega) (by omega) ?_
 intro v' w' hown hgr hiff
 rcases hown.2 with ⟨hv, _⟩ | ⟨g', cap', cur, rfl, hb, hg', _⟩
 ·
  exact absurd (hiff.1 hv).1 (by simp)
 ·
  rw [← List.map_append] at hown
  obtain ⟨r1, r2, _, r4⟩ := IRow.of hown
  exact hK g' cap' w' r1 r2 r4 hgr

theorem ird_heap {w w' : World} {a : Option Addr} {l : List Int} (h : IRd w a l) (e : w'.heap = w.heap) : IRd w' a l := by
 intro i hi
 obtain ⟨b, off, rfl, h1, h2⟩ := h i hi
 exact ⟨b, off, rfl, by rw [e]; exact h1, by rw [World.cell?_of_block (w := w) (by rw [e])]; exact h2⟩

set_option maxHeartbeats 1600000 in
theorem specSchedule (a : Option Addr) (n cap : Nat) (b : List Int) (w : World) (hl : n = b.length) (hr : Rd w a b) (hb : Bytes b) (hn : n ≤ 4194304) :
  Calls Tryz.prog 117 #[.slice a n cap] w fun e w' =>
   ∃ g m c, e = .returned (.slice (some ⟨g, 0, none⟩) m c) ∧ m = (schedI b).length ∧ w.heap.size ≤ g ∧ IRow w' g c (schedI b) ∧ Below w.heap.size w w' := by
 have HA1 : Hid (Below w.heap.size w (w.alloc (.cells #[] 3))) := (Below.refl _ _).alloc (Nat.le_refl _) _
 have HN1 : Hid (IRow (w.alloc (.cells #[] 3)) w.heap.size 0 []) := irow_new w [] (by simp)
 by_cases h64 : n = 64
 ·
  subst h64
  have HS : Hid (schedI b = more (first b 16) 48) := by show _ = _; unfold schedI; rw [if_pos hl.symm]; rfl
  have HR := hid (hr)
  have HB := hid (hb)
  have HL : Hid (b.length = 64) := hl.symm
  clear hr hb hl
  go_enter Tryz.func117, Tryz.ntmps117
  go_wp2
  go_loopw [3, 4] (fun v i wr => ∃ k g c : Nat, k ≤ 16 ∧ i = .int .i64 k ∧ v = .slice (some ⟨g, 0, none⟩) k c ∧ w.heap.size ≤ g ∧ IRow wr g c (first b k) ∧ Below w.heap.size w wr)
   (fun _ i _ => 16 - (intOf i).toNat)
  case atStart => exact ⟨0, w.heap.size, 0, Nat.zero_le _, rfl, rfl, Nat.le_refl _, HN1.out, HA1.out⟩
  case round =>
   obtain ⟨k, g, c, hk, rfl, rfl, hg, hrow, hbe⟩ := hrel
   clear HN1 HA1
   have HRow := hid (hrow)
   have HBe := hid (hbe)
   clear hrow hbe
   by_cases hlt : k < 16
   ·
    have hG : gotN b (4 * (k : Int)) 4 = .tuple #[.int .i64 (val (piece b (4 * k) 4)), .int .i64 (4 * (k : Int) + 4), .bool true] := by
     unfold gotN
     rw [if_pos ⟨(isSize_iff 4).2 (by omega), there_yes (by rw [HL.out]; omega)⟩]
     rw [show (4 * (k : Int)).toNat = 4 * k by omega]; rfl
    have HF : Hid (first b (k + 1) = first b k ++ [val (piece b (4 * k) 4)]) := first_succ b k
    have HK : Hid (k = (first b k).length) := (first_length b k).symm
    generalize val (piece b (4 * k) 4) = v1 at *
    go_wp2_with fail
    refine (specGetN a 64 cap b (4 * (k : Int)) 4 wr HL.out.symm (HR.out.later HBe.out (Nat.le_refl _)) HB.out (by omega)).mono ?_
    rintro e w1 ⟨rfl, rfl⟩
    go_wp2_with (at_builtin; refine iwpList_app _ rfl (.tmp 30) (.tmp 32) rfl w.heap.size g k c (first b k) [v1] rfl HK.out (irow_alloc HRow.out _) hg (some ⟨wr.heap.size, 0, none⟩) 1 1 rfl rfl (ird_one _ _) (by intro h; cases h) (by rw [← HK.out]; simp; omega) ?_; intro g2 c2 w2 r2 b2 l2 gr2; have R2 := hid (r2); have B2 : Hid (Below w.heap.size w w2) := (HBe.out.alloc HBe.out.size _).grown gr2 (Nat.le_trans HBe.out.size (by simp)) (fun k h => by cases h; exact hg); clear r2 gr2 l2)
    go_roundw
    case rel => exact ⟨k + 1, g2, c2, by omega, by go_num, rfl, b2, by rw [HF.out]; exact R2.out, B2.out⟩
    case measure => simp [intOf]; omega
   ·
    obtain rfl : k = 16 := by omega
    go_wp2
    go_loopw [3, 8] (fun v i wr => ∃ n g c : Nat, n ≤ 48 ∧ i = .int .i64 ((n : Int) + 16) ∧ v = .slice (some ⟨g, 0, none⟩) (n + 16) c ∧ w.heap.size ≤ g ∧ IRow wr g c (more (first b 16) n) ∧ Below w.heap.size w wr)
     (fun _ i _ => 64 - (intOf i).toNat)
    case atStart => exact ⟨0, g, c, Nat.zero_le _, rfl, rfl, hg, HRow.out, HBe.out⟩
    case round =>
     obtain ⟨n, g, c, hn, rfl, rfl, hg, hrow, hbe⟩ := hrel
     clear HRow HBe
     have HRow := hid (hrow)
     have HBe := hid (hbe)
     have HK : Hid (n + 16 = (more (first b 16) n).length) := by show _ = _; rw [more_length, first_length]; omega
     clear hrow hbe
     by_cases hlt : n < 48
     ·
      have c1 := HRow.out.cell (n + 1) (by rw [← HK.out]; omega)
      have c2 := HRow.out.cell (n + 14) (by rw [← HK.out]; omega)
      have c3 := HRow.out.cell (n + 9) (by rw [← HK.out]; omega)
      have c4 := HRow.out.cell n (by rw [← HK.out]; omega)
      have hws : Wds (more (first b 16) n) := more_wds _ _ (first_wds b 16 HB.out)
      have w1 := hws.at (n + 1)
      have w2 := hws.at (n + 14)
      have w3 := hws.at (n + 9)
      have w4 := hws.at n
      obtain ⟨z, hz⟩ : ∃ z, nextW (more (first b 16) n) (16 + n) = z := ⟨_, rfl⟩
      have HN : Hid (((more (first b 16) n).getD (n + 9) 0 + (more (first b 16) n).getD n 0 + s0 ((more (first b 16) n).getD (n + 1) 0) + s1 ((more (first b 16) n).getD (n + 14) 0)) % 4294967296 = z) := by
       show _ = _
       rw [← hz]; unfold nextW
       rw [show 16 + n - 7 = n + 9 by omega, show 16 + n - 16 = n by omega, show 16 + n - 15 = n + 1 by omega, show 16 + n - 2 = n + 14 by omega]
      have HF : Hid (more (first b 16) (n + 1) = more (first b 16) n ++ [z]) := by rw [← hz]; exact (rfl : more (first b 16) (n + 1) = _)
      clear hz hws
      obtain ⟨L, hL⟩ : ∃ L, more (first b 16) n = L := ⟨_, rfl⟩
      rw [hL] at HRow HK HF HN c1 c2 c3 c4 w1 w2 w3 w4
      clear hL
      generalize L.getD (n + 1) 0 = x1 at *
      generalize L.getD (n + 14) 0 = x2 at *
      generalize L.getD (n + 9) 0 = x3 at *
      generalize L.getD n 0 = x4 at *
      obtain ⟨w1a, w1b⟩ := w1
      obtain ⟨w2a, w2b⟩ := w2
      obtain ⟨w3a, w3b⟩ := w3
      obtain ⟨w4a, w4b⟩ := w4
      have hs0 : Wd (bits .xor .i64 (bits .xor .i64 (rot x1 7) (rot x1 18)) (x1 / 8)) := wd_s0 (x := x1) ⟨w1a, w1b⟩
      have hs1 : Wd (bits .xor .i64 (bits .xor .i64 (rot x2 17) (rot x2 19)) (x2 / 1024)) := wd_s1 (x := x2) ⟨w2a, w2b⟩
      have HN : Hid ((x3 + x4 + bits .xor .i64 (bits .xor .i64 (rot x1 7) (rot x1 18)) (x1 / 8) + bits .xor .i64 (bits .xor .i64 (rot x2 17) (rot x2 19)) (x2 / 1024)) % 4294967296 = z) := HN.out
      have i1 : (0 : Int) ≤ (n : Int) + 16 - 15 := by omega
      have i2 : (n : Int) + 16 - 15 < ((n + 16 : Nat) : Int) := by omega
      have i3 : (0 : Int) ≤ (n : Int) + 16 - 2 := by omega
      have i4 : (n : Int) + 16 - 2 < ((n + 16 : Nat) : Int) := by omega
      go_wp2_with fail
      refine (specRot _ _ _).mono ?_
      rintro e _ ⟨rfl, q1, rfl⟩
      go_wp2_with fail
      refine (specRotD _ _ _ _).mono ?_
      rintro e _ ⟨rfl, q2, rfl⟩
      go_wp2_with fail
      refine (specRotD _ _ _ _).mono ?_
      rintro e _ ⟨rfl, q3, rfl⟩
      go_wp2_with fail
      refine (specRotD _ _ _ _).mono ?_
      rintro e _ ⟨rfl, q4, rfl⟩
      go_wp2_with fail
      generalize bits .xor .i64 (bits .xor .i64 (rot x1 7) (rot x1 18)) (x1 / 8) = f0 at *
      generalize bits .xor .i64 (bits .xor .i64 (rot x2 17) (rot x2 19)) (x2 / 1024) = f1 at *
      obtain ⟨f0a, f0b⟩ := hs0
      obtain ⟨f1a, f1b⟩ := hs1
      obtain ⟨p, hp⟩ : ∃ p : Nat, n + 9 = p := ⟨_, rfl⟩
      rw [hp] at c3
      have hp64 : (p : Int) < (n : Int) + 16 := by omega
      have hn64 : (n : Int) < (n : Int) + 16 := by omega
      have j1 : IntKind.i64.wrap ((n : Int) + 16 - 7) = (p : Int) := by rw [IntKind.wrap_i64]; omega
      have j2 : IntKind.i64.wrap (n : Int) = (n : Int) := by rw [IntKind.wrap_i64]; omega
      have j3 : IntKind.i64.wrap (x3 + x4) = x3 + x4 := by rw [IntKind.wrap_i64]; omega
      have j4 : IntKind.i64.wrap (x3 + x4 + f0) = x3 + x4 + f0 := by rw [IntKind.wrap_i64]; omega
      have j5 : IntKind.i64.wrap (x3 + x4 + f0 + f1) = x3 + x4 + f0 + f1 := by rw [IntKind.wrap_i64]; omega
      have j6 : bits .and .i64 (x3 + x4 + f0 + f1) 4294967295 = z := by rw [mask32]; exact HN.out
      clear hp
      go_region_law (refine istep_app rfl (.tmp 64) (.tmp 81) rfl w.heap.size g (n + 16) c L [z] (by simp [Act.eval]) HK.out (by exact (irow_alloc HRow.out (.cells #[.int .i64 z] 3)).keep rfl) hg ⟨wr.heap.size, 0, none⟩ 1 1 (by simp [Act.eval]) rfl (by exact ird_heap (ird_one wr _) rfl) (by rw [← HK.out]; simp; omega) ?_; intro g2 c2 w2 r2 b2 l2 gr2; have R2 := hid (r2); have B2 : Hid (Below w.heap.size w w2) := Below.grown (below_drewN ((HBe.out.alloc HBe.out.size (.cells #[.int .i64 z] 3))) (q4 + 1)) gr2 (Nat.le_trans HBe.out.size (by simp)) (fun k h => by cases h; exact hg); clear r2 gr2 l2)
      all_goals
       go_wp2
       refine ⟨?_, ?measure⟩
       (repeat apply Exists.intro)
       refine ⟨?rel, rfl⟩
       case rel => exact ⟨n + 1, g2, c2, by omega, by go_num, by rw [show n + 1 + 16 = n + 16 + 1 by omega], b2, by rw [HF.out]; exact R2.out, B2.out⟩
       case measure => simp [intOf]; omega
     ·
      obtain rfl : n = 48 := by omega
      have HM : Hid ((more (first b 16) 48).length = 64) := by show _ = _; rw [more_length, first_length]
      go_wp2
      go_ret
      exact ⟨g, 64, c, rfl, by rw [HS.out, HM.out], hg, by rw [HS.out]; exact HRow.out, HBe.out⟩
 ·
  have HS : Hid (schedI b = []) := by show _ = _; unfold schedI; rw [if_neg (by omega)]
  have hne : ((n : Int) != 64) = true := by simp; omega
  clear h64 hl hr hb
  go_enter Tryz.func117, Tryz.ntmps117
  go_wp2
  go_ret
  exact ⟨w.heap.size, 0, 0, by simp, by rw [HS.out]; rfl, Nat.le_refl _, by rw [HS.out]; exact HN1.out, HA1.out⟩
end Go.Proofs.YtpgapjdejelajaaGreatDoor.SchedS
