/-
  A Frame that is being made: a field that is set to a slice made behind all that the frame owns; what else was turned lies ahead of its zone.
-/
import Derived.Test.YtpenhliaelhnoaaGreatDoorVaFrM
set_option maxRecDepth 100000
namespace Go.Proofs.YtpenhliaelhnoaaGreatDoor.FrN
open Go.RowKit Mem Blk Zone Res FrZ FrM

theorem FrMk.kept {w w' : World} {g lo q : Nat} {D : FrD} {S : FrS} (h : FrMk w g lo D S) (k : Kept q (q + 1) w w') (ne : g ≠ q) (hq : q < lo) : FrMk w' g lo D S :=
 ⟨h.blk.keep (k.block g h.blk.lt (by omega)), (h.own.carry k (.inr hq)).mono (Nat.le_refl _) k.size, h.lt⟩

theorem FrMk.cn2 {w1 : World} {g lo hi : Nat} {D : FrD} {S : FrS} (hblk : Blk w1 g 25 [.int .i64 D.kind, .int .i64 D.id, .slice S.cn.a S.cn.n S.cn.c, .slice S.sn.a S.sn.n S.sn.c, .int .i64 D.tick, .slice S.cookie.a S.cookie.n S.cookie.c, .slice S.proof.a S.proof.n S.proof.c, .int .i64 D.epoch, .int .i64 D.seq, .slice S.body.a S.body.n S.body.c, .slice S.tag.a S.tag.n S.tag.c]) (own : FrOwn w1 lo hi S D) (lt : g < lo) (hlo : lo ≤ hi) {q m c : Nat} {l : List Int} (r : Row w1 q c l) (hn : m = l.length) (hb : Bytes l) (hq : hi ≤ q) :
  FrMk (w1.setCell ⟨g, 2, none⟩ (.slice (some ⟨q, 0, none⟩) m c)) g lo { D with cn := l } { S with cn := ⟨some ⟨q, 0, none⟩, m, c⟩ } := by
 have hs : hi ≤ (w1.setCell ⟨g, 2, none⟩ (.slice (some ⟨q, 0, none⟩) m c)).heap.size := by simp; have := r.lt; omega
 have o := (own.carry (Kept.setCell w1 g 2 (.slice (some ⟨q, 0, none⟩) m c)) (.inr lt)).mono (Nat.le_refl _) hs
 have r2 : Row (w1.setCell ⟨g, 2, none⟩ (.slice (some ⟨q, 0, none⟩) m c)) q c l := r.keep (Below.heap_setCell w1 _ _ q (by show q ≠ g; omega))
 refine ⟨hblk.set 2 _ (by simp [maxLen]), ⟨SOwn.row r2 hn hb ?_ r2.lt, o.sn, o.cookie, o.proof, o.body, o.tag, ⟨.inr (ne_new own.sn hq).symm, .inr (ne_new own.cookie hq).symm, .inr (ne_new own.proof hq).symm, .inr (ne_new own.body hq).symm, .inr (ne_new own.tag hq).symm, o.apart.sncookie, o.apart.snproof, o.apart.snbody, o.apart.sntag, o.apart.cookieproof, o.apart.cookiebody, o.apart.cookietag, o.apart.proofbody, o.apart.prooftag, o.apart.bodytag⟩⟩, lt⟩
 exact Nat.le_trans hlo hq
theorem FrMk.sn2 {w1 : World} {g lo hi : Nat} {D : FrD} {S : FrS} (hblk : Blk w1 g 25 [.int .i64 D.kind, .int .i64 D.id, .slice S.cn.a S.cn.n S.cn.c, .slice S.sn.a S.sn.n S.sn.c, .int .i64 D.tick, .slice S.cookie.a S.cookie.n S.cookie.c, .slice S.proof.a S.proof.n S.proof.c, .int .i64 D.epoch, .int .i64 D.seq, .slice S.body.a S.body.n S.body.c, .slice S.tag.a S.tag.n S.tag.c]) (own : FrOwn w1 lo hi S D) (lt : g < lo) (hlo : lo ≤ hi) {q m c : Nat} {l : List Int} (r : Row w1 q c l) (hn : m = l.length) (hb : Bytes l) (hq : hi ≤ q) :
  FrMk (w1.setCell ⟨g, 3, none⟩ (.slice (some ⟨q, 0, none⟩) m c)) g lo { D with sn := l } { S with sn := ⟨some ⟨q, 0, none⟩, m, c⟩ } := by
 have hs : hi ≤ (w1.setCell ⟨g, 3, none⟩ (.slice (some ⟨q, 0, none⟩) m c)).heap.size := by simp; have := r.lt; omega
 have o := (own.carry (Kept.setCell w1 g 3 (.slice (some ⟨q, 0, none⟩) m c)) (.inr lt)).mono (Nat.le_refl _) hs
 have r2 : Row (w1.setCell ⟨g, 3, none⟩ (.slice (some ⟨q, 0, none⟩) m c)) q c l := r.keep (Below.heap_setCell w1 _ _ q (by show q ≠ g; omega))
 refine ⟨hblk.set 3 _ (by simp [maxLen]), ⟨o.cn, SOwn.row r2 hn hb ?_ r2.lt, o.cookie, o.proof, o.body, o.tag, ⟨.inr (ne_new own.cn hq), o.apart.cncookie, o.apart.cnproof, o.apart.cnbody, o.apart.cntag, .inr (ne_new own.cookie hq).symm, .inr (ne_new own.proof hq).symm, .inr (ne_new own.body hq).symm, .inr (ne_new own.tag hq).symm, o.apart.cookieproof, o.apart.cookiebody, o.apart.cookietag, o.apart.proofbody, o.apart.prooftag, o.apart.bodytag⟩⟩, lt⟩
 exact Nat.le_trans hlo hq
theorem FrMk.cookie2 {w1 : World} {g lo hi : Nat} {D : FrD} {S : FrS} (hblk : Blk w1 g 25 [.int .i64 D.kind, .int .i64 D.id, .slice S.cn.a S.cn.n S.cn.c, .slice S.sn.a S.sn.n S.sn.c, .int .i64 D.tick, .slice S.cookie.a S.cookie.n S.cookie.c, .slice S.proof.a S.proof.n S.proof.c, .int .i64 D.epoch, .int .i64 D.seq, .slice S.body.a S.body.n S.body.c, .slice S.tag.a S.tag.n S.tag.c]) (own : FrOwn w1 lo hi S D) (lt : g < lo) (hlo : lo ≤ hi) {q m c : Nat} {l : List Int} (r : Row w1 q c l) (hn : m = l.length) (hb : Bytes l) (hq : hi ≤ q) :
  FrMk (w1.setCell ⟨g, 5, none⟩ (.slice (some ⟨q, 0, none⟩) m c)) g lo { D with cookie := l } { S with cookie := ⟨some ⟨q, 0, none⟩, m, c⟩ } := by
 have hs : hi ≤ (w1.setCell ⟨g, 5, none⟩ (.slice (some ⟨q, 0, none⟩) m c)).heap.size := by simp; have := r.lt; omega
 have o := (own.carry (Kept.setCell w1 g 5 (.slice (some ⟨q, 0, none⟩) m c)) (.inr lt)).mono (Nat.le_refl _) hs
 have r2 : Row (w1.setCell ⟨g, 5, none⟩ (.slice (some ⟨q, 0, none⟩) m c)) q c l := r.keep (Below.heap_setCell w1 _ _ q (by show q ≠ g; omega))
 refine ⟨hblk.set 5 _ (by simp [maxLen]), ⟨o.cn, o.sn, SOwn.row r2 hn hb ?_ r2.lt, o.proof, o.body, o.tag, ⟨o.apart.cnsn, .inr (ne_new own.cn hq), o.apart.cnproof, o.apart.cnbody, o.apart.cntag, .inr (ne_new own.sn hq), o.apart.snproof, o.apart.snbody, o.apart.sntag, .inr (ne_new own.proof hq).symm, .inr (ne_new own.body hq).symm, .inr (ne_new own.tag hq).symm, o.apart.proofbody, o.apart.prooftag, o.apart.bodytag⟩⟩, lt⟩
 exact Nat.le_trans hlo hq
theorem FrMk.proof2 {w1 : World} {g lo hi : Nat} {D : FrD} {S : FrS} (hblk : Blk w1 g 25 [.int .i64 D.kind, .int .i64 D.id, .slice S.cn.a S.cn.n S.cn.c, .slice S.sn.a S.sn.n S.sn.c, .int .i64 D.tick, .slice S.cookie.a S.cookie.n S.cookie.c, .slice S.proof.a S.proof.n S.proof.c, .int .i64 D.epoch, .int .i64 D.seq, .slice S.body.a S.body.n S.body.c, .slice S.tag.a S.tag.n S.tag.c]) (own : FrOwn w1 lo hi S D) (lt : g < lo) (hlo : lo ≤ hi) {q m c : Nat} {l : List Int} (r : Row w1 q c l) (hn : m = l.length) (hb : Bytes l) (hq : hi ≤ q) :
  FrMk (w1.setCell ⟨g, 6, none⟩ (.slice (some ⟨q, 0, none⟩) m c)) g lo { D with proof := l } { S with proof := ⟨some ⟨q, 0, none⟩, m, c⟩ } := by
 have hs : hi ≤ (w1.setCell ⟨g, 6, none⟩ (.slice (some ⟨q, 0, none⟩) m c)).heap.size := by simp; have := r.lt; omega
 have o := (own.carry (Kept.setCell w1 g 6 (.slice (some ⟨q, 0, none⟩) m c)) (.inr lt)).mono (Nat.le_refl _) hs
 have r2 : Row (w1.setCell ⟨g, 6, none⟩ (.slice (some ⟨q, 0, none⟩) m c)) q c l := r.keep (Below.heap_setCell w1 _ _ q (by show q ≠ g; omega))
 refine ⟨hblk.set 6 _ (by simp [maxLen]), ⟨o.cn, o.sn, o.cookie, SOwn.row r2 hn hb ?_ r2.lt, o.body, o.tag, ⟨o.apart.cnsn, o.apart.cncookie, .inr (ne_new own.cn hq), o.apart.cnbody, o.apart.cntag, o.apart.sncookie, .inr (ne_new own.sn hq), o.apart.snbody, o.apart.sntag, .inr (ne_new own.cookie hq), o.apart.cookiebody, o.apart.cookietag, .inr (ne_new own.body hq).symm, .inr (ne_new own.tag hq).symm, o.apart.bodytag⟩⟩, lt⟩
 exact Nat.le_trans hlo hq
theorem FrMk.body2 {w1 : World} {g lo hi : Nat} {D : FrD} {S : FrS} (hblk : Blk w1 g 25 [.int .i64 D.kind, .int .i64 D.id, .slice S.cn.a S.cn.n S.cn.c, .slice S.sn.a S.sn.n S.sn.c, .int .i64 D.tick, .slice S.cookie.a S.cookie.n S.cookie.c, .slice S.proof.a S.proof.n S.proof.c, .int .i64 D.epoch, .int .i64 D.seq, .slice S.body.a S.body.n S.body.c, .slice S.tag.a S.tag.n S.tag.c]) (own : FrOwn w1 lo hi S D) (lt : g < lo) (hlo : lo ≤ hi) {q m c : Nat} {l : List Int} (r : Row w1 q c l) (hn : m = l.length) (hb : Bytes l) (hq : hi ≤ q) :
  FrMk (w1.setCell ⟨g, 9, none⟩ (.slice (some ⟨q, 0, none⟩) m c)) g lo { D with body := l } { S with body := ⟨some ⟨q, 0, none⟩, m, c⟩ } := by
 have hs : hi ≤ (w1.setCell ⟨g, 9, none⟩ (.slice (some ⟨q, 0, none⟩) m c)).heap.size := by simp; have := r.lt; omega
 have o := (own.carry (Kept.setCell w1 g 9 (.slice (some ⟨q, 0, none⟩) m c)) (.inr lt)).mono (Nat.le_refl _) hs
 have r2 : Row (w1.setCell ⟨g, 9, none⟩ (.slice (some ⟨q, 0, none⟩) m c)) q c l := r.keep (Below.heap_setCell w1 _ _ q (by show q ≠ g; omega))
 refine ⟨hblk.set 9 _ (by simp [maxLen]), ⟨o.cn, o.sn, o.cookie, o.proof, SOwn.row r2 hn hb ?_ r2.lt, o.tag, ⟨o.apart.cnsn, o.apart.cncookie, o.apart.cnproof, .inr (ne_new own.cn hq), o.apart.cntag, o.apart.sncookie, o.apart.snproof, .inr (ne_new own.sn hq), o.apart.sntag, o.apart.cookieproof, .inr (ne_new own.cookie hq), o.apart.cookietag, .inr (ne_new own.proof hq), o.apart.prooftag, .inr (ne_new own.tag hq).symm⟩⟩, lt⟩
 exact Nat.le_trans hlo hq
theorem FrMk.tag2 {w1 : World} {g lo hi : Nat} {D : FrD} {S : FrS} (hblk : Blk w1 g 25 [.int .i64 D.kind, .int .i64 D.id, .slice S.cn.a S.cn.n S.cn.c, .slice S.sn.a S.sn.n S.sn.c, .int .i64 D.tick, .slice S.cookie.a S.cookie.n S.cookie.c, .slice S.proof.a S.proof.n S.proof.c, .int .i64 D.epoch, .int .i64 D.seq, .slice S.body.a S.body.n S.body.c, .slice S.tag.a S.tag.n S.tag.c]) (own : FrOwn w1 lo hi S D) (lt : g < lo) (hlo : lo ≤ hi) {q m c : Nat} {l : List Int} (r : Row w1 q c l) (hn : m = l.length) (hb : Bytes l) (hq : hi ≤ q) :
  FrMk (w1.setCell ⟨g, 10, none⟩ (.slice (some ⟨q, 0, none⟩) m c)) g lo { D with tag := l } { S with tag := ⟨some ⟨q, 0, none⟩, m, c⟩ } := by
 have hs : hi ≤ (w1.setCell ⟨g, 10, none⟩ (.slice (some ⟨q, 0, none⟩) m c)).heap.size := by simp; have := r.lt; omega
 have o := (own.carry (Kept.setCell w1 g 10 (.slice (some ⟨q, 0, none⟩) m c)) (.inr lt)).mono (Nat.le_refl _) hs
 have r2 : Row (w1.setCell ⟨g, 10, none⟩ (.slice (some ⟨q, 0, none⟩) m c)) q c l := r.keep (Below.heap_setCell w1 _ _ q (by show q ≠ g; omega))
 refine ⟨hblk.set 10 _ (by simp [maxLen]), ⟨o.cn, o.sn, o.cookie, o.proof, o.body, SOwn.row r2 hn hb ?_ r2.lt, ⟨o.apart.cnsn, o.apart.cncookie, o.apart.cnproof, o.apart.cnbody, .inr (ne_new own.cn hq), o.apart.sncookie, o.apart.snproof, o.apart.snbody, .inr (ne_new own.sn hq), o.apart.cookieproof, o.apart.cookiebody, .inr (ne_new own.cookie hq), o.apart.proofbody, .inr (ne_new own.proof hq), .inr (ne_new own.body hq)⟩⟩, lt⟩
 exact Nat.le_trans hlo hq
end Go.Proofs.YtpenhliaelhnoaaGreatDoor.FrN
