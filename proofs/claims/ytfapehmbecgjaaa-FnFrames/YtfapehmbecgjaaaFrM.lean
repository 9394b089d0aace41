/-
  A Frame that is being made in a block of its own: what setting a field leaves.
-/
import Derived.Test.YtfapehmbecgjaaaFrZ
namespace Go.Proofs.Ytfapehmbecgjaaa.FrM
open Go.RowKit Go.Proofs.Ytfapehmbecgjaaa.Mem Go.Proofs.Ytfapehmbecgjaaa.Blk Go.Proofs.Ytfapehmbecgjaaa.Zone Go.Proofs.Ytfapehmbecgjaaa.ZoneB Go.Proofs.Ytfapehmbecgjaaa.Res Go.Proofs.Ytfapehmbecgjaaa.FrZ

/-- It lies in block g; what its slices own lies from lo on. -/
structure FrMk (w : World) (g lo : Nat) (D : FrD) (S : FrS) : Prop where
  blk : Blk w g 25 [.int .i64 D.kind, .int .i64 D.id, .slice S.cn.a S.cn.n S.cn.c, .slice S.sn.a S.sn.n S.sn.c, .int .i64 D.tick, .slice S.cookie.a S.cookie.n S.cookie.c, .slice S.proof.a S.proof.n S.proof.c, .int .i64 D.epoch, .int .i64 D.seq, .slice S.body.a S.body.n S.body.c, .slice S.tag.a S.tag.n S.tag.c]
  own : FrOwn w lo w.heap.size S D
  lt : g < lo
theorem FrMk.later {w w' : World} {g lo : Nat} {D : FrD} {S : FrS} (h : FrMk w g lo D S) (b : Below w.heap.size w w') : FrMk w' g lo D S := ⟨h.blk.later b, (h.own.later b).mono (Nat.le_refl _) b.size, h.lt⟩
theorem FrMk.other {w : World} {g lo : Nat} {D : FrD} {S : FrS} (h : FrMk w g lo D S) {r : Nat} (ne : g ≠ r) (hr : r < lo) (i : Nat) (v : Value) : FrMk (w.setCell ⟨r, i, none⟩ v) g lo D S :=
  ⟨h.blk.other ne v, (h.own.carry (Kept.setCell w r i v) (.inr hr)).mono (Nat.le_refl _) (by simp), h.lt⟩
theorem ne_new {w : World} {lo hi q : Nat} {s : Sl} {l : List Int} (h : SOwn w lo hi s l) (hq : hi ≤ q) : s.a ≠ some ⟨q, 0, none⟩ := by
  obtain ⟨_, ⟨h1, _⟩ | ⟨g, h1, _, _, h4, _⟩⟩ := h
  · rw [h1]; intro e; cases e
  · rw [h1]; intro e; cases e; omega
theorem FrMk.kind {w : World} {g lo : Nat} {D : FrD} {S : FrS} (h : FrMk w g lo D S) (v : Int) : FrMk (w.setCell ⟨g, 0, none⟩ (.int .i64 v)) g lo { D with kind := v } S := by
  have o := (h.own.carry (Kept.setCell w g 0 (.int .i64 v)) (.inr h.lt)).mono (Nat.le_refl _) (show w.heap.size ≤ (w.setCell ⟨g, 0, none⟩ (.int .i64 v)).heap.size by simp)
  exact ⟨h.blk.set 0 _ (by simp [maxLen]), ⟨o.cn, o.sn, o.cookie, o.proof, o.body, o.tag, o.apart⟩, h.lt⟩
theorem FrMk.id {w : World} {g lo : Nat} {D : FrD} {S : FrS} (h : FrMk w g lo D S) (v : Int) : FrMk (w.setCell ⟨g, 1, none⟩ (.int .i64 v)) g lo { D with id := v } S := by
  have o := (h.own.carry (Kept.setCell w g 1 (.int .i64 v)) (.inr h.lt)).mono (Nat.le_refl _) (show w.heap.size ≤ (w.setCell ⟨g, 1, none⟩ (.int .i64 v)).heap.size by simp)
  exact ⟨h.blk.set 1 _ (by simp [maxLen]), ⟨o.cn, o.sn, o.cookie, o.proof, o.body, o.tag, o.apart⟩, h.lt⟩
theorem FrMk.cn {w w1 : World} {g lo : Nat} {D : FrD} {S : FrS} (h : FrMk w g lo D S) (hlo : lo ≤ w.heap.size) (b : Below w.heap.size w w1) {q m c : Nat} {l : List Int} (r : Row w1 q c l) (hn : m = l.length) (hb : Bytes l) (hq : w.heap.size ≤ q) :
    FrMk (w1.setCell ⟨g, 2, none⟩ (.slice (some ⟨q, 0, none⟩) m c)) g lo { D with cn := l } { S with cn := ⟨some ⟨q, 0, none⟩, m, c⟩ } := by
  have h1 := h.later b
  have hg : g < w.heap.size := h.blk.lt
  have hs : w1.heap.size ≤ (w1.setCell ⟨g, 2, none⟩ (.slice (some ⟨q, 0, none⟩) m c)).heap.size := by simp
  have o := (h1.own.carry (Kept.setCell w1 g 2 (.slice (some ⟨q, 0, none⟩) m c)) (.inr h.lt)).mono (Nat.le_refl _) hs
  have r2 : Row (w1.setCell ⟨g, 2, none⟩ (.slice (some ⟨q, 0, none⟩) m c)) q c l := r.keep (Below.heap_setCell w1 _ _ q (by show q ≠ g; omega))
  refine ⟨h1.blk.set 2 _ (by simp [maxLen]), ⟨SOwn.row r2 hn hb ?_ r2.lt, o.sn, o.cookie, o.proof, o.body, o.tag, ⟨.inr (ne_new h.own.sn hq).symm, .inr (ne_new h.own.cookie hq).symm, .inr (ne_new h.own.proof hq).symm, .inr (ne_new h.own.body hq).symm, .inr (ne_new h.own.tag hq).symm, o.apart.sncookie, o.apart.snproof, o.apart.snbody, o.apart.sntag, o.apart.cookieproof, o.apart.cookiebody, o.apart.cookietag, o.apart.proofbody, o.apart.prooftag, o.apart.bodytag⟩⟩, h.lt⟩
  exact Nat.le_trans hlo hq
theorem FrMk.sn {w w1 : World} {g lo : Nat} {D : FrD} {S : FrS} (h : FrMk w g lo D S) (hlo : lo ≤ w.heap.size) (b : Below w.heap.size w w1) {q m c : Nat} {l : List Int} (r : Row w1 q c l) (hn : m = l.length) (hb : Bytes l) (hq : w.heap.size ≤ q) :
    FrMk (w1.setCell ⟨g, 3, none⟩ (.slice (some ⟨q, 0, none⟩) m c)) g lo { D with sn := l } { S with sn := ⟨some ⟨q, 0, none⟩, m, c⟩ } := by
  have h1 := h.later b
  have hg : g < w.heap.size := h.blk.lt
  have hs : w1.heap.size ≤ (w1.setCell ⟨g, 3, none⟩ (.slice (some ⟨q, 0, none⟩) m c)).heap.size := by simp
  have o := (h1.own.carry (Kept.setCell w1 g 3 (.slice (some ⟨q, 0, none⟩) m c)) (.inr h.lt)).mono (Nat.le_refl _) hs
  have r2 : Row (w1.setCell ⟨g, 3, none⟩ (.slice (some ⟨q, 0, none⟩) m c)) q c l := r.keep (Below.heap_setCell w1 _ _ q (by show q ≠ g; omega))
  refine ⟨h1.blk.set 3 _ (by simp [maxLen]), ⟨o.cn, SOwn.row r2 hn hb ?_ r2.lt, o.cookie, o.proof, o.body, o.tag, ⟨.inr (ne_new h.own.cn hq), o.apart.cncookie, o.apart.cnproof, o.apart.cnbody, o.apart.cntag, .inr (ne_new h.own.cookie hq).symm, .inr (ne_new h.own.proof hq).symm, .inr (ne_new h.own.body hq).symm, .inr (ne_new h.own.tag hq).symm, o.apart.cookieproof, o.apart.cookiebody, o.apart.cookietag, o.apart.proofbody, o.apart.prooftag, o.apart.bodytag⟩⟩, h.lt⟩
  exact Nat.le_trans hlo hq
theorem FrMk.tick {w : World} {g lo : Nat} {D : FrD} {S : FrS} (h : FrMk w g lo D S) (v : Int) : FrMk (w.setCell ⟨g, 4, none⟩ (.int .i64 v)) g lo { D with tick := v } S := by
  have o := (h.own.carry (Kept.setCell w g 4 (.int .i64 v)) (.inr h.lt)).mono (Nat.le_refl _) (show w.heap.size ≤ (w.setCell ⟨g, 4, none⟩ (.int .i64 v)).heap.size by simp)
  exact ⟨h.blk.set 4 _ (by simp [maxLen]), ⟨o.cn, o.sn, o.cookie, o.proof, o.body, o.tag, o.apart⟩, h.lt⟩
theorem FrMk.cookie {w w1 : World} {g lo : Nat} {D : FrD} {S : FrS} (h : FrMk w g lo D S) (hlo : lo ≤ w.heap.size) (b : Below w.heap.size w w1) {q m c : Nat} {l : List Int} (r : Row w1 q c l) (hn : m = l.length) (hb : Bytes l) (hq : w.heap.size ≤ q) :
    FrMk (w1.setCell ⟨g, 5, none⟩ (.slice (some ⟨q, 0, none⟩) m c)) g lo { D with cookie := l } { S with cookie := ⟨some ⟨q, 0, none⟩, m, c⟩ } := by
  have h1 := h.later b
  have hg : g < w.heap.size := h.blk.lt
  have hs : w1.heap.size ≤ (w1.setCell ⟨g, 5, none⟩ (.slice (some ⟨q, 0, none⟩) m c)).heap.size := by simp
  have o := (h1.own.carry (Kept.setCell w1 g 5 (.slice (some ⟨q, 0, none⟩) m c)) (.inr h.lt)).mono (Nat.le_refl _) hs
  have r2 : Row (w1.setCell ⟨g, 5, none⟩ (.slice (some ⟨q, 0, none⟩) m c)) q c l := r.keep (Below.heap_setCell w1 _ _ q (by show q ≠ g; omega))
  refine ⟨h1.blk.set 5 _ (by simp [maxLen]), ⟨o.cn, o.sn, SOwn.row r2 hn hb ?_ r2.lt, o.proof, o.body, o.tag, ⟨o.apart.cnsn, .inr (ne_new h.own.cn hq), o.apart.cnproof, o.apart.cnbody, o.apart.cntag, .inr (ne_new h.own.sn hq), o.apart.snproof, o.apart.snbody, o.apart.sntag, .inr (ne_new h.own.proof hq).symm, .inr (ne_new h.own.body hq).symm, .inr (ne_new h.own.tag hq).symm, o.apart.proofbody, o.apart.prooftag, o.apart.bodytag⟩⟩, h.lt⟩
  exact Nat.le_trans hlo hq
theorem FrMk.proof {w w1 : World} {g lo : Nat} {D : FrD} {S : FrS} (h : FrMk w g lo D S) (hlo : lo ≤ w.heap.size) (b : Below w.heap.size w w1) {q m c : Nat} {l : List Int} (r : Row w1 q c l) (hn : m = l.length) (hb : Bytes l) (hq : w.heap.size ≤ q) :
    FrMk (w1.setCell ⟨g, 6, none⟩ (.slice (some ⟨q, 0, none⟩) m c)) g lo { D with proof := l } { S with proof := ⟨some ⟨q, 0, none⟩, m, c⟩ } := by
  have h1 := h.later b
  have hg : g < w.heap.size := h.blk.lt
  have hs : w1.heap.size ≤ (w1.setCell ⟨g, 6, none⟩ (.slice (some ⟨q, 0, none⟩) m c)).heap.size := by simp
  have o := (h1.own.carry (Kept.setCell w1 g 6 (.slice (some ⟨q, 0, none⟩) m c)) (.inr h.lt)).mono (Nat.le_refl _) hs
  have r2 : Row (w1.setCell ⟨g, 6, none⟩ (.slice (some ⟨q, 0, none⟩) m c)) q c l := r.keep (Below.heap_setCell w1 _ _ q (by show q ≠ g; omega))
  refine ⟨h1.blk.set 6 _ (by simp [maxLen]), ⟨o.cn, o.sn, o.cookie, SOwn.row r2 hn hb ?_ r2.lt, o.body, o.tag, ⟨o.apart.cnsn, o.apart.cncookie, .inr (ne_new h.own.cn hq), o.apart.cnbody, o.apart.cntag, o.apart.sncookie, .inr (ne_new h.own.sn hq), o.apart.snbody, o.apart.sntag, .inr (ne_new h.own.cookie hq), o.apart.cookiebody, o.apart.cookietag, .inr (ne_new h.own.body hq).symm, .inr (ne_new h.own.tag hq).symm, o.apart.bodytag⟩⟩, h.lt⟩
  exact Nat.le_trans hlo hq
theorem FrMk.epoch {w : World} {g lo : Nat} {D : FrD} {S : FrS} (h : FrMk w g lo D S) (v : Int) : FrMk (w.setCell ⟨g, 7, none⟩ (.int .i64 v)) g lo { D with epoch := v } S := by
  have o := (h.own.carry (Kept.setCell w g 7 (.int .i64 v)) (.inr h.lt)).mono (Nat.le_refl _) (show w.heap.size ≤ (w.setCell ⟨g, 7, none⟩ (.int .i64 v)).heap.size by simp)
  exact ⟨h.blk.set 7 _ (by simp [maxLen]), ⟨o.cn, o.sn, o.cookie, o.proof, o.body, o.tag, o.apart⟩, h.lt⟩
theorem FrMk.seq {w : World} {g lo : Nat} {D : FrD} {S : FrS} (h : FrMk w g lo D S) (v : Int) : FrMk (w.setCell ⟨g, 8, none⟩ (.int .i64 v)) g lo { D with seq := v } S := by
  have o := (h.own.carry (Kept.setCell w g 8 (.int .i64 v)) (.inr h.lt)).mono (Nat.le_refl _) (show w.heap.size ≤ (w.setCell ⟨g, 8, none⟩ (.int .i64 v)).heap.size by simp)
  exact ⟨h.blk.set 8 _ (by simp [maxLen]), ⟨o.cn, o.sn, o.cookie, o.proof, o.body, o.tag, o.apart⟩, h.lt⟩
theorem FrMk.body {w w1 : World} {g lo : Nat} {D : FrD} {S : FrS} (h : FrMk w g lo D S) (hlo : lo ≤ w.heap.size) (b : Below w.heap.size w w1) {q m c : Nat} {l : List Int} (r : Row w1 q c l) (hn : m = l.length) (hb : Bytes l) (hq : w.heap.size ≤ q) :
    FrMk (w1.setCell ⟨g, 9, none⟩ (.slice (some ⟨q, 0, none⟩) m c)) g lo { D with body := l } { S with body := ⟨some ⟨q, 0, none⟩, m, c⟩ } := by
  have h1 := h.later b
  have hg : g < w.heap.size := h.blk.lt
  have hs : w1.heap.size ≤ (w1.setCell ⟨g, 9, none⟩ (.slice (some ⟨q, 0, none⟩) m c)).heap.size := by simp
  have o := (h1.own.carry (Kept.setCell w1 g 9 (.slice (some ⟨q, 0, none⟩) m c)) (.inr h.lt)).mono (Nat.le_refl _) hs
  have r2 : Row (w1.setCell ⟨g, 9, none⟩ (.slice (some ⟨q, 0, none⟩) m c)) q c l := r.keep (Below.heap_setCell w1 _ _ q (by show q ≠ g; omega))
  refine ⟨h1.blk.set 9 _ (by simp [maxLen]), ⟨o.cn, o.sn, o.cookie, o.proof, SOwn.row r2 hn hb ?_ r2.lt, o.tag, ⟨o.apart.cnsn, o.apart.cncookie, o.apart.cnproof, .inr (ne_new h.own.cn hq), o.apart.cntag, o.apart.sncookie, o.apart.snproof, .inr (ne_new h.own.sn hq), o.apart.sntag, o.apart.cookieproof, .inr (ne_new h.own.cookie hq), o.apart.cookietag, .inr (ne_new h.own.proof hq), o.apart.prooftag, .inr (ne_new h.own.tag hq).symm⟩⟩, h.lt⟩
  exact Nat.le_trans hlo hq
theorem FrMk.tag {w w1 : World} {g lo : Nat} {D : FrD} {S : FrS} (h : FrMk w g lo D S) (hlo : lo ≤ w.heap.size) (b : Below w.heap.size w w1) {q m c : Nat} {l : List Int} (r : Row w1 q c l) (hn : m = l.length) (hb : Bytes l) (hq : w.heap.size ≤ q) :
    FrMk (w1.setCell ⟨g, 10, none⟩ (.slice (some ⟨q, 0, none⟩) m c)) g lo { D with tag := l } { S with tag := ⟨some ⟨q, 0, none⟩, m, c⟩ } := by
  have h1 := h.later b
  have hg : g < w.heap.size := h.blk.lt
  have hs : w1.heap.size ≤ (w1.setCell ⟨g, 10, none⟩ (.slice (some ⟨q, 0, none⟩) m c)).heap.size := by simp
  have o := (h1.own.carry (Kept.setCell w1 g 10 (.slice (some ⟨q, 0, none⟩) m c)) (.inr h.lt)).mono (Nat.le_refl _) hs
  have r2 : Row (w1.setCell ⟨g, 10, none⟩ (.slice (some ⟨q, 0, none⟩) m c)) q c l := r.keep (Below.heap_setCell w1 _ _ q (by show q ≠ g; omega))
  refine ⟨h1.blk.set 10 _ (by simp [maxLen]), ⟨o.cn, o.sn, o.cookie, o.proof, o.body, SOwn.row r2 hn hb ?_ r2.lt, ⟨o.apart.cnsn, o.apart.cncookie, o.apart.cnproof, o.apart.cnbody, .inr (ne_new h.own.cn hq), o.apart.sncookie, o.apart.snproof, o.apart.snbody, .inr (ne_new h.own.sn hq), o.apart.cookieproof, o.apart.cookiebody, .inr (ne_new h.own.cookie hq), o.apart.proofbody, .inr (ne_new h.own.proof hq), .inr (ne_new h.own.body hq)⟩⟩, h.lt⟩
  exact Nat.le_trans hlo hq
end Go.Proofs.Ytfapehmbecgjaaa.FrM
