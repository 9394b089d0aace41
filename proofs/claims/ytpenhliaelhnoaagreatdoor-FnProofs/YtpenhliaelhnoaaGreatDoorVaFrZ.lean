/-
  The struct Frame: its data, its value, what it reads as, what it owns; and what the laws' helpers over it answer.
-/
import Derived.Test.YtpenhliaelhnoaaGreatDoorVaGz6
import Derived.Deep.CutBlock
set_option maxRecDepth 100000
namespace Go.Proofs.YtpenhliaelhnoaaGreatDoor.FrZ
open Go.RowKit Mem Blk Zone Res

structure FrD where
 kind : Int
 id : Int
 cn : List Int
 sn : List Int
 tick : Int
 cookie : List Int
 proof : List Int
 epoch : Int
 seq : Int
 body : List Int
 tag : List Int
structure FrS where
 cn : Sl
 sn : Sl
 cookie : Sl
 proof : Sl
 body : Sl
 tag : Sl
def frV (D : FrD) (S : FrS) : Value := .agg #[.int .i64 D.kind, .int .i64 D.id, .slice S.cn.a S.cn.n S.cn.c, .slice S.sn.a S.sn.n S.sn.c, .int .i64 D.tick, .slice S.cookie.a S.cookie.n S.cookie.c, .slice S.proof.a S.proof.n S.proof.c, .int .i64 D.epoch, .int .i64 D.seq, .slice S.body.a S.body.n S.body.c, .slice S.tag.a S.tag.n S.tag.c]
structure FrRd (w : World) (S : FrS) (D : FrD) : Prop where
 cn : SRd w S.cn D.cn
 sn : SRd w S.sn D.sn
 cookie : SRd w S.cookie D.cookie
 proof : SRd w S.proof D.proof
 body : SRd w S.body D.body
 tag : SRd w S.tag D.tag
structure FrApart (S : FrS) : Prop where
 cnsn : S.cn.a = none ∨ S.cn.a ≠ S.sn.a
 cncookie : S.cn.a = none ∨ S.cn.a ≠ S.cookie.a
 cnproof : S.cn.a = none ∨ S.cn.a ≠ S.proof.a
 cnbody : S.cn.a = none ∨ S.cn.a ≠ S.body.a
 cntag : S.cn.a = none ∨ S.cn.a ≠ S.tag.a
 sncookie : S.sn.a = none ∨ S.sn.a ≠ S.cookie.a
 snproof : S.sn.a = none ∨ S.sn.a ≠ S.proof.a
 snbody : S.sn.a = none ∨ S.sn.a ≠ S.body.a
 sntag : S.sn.a = none ∨ S.sn.a ≠ S.tag.a
 cookieproof : S.cookie.a = none ∨ S.cookie.a ≠ S.proof.a
 cookiebody : S.cookie.a = none ∨ S.cookie.a ≠ S.body.a
 cookietag : S.cookie.a = none ∨ S.cookie.a ≠ S.tag.a
 proofbody : S.proof.a = none ∨ S.proof.a ≠ S.body.a
 prooftag : S.proof.a = none ∨ S.proof.a ≠ S.tag.a
 bodytag : S.body.a = none ∨ S.body.a ≠ S.tag.a
structure FrOwn (w : World) (lo hi : Nat) (S : FrS) (D : FrD) : Prop where
 cn : SOwn w lo hi S.cn D.cn
 sn : SOwn w lo hi S.sn D.sn
 cookie : SOwn w lo hi S.cookie D.cookie
 proof : SOwn w lo hi S.proof D.proof
 body : SOwn w lo hi S.body D.body
 tag : SOwn w lo hi S.tag D.tag
 apart : FrApart S
theorem FrOwn.rd {w : World} {lo hi : Nat} {S : FrS} {D : FrD} (h : FrOwn w lo hi S D) : FrRd w S D := ⟨h.cn.rd, h.sn.rd, h.cookie.rd, h.proof.rd, h.body.rd, h.tag.rd⟩
theorem FrOwn.carry {w w' : World} {lo hi a b : Nat} {S : FrS} {D : FrD} (h : FrOwn w lo hi S D) (k : Kept a b w w') (d : hi ≤ a ∨ b ≤ lo) : FrOwn w' lo hi S D := ⟨h.cn.carry k d, h.sn.carry k d, h.cookie.carry k d, h.proof.carry k d, h.body.carry k d, h.tag.carry k d, h.apart⟩
theorem FrOwn.later {w w' : World} {lo hi : Nat} {S : FrS} {D : FrD} (h : FrOwn w lo hi S D) (k : Below w.heap.size w w') : FrOwn w' lo hi S D := h.carry (Kept.of_below k hi) (.inl (Nat.le_refl _))
theorem FrOwn.mono {w : World} {lo hi lo' hi' : Nat} {S : FrS} {D : FrD} (h : FrOwn w lo hi S D) (h1 : lo' ≤ lo) (h2 : hi ≤ hi') : FrOwn w lo' hi' S D := ⟨h.cn.mono h1 h2, h.sn.mono h1 h2, h.cookie.mono h1 h2, h.proof.mono h1 h2, h.body.mono h1 h2, h.tag.mono h1 h2, h.apart⟩
theorem FrRd.later {w w' : World} {S : FrS} {D : FrD} (h : FrRd w S D) (k : Below w.heap.size w w') : FrRd w' S D := ⟨h.cn.later k, h.sn.later k, h.cookie.later k, h.proof.later k, h.body.later k, h.tag.later k⟩
structure FrShort (D : FrD) (n : Nat) : Prop where
 cn : D.cn.length ≤ n
 sn : D.sn.length ≤ n
 cookie : D.cookie.length ≤ n
 proof : D.proof.length ≤ n
 body : D.body.length ≤ n
 tag : D.tag.length ≤ n
theorem aggFr : aggB Tryz.prog 25 11 = true := by kernel_rfl

end Go.Proofs.YtpenhliaelhnoaaGreatDoor.FrZ
