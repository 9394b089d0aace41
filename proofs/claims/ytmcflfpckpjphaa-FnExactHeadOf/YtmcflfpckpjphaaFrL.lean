/-
  How long the lists of a Frame are, all in all.
-/
import Derived.Test.YtmcflfpckpjphaaFrZ
import Derived.Test.YtmcflfpckpjphaaZoneI
namespace Go.Proofs.Ytmcflfpckpjphaa.FrL
open Go.RowKit Go.Proofs.Ytmcflfpckpjphaa.Mem Go.Proofs.Ytmcflfpckpjphaa.Zone Go.Proofs.Ytmcflfpckpjphaa.ZoneI Go.Proofs.Ytmcflfpckpjphaa.FrZ 
theorem fr_short_le {D : FrD} {n m : Nat} (h : FrShort D n) (hm : n ≤ m) : FrShort D m := ⟨Nat.le_trans h.cn hm, Nat.le_trans h.sn hm, Nat.le_trans h.cookie hm, Nat.le_trans h.proof hm, Nat.le_trans h.body hm, Nat.le_trans h.tag hm⟩
theorem fr_sum_eq {w w' : World} {S S' : FrS} {D : FrD} (r : FrRd w S D) (r' : FrRd w' S' D) : frSum S' = frSum S := by
  have a0 := r.cn.len; have b0 := r'.cn.len
  have a1 := r.sn.len; have b1 := r'.sn.len
  have a2 := r.cookie.len; have b2 := r'.cookie.len
  have a3 := r.proof.len; have b3 := r'.proof.len
  have a4 := r.body.len; have b4 := r'.body.len
  have a5 := r.tag.len; have b5 := r'.tag.len
  unfold frSum; omega
theorem fr_sum_le {w : World} {S : FrS} {D : FrD} {n : Nat} (r : FrRd w S D) (h : FrShort D n) : frSum S ≤ 6 * n := by
  have a0 := r.cn.len; have b0 := h.cn
  have a1 := r.sn.len; have b1 := h.sn
  have a2 := r.cookie.len; have b2 := h.cookie
  have a3 := r.proof.len; have b3 := h.proof
  have a4 := r.body.len; have b4 := h.body
  have a5 := r.tag.len; have b5 := h.tag
  unfold frSum; omega
theorem fr_short_of {w : World} {S : FrS} {D : FrD} {n : Nat} (r : FrRd w S D) (h : frSum S ≤ n) : FrShort D n := by
  unfold frSum at h
  have a0 := r.cn.len
  have a1 := r.sn.len
  have a2 := r.cookie.len
  have a3 := r.proof.len
  have a4 := r.body.len
  have a5 := r.tag.len
  exact ⟨by omega, by omega, by omega, by omega, by omega, by omega⟩
end Go.Proofs.Ytmcflfpckpjphaa.FrL
