/-
  A frame's bytes are bytes, and few.
-/
import Derived.Test.YtpgapjdejelajaaDoorFrB
namespace Go.Proofs.YtpgapjdejelajaaDoor.FrB2
open Go.RowKit Go.Proofs.YtpgapjdejelajaaDoor.Mem Go.Proofs.YtpgapjdejelajaaDoor.App Go.Proofs.YtpgapjdejelajaaDoor.Zone Go.Proofs.YtpgapjdejelajaaDoor.FrZ Go.Proofs.YtpgapjdejelajaaDoor.FrP Go.Proofs.YtpgapjdejelajaaDoor.FrB

set_option maxRecDepth 100000 in
theorem app {a b : List Int} (ha : Bytes a) (hb : Bytes b) : Bytes (a ++ b) := by
  intro z hz
  rcases List.mem_append.1 hz with h | h
  · exact ha z h
  · exact hb z h
set_option maxRecDepth 100000 in
theorem one {x : Int} (h0 : 0 ≤ x) (h1 : x ≤ 255) : Bytes [x] := by intro z hz; simp at hz; omega
set_option maxRecDepth 100000 in
theorem rep (n : Nat) : Bytes (List.replicate n 0) := by intro z hz; have := List.eq_of_mem_replicate hz; omega
set_option maxRecDepth 100000 in
theorem putF_bytes {w : World} {S : FrS} {D : FrD} (h : FrRd w S D) : Bytes (putF D) := by
  cases hok : frameOk D with
  | false => rw [putF_no D hok]; intro z hz; cases hz
  | true =>
    have hk := ok_kind D hok
    have K : Bytes [D.kind] := one (by omega) (by omega)
    cases k1 : (D.kind == 1) with
    | true => rw [putF_1 D hok k1]; have hi := ok_id1 D hok k1; exact app (app (app K (one (by omega) (by omega))) h.cn.bytes) (rep 20)
    | false =>
      cases k2 : (D.kind == 2) with
      | true => rw [putF_2 D hok k1 k2]; exact app (app (app (app K h.cn.bytes) h.sn.bytes) (num_bytes _ _)) h.cookie.bytes
      | false =>
        cases k3 : (D.kind == 3) with
        | true => rw [putF_3 D hok k1 k2 k3]; have hi := ok_id3 D hok k3; exact app (app (app (app (app (app K (one (by omega) (by omega))) h.cn.bytes) h.sn.bytes) (num_bytes _ _)) h.cookie.bytes) h.proof.bytes
        | false => rw [putF_s D hok k1 k2 k3]; exact app (app (app (app (app K h.sn.bytes) (num_bytes _ _)) (num_bytes _ _)) h.tag.bytes) h.body.bytes
set_option maxRecDepth 100000 in
theorem putF_len {w : World} {S : FrS} {D : FrD} (_h : FrRd w S D) : (putF D).length ≤ 4194304 := by
  cases hok : frameOk D with
  | false => rw [putF_no D hok]; simp
  | true =>
    have hl := ok_lens D hok
    unfold putF
    rw [if_pos hok]
    split
    · simp only [List.length_append, List.length_singleton, List.length_replicate]; omega
    · split
      · simp only [List.length_append, List.length_singleton, num_length]; omega
      · split
        · simp only [List.length_append, List.length_singleton, num_length]; omega
        · simp only [List.length_append, List.length_singleton, num_length]; omega
end Go.Proofs.YtpgapjdejelajaaDoor.FrB2
