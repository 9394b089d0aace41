/-
  What spec's l6Num and AddrText answer: a number's digits, an address's text.
-/
import Derived.Test.YtpgapjdejelajaaGreatDoorGr4
import Derived.Laws.Concat
import Derived.Laws.BitsAllLaws
namespace Go.Proofs.YtpgapjdejelajaaGreatDoor.AddrT
open Go.RowKit Go.Proofs.YtpgapjdejelajaaGreatDoor.Mem Go.Proofs.YtpgapjdejelajaaGreatDoor.App Go.Proofs.YtpgapjdejelajaaGreatDoor.Get Go.Proofs.YtpgapjdejelajaaGreatDoor.Blk Go.Proofs.YtpgapjdejelajaaGreatDoor.Str Go.Proofs.YtpgapjdejelajaaGreatDoor.Bits Go.Proofs.YtpgapjdejelajaaGreatDoor.Words Go.Proofs.YtpgapjdejelajaaGreatDoor.AddrP Go.Proofs.YtpgapjdejelajaaGreatDoor.Res Go.Proofs.YtpgapjdejelajaaGreatDoor.Each Go.Proofs.YtpgapjdejelajaaGreatDoor.Copy Go.Proofs.YtpgapjdejelajaaGreatDoor.Ops Go.Proofs.YtpgapjdejelajaaGreatDoor.AddrS

set_option maxRecDepth 100000 in
theorem str_append (a b : List Int) : strOfNums a ++ strOfNums b = strOfNums (a ++ b) := by
  unfold strOfNums; rw [ByteArray.mk_append_mk, List.map_append]
set_option maxRecDepth 100000 in
theorem str_nil : strOfNums [] = ⟨#[]⟩ := rfl
set_option maxRecDepth 100000 in
/-- A string that is made of bytes is told by them. -/
theorem str_inj {a b : List Int} (ha : Bytes a) (hb : Bytes b) (h : strOfNums a = strOfNums b) : a = b := by
  rw [← bs_nums a ha, ← bs_nums b hb, h]
set_option maxRecDepth 100000 in
theorem str_bs (s : ByteArray) : strOfNums (bs s) = s := by
  obtain ⟨d⟩ := s
  unfold strOfNums bs
  congr 1
  apply Array.toList_inj.1
  rw [List.map_map]
  conv => rhs; rw [← List.map_id d.toList]
  apply List.map_congr_left
  intro b _
  simp
set_option maxRecDepth 100000 in
theorem convert_row {w : World} {g c n : Nat} {l : List Int} (hn : n = l.length) (h : Rd w (some ⟨g, 0, none⟩) l) :
    (convert 22 9 (.slice (some ⟨g, 0, none⟩) n c)).run Tryz.prog w = .ok (.string (strOfNums l)) w := by
  subst hn
  exact run_convert_bytes_arg (P := Tryz.prog) w 22 5 Tryz.underlying22 Tryz.underlying5 g 0 l.length c l rfl (fun i hi => by
    obtain ⟨b, off, e, _, hc⟩ := h i hi
    cases e
    exact hc) 9 Tryz.underlying9

set_option maxRecDepth 100000 in
set_option maxHeartbeats 400000 in
theorem text_def (h p : Int) (k : addrOk h p = true) : addrI h p = dec (h / 16777216).toNat ++ [46] ++ dec (h / 65536 % 256).toNat ++ [46] ++ dec (h / 256 % 256).toNat ++ [46] ++ dec (h % 256).toNat ++ [58] ++ dec p.toNat := by
  have a := (addrOk_iff h p).1 k
  unfold addrI
  rw [if_pos k]
  unfold addrT
  rw [show (h / 16777216).toNat = h.toNat / 16777216 by omega, show (h / 65536 % 256).toNat = h.toNat / 65536 % 256 by omega, show (h / 256 % 256).toNat = h.toNat / 256 % 256 by omega, show (h % 256).toNat = h.toNat % 256 by omega]

end Go.Proofs.YtpgapjdejelajaaGreatDoor.AddrT
