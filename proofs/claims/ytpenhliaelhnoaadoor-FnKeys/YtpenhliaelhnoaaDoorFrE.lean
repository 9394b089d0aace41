/-
  What bytes.Equal and impl's sameFrame answer.
-/
import Derived.Test.YtpenhliaelhnoaaDoorGd12
namespace Go.Proofs.YtpenhliaelhnoaaDoor.FrE
open Go.RowKit Go.Proofs.YtpenhliaelhnoaaDoor.Mem Go.Proofs.YtpenhliaelhnoaaDoor.Blk Go.Proofs.YtpenhliaelhnoaaDoor.Words Go.Proofs.YtpenhliaelhnoaaDoor.Zone Go.Proofs.YtpenhliaelhnoaaDoor.Res Go.Proofs.YtpenhliaelhnoaaDoor.FrZ Go.Proofs.YtpenhliaelhnoaaDoor.FrP Go.Proofs.YtpenhliaelhnoaaDoor.Same

set_option maxRecDepth 100000 in
theorem convS {w : World} {s : Sl} {l : List Int} (h : SRd w s l) : (convert 22 9 (.slice s.a s.n s.c)).run Tryd.prog w = .ok (.string (strOfNums l)) w := by
  obtain ⟨sa, sn, sc⟩ := s
  have hn : sn = l.length := h.len
  by_cases hl : l.length = 0
  · have e : l = [] := List.eq_nil_of_length_eq_zero hl
    subst e
    subst hn
    show (convert 22 9 (.slice sa 0 sc)).run Tryd.prog w = _
    rw [run_convert_bytes_string w 22 9 5 sa 0 sc Tryd.underlying22 Tryd.underlying5 Tryd.underlying9]
    cases sa <;> rfl
  · obtain ⟨b, off, e, _, _⟩ := h.rd 0 (by omega)
    have e' : sa = some ⟨b, off, none⟩ := e
    subst e'
    exact convAt hn h.rd
def sameD (D E : FrD) : Bool := ((D.kind == E.kind) && ((D.id == E.id) && ((D.tick == E.tick) && ((D.epoch == E.epoch) && ((D.seq == E.seq) && ((decide (D.cn = E.cn)) && ((decide (D.sn = E.sn)) && ((decide (D.cookie = E.cookie)) && ((decide (D.proof = E.proof)) && ((decide (D.body = E.body)) && (decide (D.tag = E.tag))))))))))))

end Go.Proofs.YtpenhliaelhnoaaDoor.FrE
