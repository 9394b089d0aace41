/-
  Hashes that hold a text: what impl's HashAdd, HashOk and HashEnd answer of them.
-/
import Derived.Test.YtfoilfbpbjfkcaaDoorHashC
namespace Go.Proofs.YtfoilfbpbjfkcaaDoor.SumsP
open Go.RowKit Go.Proofs.YtfoilfbpbjfkcaaDoor.Mem Go.Proofs.YtfoilfbpbjfkcaaDoor.MemI Go.Proofs.YtfoilfbpbjfkcaaDoor.Blk Go.Proofs.YtfoilfbpbjfkcaaDoor.App Go.Proofs.YtfoilfbpbjfkcaaDoor.ShaP Go.Proofs.YtfoilfbpbjfkcaaDoor.Words Go.Proofs.YtfoilfbpbjfkcaaDoor.WordsOf Go.Proofs.YtfoilfbpbjfkcaaDoor.Start Go.Proofs.YtfoilfbpbjfkcaaDoor.Comp Go.Proofs.YtfoilfbpbjfkcaaDoor.Pads Go.Proofs.YtfoilfbpbjfkcaaDoor.Ends Go.Proofs.YtfoilfbpbjfkcaaDoor.Hashs Go.Proofs.YtfoilfbpbjfkcaaDoor.HashO Go.Proofs.YtfoilfbpbjfkcaaDoor.HashS Go.Proofs.YtfoilfbpbjfkcaaDoor.HashE Go.Proofs.YtfoilfbpbjfkcaaDoor.HashC

/-- The words of a hash that holds the text x. -/
def hw (x : List Int) : List Int := run start8 x (x.length / 64)
/-- What of x is still held. -/
def hd (x : List Int) : List Int := x.drop (64 * (x.length / 64))
theorem hw_nil : hw [] = start8 := rfl
theorem hd_nil : hd [] = [] := rfl
theorem hw_length (x : List Int) : (hw x).length = 8 := run_length _ _ _ rfl
theorem hd_length (x : List Int) : (hd x).length = x.length % 64 := drop_len x
theorem hd_bytes {x : List Int} (h : Bytes x) : Bytes (hd x) := fun z hz => h z (List.mem_of_mem_drop hz)
theorem ok (x : List Int) (h : x.length ≤ 1048576) : okH (hw x) (hd x).length (x.length : Int) = true :=
  okH_yes ((okw_iff _).2 ⟨hw_length x, run_wds _ _ _ start8_wds⟩) (isLen_yes ⟨by omega, by omega⟩) (by rw [hd_length]; omega)
theorem endI_of (x : List Int) (h : x.length ≤ 1048576) : endI (hw x) (hd x) (x.length : Int) = shaI x := by
  unfold endI shaI
  rw [if_pos (ok x h), if_pos h, Int.toNat_natCast]
  exact (end_rest start8 x x.length).trans rfl
theorem may (x y : List Int) (h : (x ++ y).length ≤ 1048576) : mayAdd (hw x) (hd x) (x.length : Int) y = true := by
  rw [List.length_append] at h
  unfold mayAdd
  rw [ok x (by omega), Bool.true_and, decide_eq_true_eq]
  omega
theorem drop_end (x y : List Int) : (hd x ++ y).drop (64 * ((hd x ++ y).length / 64)) = hd (x ++ y) := by
  unfold hd
  have e : x.drop (64 * (x.length / 64)) ++ y = (x ++ y).drop (64 * (x.length / 64)) := by
    rw [List.drop_append_of_le_length (by omega)]
  rw [e, List.drop_drop, List.length_drop, List.length_append]
  congr 1
  omega
theorem addW_of (x y : List Int) (h : (x ++ y).length ≤ 1048576) : addW (hw x) (hd x) (x.length : Int) y = hw (x ++ y) := by
  unfold addW; rw [if_pos (may x y h)]
  exact run_end start8 x y
theorem addB_of (x y : List Int) (h : (x ++ y).length ≤ 1048576) : addB (hw x) (hd x) (x.length : Int) y = hd (x ++ y) := by
  unfold addB; rw [if_pos (may x y h)]
  exact drop_end x y
theorem addN_of (x y : List Int) (h : (x ++ y).length ≤ 1048576) : addN (hw x) (hd x) (x.length : Int) y = ((x ++ y).length : Int) := by
  unfold addN; rw [if_pos (may x y h), List.length_append]; omega
/-- A text's hash, with more bytes. -/
theorem addTo (a0 : Addr) (n0 c0 : Nat) (a1 : Option Addr) (n1 c1 : Nat) (x y : List Int) (N M : Int) (ab : Option Addr) (nb cb : Nat) (w : World) (hT : Tab w) (hN : N = (x.length : Int)) (hM : M = ((x ++ y).length : Int)) (e0 : n0 = (hw x).length) (e1 : n1 = (hd x).length) (r0 : IRd w (some a0) (hw x)) (r1 : Rd w a1 (hd x)) (na : a1 = none → c1 = 0) (hx : Bytes x)
    (eb : nb = y.length) (rb : Rd w ab y) (nab : ab = none → cb = 0) (hy : Bytes y) (lb : nb ≤ 1048576) (h : (x ++ y).length ≤ 1048576) :
    Calls Tryd.prog 13 #[hashV (some a0) n0 c0 a1 n1 c1 N, .slice ab nb cb] w (NewHash w (hw (x ++ y)) (hd (x ++ y)) M) := by
  have l0 : n0 ≤ 1048576 := by rw [e0, hw_length]; omega
  have l1 : n1 ≤ 1048576 := by rw [e1, hd_length]; omega
  have := implHashAdd a0 n0 c0 a1 n1 c1 N (hw x) (hd x) ab nb cb y w hT e0 e1 r0 r1 na (hd_bytes hx) l0 l1 eb rb nab hy lb
  subst hN hM
  rw [addW_of x y h, addB_of x y h, addN_of x y h] at this
  exact this
theorem newOf (w : World) : Calls Tryd.prog 14 #[] w (NewHash w (hw []) (hd []) 0) := implHashNewR w
end Go.Proofs.YtfoilfbpbjfkcaaDoor.SumsP
