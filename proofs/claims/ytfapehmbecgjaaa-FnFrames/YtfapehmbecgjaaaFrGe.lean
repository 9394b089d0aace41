/-
  What is handed back where a frame is read.
-/
import Derived.Test.YtfapehmbecgjaaaFrH
import Derived.Test.YtfapehmbecgjaaaFrM
import Derived.Test.YtfapehmbecgjaaaFrPut
import Derived.Test.YtfapehmbecgjaaaFrB2
import Derived.Test.YtfapehmbecgjaaaSame
import Derived.Test.YtfapehmbecgjaaaOps
import Derived.Test.YtfapehmbecgjaaaCuts
set_option linter.unusedVariables false
namespace Go.Proofs.Ytfapehmbecgjaaa.FrGet
open Go.RowKit Go.Proofs.Ytfapehmbecgjaaa.Mem Go.Proofs.Ytfapehmbecgjaaa.App Go.Proofs.Ytfapehmbecgjaaa.Get Go.Proofs.Ytfapehmbecgjaaa.Blk Go.Proofs.Ytfapehmbecgjaaa.Words Go.Proofs.Ytfapehmbecgjaaa.Zone Go.Proofs.Ytfapehmbecgjaaa.Res Go.Proofs.Ytfapehmbecgjaaa.FrZ Go.Proofs.Ytfapehmbecgjaaa.FrP Go.Proofs.Ytfapehmbecgjaaa.FrB Go.Proofs.Ytfapehmbecgjaaa.FrB2 Go.Proofs.Ytfapehmbecgjaaa.FrG Go.Proofs.Ytfapehmbecgjaaa.FrH Go.Proofs.Ytfapehmbecgjaaa.FrM Go.Proofs.Ytfapehmbecgjaaa.FrPut Go.Proofs.Ytfapehmbecgjaaa.Each Go.Proofs.Ytfapehmbecgjaaa.Copy Go.Proofs.Ytfapehmbecgjaaa.Ops Go.Proofs.Ytfapehmbecgjaaa.Same Go.Proofs.Ytfapehmbecgjaaa.Cuts

/-- y stands in l from i on. -/
theorem rdPiece {w : World} {b off : Nat} {l : List Int} (h : Rd w (some ⟨b, off, none⟩) l) (i : Nat) (y : List Int) (hy : ∀ j, j < y.length → i + j < l.length ∧ y.getD j 0 = l.getD (i + j) 0) : Rd w (some ⟨b, off + i, none⟩) y := by
  intro j hj
  obtain ⟨h1, h2⟩ := hy j hj
  obtain ⟨b', off', e, h3, h4⟩ := h (i + j) h1
  simp only [Option.some.injEq, Addr.mk.injEq, and_true] at e
  obtain ⟨rfl, rfl⟩ := e
  exact ⟨b, off + i, rfl, h3, by rw [h2, Nat.add_assoc]; exact h4⟩
theorem piece_sub (l : List Int) (i k : Nat) : ∀ j, j < (piece l i k).length → i + j < l.length ∧ (piece l i k).getD j 0 = l.getD (i + j) 0 := by
  intro j hj
  have hj' : j < min k (l.length - i) := by simpa [piece] using hj
  exact ⟨by omega, by simp [piece, List.getD, show j < k by omega]⟩
theorem drop_sub (l : List Int) (i : Nat) : ∀ j, j < (l.drop i).length → i + j < l.length ∧ (l.drop i).getD j 0 = l.getD (i + j) 0 := by
  intro j hj
  rw [List.length_drop] at hj
  exact ⟨by omega, by simp [List.getD]⟩
theorem bytes_piece {l : List Int} (h : Bytes l) (i k : Nat) : Bytes (piece l i k) := fun z hz => h z (List.mem_of_mem_drop (List.mem_of_mem_take hz))
theorem bytes_drop {l : List Int} (h : Bytes l) (i : Nat) : Bytes (l.drop i) := fun z hz => h z (List.mem_of_mem_drop hz)
def SN : FrS := ⟨⟨none, 0, 0⟩, ⟨none, 0, 0⟩, ⟨none, 0, 0⟩, ⟨none, 0, 0⟩, ⟨none, 0, 0⟩, ⟨none, 0, 0⟩⟩
theorem own_nil (w : World) (lo hi : Nat) : FrOwn w lo hi SN zeroF := ⟨SOwn.nil _ _ _, SOwn.nil _ _ _, SOwn.nil _ _ _, SOwn.nil _ _ _, SOwn.nil _ _ _, SOwn.nil _ _ _, ⟨.inl rfl, .inl rfl, .inl rfl, .inl rfl, .inl rfl, .inl rfl, .inl rfl, .inl rfl, .inl rfl, .inl rfl, .inl rfl, .inl rfl, .inl rfl, .inl rfl, .inl rfl⟩⟩
/-- What is handed back: what was read, in memory of its own. -/
def Gave (w : World) (l : List Int) : Ending → World → Prop := fun e w' => ∃ D S ok, e = .returned (.tuple #[frV D S, .bool ok]) ∧ IsGot l D ok ∧ FrOwn w' w.heap.size w'.heap.size S D ∧ Below w.heap.size w w'
theorem ret_got {fn : Func} {p q : Tmp} {a : Act} {w w' : World} {g : Nat} {l : List Int} {D : FrD} {S : FrS} {ok : Bool} (hf : fn.results = #[.cell p 25, .tmp q]) (hp : a.tmps.getD p undef = .pointer (some ⟨g, 0, none⟩)) (hq : a.tmps.getD q undef = .bool ok)
    (hg : Blk w' g 25 [.int .i64 D.kind, .int .i64 D.id, .slice S.cn.a S.cn.n S.cn.c, .slice S.sn.a S.sn.n S.sn.c, .int .i64 D.tick, .slice S.cookie.a S.cookie.n S.cookie.c, .slice S.proof.a S.proof.n S.proof.c, .int .i64 D.epoch, .int .i64 D.seq, .slice S.body.a S.body.n S.body.c, .slice S.tag.a S.tag.n S.tag.c]) (hd : a.defers = []) (h1 : IsGot l D ok) (h2 : FrOwn w' w.heap.size w'.heap.size S D) (h3 : Below w.heap.size w w') : bodyPost Try.prog fn (Gave w l) .ret a w' :=
  bodyPost_ret (v := .tuple #[frV D S, .bool ok]) (res2 hf (is_cell hp hg aggFr) (is_tmp hq)) hd ⟨D, S, ok, rfl, h1, h2, h3⟩
theorem gotN_yes (l : List Int) (i k : Nat) (j : Int) (hj : j = i + k) (hk : isSize k = true) (h : i + k ≤ l.length) : gotN l i k = .tuple #[.int .i64 (val (piece l i k)), .int .i64 j, .bool true] := by
  unfold gotN
  rw [if_pos ⟨hk, there_yes ⟨by omega, by omega, by omega⟩⟩, Int.toNat_natCast, Int.toNat_natCast, hj]
theorem strs_ne {x y : List Int} (hx : Bytes x) (hy : Bytes y) : (!((strOfNums x).toList == (strOfNums y).toList)) = decide (x ≠ y) := by
  rw [Lib.strOfNums_toList, Lib.strOfNums_toList]
  by_cases e : x = y
  · subst e; simp
  · have : ¬ Lib.bytesOf x = Lib.bytesOf y := fun h => e (nums_inj hx hy (by unfold strOfNums; rw [show (x.map fun n => UInt8.ofNat n.toNat) = (y.map fun n => UInt8.ofNat n.toNat) from h]))
    simp [e, this]
end Go.Proofs.Ytfapehmbecgjaaa.FrGet
