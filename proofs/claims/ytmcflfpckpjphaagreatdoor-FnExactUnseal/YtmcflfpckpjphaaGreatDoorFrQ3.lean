/-
  What impl's PutFrame and SizeOf answer.
-/
import Derived.Test.YtmcflfpckpjphaaGreatDoorFrQ2
import Derived.Test.YtmcflfpckpjphaaGreatDoorFrO2
namespace Go.Proofs.YtmcflfpckpjphaaGreatDoor.FrQ3
open Go.RowKit Go.Proofs.YtmcflfpckpjphaaGreatDoor.Mem Go.Proofs.YtmcflfpckpjphaaGreatDoor.App Go.Proofs.YtmcflfpckpjphaaGreatDoor.Blk Go.Proofs.YtmcflfpckpjphaaGreatDoor.Words Go.Proofs.YtmcflfpckpjphaaGreatDoor.Zone Go.Proofs.YtmcflfpckpjphaaGreatDoor.Res Go.Proofs.YtmcflfpckpjphaaGreatDoor.FrZ Go.Proofs.YtmcflfpckpjphaaGreatDoor.FrP Go.Proofs.YtmcflfpckpjphaaGreatDoor.FrB Go.Proofs.YtmcflfpckpjphaaGreatDoor.FrT Go.Proofs.YtmcflfpckpjphaaGreatDoor.FrW Go.Proofs.YtmcflfpckpjphaaGreatDoor.FrW2 Go.Proofs.YtmcflfpckpjphaaGreatDoor.FrW3 Go.Proofs.YtmcflfpckpjphaaGreatDoor.FrQ Go.Proofs.YtmcflfpckpjphaaGreatDoor.FrQ2 Go.Proofs.YtmcflfpckpjphaaGreatDoor.FrO2

set_option maxRecDepth 100000 in
theorem putN_one (x : Int) (h0 : 0 ≤ x) (h1 : x ≤ 255) : putN x 1 = [x] := by
  show num x 1 = [x]
  show [x / 2 ^ (8 * 0) % 256] = [x]
  congr 1
  simp
  omega
set_option maxRecDepth 100000 in
theorem short_ok (D : FrD) (h : frameOk D = true) : FrShort D 100 := by
  obtain ⟨h1, h2, h3, h4, h5, h6⟩ := ok_lens D h
  exact ⟨by omega, by omega, by omega, by omega, by omega, by omega⟩

set_option maxRecDepth 100000 in
theorem lay1 (D : FrD) (h : frameOk D = true) (k : D.kind = 1) : [] ++ putN 1 1 ++ putN D.id 1 ++ D.cn ++ List.replicate 20 0 = putF D := by
  rw [putF_1 D h (by rw [k]; rfl), k, putN_one 1 (by omega) (by omega), putN_one D.id (by have := ok_id1 D h (by rw [k]; rfl); omega) (by have := ok_id1 D h (by rw [k]; rfl); omega)]; rfl
set_option maxRecDepth 100000 in
theorem lay2 (D : FrD) (h : frameOk D = true) (k : D.kind = 2) : [] ++ putN 2 1 ++ D.cn ++ D.sn ++ putN D.tick 4 ++ D.cookie = putF D := by
  rw [putF_2 D h (by rw [k]; rfl) (by rw [k]; rfl), k]; rfl
set_option maxRecDepth 100000 in
theorem lay3 (D : FrD) (h : frameOk D = true) (k : D.kind = 3) : [] ++ putN 3 1 ++ putN D.id 1 ++ D.cn ++ D.sn ++ putN D.tick 4 ++ D.cookie ++ D.proof = putF D := by
  rw [putF_3 D h (by rw [k]; rfl) (by rw [k]; rfl) (by rw [k]; rfl), k, putN_one D.id (by have := ok_id3 D h (by rw [k]; rfl); omega) (by have := ok_id3 D h (by rw [k]; rfl); omega)]; rfl
set_option maxRecDepth 100000 in
theorem lay4 (D : FrD) (h : frameOk D = true) (k : D.kind = 4) : [] ++ putN 4 1 ++ D.sn ++ putN D.epoch 4 ++ putN D.seq 6 ++ D.tag ++ D.body = putF D := by
  rw [putF_s D h (by rw [k]; rfl) (by rw [k]; rfl) (by rw [k]; rfl), k]; rfl
set_option maxRecDepth 100000 in
theorem lay5 (D : FrD) (h : frameOk D = true) (k : D.kind = 5) : [] ++ putN 5 1 ++ D.sn ++ putN D.epoch 4 ++ putN D.seq 6 ++ D.tag ++ D.body = putF D := by
  rw [putF_s D h (by rw [k]; rfl) (by rw [k]; rfl) (by rw [k]; rfl), k]; rfl
set_option maxRecDepth 100000 in
theorem lay6 (D : FrD) (h : frameOk D = true) (k : D.kind = 6) : [] ++ putN 6 1 ++ D.sn ++ putN D.epoch 4 ++ putN D.seq 6 ++ D.tag ++ D.body = putF D := by
  rw [putF_s D h (by rw [k]; rfl) (by rw [k]; rfl) (by rw [k]; rfl), k]; rfl
set_option maxRecDepth 100000 in
theorem lay7 (D : FrD) (h : frameOk D = true) (k : D.kind = 7) : [] ++ putN 7 1 ++ D.sn ++ putN D.epoch 4 ++ putN D.seq 6 ++ D.tag ++ D.body = putF D := by
  rw [putF_s D h (by rw [k]; rfl) (by rw [k]; rfl) (by rw [k]; rfl), k]; rfl
set_option maxRecDepth 100000 in
theorem lay8 (D : FrD) (h : frameOk D = true) (k : D.kind = 8) : [] ++ putN 8 1 ++ D.sn ++ putN D.epoch 4 ++ putN D.seq 6 ++ D.tag ++ D.body = putF D := by
  rw [putF_s D h (by rw [k]; rfl) (by rw [k]; rfl) (by rw [k]; rfl), k]; rfl

end Go.Proofs.YtmcflfpckpjphaaGreatDoor.FrQ3
