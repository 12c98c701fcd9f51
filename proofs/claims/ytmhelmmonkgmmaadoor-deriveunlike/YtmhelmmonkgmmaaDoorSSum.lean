/- New, Copy, end, digest, Sum, and the sum of parts. -/
import Derived.Test.YtmhelmmonkgmmaaDoorSHash
import Derived.Deep.WholeRow
namespace Go.Proofs.YtmhelmmonkgmmaaDoor
open Go.RowKit
theorem HashOf.start {w : World} {g : Nat} (h : Cells w g (hashCells shaStart (List.replicate 64 0) 0) 88) : HashOf w g [] :=
  ⟨shaStart, List.replicate 64 0, ⟨by simp, h⟩, rfl, rfl⟩
theorem hash_one (o : Oct) (rest : List UInt8) (n : Nat) : (hashCells o rest n).toArray.all (·.oneCell') = true := all_oneCell_toArray (by
  intro v hv
  unfold hashCells at hv
  rcases List.mem_append.1 hv with h | h
  · rcases List.mem_append.1 h with h | h
    · obtain ⟨x, _, rfl⟩ := List.mem_map.1 h; rfl
    · obtain ⟨x, _, rfl⟩ := List.mem_map.1 h; rfl
  · cases List.mem_singleton.1 h; rfl)
theorem zero_hash : ∀ w, (zeroValue 88).run Tryd.prog w = .ok (.agg (hashCells ⟨0, 0, 0, 0, 0, 0, 0, 0⟩ (List.replicate 64 0) 0).toArray) w := (zero_of_info (P := Tryd.prog) (t := 88) (v := .agg (hashCells ⟨0, 0, 0, 0, 0, 0, 0, 0⟩ (List.replicate 64 0) 0).toArray) (n := 73) (by kernel_rfl)).1
theorem size_hash : (Tryd.prog.info? 88).map (·.size) = some 73 := by kernel_rfl
theorem build_chain (w : World) : (Instr.build 86 #[(0, .agg (shaStart.list.map wcell).toArray)]).run Tryd.prog w = .ok (.agg (shaStart.list.map wcell).toArray) w := by kernel_rfl
theorem build_hash (w : World) : (Instr.build 88 #[(0, .agg (shaStart.list.map wcell).toArray)]).run Tryd.prog w = .ok (.agg (hashCells shaStart (List.replicate 64 0) 0).toArray) w := by kernel_rfl
set_option maxRecDepth 100000 in
theorem new_any (w : World) (hK : Tabs w) : Calls Tryd.prog 37 #[] w fun e w' => e = .returned (.pointer (some ⟨w.heap.size, 0, none⟩)) ∧ Below w.heap.size w w' ∧ HashOf w' w.heap.size [] := by
  have hS := hK.1
  have HL : Hid ((Tryd.prog.info? 84).map (·.size) = some (shaStart.list.map wcell).length) := size_eight
  have HB := build_chain
  have HC := build_hash
  have HE := HashOf.start (w := w.alloc (.cells (hashCells shaStart (List.replicate 64 0) 0).toArray 88)) (g := w.heap.size) (Cells.new w _ _)
  replace HE := Lib.hid HE
  generalize shaStart.list.map wcell = L at *
  generalize hashCells shaStart (List.replicate 64 0) 0 = C at *
  go_enter Tryd.func37, Tryd.ntmps37
  go_wp2_with (first
    | (refine wpList_load_mid rfl 84 _ rfl 19 0 rfl L _ hS Tryd.underlying84 rfl HL.out ?_)
    | (refine build_step rfl 86 _ rfl [(0, .agg L.toArray)] rfl _ HB ?_)
    | (refine build_step rfl 88 _ rfl [(0, .agg L.toArray)] rfl _ HC ?_)
    | (refine box_step rfl 88 _ rfl C.toArray rfl ?_
       intro w1 hw1
       have hB1 : Below w.heap.size w w1 := by rw [hw1]; exact (Below.refl _ _).alloc (Nat.le_refl _) _
       have HE1 : HashOf w1 w.heap.size [] := by rw [hw1]; exact HE.out
       clear hw1))
  go_ret
  exact ⟨rfl, hB1, HE1⟩
end Go.Proofs.YtmhelmmonkgmmaaDoor
