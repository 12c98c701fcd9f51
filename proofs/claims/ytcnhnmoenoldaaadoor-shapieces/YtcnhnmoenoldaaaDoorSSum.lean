/- New, Copy, end, digest, Sum, and the sum of parts. -/
import Derived.Test.YtcnhnmoenoldaaaDoorSHash
import Derived.Deep.WholeRow
namespace Go.Proofs.YtcnhnmoenoldaaaDoor
open Go.RowKit
theorem HashOf.start {w : World} {g : Nat} (h : Cells w g (hashCells shaStart (List.replicate 64 0) 0) 49) : HashOf w g [] :=
  ⟨shaStart, List.replicate 64 0, ⟨by simp, h⟩, rfl, rfl⟩
theorem hash_one (o : Oct) (rest : List UInt8) (n : Nat) : (hashCells o rest n).toArray.all (·.oneCell') = true := all_oneCell_toArray (by
  intro v hv
  unfold hashCells at hv
  rcases List.mem_append.1 hv with h | h
  · rcases List.mem_append.1 h with h | h
    · obtain ⟨x, _, rfl⟩ := List.mem_map.1 h; rfl
    · obtain ⟨x, _, rfl⟩ := List.mem_map.1 h; rfl
  · cases List.mem_singleton.1 h; rfl)
theorem zero_hash : ∀ w, (zeroValue 49).run Tryd.prog w = .ok (.agg (hashCells ⟨0, 0, 0, 0, 0, 0, 0, 0⟩ (List.replicate 64 0) 0).toArray) w := (zero_of_info (P := Tryd.prog) (t := 49) (v := .agg (hashCells ⟨0, 0, 0, 0, 0, 0, 0, 0⟩ (List.replicate 64 0) 0).toArray) (n := 73) (by kernel_rfl)).1
theorem size_hash : (Tryd.prog.info? 49).map (·.size) = some 73 := by kernel_rfl
theorem build_chain (w : World) : (Instr.build 45 #[(0, .agg (shaStart.list.map wcell).toArray)]).run Tryd.prog w = .ok (.agg (shaStart.list.map wcell).toArray) w := by kernel_rfl
theorem build_hash (w : World) : (Instr.build 49 #[(0, .agg (shaStart.list.map wcell).toArray)]).run Tryd.prog w = .ok (.agg (hashCells shaStart (List.replicate 64 0) 0).toArray) w := by kernel_rfl
set_option maxRecDepth 100000 in
theorem new_any (w : World) (hK : Tabs w) : Calls Tryd.prog 11 #[] w fun e w' => e = .returned (.pointer (some ⟨w.heap.size, 0, none⟩)) ∧ Below w.heap.size w w' ∧ HashOf w' w.heap.size [] := by
  have hS := hK.1
  have HL : Hid ((Tryd.prog.info? 43).map (·.size) = some (shaStart.list.map wcell).length) := size_eight
  have HB := build_chain
  have HC := build_hash
  have HE := HashOf.start (w := w.alloc (.cells (hashCells shaStart (List.replicate 64 0) 0).toArray 49)) (g := w.heap.size) (Cells.new w _ _)
  replace HE := Lib.hid HE
  generalize shaStart.list.map wcell = L at *
  generalize hashCells shaStart (List.replicate 64 0) 0 = C at *
  go_enter Tryd.func11, Tryd.ntmps11
  go_wp2_with (first
    | (refine wpList_load_mid rfl 43 _ rfl 0 0 rfl L _ hS Tryd.underlying43 rfl HL.out ?_)
    | (refine build_step rfl 45 _ rfl [(0, .agg L.toArray)] rfl _ HB ?_)
    | (refine build_step rfl 49 _ rfl [(0, .agg L.toArray)] rfl _ HC ?_)
    | (refine box_step rfl 49 _ rfl C.toArray rfl ?_
       intro w1 hw1
       have hB1 : Below w.heap.size w w1 := by rw [hw1]; exact (Below.refl _ _).alloc (Nat.le_refl _) _
       have HE1 : HashOf w1 w.heap.size [] := by rw [hw1]; exact HE.out
       clear hw1))
  go_ret
  exact ⟨rfl, hB1, HE1⟩
set_option maxRecDepth 100000 in
theorem copyHash_any (g : Nat) (bs : List UInt8) (w : World) (hH : HashOf w g bs) :
    Calls Tryd.prog 14 #[.pointer (some ⟨g, 0, none⟩)] w fun e w' => e = .returned (.pointer (some ⟨w.heap.size, 0, none⟩)) ∧ Below w.heap.size w w' ∧ HashOf w' w.heap.size bs := by
  obtain ⟨o, rest, hI, hh⟩ := hH
  have hC := hI.2
  have HL := Lib.hid (hashCells_length o rest bs.length hI.1)
  have hi : (Tryd.prog.info? 49).map (·.size) = some (hashCells o rest bs.length).toArray.size := by rw [List.size_toArray, HL.out]; exact size_hash
  have H1 := Lib.hid (hash_one o rest bs.length)
  have HS : Hid ((hashCells o rest bs.length).toArray.size = 73) := by show _ = _; rw [List.size_toArray, HL.out]
  go_enter Tryd.func14, Tryd.ntmps14
  go_wp2_with (first
    | (refine wpList_load_row rfl 49 _ rfl g rfl 49 _ (0, 0) _ hC Tryd.underlying49 rfl hi ?_)
    | (refine alloc_step rfl 49 rfl _ zero_hash ?_
       intro w1 hw1
       have hB1 : Below w.heap.size w w1 := by rw [hw1]; exact (Below.refl _ _).alloc (Nat.le_refl _) _
       have hC1 : Cells w1 w.heap.size (hashCells ⟨0, 0, 0, 0, 0, 0, 0, 0⟩ (List.replicate 64 0) 0) 49 := by rw [hw1]; exact Cells.new w _ _
       clear hw1
       have hT1 : w1.there w.heap.size 0 (hashCells o rest bs.length).toArray.size := by rw [HS.out]; exact hC1.there 0 73 (by rw [hashCells_length _ _ _ (by simp)]; omega))
    | (refine wpList_store_mid rfl 49 _ _ rfl w.heap.size 0 (hashCells o rest bs.length).toArray rfl rfl hT1 hi H1.out ?_))
  go_ret
  refine ⟨rfl, below_setCells hB1 (Nat.le_refl _) _ _, o, rest, ⟨hI.1, ?_⟩, hh⟩
  have h := hC1.setCells (cs := hashCells o rest bs.length) (o := 0) (by rw [HL.out, hashCells_length _ _ _ (by simp)]; omega)
  rw [splice_all _ _ (by rw [HL.out, hashCells_length _ _ _ (by simp)])] at h
  exact h
end Go.Proofs.YtcnhnmoenoldaaaDoor
