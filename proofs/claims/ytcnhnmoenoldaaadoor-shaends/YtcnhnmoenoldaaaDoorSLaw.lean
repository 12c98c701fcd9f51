/- What the laws of layer 2 share: the tables that the program's text lays, digests held against each other, slices of slices, 'alive'. -/
import Derived.Test.YtcnhnmoenoldaaaDoorRShaSum
import Derived.Test.YtcnhnmoenoldaaaDoorWOpen
import Derived.Lib.LaidTab
import Derived.Stop.BytesEq
import Derived.Lib.SlBytesConst
namespace Go.Proofs.YtcnhnmoenoldaaaDoor
open Go.RowKit
theorem start_tab : (Rows.laid_fellowship_sha_start : DataW Unit) = Lib.tabData .u32 (shaStart.list.map fun x => (x.toNat : Int)) := by rfl
theorem rounds_tab : (Rows.laid_fellowship_sha_rounds : DataW Unit) = Lib.tabData .u32 (shaK.map fun x => (x.toNat : Int)) := by rfl
theorem tab_range {W : World} {name : String} {g : Nat} {cs : Array Value} (l : List (BitVec 32)) (hg : Tryd.prog.globalNamed name = some g) (hv : W.var? Tryd.prog name = some cs) (hc : cs.toList = (l.map fun x => (x.toNat : Int)).map fun z => Value.int .u32 z) : W.rangeAt g 0 (l.map wcell) := by
  intro j v hj
  have h := World.var?_cell hg hv j
  have e : cs[j]? = some v := by
    rw [← Array.getElem?_toList, hc, List.map_map]
    exact hj
  rw [e] at h
  simpa using h
theorem var_lt {W : World} {name : String} {g : Nat} {cs : Array Value} {v : Value} (hg : Tryd.prog.globalNamed name = some g) (hv : W.var? Tryd.prog name = some cs) (h0 : cs[0]? = some v) : g < W.heap.size := by
  have h := World.var?_cell hg hv 0
  rw [h0] at h
  exact block_lt_of_cell (a := ⟨g, 0, none⟩) (by simpa using h)
theorem hash_eql (bs : List UInt8) (w : World) : (binOp .eql 26 (hashVal (shaSum bs)) (hashVal (shaSum bs))).run Tryd.prog w = .ok (.bool true) w := by
  have h := run_eql_bytes (P := Tryd.prog) w 26 5 32 Tryd.underlying26 Tryd.underlying5 (fun w => by
    obtain ⟨i0, hi0, hs0⟩ := Option.map_eq_some_iff.1 size_u8
    simp [sizeOf, typeInfo, hi0, hs0]) (shaSum bs) (shaSum bs) (shaSum_length bs) (shaSum_length bs)
  rw [beq_self_eq_true] at h
  exact h
theorem hash_neq (bs : List UInt8) (w : World) : (binOp .neq 26 (hashVal (shaSum bs)) (hashVal (shaSum bs))).run Tryd.prog w = .ok (.bool false) w := by
  have h := run_equalIn_bytes (P := Tryd.prog) w 9998 26 5 32 Tryd.underlying26 Tryd.underlying5 (fun w => by
    obtain ⟨i0, hi0, hs0⟩ := Option.map_eq_some_iff.1 size_u8
    simp [sizeOf, typeInfo, hi0, hs0]) (shaSum bs) (shaSum bs) (shaSum_length bs) (shaSum_length bs)
  rw [beq_self_eq_true] at h
  have h2 := run_neq_struct (P := Tryd.prog) w 26 ((shaSum bs).map cellOf).toArray ((shaSum bs).map cellOf).toArray
  unfold hashVal
  rw [h2]
  have h3 : (Op.equalIn 10000 26 (.agg ((shaSum bs).map cellOf).toArray) (.agg ((shaSum bs).map cellOf).toArray)).run Tryd.prog w = .ok true w := h
  rw [h3]
  rfl
theorem hash_guard (op : BinOp) (x y : Operand) (ds es : List UInt8) (w : World) : (eqGuard op 26 x y (hashVal ds) (hashVal es)).run Tryd.prog w = .ok () w := run_eqGuard_agg w op 26 x y _ _ (by kernel_rfl)
theorem parts_lit (w : World) (vs : Array Value) (ps : List (List UInt8)) (h : ∀ (j : Nat) (us : List UInt8), ps[j]? = some us → ∃ v, vs[j]? = some v ∧ Part w w.heap.size v us) :
    Parts (w.alloc (.cells vs 22)) (w.alloc (.cells vs 22)).heap.size (some ⟨w.heap.size, 0, none⟩) ps := by
  refine .inr ⟨w.heap.size, 0, rfl, by simp, fun j us hu => ?_⟩
  obtain ⟨v, hv, A, c, e, hr, h1, h2⟩ := h j us hu
  have hb : Below w.heap.size w (w.alloc (.cells vs 22)) := (Below.refl _ _).alloc (Nat.le_refl _) _
  refine ⟨v, ?_, A, c, e, (hr.on hb), h1, h2⟩
  rw [Nat.zero_add, World.cell?_alloc_at _ _ _ _ rfl]
  exact hv
theorem row_lit (w : World) (bs : List UInt8) (f : Nat × Nat) : Row (w.alloc (.cells (bs.map cellOf).toArray 5 f)) (w.heap.size + 1) (some ⟨w.heap.size, 0, none⟩) bs := by
  refine .inr ⟨w.heap.size, 0, rfl, by omega, fun j u hu => ?_⟩
  rw [Nat.zero_add, cell_of_row _ _ _ _ _ _ (heap_alloc_new w _), List.getElem?_toArray, List.getElem?_map, hu]
  rfl
set_option maxRecDepth 100000 in
theorem alive2 (w : World) (hK : Tabs w) (hg : 4 ≤ w.heap.size) : Calls Tryd.prog 6 #[] w fun e w' => e = .returned (.bool true) ∧ Below w.heap.size w w' := by
  have HD := Lib.hid abc
  have HW : Hid ((shaSum [97, 98, 99]).length = 32) := shaSum_length _
  have hm0 := row_lit w [97, 98, 99] (3, 4)
  have hB0 : Below w.heap.size w (w.alloc (.cells #[.int .u8 97, .int .u8 98, .int .u8 99] 5 (3, 4))) := (Below.refl _ _).alloc (Nat.le_refl _) _
  have hP : Parts ((w.alloc (.cells #[.int .u8 97, .int .u8 98, .int .u8 99] 5 (3, 4))).alloc (.cells #[.slice (some ⟨w.heap.size, 0, none⟩) 3 3] 22)) ((w.alloc (.cells #[.int .u8 97, .int .u8 98, .int .u8 99] 5 (3, 4))).alloc (.cells #[.slice (some ⟨w.heap.size, 0, none⟩) 3 3] 22)).heap.size (some ⟨w.heap.size + 1, 0, none⟩) [[97, 98, 99]] := by
    have h := parts_lit (w.alloc (.cells #[.int .u8 97, .int .u8 98, .int .u8 99] 5 (3, 4))) #[.slice (some ⟨w.heap.size, 0, none⟩) 3 3] [[97, 98, 99]] (fun j us hu => by
      match j, hu with
      | 0, hu =>
        cases hu
        exact ⟨_, rfl, _, _, rfl, by rw [World.size_alloc]; exact hm0, Nat.le_refl _, by unfold maxLen; omega, (fun h => by cases h)⟩
      | j + 1, hu => simp at hu)
    simpa using h
  have hB1 := hB0.alloc hB0.size (.cells #[.slice (some ⟨w.heap.size, 0, none⟩) 3 3] 22)
  have HP := Lib.hid hP
  have HB := Lib.hid hB1
  clear hP hB1 hB0 hm0
  have hcv := Lib.run_convert_bytes_const (P := Tryd.prog) w 22 5 #[.int .u8 97, .int .u8 98, .int .u8 99] 3 3 Tryd.underlying22 Tryd.underlying5
  go_enter Tryd.func6, Tryd.ntmps6
  go_wp2_with fail
  refine (sum_any _ _ 1 [[97, 98, 99]] _ (hK.below HB.out) (by simp; omega) rfl HP.out (by omega) (by simp)).mono ?_
  rintro e w2 ⟨rfl, hB2⟩
  have hB3 := HB.out.trans (hB2.mono HB.out.size)
  clear hB2 HP HB
  rw [show ([[97, 98, 99]] : List (List UInt8)).flatten = [97, 98, 99] from rfl]
  generalize shaSum [97, 98, 99] = ds at *
  have HV : Hid (hashVal ds = .agg (ds.map cellOf).toArray) := rfl
  rw [HV.out]
  have HP8 : Hid (∀ v ∈ ds.map cellOf, v.oneCell' = true) := cells8_one _
  have HS : Hid ((ds.map cellOf).toArray.size = 32) := by show _ = _; rw [List.size_toArray, List.length_map, HW.out]
  have hi : (Tryd.prog.info? 26).map (·.size) = some (ds.map cellOf).toArray.size := by rw [HS.out]; exact size_h32
  have HN : Hid ((ds.map cellOf).length = 32) := by show _ = _; rw [List.length_map, HW.out]
  have b0 : (ds.map cellOf)[0]? = some (.int .u8 186) := by rw [HD.out]; rfl
  have b1 : (ds.map cellOf)[1]? = some (.int .u8 120) := by rw [HD.out]; rfl
  have b2 : (ds.map cellOf)[30]? = some (.int .u8 21) := by rw [HD.out]; rfl
  have b3 : (ds.map cellOf)[31]? = some (.int .u8 173) := by rw [HD.out]; rfl
  generalize ds.map cellOf = vs at *
  replace b0 := Lib.hid b0
  replace b1 := Lib.hid b1
  replace b2 := Lib.hid b2
  replace b3 := Lib.hid b3
  go_wp2_with (first
    | (refine alloc_step rfl 26 rfl _ zero_h32 ?_
       intro w3 hw3
       have hB4 : Below w.heap.size w w3 := by rw [hw3]; exact hB3.alloc hB3.size _
       have hC4 : Cells w3 w2.heap.size (List.replicate 32 (cellOf 0)) 26 := by rw [hw3]; exact Cells.new w2 _ _
       clear hw3
       have hT4 : w3.there w2.heap.size 0 vs.toArray.size := by rw [HS.out]; exact hC4.there 0 32 (by simp)
       have hC5 := hC4.setCells (cs := vs) (o := 0) (by simp [HN.out])
       rw [splice_all _ _ (by simp [HN.out])] at hC5
       have hB5 : Below w.heap.size w (w3.setCells w2.heap.size 0 vs) := below_setCells hB4 hB3.size _ _)
    | (refine wpList_store_mid rfl 26 _ _ rfl w2.heap.size 0 vs.toArray rfl rfl hT4 hi (all_oneCell_toArray HP8.out) ?_
       generalize w3.setCells w2.heap.size 0 vs = w5 at *
       have d0 := hC5.get b0.out
       have d1 := hC5.get b1.out
       have d2 := hC5.get b2.out
       have d3 := hC5.get b3.out))
  go_ret
  exact ⟨rfl, hB5⟩
end Go.Proofs.YtcnhnmoenoldaaaDoor
