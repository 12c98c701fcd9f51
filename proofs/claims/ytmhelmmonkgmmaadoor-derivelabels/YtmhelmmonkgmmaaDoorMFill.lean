/- Package mac: the key's block. -/
import Derived.Test.YtmhelmmonkgmmaaDoorMBlock
namespace Go.Proofs.YtmhelmmonkgmmaaDoor
open Go.RowKit
theorem fill_cells (k : List UInt8) (h : k.length ≤ 64) : splice z64 0 (k.map cellOf) = (macFill k).map cellOf := by
  rw [macFill_eq k h, z64, splice, List.take_zero, List.nil_append, List.length_map, Nat.zero_add, List.drop_replicate, List.map_append, List.map_replicate]
/-- A literal of one slice of bytes, and of two. -/
theorem parts_one (w : World) (A : Option Addr) (n c : Nat) (us : List UInt8) (hl : us.length = n) (hr : Row w w.heap.size A us) (hA : A = none → c = 0) (hc : n ≤ c) (hc2 : c ≤ maxLen) :
    Parts (w.alloc (.cells #[.slice A n c] 22)) (w.alloc (.cells #[.slice A n c] 22)).heap.size (some ⟨w.heap.size, 0, none⟩) [us] := parts_lit w #[.slice A n c] [us] (fun j vs hu => by
  match j, hu with
  | 0, hu => cases hu; exact ⟨.slice A n c, rfl, A, c, by rw [hl], hr, by omega, hc2, hA⟩
  | j + 1, hu => simp at hu)
theorem parts_two (w : World) (A B : Option Addr) (n c m d : Nat) (us xs : List UInt8) (hl : us.length = n) (hr : Row w w.heap.size A us) (hA : A = none → c = 0) (hc : n ≤ c) (hc2 : c ≤ maxLen) (kl : xs.length = m) (kr : Row w w.heap.size B xs) (kA : B = none → d = 0) (kc : m ≤ d) (kc2 : d ≤ maxLen) :
    Parts (w.alloc (.cells #[.slice A n c, .slice B m d] 22)) (w.alloc (.cells #[.slice A n c, .slice B m d] 22)).heap.size (some ⟨w.heap.size, 0, none⟩) [us, xs] := parts_lit w #[.slice A n c, .slice B m d] [us, xs] (fun j vs hu => by
  match j, hu with
  | 0, hu => cases hu; exact ⟨.slice A n c, rfl, A, c, by rw [hl], hr, by omega, hc2, hA⟩
  | 1, hu => cases hu; exact ⟨.slice B m d, rfl, B, d, by rw [kl], kr, by omega, kc2, kA⟩
  | j + 2, hu => simp at hu)
set_option maxRecDepth 100000 in
theorem filled_any (A : Option Addr) (c n : Nat) (key : List UInt8) (w : World) (hK : Tabs w) (hg : 21 ≤ w.heap.size) (hl : key.length = n) (hr : Row w w.heap.size A key) (hA : A = none → c = 0) (hc : n ≤ c) (hc2 : c ≤ maxLen) (hn : n ≤ 900000) :
    Calls Tryd.prog 27 #[.slice A n c] w fun e w' => e = .returned (hashVal (macKey key)) ∧ Below w.heap.size w w' := by
  have HL := Lib.hid hl
  clear hl
  have HW : Hid (((macKey key).map cellOf).length = 64) := by show _ = _; rw [List.length_map, macKey_length]
  have HP : Hid (∀ v ∈ (macKey key).map cellOf, v.oneCell' = true) := cells8_one _
  have HV : Hid (hashVal (macKey key) = .agg ((macKey key).map cellOf).toArray) := rfl
  by_cases hlong : 64 < n
  · have HF : Hid (splice z64 0 ((shaSum key).map cellOf) = (macKey key).map cellOf) := by
      show _ = _
      rw [fill_cells _ (by rw [shaSum_length]; omega), macKey_long key (by rw [HL.out]; exact hlong)]
    generalize (macKey key).map cellOf = vs at *
    have HS : Hid (vs.toArray.size = 64) := by show _ = _; rw [List.size_toArray, HW.out]
    have hi : (Tryd.prog.info? 54).map (·.size) = some vs.toArray.size := by rw [HS.out]; exact size_blk
    have h1 : (64 : Int) < (n : Int) := by omega
    go_enter Tryd.func27, Tryd.ntmps27
    go_wp2_with (first
      | (refine alloc_step rfl 54 rfl _ zero_blk ?_
         intro w0 hw0
         have hB0 : Below w.heap.size w w0 := by rw [hw0]; exact (Below.refl _ _).alloc (Nat.le_refl _) _
         have hR0 : Cells w0 w.heap.size z64 54 := by rw [hw0]; exact Cells.new w _ _
         have hz0 : w0.heap.size = w.heap.size + 1 := by rw [hw0]; simp
         clear hw0)
      | (refine alloc_step rfl 54 rfl _ zero_blk ?_
         intro w1 hw1
         have hB1 : Below w.heap.size w w1 := by rw [hw1]; exact hB0.alloc hB0.size _
         have hR1 : Cells w1 w.heap.size z64 54 := by rw [hw1]; exact hR0.alloc _
         have hO1 : Cells w1 (w.heap.size + 1) z64 54 := by rw [hw1, ← hz0]; exact Cells.new w0 _ _
         clear hw1
         rw [hz0]
         have HP1 := Lib.hid (parts_one w1 A n c key HL.out (hr.on hB1) hA hc hc2)
         have HB1 : Hid (Below w1.heap.size w1 (w1.alloc (.cells #[.slice A n c] 22))) := (Below.refl _ _).alloc (Nat.le_refl _) _))
    generalize w1.alloc (.cells #[.slice A n c] 22) = w2 at *
    have hb2 := HB1.out
    have hB2 := below_then hB1 hb2
    have hR2 := hR1.below hb2 hR1.lt
    have hO2 := hO1.below hb2 hO1.lt
    refine (sum_any _ _ 1 [key] w2 (hK.below hB2) (by have := hB2.size; omega) rfl HP1.out (by omega) (by simp [HL.out]; omega)).mono ?_
    rintro e w3 ⟨rfl, hB3⟩
    rw [show [key].flatten = key by simp]
    have hB4 := below_then hB2 hB3
    have hR4 := hR2.below hB3 hR2.lt
    have hO4 := hO2.below hB3 hO2.lt
    clear hB0 hR0 hz0 hB1 hR1 hO1 HP1 HB1 hb2 hB2 hR2 hO2 hB3
    have HD : Hid (hashVal (shaSum key) = .agg ((shaSum key).map cellOf).toArray) := rfl
    have HDL : Hid ((shaSum key).length = 32) := shaSum_length key
    have HDS : Hid (((shaSum key).map cellOf).length = 32) := by show _ = _; rw [List.length_map, HDL.out]
    have HDP : Hid (∀ v ∈ (shaSum key).map cellOf, v.oneCell' = true) := cells8_one _
    rw [HD.out]
    generalize shaSum key = dg at *
    have HDZ : Hid ((dg.map cellOf).toArray.size = 32) := by show _ = _; rw [List.size_toArray, HDS.out]
    have hid : (Tryd.prog.info? 30).map (·.size) = some (dg.map cellOf).toArray.size := by rw [HDZ.out]; exact size_h32
    have HT : Hid (dg.take 64 = dg) := by show _ = _; rw [List.take_of_length_le (by rw [HDL.out]; omega)]
    generalize hdv : dg.map cellOf = dv at *
    replace hdv := Lib.hid hdv
    go_wp2_with (first
      | (refine alloc_step rfl 30 rfl _ zero_h32 ?_
         intro w4 hw4
         have hB5 : Below w.heap.size w w4 := by rw [hw4]; exact hB4.alloc hB4.size _
         have hR5 : Cells w4 w.heap.size z64 54 := by rw [hw4]; exact hR4.alloc _
         have hO5 : Cells w4 (w.heap.size + 1) z64 54 := by rw [hw4]; exact hO4.alloc _
         have hD5 : Cells w4 w3.heap.size (List.replicate 32 (cellOf 0)) 30 := by rw [hw4]; exact Cells.new w3 _ _
         clear hw4
         have hT5 : w4.there w3.heap.size 0 dv.toArray.size := by rw [HDZ.out]; exact hD5.there 0 32 (by simp))
      | (refine wpList_store_mid rfl 30 _ _ rfl w3.heap.size 0 dv.toArray rfl rfl hT5 hid (all_oneCell_toArray HDP.out) ?_))
    have hz4 := hO4.lt
    have hD6 := hD5.setCells (cs := dv) (o := 0) (by simp [HDS.out])
    rw [splice_all _ _ (by simp [HDS.out])] at hD6
    have hR6 := hR5.otherCells (b := w3.heap.size) (by omega) 0 dv
    have hO6 := hO5.otherCells (b := w3.heap.size) (by omega) 0 dv
    have hB6 := below_setCells hB5 hB4.size 0 dv
    generalize w4.setCells w3.heap.size 0 dv = w6 at *
    have HRD : Hid (Row w6 w6.heap.size (some ⟨w3.heap.size, 0, none⟩) dg) := hD6.row (m := 32) (by rw [hdv.out, List.take_of_length_le (by rw [HDS.out]; omega)])
    generalize w3.heap.size = gd at *
    clear hB4 hR4 hO4 hB5 hR5 hO5 hD5 hT5 hD6
    refine wp_region_tail 2 (by kernel_rfl) (by kernel_rfl) ?_
    intro w7 hw7
    have hB7 : Below w.heap.size w w7 := by rw [hw7]; exact hB6.drew
    have hR7 : Cells w7 w.heap.size z64 54 := by rw [hw7]; exact hR6
    have hO7 : Cells w7 (w.heap.size + 1) z64 54 := by rw [hw7]; exact hO6
    have HR7 : Hid (Row w7 w7.heap.size (some ⟨gd, 0, none⟩) dg) := by show Row _ _ _ _; rw [hw7]; exact HRD.out
    clear hw7 hB6 hR6 hO6 HRD
    simp only [List.take_succ_cons, List.take_zero, List.drop_succ_cons, List.drop_zero]
    repeat still_step
    refine wpStill_nil ?_
    have hT7 := hO7.there 0 32 (by rw [z64_length]; omega)
    go_wp2_with (first
      | (refine copy_row rfl (.tmp 11) (.tmp 12) rfl (w.heap.size + 1) 0 64 64 32 32 w7.heap.size 32 _ dg rfl rfl HDL.out rfl HR7.out hT7 ?_
         intro w8 hw8
         rw [HT.out] at hw8
         have hB8 : Below w.heap.size w w8 := by rw [hw8]; exact below_setCells hB7 (Nat.le_succ _) _ _
         have hR8 : Cells w8 w.heap.size z64 54 := by rw [hw8]; exact hR7.otherCells (by omega) _ _
         have hO8 : Cells w8 (w.heap.size + 1) vs 54 := by
           rw [hw8, ← HF.out, ← hdv.out]
           exact hO7.setCells (by rw [hdv.out, HDS.out, z64_length]; omega)
         clear hw8
         have hT8 : w8.there w.heap.size 0 vs.toArray.size := by rw [HS.out]; exact hR8.there 0 64 (by rw [z64_length]; omega))
      | (refine wpList_load_row rfl 54 _ rfl (w.heap.size + 1) rfl 54 _ (0, 0) _ hO8 Tryd.underlying54 rfl hi ?_)
      | (refine wpList_store_mid rfl 54 _ _ rfl w.heap.size 0 vs.toArray rfl rfl hT8 hi (all_oneCell_toArray HP.out) ?_))
    have hD := hR8.setCells (cs := vs) (o := 0) (by simp [HW.out, z64_length])
    rw [splice_all _ _ (by simp [HW.out, z64_length])] at hD
    refine ret_block Tryd.results27 w.heap.size vs 54 rfl hD Tryd.underlying54 rfl (by simpa using hi) rfl ⟨by rw [HV.out], below_setCells hB8 (Nat.le_refl _) _ _⟩
  · have HF : Hid (splice z64 0 (key.map cellOf) = (macKey key).map cellOf) := by
      show _ = _
      rw [fill_cells _ (by rw [HL.out]; omega), macKey_short key (by rw [HL.out]; omega)]
    generalize (macKey key).map cellOf = vs at *
    have HS : Hid (vs.toArray.size = 64) := by show _ = _; rw [List.size_toArray, HW.out]
    have hi : (Tryd.prog.info? 54).map (·.size) = some vs.toArray.size := by rw [HS.out]; exact size_blk
    have h1 : ¬ (64 : Int) < (n : Int) := by omega
    have HT : Hid (key.take 64 = key) := by show _ = _; rw [List.take_of_length_le (by rw [HL.out]; omega)]
    have HM : Hid (min n 64 = n) := by show _ = _; omega
    go_enter Tryd.func27, Tryd.ntmps27
    go_wp2_with (first
      | (refine alloc_step rfl 54 rfl _ zero_blk ?_
         intro w0 hw0
         have hB0 : Below w.heap.size w w0 := by rw [hw0]; exact (Below.refl _ _).alloc (Nat.le_refl _) _
         have hR0 : Cells w0 w.heap.size z64 54 := by rw [hw0]; exact Cells.new w _ _
         have hz0 : w0.heap.size = w.heap.size + 1 := by rw [hw0]; simp
         clear hw0)
      | (refine alloc_step rfl 54 rfl _ zero_blk ?_
         intro w7 hw1
         have hB7 : Below w.heap.size w w7 := by rw [hw1]; exact hB0.alloc hB0.size _
         have hR7 : Cells w7 w.heap.size z64 54 := by rw [hw1]; exact hR0.alloc _
         have hO7 : Cells w7 (w.heap.size + 1) z64 54 := by rw [hw1, ← hz0]; exact Cells.new w0 _ _
         clear hw1
         rw [hz0]
         have hT7 := hO7.there 0 n (by rw [z64_length]; omega)
         have HR7 : Hid (Row w7 w7.heap.size A key) := hr.on hB7)
      | (refine copy_row rfl (.tmp 15) (.tmp 16) rfl (w.heap.size + 1) 0 64 64 n c w7.heap.size n _ key rfl rfl HL.out HM.out HR7.out hT7 ?_
         intro w8 hw8
         rw [HT.out] at hw8
         have hB8 : Below w.heap.size w w8 := by rw [hw8]; exact below_setCells hB7 (Nat.le_succ _) _ _
         have hR8 : Cells w8 w.heap.size z64 54 := by rw [hw8]; exact hR7.otherCells (by omega) _ _
         have hO8 : Cells w8 (w.heap.size + 1) vs 54 := by
           rw [hw8, ← HF.out]
           exact hO7.setCells (by rw [List.length_map, HL.out, z64_length]; omega)
         clear hw8
         have hT8 : w8.there w.heap.size 0 vs.toArray.size := by rw [HS.out]; exact hR8.there 0 64 (by rw [z64_length]; omega))
      | (refine wpList_load_row rfl 54 _ rfl (w.heap.size + 1) rfl 54 _ (0, 0) _ hO8 Tryd.underlying54 rfl hi ?_)
      | (refine wpList_store_mid rfl 54 _ _ rfl w.heap.size 0 vs.toArray rfl rfl hT8 hi (all_oneCell_toArray HP.out) ?_))
    have hD := hR8.setCells (cs := vs) (o := 0) (by simp [HW.out, z64_length])
    rw [splice_all _ _ (by simp [HW.out, z64_length])] at hD
    refine ret_block Tryd.results27 w.heap.size vs 54 rfl hD Tryd.underlying54 rfl (by simpa using hi) rfl ⟨by rw [HV.out], below_setCells hB8 (Nat.le_refl _) _ _⟩
end Go.Proofs.YtmhelmmonkgmmaaDoor
