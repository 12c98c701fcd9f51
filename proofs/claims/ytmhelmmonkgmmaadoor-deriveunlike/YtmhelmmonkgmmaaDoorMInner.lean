/- Package mac: the inner digest. -/
import Derived.Test.YtmhelmmonkgmmaaDoorMFill
namespace Go.Proofs.YtmhelmmonkgmmaaDoor
open Go.RowKit
set_option maxRecDepth 100000 in
set_option maxHeartbeats 800000 in
theorem inner_any (blk : List UInt8) (D : Option Addr) (d n : Nat) (ps : List (List UInt8)) (w : World) (hK : Tabs w) (hg : 21 ≤ w.heap.size) (hbl : blk.length = 64) (hl : ps.length = n) (hP : Parts w w.heap.size D ps) (hn1 : n ≤ 1000000) (hn : ps.flatten.length ≤ 800000) :
    Calls Tryd.prog 28 #[hashVal blk, .slice D n d] w fun e w' => e = .returned (hashVal (shaSum (macPad blk 54 ++ ps.flatten))) ∧ Below w.heap.size w w' := by
  have HL := Lib.hid hl
  have HBL := Lib.hid hbl
  clear hl hbl
  have HV : Hid (hashVal blk = .agg (blk.map cellOf).toArray) := rfl
  have HBS : Hid ((blk.map cellOf).toArray.size = 64) := by show _ = _; rw [List.size_toArray, List.length_map, HBL.out]
  have hib : (Tryd.prog.info? 54).map (·.size) = some (blk.map cellOf).toArray.size := by rw [HBS.out]; exact size_blk
  rw [HV.out]
  generalize hbv : blk.map cellOf = bv at *
  replace hbv := Lib.hid hbv
  go_enter Tryd.func28, Tryd.ntmps28
  go_wp2_with (first
    | (refine box_step rfl 54 _ rfl bv.toArray rfl ?_
       intro w0 hw0
       have hB0 : Below w.heap.size w w0 := by rw [hw0]; exact (Below.refl _ _).alloc (Nat.le_refl _) _
       have hC0 : Cells w0 w.heap.size bv 54 := by rw [hw0]; exact Cells.new w _ _
       have hz0 : w0.heap.size = w.heap.size + 1 := by rw [hw0]; simp
       clear hw0)
    | (refine alloc_step rfl 30 rfl _ zero_h32 ?_
       intro w1 hw1
       have hB1 : Below w.heap.size w w1 := by rw [hw1]; exact hB0.alloc hB0.size _
       have hC1 : Cells w1 w.heap.size bv 54 := by rw [hw1]; exact hC0.alloc _
       have hR1 : Cells w1 (w.heap.size + 1) (List.replicate 32 (cellOf 0)) 30 := by rw [hw1, ← hz0]; exact Cells.new w0 _ _
       clear hw1
       rw [hz0])
    | (refine wpList_load_row rfl 54 _ rfl w.heap.size rfl 54 _ (0, 0) _ hC1 Tryd.underlying54 rfl hib ?_))
  rw [← HV.out]
  refine (blockPad_any blk 54 54 w1 HBL.out rfl).mono ?_
  rintro e w2 ⟨rfl, hB2⟩
  have hB3 := below_then hB1 hB2
  have hR3 := hR1.below hB2 hR1.lt
  have hz3 := hR3.lt
  clear hB0 hC0 hz0 hB1 hC1 hR1 hB2
  have HO : Hid (hashVal (macPad blk 54) = .agg ((macPad blk 54).map cellOf).toArray) := rfl
  have HOL : Hid ((macPad blk 54).length = 64) := by show _ = _; rw [macPad_length, HBL.out]
  have HOP : Hid (∀ v ∈ (macPad blk 54).map cellOf, v.oneCell' = true) := cells8_one _
  rw [HO.out]
  generalize hop : macPad blk 54 = op at *
  replace hop := Lib.hid hop
  have HOZ : Hid ((op.map cellOf).length = 64) := by show _ = _; rw [List.length_map, HOL.out]
  have HOS : Hid ((op.map cellOf).toArray.size = 64) := by show _ = _; rw [List.size_toArray, HOZ.out]
  have hio : (Tryd.prog.info? 54).map (·.size) = some (op.map cellOf).toArray.size := by rw [HOS.out]; exact size_blk
  generalize hov : op.map cellOf = ov at *
  replace hov := Lib.hid hov
  go_wp2_with (first
    | (refine alloc_step rfl 54 rfl _ zero_blk ?_
       intro w4 hw4
       have hB4 : Below w.heap.size w w4 := by rw [hw4]; exact hB3.alloc hB3.size _
       have hR4 : Cells w4 (w.heap.size + 1) (List.replicate 32 (cellOf 0)) 30 := by rw [hw4]; exact hR3.alloc _
       have hO4 : Cells w4 w2.heap.size z64 54 := by rw [hw4]; exact Cells.new w2 _ _
       clear hw4
       have hT4 : w4.there w2.heap.size 0 ov.toArray.size := by rw [HOS.out]; exact hO4.there 0 64 (by rw [z64_length]; omega))
    | (refine wpList_store_mid rfl 54 _ _ rfl w2.heap.size 0 ov.toArray rfl rfl hT4 hio (all_oneCell_toArray HOP.out) ?_
       have hO5 := hO4.setCells (cs := ov) (o := 0) (by simp [HOZ.out, z64_length])
       rw [splice_all _ _ (by simp [HOZ.out, z64_length])] at hO5
       have hR5 := hR4.otherCells (b := w2.heap.size) (by omega) 0 ov
       have hB5 := below_setCells hB4 hB3.size 0 ov
       generalize w4.setCells w2.heap.size 0 ov = w5 at *))
  have HS2 : Hid (w.heap.size ≤ w2.heap.size) := hB3.size
  clear hB3 hR3 hB4 hR4 hO4 hT4
  refine (new_any w5 (hK.below hB5)).mono ?_
  rintro e w6 ⟨rfl, hB6, hH6⟩
  have hB7 := below_then hB5 hB6
  have hR7 := hR5.below hB6 hR5.lt
  have hO7 := hO5.below hB6 hO5.lt
  have hz5 := hO5.lt
  have hz6 := hH6.lt
  generalize w5.heap.size = gh at *
  generalize w2.heap.size = go at *
  clear hB5 hR5 hO5 hB6
  have HRO : Hid (Row w6 w6.heap.size (some ⟨go, 0, none⟩) op) := hO7.row (m := 64) (by rw [hov.out, List.take_of_length_le (by rw [HOZ.out]; omega)])
  have hgo := HS2.out
  go_wp2_with fail
  refine (write_any gh [] op (some ⟨go, 0, none⟩) 64 64 w6 (hK.below hB7) (by omega) hH6 HOL.out HRO.out (by intro _ p hp; cases hp; show go ≠ gh; omega) (by omega) (by unfold maxLen; omega) (by simp)).mono ?_
  rintro e w7 ⟨rfl, hB8, hH8⟩
  rw [List.nil_append] at hH8
  have hB9 := hB7.trans (hB8.below (by omega) hB7.size)
  have hR9 := hR7.but hB8 (by omega)
  clear hB7 hR7 hO7 hH6 hB8 HRO
  go_wp2_with fail
  go_loopw [17] (fun i wr => ∃ k : Nat, k ≤ n ∧ i = .int .i64 k ∧ Below w.heap.size w wr ∧ Cells wr (w.heap.size + 1) (List.replicate 32 (cellOf 0)) 30 ∧ HashOf wr gh (op ++ (ps.take k).flatten)) (fun i _ => n - (intOf i).toNat)
  case atStart => exact ⟨0, Nat.zero_le _, rfl, hB9, hR9, by simpa using hH8⟩
  case round =>
    clear hB9 hR9 hH8
    obtain ⟨k, hk, rfl, hB, hR, hO⟩ := hrel
    by_cases hlt : k < n
    · have hlt2 : k < ps.length := by rw [HL.out]; exact hlt
      obtain ⟨b, off, A, c, rfl, hc1, hr1, h1, h2, _⟩ := (hP.below hB).at k hlt2
      have HS := Lib.hid (show (ps.take (k + 1)).flatten = (ps.take k).flatten ++ ps[k] by rw [take_snoc ps k hlt2, List.flatten_append]; simp)
      have hle := flatten_take_le ps (k + 1)
      rw [HS.out, List.length_append] at hle
      generalize ps[k] = us at *
      generalize hul : us.length = m at *
      replace hul := Lib.hid hul
      have HLE : Hid ((op ++ (ps.take k).flatten).length + m ≤ 900000) := by show _ ≤ _; rw [List.length_append, HOL.out]; omega
      go_wp2_with fail
      refine (write_any gh _ us A m c wr (hK.below hB) (by omega) hO hul.out (hr1.more hB.size) (hr1.apart (by omega)) h1 h2 (by have := HLE.out; omega)).mono ?_
      rintro e w3 ⟨rfl, hB3, hO3⟩
      go_wp2_with fail
      go_roundw
      case rel => exact ⟨k + 1, by omega, by go_num, hB.trans (hB3.below (by omega) hB.size), hR.but hB3 (by omega), by rw [HS.out, ← List.append_assoc]; exact hO3⟩
      case measure => simp [intOf]; omega
    · have e : ps.take k = ps := List.take_of_length_le (by rw [HL.out]; omega)
      rw [e] at hO
      clear e
      have HLE : Hid ((op ++ ps.flatten).length ≤ 900000) := by show _ ≤ _; rw [List.length_append, HOL.out]; omega
      generalize hmsg : op ++ ps.flatten = msg at *
      replace hmsg := Lib.hid hmsg
      go_wp2_with fail
      refine (hashSum_any gh msg wr (hK.below hB) (by have := hB.size; omega) hO HLE.out).mono ?_
      rintro e w4 ⟨rfl, hB5⟩
      have hB6 := hB.trans (hB5.mono hB.size)
      have hR6 := hR.below hB5 hR.lt
      clear hB hR hB5
      have HW : Hid (((shaSum msg).map cellOf).length = 32) := by show _ = _; rw [List.length_map, shaSum_length]
      have HP : Hid (∀ v ∈ (shaSum msg).map cellOf, v.oneCell' = true) := cells8_one _
      have HV : Hid (hashVal (shaSum msg) = .agg ((shaSum msg).map cellOf).toArray) := rfl
      rw [HV.out]
      generalize (shaSum msg).map cellOf = vs at *
      have HS : Hid (vs.toArray.size = 32) := by show _ = _; rw [List.size_toArray, HW.out]
      have hi : (Tryd.prog.info? 30).map (·.size) = some vs.toArray.size := by rw [HS.out]; exact size_h32
      have hT : w4.there (w.heap.size + 1) 0 vs.toArray.size := by rw [HS.out]; exact hR6.there 0 32 (by simp)
      go_wp2_with (refine wpList_store_mid rfl 30 _ _ rfl (w.heap.size + 1) 0 vs.toArray rfl rfl hT hi (all_oneCell_toArray HP.out) ?_)
      have hC := hR6.setCells (cs := vs) (o := 0) (by simp [HW.out])
      rw [splice_all _ _ (by simp [HW.out])] at hC
      refine ret_block Tryd.results28 (w.heap.size + 1) vs 30 rfl hC Tryd.underlying30 rfl (by simpa using hi) rfl ⟨by rw [hop.out, hmsg.out, HV.out], below_setCells hB6 (Nat.le_succ _) _ _⟩
end Go.Proofs.YtmhelmmonkgmmaaDoor
