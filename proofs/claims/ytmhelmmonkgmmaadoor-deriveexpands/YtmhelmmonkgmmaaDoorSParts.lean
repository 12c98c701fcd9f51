/- The digest of parts that come one behind the other. -/
import Derived.Test.YtmhelmmonkgmmaaDoorSEnd
namespace Go.Proofs.YtmhelmmonkgmmaaDoor
open Go.RowKit
set_option maxRecDepth 100000 in
theorem sum_any (D : Option Addr) (d n : Nat) (ps : List (List UInt8)) (w : World) (hK : Tabs w) (hg : 21 ≤ w.heap.size) (hl : ps.length = n) (hP : Parts w w.heap.size D ps) (hn1 : n ≤ 1000000) (hn : ps.flatten.length ≤ 900000) :
    Calls Tryd.prog 30 #[.slice D n d] w fun e w' => e = .returned (hashVal (shaSum ps.flatten)) ∧ Below w.heap.size w w' := by
  have HL := Lib.hid hl
  clear hl
  go_enter Tryd.func30, Tryd.ntmps30
  go_wp2_with (refine alloc_step rfl 30 rfl _ zero_h32 ?_
               intro w0 hw0
               have hB0 : Below w.heap.size w w0 := by rw [hw0]; exact (Below.refl _ _).alloc (Nat.le_refl _) _
               have hR0 : Cells w0 w.heap.size (List.replicate 32 (cellOf 0)) 30 := by rw [hw0]; exact Cells.new w _ _
               clear hw0
               have hz := hR0.lt)
  refine (new_any w0 (hK.below hB0)).mono ?_
  rintro e w1 ⟨rfl, hB1, hO1⟩
  have hB2 := hB0.trans (hB1.mono hB0.size)
  have hR2 := hR0.below hB1 hR0.lt
  have hz2 := hO1.lt
  generalize w0.heap.size = g at *
  clear hB0 hR0 hB1
  go_wp2_with fail
  go_loopw [9] (fun i wr => ∃ k : Nat, k ≤ n ∧ i = .int .i64 k ∧ Below w.heap.size w wr ∧ Cells wr w.heap.size (List.replicate 32 (cellOf 0)) 30 ∧ HashOf wr g (ps.take k).flatten) (fun i _ => n - (intOf i).toNat)
  case atStart => exact ⟨0, Nat.zero_le _, rfl, hB2, hR2, hO1⟩
  case round =>
    clear hB2 hR2 hO1
    obtain ⟨k, hk, rfl, hB, hR, hO⟩ := hrel
    by_cases hlt : k < n
    · have hlt2 : k < ps.length := by rw [HL.out]; exact hlt
      obtain ⟨b, off, A, c, rfl, hc1, hr1, h1, h2, _⟩ := (hP.below hB).at k hlt2
      have HS := Lib.hid (show (ps.take (k + 1)).flatten = (ps.take k).flatten ++ ps[k] by rw [take_snoc ps k hlt2, List.flatten_append]; simp)
      have hle := flatten_take_le ps (k + 1)
      rw [HS.out, List.length_append] at hle
      have HE := Lib.hid (rfl : ps[k].length = ps[k].length)
      generalize ps[k] = us at *
      generalize hul : us.length = m at *
      replace hul := Lib.hid hul
      go_wp2_with fail
      refine (write_any g _ us A m c wr (hK.below hB) (by omega) hO hul.out (hr1.more hB.size) (hr1.apart (by omega)) h1 h2 (by omega)).mono ?_
      rintro e w3 ⟨rfl, hB3, hO3⟩
      go_wp2_with fail
      go_roundw
      case rel => exact ⟨k + 1, by omega, by go_num, hB.trans (hB3.below (by omega) hB.size), hR.but hB3 (by omega), by rw [HS.out]; exact hO3⟩
      case measure => simp [intOf]; omega
    · have e : ps.take k = ps := List.take_of_length_le (by rw [HL.out]; omega)
      rw [e] at hO
      clear e
      go_wp2_with fail
      refine (hashSum_any g _ wr (hK.below hB) (by have := hB.size; omega) hO hn).mono ?_
      rintro e w4 ⟨rfl, hB5⟩
      have hB6 := hB.trans (hB5.mono hB.size)
      have hR6 := hR.below hB5 hR.lt
      clear hB hR hB5
      have HW : Hid (((shaSum ps.flatten).map cellOf).length = 32) := by show _ = _; rw [List.length_map, shaSum_length]
      have HP : Hid (∀ v ∈ (shaSum ps.flatten).map cellOf, v.oneCell' = true) := cells8_one _
      have HV : Hid (hashVal (shaSum ps.flatten) = .agg ((shaSum ps.flatten).map cellOf).toArray) := rfl
      rw [HV.out]
      generalize (shaSum ps.flatten).map cellOf = vs at *
      have HS : Hid (vs.toArray.size = 32) := by show _ = _; rw [List.size_toArray, HW.out]
      have hi : (Tryd.prog.info? 30).map (·.size) = some vs.toArray.size := by rw [HS.out]; exact size_h32
      have hT : w4.there w.heap.size 0 vs.toArray.size := by rw [HS.out]; exact hR6.there 0 32 (by simp)
      go_wp2_with (refine wpList_store_mid rfl 30 _ _ rfl w.heap.size 0 vs.toArray rfl rfl hT hi (all_oneCell_toArray HP.out) ?_)
      have hC := hR6.setCells (cs := vs) (o := 0) (by simp [HW.out])
      rw [splice_all _ _ (by simp [HW.out])] at hC
      refine ret_block Tryd.results30 w.heap.size vs 30 rfl hC Tryd.underlying30 rfl (by simpa using hi) rfl ⟨by rw [HV.out], below_setCells hB6 (Nat.le_refl _) _ _⟩
end Go.Proofs.YtmhelmmonkgmmaaDoor
