/- Package mac: Sum and Right. -/
import Derived.Test.YtmhelmmonkgmmaaDoorMInner
import Derived.Test.YtmhelmmonkgmmaaDoorWKeep
namespace Go.Proofs.YtmhelmmonkgmmaaDoor
open Go.RowKit
theorem zero_blk2 : ∀ w, (zeroValue 54).run Tryd.prog w = .ok (.agg (List.replicate 64 (cellOf 0)).toArray) w := zero_blk
set_option maxRecDepth 100000 in
set_option maxHeartbeats 800000 in
theorem macSum_any (A D : Option Addr) (c n d m : Nat) (key : List UInt8) (ps : List (List UInt8)) (w : World) (hK : Tabs w) (hg : 21 ≤ w.heap.size) (hl : key.length = n) (hr : Row w w.heap.size A key) (hA : A = none → c = 0) (hc : n ≤ c) (hc2 : c ≤ maxLen) (hn : n ≤ 900000)
    (hpl : ps.length = m) (hP : Parts w w.heap.size D ps) (hn1 : m ≤ 1000000) (hn2 : ps.flatten.length ≤ 800000) :
    Calls Tryd.prog 21 #[.slice A n c, .slice D m d] w fun e w' => e = .returned (hashVal (macSum key ps.flatten)) ∧ Below w.heap.size w w' := by
  have HL := Lib.hid hl
  have HPL := Lib.hid hpl
  clear hl hpl
  have HBL := Lib.hid (macKey_length key)
  have HIL := Lib.hid (macIn_length key ps.flatten)
  have HIE : Hid (shaSum (macPad (macKey key) 54 ++ ps.flatten) = macIn key ps.flatten) := rfl
  have HOL : Hid ((macPad (macKey key) 92).length = 64) := by show _ = _; rw [macPad_length, HBL.out]
  have HSE : Hid (shaSum [macPad (macKey key) 92, macIn key ps.flatten].flatten = macSum key ps.flatten) := by show _ = _; simp [macSum]
  have HSL := Lib.hid (macSum_length key ps.flatten)
  go_enter Tryd.func21, Tryd.ntmps21
  go_wp2_with (first
    | (refine zero_step rfl 30 rfl 32 zero_h32 ?_
       intro w0 hB0 hR0 hz0))
  refine (filled_any A c n key w0 (hK.below hB0) (by omega) HL.out (hr.on hB0) hA hc hc2 hn).mono ?_
  rintro e w1 ⟨rfl, hb1⟩
  have hB1 := below_then hB0 hb1
  have hR1 := hR0.on hb1
  clear hB0 hR0 hb1 hz0
  generalize macKey key = blk at *
  go_wp2_with (first
    | (refine put_step rfl rfl 54 (.tmp 5) (.tmp 9) rfl rfl 64 blk rfl rfl zero_blk2 size_blk HBL.out ?_
       intro w2 hb2 hC2 hz2
       have hB2 := below_then hB1 hb2
       have hR2 := hR1.on hb2
       have hgw := hR1.lt
       generalize w1.heap.size = gw at *
       clear hb2 hB1 hR1)
    | (refine get_step rfl 54 _ rfl gw 64 blk _ rfl hC2 Tryd.underlying54 size_blk HBL.out ?_))
  refine (inner_any blk D d m ps w2 (hK.below hB2) (by have := hB2.size; omega) HBL.out HPL.out ((hP.below hB2).more hB2.size) hn1 hn2).mono ?_
  rintro e w3 ⟨rfl, hb3⟩
  rw [HIE.out]
  have hB3 := below_then hB2 hb3
  have hR3 := hR2.on hb3
  have hC3 := hC2.on hb3
  clear hB2 hR2 hC2 hb3 hz2
  generalize macIn key ps.flatten = inn at *
  go_wp2_with (first
    | (refine put_step rfl rfl 30 (.tmp 6) (.tmp 12) rfl rfl 32 inn rfl rfl zero_h32 size_h32 HIL.out ?_
       intro w4 hb4 hI4 hz4
       have hB4 := below_then hB3 hb4
       have hR4 := hR3.on hb4
       have hC4 := hC3.on hb4
       have hgi := hC3.lt
       generalize w3.heap.size = gi at *
       clear hb4 hB3 hR3 hC3)
    | (refine get_step rfl 54 _ rfl gw 64 blk _ rfl hC4 Tryd.underlying54 size_blk HBL.out ?_))
  refine (blockPad_any blk 92 92 w4 HBL.out rfl).mono ?_
  rintro e w5 ⟨rfl, hb5⟩
  have hB5 := below_then hB4 hb5
  have hR5 := hR4.on hb5
  have hI5 := hI4.on hb5
  clear hB4 hR4 hC4 hI4 hb5 hz4
  generalize macPad blk 92 = op at *
  go_wp2_with (first
    | (refine put_step rfl rfl 54 (.tmp 7) (.tmp 14) rfl rfl 64 op rfl rfl zero_blk2 size_blk HOL.out ?_
       intro w6 hb6 hO6 hz6
       have hB6 := below_then hB5 hb6
       have hR6 := hR5.on hb6
       have hI6 := hI5.on hb6
       have hgo := hI5.lt
       generalize w5.heap.size = go at *
       clear hb6 hB5 hR5 hI5))
  refine wp_region_tail 2 (by kernel_rfl) (by kernel_rfl) ?_
  intro w7 hw7
  have hB7 : Below w.heap.size w w7 := by rw [hw7]; exact hB6.drew
  have hR7 : Cells w7 w.heap.size (List.replicate 32 (cellOf 0)) 30 := by rw [hw7]; exact hR6
  have HI7 : Hid (Row w7 w7.heap.size (some ⟨gi, 0, none⟩) inn) := by show Row _ _ _ _; rw [hw7]; exact hI6.all
  have HO7 : Hid (Row w7 w7.heap.size (some ⟨go, 0, none⟩) op) := by show Row _ _ _ _; rw [hw7]; exact hO6.all
  clear hw7 hB6 hR6 hI6 hO6 hz6
  have HP8 := Lib.hid (parts_two w7 (some ⟨go, 0, none⟩) (some ⟨gi, 0, none⟩) 64 64 32 32 op inn HOL.out HO7.out (fun h => by cases h) (Nat.le_refl _) (by unfold maxLen; omega) HIL.out HI7.out (fun h => by cases h) (Nat.le_refl _) (by unfold maxLen; omega))
  have HB8 : Hid (Below w7.heap.size w7 (w7.alloc (.cells #[.slice (some ⟨go, 0, none⟩) 64 64, .slice (some ⟨gi, 0, none⟩) 32 32] 22))) := (Below.refl _ _).alloc (Nat.le_refl _) _
  simp only [List.take_succ_cons, List.take_zero, List.drop_succ_cons, List.drop_zero]
  repeat still_step
  refine wpStill_nil ?_
  go_wp2_with fail
  generalize w7.alloc (.cells #[.slice (some ⟨go, 0, none⟩) 64 64, .slice (some ⟨gi, 0, none⟩) 32 32] 22) = w8 at *
  have hB8 := below_then hB7 HB8.out
  have hR8 := hR7.on HB8.out
  clear hB7 hR7 HB8
  refine (sum_any _ _ 2 [op, inn] w8 (hK.below hB8) (by have := hB8.size; omega) rfl HP8.out (by omega) (by simp [HOL.out, HIL.out])).mono ?_
  rintro e w9 ⟨rfl, hb9⟩
  rw [HSE.out]
  have hB9 := below_then hB8 hb9
  have hR9 := hR8.on hb9
  go_wp2_with (first
    | (refine set_step rfl 30 _ _ rfl w.heap.size 32 _ (macSum key ps.flatten) rfl rfl hR9 (by simp) size_h32 HSL.out ?_
       intro w10 hb10 hR10 _))
  exact ret_hash Tryd.results21 w.heap.size _ rfl hR10 Tryd.underlying30 size_h32 HSL.out rfl ⟨rfl, hB9.trans (hb10.below (Nat.le_refl _) hB9.size)⟩
end Go.Proofs.YtmhelmmonkgmmaaDoor
