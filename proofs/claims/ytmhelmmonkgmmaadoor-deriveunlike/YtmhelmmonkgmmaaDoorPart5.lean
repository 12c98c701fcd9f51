/- Part 5 of what the laws of this seat share: MInner, MSum, RShaPad, WLoops, RShaW, RSha2, RSha3, RSha4. -/
import Derived.Test.YtmhelmmonkgmmaaDoorPart4
namespace Go.Proofs.YtmhelmmonkgmmaaDoor
open Go.RowKit
set_option maxRecDepth 100000 in
set_option maxHeartbeats 800000 in
theorem inner_any (blk : List UInt8) (D : Option Addr) (d n : Nat) (ps : List (List UInt8)) (w : World) (hK : Tabs w) (hg : 21 ≤ w.heap.size) (hbl : blk.length = 64) (hl : ps.length = n) (hP : Parts w w.heap.size D ps) (hn1 : n ≤ 1000000) (hn : ps.flatten.length ≤ 800000) :
    Calls Tryd.prog 28 #[hashVal blk, .slice D n d] w fun e w' => e = .returned (hashVal (shaSum (macPad blk 54 ++ ps.flatten))) ∧ Below w.heap.size w w' := by
  have HL := Lib.hid hl
  have HBL := Lib.hid hbl
  clear hl hbl
  have HV : Hid (hashVal blk = .agg (blk.map cellOf).toArray) := rfl
  have HBS : Hid ((blk.map cellOf).toArray.size = 64) := by show _ = _; rw [List.size_toArray, List.length_map, HBL.out]
  have hib : (Tryd.prog.info? 54).map (·.size) = some (blk.map cellOf).toArray.size := by rw [HBS.out]; exact size_blk
  rw [HV.out]
  generalize hbv : blk.map cellOf = bv at *
  replace hbv := Lib.hid hbv
  go_enter Tryd.func28, Tryd.ntmps28
  go_wp2_with (first
    | (refine box_step rfl 54 _ rfl bv.toArray rfl ?_
       intro w0 hw0
       have hB0 : Below w.heap.size w w0 := by rw [hw0]; exact (Below.refl _ _).alloc (Nat.le_refl _) _
       have hC0 : Cells w0 w.heap.size bv 54 := by rw [hw0]; exact Cells.new w _ _
       have hz0 : w0.heap.size = w.heap.size + 1 := by rw [hw0]; simp
       clear hw0)
    | (refine alloc_step rfl 30 rfl _ zero_h32 ?_
       intro w1 hw1
       have hB1 : Below w.heap.size w w1 := by rw [hw1]; exact hB0.alloc hB0.size _
       have hC1 : Cells w1 w.heap.size bv 54 := by rw [hw1]; exact hC0.alloc _
       have hR1 : Cells w1 (w.heap.size + 1) (List.replicate 32 (cellOf 0)) 30 := by rw [hw1, ← hz0]; exact Cells.new w0 _ _
       clear hw1
       rw [hz0])
    | (refine wpList_load_row rfl 54 _ rfl w.heap.size rfl 54 _ (0, 0) _ hC1 Tryd.underlying54 rfl hib ?_))
  rw [← HV.out]
  refine (blockPad_any blk 54 54 w1 HBL.out rfl).mono ?_
  rintro e w2 ⟨rfl, hB2⟩
  have hB3 := below_then hB1 hB2
  have hR3 := hR1.below hB2 hR1.lt
  have hz3 := hR3.lt
  clear hB0 hC0 hz0 hB1 hC1 hR1 hB2
  have HO : Hid (hashVal (macPad blk 54) = .agg ((macPad blk 54).map cellOf).toArray) := rfl
  have HOL : Hid ((macPad blk 54).length = 64) := by show _ = _; rw [macPad_length, HBL.out]
  have HOP : Hid (∀ v ∈ (macPad blk 54).map cellOf, v.oneCell' = true) := cells8_one _
  rw [HO.out]
  generalize hop : macPad blk 54 = op at *
  replace hop := Lib.hid hop
  have HOZ : Hid ((op.map cellOf).length = 64) := by show _ = _; rw [List.length_map, HOL.out]
  have HOS : Hid ((op.map cellOf).toArray.size = 64) := by show _ = _; rw [List.size_toArray, HOZ.out]
  have hio : (Tryd.prog.info? 54).map (·.size) = some (op.map cellOf).toArray.size := by rw [HOS.out]; exact size_blk
  generalize hov : op.map cellOf = ov at *
  replace hov := Lib.hid hov
  go_wp2_with (first
    | (refine alloc_step rfl 54 rfl _ zero_blk ?_
       intro w4 hw4
       have hB4 : Below w.heap.size w w4 := by rw [hw4]; exact hB3.alloc hB3.size _
       have hR4 : Cells w4 (w.heap.size + 1) (List.replicate 32 (cellOf 0)) 30 := by rw [hw4]; exact hR3.alloc _
       have hO4 : Cells w4 w2.heap.size z64 54 := by rw [hw4]; exact Cells.new w2 _ _
       clear hw4
       have hT4 : w4.there w2.heap.size 0 ov.toArray.size := by rw [HOS.out]; exact hO4.there 0 64 (by rw [z64_length]; omega))
    | (refine wpList_store_mid rfl 54 _ _ rfl w2.heap.size 0 ov.toArray rfl rfl hT4 hio (all_oneCell_toArray HOP.out) ?_
       have hO5 := hO4.setCells (cs := ov) (o := 0) (by simp [HOZ.out, z64_length])
       rw [splice_all _ _ (by simp [HOZ.out, z64_length])] at hO5
       have hR5 := hR4.otherCells (b := w2.heap.size) (by omega) 0 ov
       have hB5 := below_setCells hB4 hB3.size 0 ov
       generalize w4.setCells w2.heap.size 0 ov = w5 at *))
  have HS2 : Hid (w.heap.size ≤ w2.heap.size) := hB3.size
  clear hB3 hR3 hB4 hR4 hO4 hT4
  refine (new_any w5 (hK.below hB5)).mono ?_
  rintro e w6 ⟨rfl, hB6, hH6⟩
  have hB7 := below_then hB5 hB6
  have hR7 := hR5.below hB6 hR5.lt
  have hO7 := hO5.below hB6 hO5.lt
  have hz5 := hO5.lt
  have hz6 := hH6.lt
  generalize w5.heap.size = gh at *
  generalize w2.heap.size = go at *
  clear hB5 hR5 hO5 hB6
  have HRO : Hid (Row w6 w6.heap.size (some ⟨go, 0, none⟩) op) := hO7.row (m := 64) (by rw [hov.out, List.take_of_length_le (by rw [HOZ.out]; omega)])
  have hgo := HS2.out
  go_wp2_with fail
  refine (write_any gh [] op (some ⟨go, 0, none⟩) 64 64 w6 (hK.below hB7) (by omega) hH6 HOL.out HRO.out (by intro _ p hp; cases hp; show go ≠ gh; omega) (by omega) (by unfold maxLen; omega) (by simp)).mono ?_
  rintro e w7 ⟨rfl, hB8, hH8⟩
  rw [List.nil_append] at hH8
  have hB9 := hB7.trans (hB8.below (by omega) hB7.size)
  have hR9 := hR7.but hB8 (by omega)
  clear hB7 hR7 hO7 hH6 hB8 HRO
  go_wp2_with fail
  go_loopw [17] (fun i wr => ∃ k : Nat, k ≤ n ∧ i = .int .i64 k ∧ Below w.heap.size w wr ∧ Cells wr (w.heap.size + 1) (List.replicate 32 (cellOf 0)) 30 ∧ HashOf wr gh (op ++ (ps.take k).flatten)) (fun i _ => n - (intOf i).toNat)
  case atStart => exact ⟨0, Nat.zero_le _, rfl, hB9, hR9, by simpa using hH8⟩
  case round =>
    clear hB9 hR9 hH8
    obtain ⟨k, hk, rfl, hB, hR, hO⟩ := hrel
    by_cases hlt : k < n
    · have hlt2 : k < ps.length := by rw [HL.out]; exact hlt
      obtain ⟨b, off, A, c, rfl, hc1, hr1, h1, h2, _⟩ := (hP.below hB).at k hlt2
      have HS := Lib.hid (show (ps.take (k + 1)).flatten = (ps.take k).flatten ++ ps[k] by rw [take_snoc ps k hlt2, List.flatten_append]; simp)
      have hle := flatten_take_le ps (k + 1)
      rw [HS.out, List.length_append] at hle
      generalize ps[k] = us at *
      generalize hul : us.length = m at *
      replace hul := Lib.hid hul
      have HLE : Hid ((op ++ (ps.take k).flatten).length + m ≤ 900000) := by show _ ≤ _; rw [List.length_append, HOL.out]; omega
      go_wp2_with fail
      refine (write_any gh _ us A m c wr (hK.below hB) (by omega) hO hul.out (hr1.more hB.size) (hr1.apart (by omega)) h1 h2 (by have := HLE.out; omega)).mono ?_
      rintro e w3 ⟨rfl, hB3, hO3⟩
      go_wp2_with fail
      go_roundw
      case rel => exact ⟨k + 1, by omega, by go_num, hB.trans (hB3.below (by omega) hB.size), hR.but hB3 (by omega), by rw [HS.out, ← List.append_assoc]; exact hO3⟩
      case measure => simp [intOf]; omega
    · have e : ps.take k = ps := List.take_of_length_le (by rw [HL.out]; omega)
      rw [e] at hO
      clear e
      have HLE : Hid ((op ++ ps.flatten).length ≤ 900000) := by show _ ≤ _; rw [List.length_append, HOL.out]; omega
      generalize hmsg : op ++ ps.flatten = msg at *
      replace hmsg := Lib.hid hmsg
      go_wp2_with fail
      refine (hashSum_any gh msg wr (hK.below hB) (by have := hB.size; omega) hO HLE.out).mono ?_
      rintro e w4 ⟨rfl, hB5⟩
      have hB6 := hB.trans (hB5.mono hB.size)
      have hR6 := hR.below hB5 hR.lt
      clear hB hR hB5
      have HW : Hid (((shaSum msg).map cellOf).length = 32) := by show _ = _; rw [List.length_map, shaSum_length]
      have HP : Hid (∀ v ∈ (shaSum msg).map cellOf, v.oneCell' = true) := cells8_one _
      have HV : Hid (hashVal (shaSum msg) = .agg ((shaSum msg).map cellOf).toArray) := rfl
      rw [HV.out]
      generalize (shaSum msg).map cellOf = vs at *
      have HS : Hid (vs.toArray.size = 32) := by show _ = _; rw [List.size_toArray, HW.out]
      have hi : (Tryd.prog.info? 30).map (·.size) = some vs.toArray.size := by rw [HS.out]; exact size_h32
      have hT : w4.there (w.heap.size + 1) 0 vs.toArray.size := by rw [HS.out]; exact hR6.there 0 32 (by simp)
      go_wp2_with (refine wpList_store_mid rfl 30 _ _ rfl (w.heap.size + 1) 0 vs.toArray rfl rfl hT hi (all_oneCell_toArray HP.out) ?_)
      have hC := hR6.setCells (cs := vs) (o := 0) (by simp [HW.out])
      rw [splice_all _ _ (by simp [HW.out])] at hC
      refine ret_block Tryd.results28 (w.heap.size + 1) vs 30 rfl hC Tryd.underlying30 rfl (by simpa using hi) rfl ⟨by rw [hop.out, hmsg.out, HV.out], below_setCells hB6 (Nat.le_succ _) _ _⟩
end Go.Proofs.YtmhelmmonkgmmaaDoor
namespace Go.Proofs.YtmhelmmonkgmmaaDoor
open Go.RowKit
theorem zero_blk2 : ∀ w, (zeroValue 54).run Tryd.prog w = .ok (.agg (List.replicate 64 (cellOf 0)).toArray) w := zero_blk
set_option maxRecDepth 100000 in
set_option maxHeartbeats 800000 in
theorem macSum_any (A D : Option Addr) (c n d m : Nat) (key : List UInt8) (ps : List (List UInt8)) (w : World) (hK : Tabs w) (hg : 21 ≤ w.heap.size) (hl : key.length = n) (hr : Row w w.heap.size A key) (hA : A = none → c = 0) (hc : n ≤ c) (hc2 : c ≤ maxLen) (hn : n ≤ 900000)
    (hpl : ps.length = m) (hP : Parts w w.heap.size D ps) (hn1 : m ≤ 1000000) (hn2 : ps.flatten.length ≤ 800000) :
    Calls Tryd.prog 21 #[.slice A n c, .slice D m d] w fun e w' => e = .returned (hashVal (macSum key ps.flatten)) ∧ Below w.heap.size w w' := by
  have HL := Lib.hid hl
  have HPL := Lib.hid hpl
  clear hl hpl
  have HBL := Lib.hid (macKey_length key)
  have HIL := Lib.hid (macIn_length key ps.flatten)
  have HIE : Hid (shaSum (macPad (macKey key) 54 ++ ps.flatten) = macIn key ps.flatten) := rfl
  have HOL : Hid ((macPad (macKey key) 92).length = 64) := by show _ = _; rw [macPad_length, HBL.out]
  have HSE : Hid (shaSum [macPad (macKey key) 92, macIn key ps.flatten].flatten = macSum key ps.flatten) := by show _ = _; simp [macSum]
  have HSL := Lib.hid (macSum_length key ps.flatten)
  go_enter Tryd.func21, Tryd.ntmps21
  go_wp2_with (first
    | (refine zero_step rfl 30 rfl 32 zero_h32 ?_
       intro w0 hB0 hR0 hz0))
  refine (filled_any A c n key w0 (hK.below hB0) (by omega) HL.out (hr.on hB0) hA hc hc2 hn).mono ?_
  rintro e w1 ⟨rfl, hb1⟩
  have hB1 := below_then hB0 hb1
  have hR1 := hR0.on hb1
  clear hB0 hR0 hb1 hz0
  generalize macKey key = blk at *
  go_wp2_with (first
    | (refine put_step rfl rfl 54 (.tmp 5) (.tmp 9) rfl rfl 64 blk rfl rfl zero_blk2 size_blk HBL.out ?_
       intro w2 hb2 hC2 hz2
       have hB2 := below_then hB1 hb2
       have hR2 := hR1.on hb2
       have hgw := hR1.lt
       generalize w1.heap.size = gw at *
       clear hb2 hB1 hR1)
    | (refine get_step rfl 54 _ rfl gw 64 blk _ rfl hC2 Tryd.underlying54 size_blk HBL.out ?_))
  refine (inner_any blk D d m ps w2 (hK.below hB2) (by have := hB2.size; omega) HBL.out HPL.out ((hP.below hB2).more hB2.size) hn1 hn2).mono ?_
  rintro e w3 ⟨rfl, hb3⟩
  rw [HIE.out]
  have hB3 := below_then hB2 hb3
  have hR3 := hR2.on hb3
  have hC3 := hC2.on hb3
  clear hB2 hR2 hC2 hb3 hz2
  generalize macIn key ps.flatten = inn at *
  go_wp2_with (first
    | (refine put_step rfl rfl 30 (.tmp 6) (.tmp 12) rfl rfl 32 inn rfl rfl zero_h32 size_h32 HIL.out ?_
       intro w4 hb4 hI4 hz4
       have hB4 := below_then hB3 hb4
       have hR4 := hR3.on hb4
       have hC4 := hC3.on hb4
       have hgi := hC3.lt
       generalize w3.heap.size = gi at *
       clear hb4 hB3 hR3 hC3)
    | (refine get_step rfl 54 _ rfl gw 64 blk _ rfl hC4 Tryd.underlying54 size_blk HBL.out ?_))
  refine (blockPad_any blk 92 92 w4 HBL.out rfl).mono ?_
  rintro e w5 ⟨rfl, hb5⟩
  have hB5 := below_then hB4 hb5
  have hR5 := hR4.on hb5
  have hI5 := hI4.on hb5
  clear hB4 hR4 hC4 hI4 hb5 hz4
  generalize macPad blk 92 = op at *
  go_wp2_with (first
    | (refine put_step rfl rfl 54 (.tmp 7) (.tmp 14) rfl rfl 64 op rfl rfl zero_blk2 size_blk HOL.out ?_
       intro w6 hb6 hO6 hz6
       have hB6 := below_then hB5 hb6
       have hR6 := hR5.on hb6
       have hI6 := hI5.on hb6
       have hgo := hI5.lt
       generalize w5.heap.size = go at *
       clear hb6 hB5 hR5 hI5))
  refine wp_region_tail 2 (by kernel_rfl) (by kernel_rfl) ?_
  intro w7 hw7
  have hB7 : Below w.heap.size w w7 := by rw [hw7]; exact hB6.drew
  have hR7 : Cells w7 w.heap.size (List.replicate 32 (cellOf 0)) 30 := by rw [hw7]; exact hR6
  have HI7 : Hid (Row w7 w7.heap.size (some ⟨gi, 0, none⟩) inn) := by show Row _ _ _ _; rw [hw7]; exact hI6.all
  have HO7 : Hid (Row w7 w7.heap.size (some ⟨go, 0, none⟩) op) := by show Row _ _ _ _; rw [hw7]; exact hO6.all
  clear hw7 hB6 hR6 hI6 hO6 hz6
  have HP8 := Lib.hid (parts_two w7 (some ⟨go, 0, none⟩) (some ⟨gi, 0, none⟩) 64 64 32 32 op inn HOL.out HO7.out (fun h => by cases h) (Nat.le_refl _) (by unfold maxLen; omega) HIL.out HI7.out (fun h => by cases h) (Nat.le_refl _) (by unfold maxLen; omega))
  have HB8 : Hid (Below w7.heap.size w7 (w7.alloc (.cells #[.slice (some ⟨go, 0, none⟩) 64 64, .slice (some ⟨gi, 0, none⟩) 32 32] 22))) := (Below.refl _ _).alloc (Nat.le_refl _) _
  simp only [List.take_succ_cons, List.take_zero, List.drop_succ_cons, List.drop_zero]
  repeat still_step
  refine wpStill_nil ?_
  go_wp2_with fail
  generalize w7.alloc (.cells #[.slice (some ⟨go, 0, none⟩) 64 64, .slice (some ⟨gi, 0, none⟩) 32 32] 22) = w8 at *
  have hB8 := below_then hB7 HB8.out
  have hR8 := hR7.on HB8.out
  clear hB7 hR7 HB8
  refine (sum_any _ _ 2 [op, inn] w8 (hK.below hB8) (by have := hB8.size; omega) rfl HP8.out (by omega) (by simp [HOL.out, HIL.out])).mono ?_
  rintro e w9 ⟨rfl, hb9⟩
  rw [HSE.out]
  have hB9 := below_then hB8 hb9
  have hR9 := hR8.on hb9
  go_wp2_with (first
    | (refine set_step rfl 30 _ _ rfl w.heap.size 32 _ (macSum key ps.flatten) rfl rfl hR9 (by simp) size_h32 HSL.out ?_
       intro w10 hb10 hR10 _))
  exact ret_hash Tryd.results21 w.heap.size _ rfl hR10 Tryd.underlying30 size_h32 HSL.out rfl ⟨rfl, hB9.trans (hb10.below (Nat.le_refl _) hB9.size)⟩
end Go.Proofs.YtmhelmmonkgmmaaDoor
namespace Go.Proofs.YtmhelmmonkgmmaaDoor
open Go.RowKit
theorem refTurn_any (x : BitVec 32) (n : Nat) (w : World) (hn0 : 0 < n) (hn : n < 32) :
    Calls Tryd.prog 33 #[.int .u32 x.toNat, .int .u64 n] w fun e w' => e = .returned (.int .u32 ((rotR32 x n).toNat : Int)) ∧ w = w' := by
  have HR : Hid (bits .or .u32 ((x.toNat : Int) / 2 ^ n) ((x.toNat : Int) * 2 ^ (32 - n) % 4294967296) = ((rotR32 x n).toNat : Int)) := by
    show _ = _
    rw [rotr32 x n hn]
    unfold rotR32
    rw [show ((n : Int) % 32).toNat = n by omega]
  have h1 : (32 : Int) - n = ((32 - n : Nat) : Int) := by omega
  have h2 : ((32 : Int) - (n : Int)).toNat = 32 - n := by omega
  go_enter Tryd.func33, Tryd.ntmps33
  go_wp2
  go_ret
  exact ⟨ret_int HR.out, rfl⟩
theorem abc : shaSum [97, 98, 99] = [0xba, 0x78, 0x16, 0xbf, 0x8f, 0x01, 0xcf, 0xea, 0x41, 0x41, 0x40, 0xde, 0x5d, 0xae, 0x22, 0x23, 0xb0, 0x03, 0x61, 0xa3, 0x96, 0x17, 0x7a, 0x9c, 0xb4, 0x10, 0xff, 0x61, 0xf2, 0x00, 0x15, 0xad] := by decide +kernel
theorem kCells : (shaK.map wcell).toArray = #[.int .u32 1116352408, .int .u32 1899447441, .int .u32 3049323471, .int .u32 3921009573, .int .u32 961987163, .int .u32 1508970993, .int .u32 2453635748, .int .u32 2870763221, .int .u32 3624381080, .int .u32 310598401, .int .u32 607225278, .int .u32 1426881987, .int .u32 1925078388, .int .u32 2162078206, .int .u32 2614888103, .int .u32 3248222580, .int .u32 3835390401, .int .u32 4022224774, .int .u32 264347078, .int .u32 604807628, .int .u32 770255983, .int .u32 1249150122, .int .u32 1555081692, .int .u32 1996064986, .int .u32 2554220882, .int .u32 2821834349, .int .u32 2952996808, .int .u32 3210313671, .int .u32 3336571891, .int .u32 3584528711, .int .u32 113926993, .int .u32 338241895, .int .u32 666307205, .int .u32 773529912, .int .u32 1294757372, .int .u32 1396182291, .int .u32 1695183700, .int .u32 1986661051, .int .u32 2177026350, .int .u32 2456956037, .int .u32 2730485921, .int .u32 2820302411, .int .u32 3259730800, .int .u32 3345764771, .int .u32 3516065817, .int .u32 3600352804, .int .u32 4094571909, .int .u32 275423344, .int .u32 430227734, .int .u32 506948616, .int .u32 659060556, .int .u32 883997877, .int .u32 958139571, .int .u32 1322822218, .int .u32 1537002063, .int .u32 1747873779, .int .u32 1955562222, .int .u32 2024104815, .int .u32 2227730452, .int .u32 2361852424, .int .u32 2428436474, .int .u32 2756734187, .int .u32 3204031479, .int .u32 3329325298] := by rfl
set_option maxRecDepth 100000 in
theorem constants_any (w : World) : Calls Tryd.prog 31 #[] w fun e w' => e = .returned (.slice (some ⟨w.heap.size, 0, none⟩) 64 64) ∧ Below w.heap.size w w' ∧ Cells w' w.heap.size (shaK.map wcell) 61 := by
  have HN := Lib.hid (Cells.new w (shaK.map wcell).toArray 61)
  go_enter Tryd.func31, Tryd.ntmps31
  go_wp2
  rw [← kCells]
  go_ret
  exact ⟨rfl, (Below.refl _ _).alloc (Nat.le_refl _) _, by simpa using HN.out⟩
theorem pad_go (n j : Nat) (hj : j < shaPad n - 1) : ¬ ((n : Int) + 1 + j) % 64 = 56 := by unfold shaPad at hj; omega
theorem pad_stop (n : Nat) : ((n : Int) + 1 + ((shaPad n - 1 : Nat) : Int)) % 64 = 56 := by unfold shaPad; omega
set_option maxRecDepth 100000 in
theorem padded_any (A : Option Addr) (c n : Nat) (bs : List UInt8) (w : World) (hl : bs.length = n) (hr : Row w w.heap.size A bs) (hA : A = none → c = 0) (hn : n ≤ 900000) :
    Calls Tryd.prog 32 #[.slice A n c] w (GivesNew w (shaPadded bs)) := by
  have HL := Lib.hid hl
  have h0 := Owns.lit (base := w.heap.size) w [] (Nat.le_refl _) (by simp)
  have H0 := Lib.hid h0
  clear h0 hl
  have hM : ∀ (W : World) (u : UInt8), Row (W.alloc (.cells #[cellOf u] 5)) (W.heap.size + 1) (some ⟨W.heap.size, 0, none⟩) [u] := fun W u => (Made.new W [u]).row (by omega)
  have HM := Lib.hid hM
  clear hM
  go_enter Tryd.func32, Tryd.ntmps32
  go_wp2_with (first
    | (at_builtin
       refine append_row rfl (.tmp 6) (.tmp 7) rfl w.heap.size _ [] bs w.heap.size A c rfl H0.out (by rw [HL.out]; rfl) hA (hr.below ((Below.refl _ _).alloc (Nat.le_refl _) _)) (by simp [HL.out]; omega) (by simp) ?_
       intro v1 w1 hown1 hB1)
    | (at_builtin
       refine append_row rfl (.tmp 8) (.tmp 9) rfl w.heap.size _ ([] ++ bs) [128] (w1.heap.size + 1) (some ⟨w1.heap.size, 0, none⟩) 1 rfl (hown1.kept_alloc _) rfl (fun h => by cases h) (HM.out w1 128) (by simp [HL.out]; omega) (by have := hB1.size; simp at this ⊢; omega) ?_
       intro v2 w2 hown2 hB2))
  have hB3 : Below w.heap.size w w1 := ((Below.refl _ _).alloc (Nat.le_refl _) _).trans hB1
  have hB4 := (hB3.alloc hB3.size (.cells #[.int .u8 128] 5)).trans hB2
  have hO4 : Owns w2 w.heap.size v2 (bs ++ 128 :: List.replicate 0 0) := by simpa using hown2
  clear hB1 hB2 hB3 hown1 hown2
  go_loopw [3] (fun v wr => ∃ j : Nat, j ≤ shaPad n - 1 ∧ Below w.heap.size w wr ∧ Owns wr w.heap.size v (bs ++ 128 :: List.replicate j 0)) (fun v _ => (120 - lenOf v % 64) % 64)
  case atStart => exact ⟨0, Nat.zero_le _, hB4, hO4⟩
  case round =>
    clear hB4 hO4
    obtain ⟨j, hj, hB, hO⟩ := hrel
    have HJ : Hid ((bs ++ 128 :: List.replicate j 0).length = n + 1 + j) := by show _ = _; rw [List.length_append, HL.out, List.length_cons, List.length_replicate]; omega
    obtain ⟨g1, c1, hv, hc1, hc2, hg1, hR1⟩ := hO.form_pos (by rw [HJ.out]; omega)
    rw [HJ.out] at hv hc1
    have hz := hB.size
    have hpp := shaPad_pos n
    by_cases hlt : j < shaPad n - 1
    · have hq := pad_go n j hlt
      have HS := Lib.hid (show bs ++ 128 :: List.replicate j 0 ++ [0] = bs ++ 128 :: List.replicate (j + 1) 0 by rw [List.append_assoc, List.cons_append, ← List.replicate_succ'])
      have HQ : Hid (¬ (n + 1 + j) % 64 = 56) := by show ¬ _; omega
      have hq2 : (((n + 1 + j : Nat) : Int) % 64 != 56) = true := by simp; omega
      clear hq
      subst hv
      generalize hLL : n + 1 + j = L at *
      replace hLL := Lib.hid hLL
      go_wp2_with (first | (at_builtin
                            refine append_row rfl (.tmp 15) (.tmp 16) rfl w.heap.size _ (bs ++ 128 :: List.replicate j 0) [0] (wr.heap.size + 1) (some ⟨wr.heap.size, 0, none⟩) 1 rfl (hO.kept_alloc _) rfl (fun h => by cases h) (HM.out wr 0) (by rw [HJ.out]; have := hLL.out; simp; omega) (by simp; omega) ?_
                            intro v3 w3 hown3 hB3))
      go_roundw
      case rel => exact ⟨j + 1, by omega, (hB.alloc hz _).trans hB3, by rw [← HS.out]; exact hown3⟩
      case measure =>
        obtain ⟨A3, c3, hv3, _⟩ := hown3.form
        subst hv3
        have h1 := HQ.out
        have h2 : (bs ++ 128 :: List.replicate j 0 ++ [0]).length = L + 1 := by rw [List.length_append, HJ.out]; rfl
        simp only [lenOf]
        rw [h2]
        omega
    · obtain rfl : j = shaPad n - 1 := by omega
      have hq := pad_stop n
      have hq2 : (((n + 1 + (shaPad n - 1) : Nat) : Int) % 64 != 56) = false := by simp; omega
      have HX : Hid (bs ++ 128 :: List.replicate (shaPad n - 1) 0 ++ (putL (8 * n) 8).reverse = shaPadded bs) := by
        show _ = _
        unfold shaPadded shaEnd
        rw [HL.out, List.append_assoc]; rfl
      clear hq
      subst hv
      generalize hbb : bs ++ 128 :: List.replicate (shaPad n - 1) 0 = xs at *
      generalize hLL : n + 1 + (shaPad n - 1) = L at *
      have hL2 : L ≤ 900064 := by omega
      replace hLL := Lib.hid hLL
      replace hbb := Lib.hid hbb
      go_wp2_with fail
      go_loopw [3, 5] (fun v i wr => ∃ k : Nat, k ≤ 8 ∧ i = .int .i64 (7 - (k : Int)) ∧ Below w.heap.size w wr ∧ Owns wr w.heap.size v (xs ++ putB (8 * n) 8 k)) (fun _ i _ => (intOf i + 1).toNat)
      case atStart => exact ⟨0, by omega, rfl, hB, by simpa [putB] using hO⟩
      case round =>
        clear hB hO hR1 hc1 hz
        obtain ⟨k, hk, rfl, hB, hO⟩ := hrel
        have hz := hB.size
        by_cases hlt2 : k < 8
        · have HS := Lib.hid (show xs ++ putB (8 * n) 8 k ++ [byteAt (8 * n) (7 - k)] = xs ++ putB (8 * n) 8 (k + 1) by rw [putB_succ, List.append_assoc])
          have HY : Hid ((n : Int) * 8 / 2 ^ (8 * (7 - k)) % 256 = ((byteAt (8 * n) (7 - k)).toNat : Int)) := by
            have h := byte_shr (8 * n) (7 - k)
            rw [show ((8 * n : Nat) : Int) = (n : Int) * 8 by omega] at h
            exact h
          have HZ : Hid ((7 : Int) - (k : Int) = ((7 - k : Nat) : Int)) := by show _ = _; omega
          have HZ2 : Hid ((xs ++ putB (8 * n) 8 k).length = L + k) := by show _ = _; rw [List.length_append, HJ.out, putB_length]
          rw [HZ.out]
          generalize hmm : 7 - k = m at *
          replace hmm := Lib.hid hmm
          have hm7 : m ≤ 7 := by have := hmm.out; omega
          go_wp2_with (first | (at_builtin
                                rw [HY.out]
                                refine append_row rfl (.tmp 26) (.tmp 33) rfl w.heap.size _ (xs ++ putB (8 * n) 8 k) [byteAt (8 * n) m] (wr.heap.size + 1) (some ⟨wr.heap.size, 0, none⟩) 1 rfl (hO.kept_alloc _) rfl (fun h => by cases h) (HM.out wr _) (by rw [HZ2.out]; simp; omega) (by simp; omega) ?_
                                intro v3 w3 hown3 hB3))
          go_roundw
          case rel => exact ⟨k + 1, by omega, by have := hmm.out; congr 1; omega, (hB.alloc hz _).trans hB3, by rw [← HS.out]; exact hown3⟩
          case measure => simp [intOf]
        · obtain rfl : k = 8 := by omega
          rw [putB_rev, HX.out] at hO
          go_wp2_with fail
          go_ret
          obtain ⟨g', c', hv, _, _, hg', hR⟩ := hO.form_pos (by rw [shaPadded_length]; omega)
          exact ⟨g', c', by rw [← hv]; rfl, hg', hB, hR⟩
end Go.Proofs.YtmhelmmonkgmmaaDoor
namespace Go.Proofs.YtmhelmmonkgmmaaDoor
open Go.RowKit
/-- The bodies of a code's loops, the outer one first. -/
def loopsOf : Code → List Code
  | .loop c => c :: loopsOf c
  | .seq a b => loopsOf a ++ loopsOf b
  | .block _ c => loopsOf c
  | .scope c => loopsOf c
  | .cond _ a b => loopsOf a ++ loopsOf b
  | _ => []
/-- What these slots hold. -/
def Slots (a : Act) : List (Nat × Value) → Prop
  | [] => True
  | (i, v) :: l => a.tmps.getD i undef = v ∧ Slots a l
/-- A frame of n slots, of which some are known. -/
def Fr (n : Nat) (l : List (Nat × Value)) (a : Act) : Prop := a.tmps.size = n ∧ a.defers = [] ∧ Slots a l
theorem frame_of (n : Nat) (a : Act) (hs : a.tmps.size = n) (hd : a.defers = []) : ∃ u : Nat → Value, a = ⟨((List.range n).map u).toArray, []⟩ := by
  obtain ⟨t, d⟩ := a
  simp only at hs hd
  subst hd
  refine ⟨fun i => t.getD i undef, ?_⟩
  congr 1
  apply Array.ext_getElem?
  intro i
  by_cases h : i < n
  · simp [h, hs]
  · simp [h, hs]
end Go.Proofs.YtmhelmmonkgmmaaDoor
namespace Go.Proofs.YtmhelmmonkgmmaaDoor
open Go.RowKit
theorem zero_r32 : ∀ w, (zeroValue 29).run Tryd.prog w = .ok (.agg (List.replicate 32 (cellOf 0)).toArray) w := (zero_of_info (P := Tryd.prog) (t := 29) (v := .agg (List.replicate 32 (cellOf 0)).toArray) (n := 32) (by kernel_rfl)).1
theorem size_r32 : (Tryd.prog.info? 29).map (·.size) = some 32 := by kernel_rfl
theorem turn_at (x : BitVec 32) (z : Int) (w : World) (h0 : 0 < z) (h : z < 32) :
    Calls Tryd.prog 33 #[.int .u32 x.toNat, .int .u64 z] w fun e w' => e = .returned (.int .u32 ((rotR32 x z).toNat : Int)) ∧ w' = w := by
  obtain ⟨n, rfl⟩ := Int.eq_ofNat_of_zero_le (show 0 ≤ z by omega)
  exact (refTurn_any x n w (by omega) (by omega)).mono fun _ _ ⟨h1, h2⟩ => ⟨h1, h2.symm⟩
theorem turn_in (x : BitVec 32) (z : Int) (w : World) (h0 : 0 < z) (h : z < 32) :
    Calls Tryd.prog 33 #[.int .u32 x.toNat, .int .u64 z] w fun e w' => e = .returned (.int .u32 ((rotR32 x z).toNat : Int)) ∧ w = w' :=
  (turn_at x z w h0 h).mono fun _ _ ⟨h1, h2⟩ => ⟨h1, h2.symm⟩
theorem next_eq (x2 x7 x15 x16 : BitVec 32) : (rotR32 x2 17 ^^^ rotR32 x2 19 ^^^ x2 >>> 10) + x7 + (rotR32 x15 7 ^^^ rotR32 x15 18 ^^^ x15 >>> 3) + x16 = x16 + shaLow x15 + x7 + shaHigh x2 := by
  show shaHigh x2 + x7 + shaLow x15 + x16 = _
  ac_rfl
theorem ref_one_eq (q : Oct) (k w : BitVec 32) : ((q.h.toNat : Int) + bits .xor .u32 (bits .xor .u32 ((rotR32 q.e 6).toNat : Int) ((rotR32 q.e 11).toNat : Int)) ((rotR32 q.e 25).toNat : Int) + bits .xor .u32 (bits .and .u32 (q.e.toNat : Int) (q.f.toNat : Int)) (bits .and .u32 (bits .xor .u32 (if IntKind.u32.signed = true then -1 else IntKind.u32.max) (q.e.toNat : Int)) (q.g.toNat : Int)) + (k.toNat : Int) + (w.toNat : Int)) % 4294967296 = ((shaOne q k w).toNat : Int) := by
  rw [xor32, xor32, not32, and32, and32, xor32, add32_5]; rfl
theorem ref_two_eq (q : Oct) : (bits .xor .u32 (bits .xor .u32 ((rotR32 q.a 2).toNat : Int) ((rotR32 q.a 13).toNat : Int)) ((rotR32 q.a 22).toNat : Int) + bits .xor .u32 (bits .xor .u32 (bits .and .u32 (q.a.toNat : Int) (q.b.toNat : Int)) (bits .and .u32 (q.a.toNat : Int) (q.c.toNat : Int))) (bits .and .u32 (q.b.toNat : Int) (q.c.toNat : Int))) % 4294967296 = ((shaTwo q).toNat : Int) := by
  rw [xor32, xor32, and32, and32, and32, xor32, xor32, add32]; rfl
theorem not32m (x : BitVec 32) : bits .xor .u32 IntKind.u32.max (x.toNat : Int) = ((~~~x).toNat : Int) := not32 x
theorem add32_52 (x y z u v a b : BitVec 32) : ((x.toNat : Int) + (y.toNat : Int) + (z.toNat : Int) + (u.toNat : Int) + (v.toNat : Int) + ((a.toNat : Int) + (b.toNat : Int))) % 4294967296 = ((x + y + z + u + v + (a + b)).toNat : Int) := by
  simp only [BitVec.toNat_add]; omega
theorem add32_15 (d x y z u v : BitVec 32) : ((d.toNat : Int) + ((x.toNat : Int) + (y.toNat : Int) + (z.toNat : Int) + (u.toNat : Int) + (v.toNat : Int))) % 4294967296 = ((d + (x + y + z + u + v)).toNat : Int) := by
  simp only [BitVec.toNat_add]; omega
theorem ref_a (q : Oct) (k w : BitVec 32) : ((q.h.toNat : Int) + bits .xor .u32 (bits .xor .u32 ((rotR32 q.e 6).toNat : Int) ((rotR32 q.e 11).toNat : Int)) ((rotR32 q.e 25).toNat : Int) + bits .xor .u32 (bits .and .u32 (q.e.toNat : Int) (q.f.toNat : Int)) (bits .and .u32 (bits .xor .u32 IntKind.u32.max (q.e.toNat : Int)) (q.g.toNat : Int)) + (k.toNat : Int) + (w.toNat : Int) + (bits .xor .u32 (bits .xor .u32 ((rotR32 q.a 2).toNat : Int) ((rotR32 q.a 13).toNat : Int)) ((rotR32 q.a 22).toNat : Int) + bits .xor .u32 (bits .xor .u32 (bits .and .u32 (q.a.toNat : Int) (q.b.toNat : Int)) (bits .and .u32 (q.a.toNat : Int) (q.c.toNat : Int))) (bits .and .u32 (q.b.toNat : Int) (q.c.toNat : Int)))) % 4294967296 = ((shaOne q k w + shaTwo q).toNat : Int) := by
  rw [xor32 (rotR32 q.e 6), xor32 (rotR32 q.e 6 ^^^ _), not32m, and32 q.e q.f, and32 (~~~q.e), xor32 (q.e &&& q.f), xor32 (rotR32 q.a 2), xor32 (rotR32 q.a 2 ^^^ _), and32, and32, and32, xor32 (q.a &&& q.b), xor32 (q.a &&& q.b ^^^ _), add32_52]; rfl
theorem ref_e (q : Oct) (k w : BitVec 32) : ((q.d.toNat : Int) + ((q.h.toNat : Int) + bits .xor .u32 (bits .xor .u32 ((rotR32 q.e 6).toNat : Int) ((rotR32 q.e 11).toNat : Int)) ((rotR32 q.e 25).toNat : Int) + bits .xor .u32 (bits .and .u32 (q.e.toNat : Int) (q.f.toNat : Int)) (bits .and .u32 (bits .xor .u32 IntKind.u32.max (q.e.toNat : Int)) (q.g.toNat : Int)) + (k.toNat : Int) + (w.toNat : Int))) % 4294967296 = ((q.d + shaOne q k w).toNat : Int) := by
  rw [xor32 (rotR32 q.e 6), xor32 (rotR32 q.e 6 ^^^ _), not32m, and32 q.e q.f, and32 (~~~q.e), xor32 (q.e &&& q.f), add32_15]; rfl
theorem list_at (l : List (BitVec 32)) (k : Nat) (hk : k < l.length) : (l.map wcell)[k]? = some (wcell (l.getD k 0)) := by
  rw [List.getElem?_map, List.getD_eq_getElem?_getD, List.getElem?_eq_getElem hk]
  rfl
theorem u32_info : (Tryd.prog.info? 61).map (fun i => (i.zero, i.size, i.bytes)) = some (some (.int .u32 0), 1, 4) := by kernel_rfl
/-- So many words of nought. (Named, so that a walk leaves them whole.) -/
def wzeros (n : Nat) : List Value := List.replicate n (wcell 0)
set_option maxRecDepth 100000 in
/-- 'make([]uint32, n)'. -/
theorem make_words (n : Nat) (hn : n ≤ 1000000) (W : World) :
    (Instr.makeSlice 59 (.int .i64 (n : Int)) (.int .i64 (n : Int))).run Tryd.prog W = .ok (.slice (some ⟨W.heap.size, 0, none⟩) n n) (W.alloc (.cells (wzeros n).toArray 61)) := by
  unfold wzeros
  obtain ⟨i0, hi0, hz0, hz1, hz2⟩ := info_parts u32_info
  have h := run_make (P := Tryd.prog) W 59 61 i0 (.int .u32 0) Tryd.underlying59 hi0 hz0 .i64 .i64 n n (by omega) (by omega) (by rw [hz2]; omega) (by omega)
  rw [h, Int.toNat_natCast, hz1, Nat.mul_one]
  congr 3
  apply Array.ext_getElem?
  intro i
  simp only [madeCells, Value.cells]
  by_cases h : i < n
  · simp [h, Nat.mod_one]
  · simp [h]
theorem word_of4 (a b c d : UInt8) : ((a.toNat : Int) % 4294967296 * 16777216 + (b.toNat : Int) % 4294967296 * 65536 + (c.toNat : Int) % 4294967296 * 256 + (d.toNat : Int)) % 4294967296 = ((BitVec.ofNat 32 (bigN [a, b, c, d])).toNat : Int) := by
  rw [BitVec.toNat_ofNat]
  simp [bigN]
  omega
theorem four_at (ms : List UInt8) (i : Nat) (h : i + 3 < ms.length) : (ms.drop i).take 4 = [ms.getD i 0, ms.getD (i + 1) 0, ms.getD (i + 2) 0, ms.getD (i + 3) 0] := by
  rw [getD_lt ms i (by omega), getD_lt ms (i + 1) (by omega), getD_lt ms (i + 2) (by omega), getD_lt ms (i + 3) h, List.drop_eq_getElem_cons (by omega), List.drop_eq_getElem_cons (by omega), List.drop_eq_getElem_cons (by omega), List.drop_eq_getElem_cons (by omega)]
  rfl
set_option maxRecDepth 100000 in
theorem frame271 (a : Act) (hs : a.tmps.size = 271) (hd : a.defers = []) : ∃ u : Nat → Value, a = ⟨(u 0 :: u 1 :: u 2 :: u 3 :: u 4 :: u 5 :: u 6 :: u 7 :: u 8 :: u 9 :: u 10 :: u 11 :: u 12 :: u 13 :: u 14 :: u 15 :: u 16 :: u 17 :: u 18 :: u 19 :: u 20 :: u 21 :: u 22 :: u 23 :: u 24 :: u 25 :: u 26 :: u 27 :: u 28 :: u 29 :: u 30 :: u 31 :: u 32 :: u 33 :: u 34 :: u 35 :: u 36 :: u 37 :: u 38 :: u 39 :: u 40 :: u 41 :: u 42 :: u 43 :: u 44 :: u 45 :: u 46 :: u 47 :: u 48 :: u 49 :: u 50 :: u 51 :: u 52 :: u 53 :: u 54 :: u 55 :: u 56 :: u 57 :: u 58 :: u 59 :: u 60 :: u 61 :: u 62 :: u 63 :: u 64 :: u 65 :: u 66 :: u 67 :: u 68 :: u 69 :: u 70 :: u 71 :: u 72 :: u 73 :: u 74 :: u 75 :: u 76 :: u 77 :: u 78 :: u 79 :: u 80 :: u 81 :: u 82 :: u 83 :: u 84 :: u 85 :: u 86 :: u 87 :: u 88 :: u 89 :: u 90 :: u 91 :: u 92 :: u 93 :: u 94 :: u 95 :: u 96 :: u 97 :: u 98 :: u 99 :: u 100 :: u 101 :: u 102 :: u 103 :: u 104 :: u 105 :: u 106 :: u 107 :: u 108 :: u 109 :: u 110 :: u 111 :: u 112 :: u 113 :: u 114 :: u 115 :: u 116 :: u 117 :: u 118 :: u 119 :: u 120 :: u 121 :: u 122 :: u 123 :: u 124 :: u 125 :: u 126 :: u 127 :: u 128 :: u 129 :: u 130 :: u 131 :: u 132 :: u 133 :: u 134 :: u 135 :: u 136 :: u 137 :: u 138 :: u 139 :: u 140 :: u 141 :: u 142 :: u 143 :: u 144 :: u 145 :: u 146 :: u 147 :: u 148 :: u 149 :: u 150 :: u 151 :: u 152 :: u 153 :: u 154 :: u 155 :: u 156 :: u 157 :: u 158 :: u 159 :: u 160 :: u 161 :: u 162 :: u 163 :: u 164 :: u 165 :: u 166 :: u 167 :: u 168 :: u 169 :: u 170 :: u 171 :: u 172 :: u 173 :: u 174 :: u 175 :: u 176 :: u 177 :: u 178 :: u 179 :: u 180 :: u 181 :: u 182 :: u 183 :: u 184 :: u 185 :: u 186 :: u 187 :: u 188 :: u 189 :: u 190 :: u 191 :: u 192 :: u 193 :: u 194 :: u 195 :: u 196 :: u 197 :: u 198 :: u 199 :: u 200 :: u 201 :: u 202 :: u 203 :: u 204 :: u 205 :: u 206 :: u 207 :: u 208 :: u 209 :: u 210 :: u 211 :: u 212 :: u 213 :: u 214 :: u 215 :: u 216 :: u 217 :: u 218 :: u 219 :: u 220 :: u 221 :: u 222 :: u 223 :: u 224 :: u 225 :: u 226 :: u 227 :: u 228 :: u 229 :: u 230 :: u 231 :: u 232 :: u 233 :: u 234 :: u 235 :: u 236 :: u 237 :: u 238 :: u 239 :: u 240 :: u 241 :: u 242 :: u 243 :: u 244 :: u 245 :: u 246 :: u 247 :: u 248 :: u 249 :: u 250 :: u 251 :: u 252 :: u 253 :: u 254 :: u 255 :: u 256 :: u 257 :: u 258 :: u 259 :: u 260 :: u 261 :: u 262 :: u 263 :: u 264 :: u 265 :: u 266 :: u 267 :: u 268 :: u 269 :: u 270 :: []).toArray, []⟩ := by
  obtain ⟨u, h⟩ := frame_of 271 a hs hd
  exact ⟨u, h⟩
/-- The body of the k-th loop of the document's Sum. -/
noncomputable def refBody (k : Nat) : Code := ((Tryd.f22.body.map loopsOf).getD []).getD k .skip
/-- What stands in every round: the result's block, the constants, the chain, the message. -/
structure RW (w wr : World) (gk gh gm : Nat) (hs : List Value) (ms : List UInt8) : Prop where
  below : Below w.heap.size w wr
  res : Cells wr w.heap.size (List.replicate 32 (cellOf 0)) 29
  ks : Cells wr gk (shaK.map wcell) 61
  ch : Cells wr gh hs 61
  row : Row wr wr.heap.size (some ⟨gm, 0, none⟩) ms
  o1 : w.heap.size < gk
  o2 : gk < gh
  o3 : gh < gm
  o4 : gm < wr.heap.size
section
variable {w wr wr' : World} {gk gh gm : Nat} {hs : List Value} {ms : List UInt8}
theorem RW.drew (h : RW w wr gk gh gm hs ms) : RW w wr.drew gk gh gm hs ms := ⟨h.below.drew, h.res, h.ks, h.ch, h.row, h.o1, h.o2, h.o3, h.o4⟩
theorem RW.drewN (h : RW w wr gk gh gm hs ms) (n : Nat) : RW w (wr.drewN n) gk gh gm hs ms := ⟨below_drewN h.below n, h.res, h.ks, h.ch, h.row, h.o1, h.o2, h.o3, h.o4⟩
theorem RW.alloc (h : RW w wr gk gh gm hs ms) (o : Obj) : RW w (wr.alloc o) gk gh gm hs ms :=
  ⟨h.below.alloc h.below.size o, h.res.alloc o, h.ks.alloc o, h.ch.alloc o, h.row.on ((Below.refl _ _).alloc (Nat.le_refl _) o), h.o1, h.o2, h.o3, by have := h.o4; simp; omega⟩
/-- Another block, newer than all these. -/
theorem RW.but (h : RW w wr gk gh gm hs ms) {g : Nat} (hb : But g wr wr') (hg : gm < g) : RW w wr' gk gh gm hs ms := by
  have h1 := h.o1
  have h2 := h.o2
  have h3 := h.o3
  exact ⟨h.below.trans (hb.below (by omega) h.below.size), h.res.but hb (by omega), h.ks.but hb (by omega), h.ch.but hb (by omega), h.row.but hb (fun _ p hp => by cases hp; show gm ≠ g; omega), h1, h2, h3, Nat.lt_of_lt_of_le h.o4 hb.size⟩
/-- The chain's own block. -/
theorem RW.chain (h : RW w wr gk gh gm hs ms) (j : Nat) (v : Value) : RW w (wr.setCell ⟨gh, j, none⟩ v) gk gh gm (hs.set j v) ms := by
  have h1 := h.o1
  have h2 := h.o2
  have h3 := h.o3
  have hb : But gh wr (wr.setCell ⟨gh, j, none⟩ v) := (But.refl gh wr).setCell j v
  exact ⟨h.below.trans (hb.below (by omega) h.below.size), h.res.but hb (by omega), h.ks.but hb (by omega), h.ch.set j v, h.row.but hb (fun _ p hp => by cases hp; show gm ≠ gh; omega), h1, h2, h3, Nat.lt_of_lt_of_le h.o4 hb.size⟩
end
/-- The slots that no loop writes. -/
def baseSlots (w : World) (gk gh gm cm N : Nat) : List (Nat × Value) := [(2, .pointer (some ⟨w.heap.size, 0, none⟩)), (3, .slice (some ⟨gk, 0, none⟩) 64 64), (4, .slice (some ⟨gh, 0, none⟩) 8 8), (5, .slice (some ⟨gm, 0, none⟩) (64 * N) cm)]
end Go.Proofs.YtmhelmmonkgmmaaDoor
namespace Go.Proofs.YtmhelmmonkgmmaaDoor
open Go.RowKit
/-- At the second loop's head: t words are laid. -/
def I2 (w : World) (gk gh gm cm N gw p0 : Nat) (hs : List Value) (ms bk : List UInt8) (a : Act) (wr : World) : Prop :=
  ∃ t : Nat, t ≤ 64 ∧ Fr 271 ([(6, .int .i64 (p0 : Int)), (7, .slice (some ⟨gw, 0, none⟩) 64 64), (8, .int .i64 (t : Int))] ++ baseSlots w gk gh gm cm N) a ∧ RW w wr gk gh gm hs ms ∧ Cells wr gw (spreadTo bk t) 61
def mu2 (a : Act) (_ : World) : Nat := 64 - (intOf (a.tmps.getD 8 undef)).toNat
set_option maxRecDepth 100000 in
set_option maxHeartbeats 4000000 in
theorem round2a (w wr : World) (gk gh gm cm N gw p0 t : Nat) (hs : List Value) (ms bk : List UInt8) (a : Act) (Q0 : Exit → Act → World → Prop) (hN : N ≤ 20000) (hml : ms.length = 64 * N) (hp : p0 + 64 ≤ 64 * N) (hgw : gm < gw)
    (hbk : bk = (ms.drop p0).take 64) (ht : t < 16)
    (hF : Fr 271 ([(6, .int .i64 (p0 : Int)), (7, .slice (some ⟨gw, 0, none⟩) 64 64), (8, .int .i64 (t : Int))] ++ baseSlots w gk gh gm cm N) a) (hW : RW w wr gk gh gm hs ms) (hS : Cells wr gw (spreadTo bk t) 61) :
    Code.wp Tryd.prog (refBody 1) (Exit.then (fun a' w' => I2 w gk gh gm cm N gw p0 hs ms bk a' w' ∧ mu2 a' w' < mu2 a wr) Q0) a wr := by
  have hq : p0 + 4 * t + 3 < ms.length := by omega
  have HV : Hid (shaWord bk t = BitVec.ofNat 32 (bigN [ms.getD (p0 + 4 * t) 0, ms.getD (p0 + 4 * t + 1) 0, ms.getD (p0 + 4 * t + 2) 0, ms.getD (p0 + 4 * t + 3) 0])) := by
    show _ = _
    subst hbk
    rw [← four_at ms _ hq, shaWord, List.drop_take, List.take_take, List.drop_drop, Nat.min_eq_left (by omega)]
  obtain ⟨_, _, e1, hb, hc0⟩ := hW.row.atD (p0 + 4 * t) (by omega)
  cases e1
  obtain ⟨_, _, e1, _, hc1⟩ := hW.row.atD (p0 + 4 * t + 1) (by omega)
  cases e1
  obtain ⟨_, _, e1, _, hc2⟩ := hW.row.atD (p0 + 4 * t + 2) (by omega)
  cases e1
  obtain ⟨_, _, e1, _, hc3⟩ := hW.row.atD (p0 + 4 * t + 3) (by omega)
  cases e1
  rw [Nat.zero_add] at hc0 hc1 hc2 hc3
  have HP : Hid (p0 + 4 * t + 3 < 64 * N) := by show _ < _; omega
  generalize ms.getD (p0 + 4 * t) 0 = x0 at *
  generalize ms.getD (p0 + 4 * t + 1) 0 = x1 at *
  generalize ms.getD (p0 + 4 * t + 2) 0 = x2 at *
  generalize ms.getD (p0 + 4 * t + 3) 0 = x3 at *
  have HML := Lib.hid hml
  have HBK := Lib.hid hbk
  clear hml hbk hq
  obtain ⟨hs0, hd0, h6, h7, h8, h2, h3, h4, h5, _⟩ := hF
  obtain ⟨u, rfl⟩ := frame271 a hs0 hd0
  clear hs0 hd0
  change u 6 = _ at h6
  change u 7 = _ at h7
  change u 8 = _ at h8
  change u 2 = _ at h2
  change u 3 = _ at h3
  change u 4 = _ at h4
  change u 5 = _ at h5
  rw [h6, h7, h8, h2, h3, h4, h5]
  clear h6 h7 h8 h2 h3 h4 h5
  conv => arg 2; whnf
  go_wp2_with fail
  refine wp_region_tail 32 (by kernel_rfl) (by kernel_rfl) ?_
  intro w5 hw5
  have hW2 : RW w w5 gk gh gm hs ms := by rw [hw5]; exact hW.drew
  have hS2 : Cells w5 gw (spreadTo bk t) 61 := by rw [hw5]; exact hS
  have d0 : w5.cell? ⟨gm, p0 + 4 * t, none⟩ = some (cellOf x0) := by rw [hw5]; exact hc0
  have d1 : w5.cell? ⟨gm, p0 + 4 * t + 1, none⟩ = some (cellOf x1) := by rw [hw5]; exact hc1
  have d2 : w5.cell? ⟨gm, p0 + 4 * t + 2, none⟩ = some (cellOf x2) := by rw [hw5]; exact hc2
  have d3 : w5.cell? ⟨gm, p0 + 4 * t + 3, none⟩ = some (cellOf x3) := by rw [hw5]; exact hc3
  clear hw5 hW hS hc0 hc1 hc2 hc3
  have df := hS2.frozen t
  obtain ⟨v4, dc3⟩ : ∃ v, w5.cell? ⟨gw, t, none⟩ = some v := ⟨_, hS2.cell t (by rw [spreadTo_length _ _ (by omega)]; omega)⟩
  have i0 : (0 : Int) ≤ (p0 : Int) + 4 * (t : Int) := by omega
  have j0 : (p0 : Int) + 4 * (t : Int) < 64 * (N : Int) := by have := HP.out; omega
  have n0 : ((p0 : Int) + 4 * (t : Int)).toNat = p0 + 4 * t := by omega
  have i1 : (0 : Int) ≤ (p0 : Int) + 4 * (t : Int) + 1 := by omega
  have j1 : (p0 : Int) + 4 * (t : Int) + 1 < 64 * (N : Int) := by have := HP.out; omega
  have n1 : ((p0 : Int) + 4 * (t : Int) + 1).toNat = p0 + 4 * t + 1 := by omega
  have i2 : (0 : Int) ≤ (p0 : Int) + 4 * (t : Int) + 2 := by omega
  have j2 : (p0 : Int) + 4 * (t : Int) + 2 < 64 * (N : Int) := by have := HP.out; omega
  have n2 : ((p0 : Int) + 4 * (t : Int) + 2).toNat = p0 + 4 * t + 2 := by omega
  have i3 : (0 : Int) ≤ (p0 : Int) + 4 * (t : Int) + 3 := by omega
  have j3 : (p0 : Int) + 4 * (t : Int) + 3 < 64 * (N : Int) := by have := HP.out; omega
  have n3 : ((p0 : Int) + 4 * (t : Int) + 3).toNat = p0 + 4 * t + 3 := by omega
  have it : (t : Int) < 64 := by omega
  have s1 : IntKind.i64.wrap ((p0 : Int) + 4 * (t : Int) + 1) = (p0 : Int) + 4 * (t : Int) + 1 := IntWalk.i64_in _ (by omega)
  have s2 : IntKind.i64.wrap ((p0 : Int) + 4 * (t : Int) + 2) = (p0 : Int) + 4 * (t : Int) + 2 := IntWalk.i64_in _ (by omega)
  have s3 : IntKind.i64.wrap ((p0 : Int) + 4 * (t : Int) + 3) = (p0 : Int) + 4 * (t : Int) + 3 := IntWalk.i64_in _ (by omega)
  simp only [List.take_succ_cons, List.take_zero, List.drop_succ_cons, List.drop_zero]
  repeat still_step
  clear s1 s2 s3
  refine wpStill_nil ?_
  go_wp2
  rw [word_of4]
  refine ⟨⟨t + 1, by omega, ⟨rfl, rfl, rfl, rfl, by show Value.int .i64 ((t : Int) + 1) = _; go_num, rfl, rfl, rfl, rfl, trivial⟩, hW2.but ((But.refl gw w5).setCell t _) hgw, ?_⟩, ?_⟩
  · have h := hS2.set t (wcell (shaWord bk t))
    rw [spreadTo_next bk t (by omega) _ (by rw [if_pos ht]), HV.out] at h
    exact h
  · show 64 - ((t : Int) + 1).toNat < 64 - ((t : Int)).toNat
    omega
set_option maxRecDepth 100000 in
set_option maxHeartbeats 4000000 in
theorem round2b (w wr : World) (gk gh gm cm N gw p0 t : Nat) (hs : List Value) (ms bk : List UInt8) (a : Act) (Q0 : Exit → Act → World → Prop) (hgw : gm < gw) (ht : 16 ≤ t) (ht2 : t < 64)
    (hF : Fr 271 ([(6, .int .i64 (p0 : Int)), (7, .slice (some ⟨gw, 0, none⟩) 64 64), (8, .int .i64 (t : Int))] ++ baseSlots w gk gh gm cm N) a) (hW : RW w wr gk gh gm hs ms) (hS : Cells wr gw (spreadTo bk t) 61) :
    Code.wp Tryd.prog (refBody 1) (Exit.then (fun a' w' => I2 w gk gh gm cm N gw p0 hs ms bk a' w' ∧ mu2 a' w' < mu2 a wr) Q0) a wr := by
  have c15 := hS.get (spreadTo_at bk t (t - 15) (by omega))
  have c2 := hS.get (spreadTo_at bk t (t - 2) (by omega))
  have c16 := hS.get (spreadTo_at bk t (t - 16) (by omega))
  have c7 := hS.get (spreadTo_at bk t (t - 7) (by omega))
  have HX2 : Hid (shaNext (shaSpread bk t) t = (shaSpread bk t).getD (t - 16) 0 + shaLow ((shaSpread bk t).getD (t - 15) 0) + (shaSpread bk t).getD (t - 7) 0 + shaHigh ((shaSpread bk t).getD (t - 2) 0)) := rfl
  generalize (shaSpread bk t).getD (t - 15) 0 = x15 at *
  generalize (shaSpread bk t).getD (t - 2) 0 = x2 at *
  generalize (shaSpread bk t).getD (t - 16) 0 = x16 at *
  generalize (shaSpread bk t).getD (t - 7) 0 = x7 at *
  have i15 : (0 : Int) ≤ (t : Int) - 15 := by omega
  have j15 : (t : Int) - 15 < 64 := by omega
  have t15 : ((t : Int) - 15).toNat = t - 15 := by omega
  have i2 : (0 : Int) ≤ (t : Int) - 2 := by omega
  have j2 : (t : Int) - 2 < 64 := by omega
  have t2 : ((t : Int) - 2).toNat = t - 2 := by omega
  have i16 : (0 : Int) ≤ (t : Int) - 16 := by omega
  have j16 : (t : Int) - 16 < 64 := by omega
  have t16 : ((t : Int) - 16).toNat = t - 16 := by omega
  have i7 : (0 : Int) ≤ (t : Int) - 7 := by omega
  have j7 : (t : Int) - 7 < 64 := by omega
  have t7 : ((t : Int) - 7).toNat = t - 7 := by omega
  obtain ⟨hs0, hd0, h6, h7, h8, h2, h3, h4, h5, _⟩ := hF
  obtain ⟨u, rfl⟩ := frame271 a hs0 hd0
  clear hs0 hd0
  change u 6 = _ at h6
  change u 7 = _ at h7
  change u 8 = _ at h8
  change u 2 = _ at h2
  change u 3 = _ at h3
  change u 4 = _ at h4
  change u 5 = _ at h5
  rw [h6, h7, h8, h2, h3, h4, h5]
  clear h6 h7 h8 h2 h3 h4 h5
  conv => arg 2; whnf
  go_wp2
  go_quiet (fail)
  go_wp2_with fail
  refine wp_region_tail 32 (by kernel_rfl) (by kernel_rfl) ?_
  intro w5 hw5
  have hW2 : RW w w5 gk gh gm hs ms := by rw [hw5]; exact (hW.drewN nq).drew
  have hS2 : Cells w5 gw (spreadTo bk t) 61 := by rw [hw5]; exact hS
  have d16 : w5.cell? ⟨gw, t - 16, none⟩ = some (wcell x16) := by rw [hw5]; exact c16
  have d7 : w5.cell? ⟨gw, t - 7, none⟩ = some (wcell x7) := by rw [hw5]; exact c7
  clear hw5 hW hS c15 c2 c16 c7
  have df := hS2.frozen t
  obtain ⟨v4, dc3⟩ : ∃ v, w5.cell? ⟨gw, t, none⟩ = some v := ⟨_, hS2.cell t (by rw [spreadTo_length _ _ (by omega)]; omega)⟩
  have it : (t : Int) < 64 := by omega
  have s16 : IntKind.i64.wrap ((t : Int) - 16) = (t : Int) - 16 := IntWalk.i64_in _ (by omega)
  have s7 : IntKind.i64.wrap ((t : Int) - 7) = (t : Int) - 7 := IntWalk.i64_in _ (by omega)
  have m16 : (16 : Int) ≤ (t : Int) := by omega
  have m7 : (7 : Int) ≤ (t : Int) := by omega
  simp only [List.take_succ_cons, List.take_zero, List.drop_succ_cons, List.drop_zero]
  have q17 := turn_at x2 17 w5 (by omega) (by omega)
  have q19 := turn_at x2 19 w5 (by omega) (by omega)
  have q7 := turn_at x15 7 w5 (by omega) (by omega)
  have q18 := turn_at x15 18 w5 (by omega) (by omega)
  iterate 3 still_step
  still_call q17
  still_step
  still_call q19
  iterate 11 still_step
  still_call q7
  still_step
  still_call q18
  iterate 12 still_step
  clear s16 s7 q17 q19 q7 q18
  refine wpStill_nil ?_
  go_wp2
  have e8 := shr32 x15 3
  have e10 := shr32 x2 10
  rw [show (2 : Int) ^ 3 = 8 from rfl] at e8
  rw [show (2 : Int) ^ 10 = 1024 from rfl] at e10
  rw [e8, e10, xor32, xor32, xor32, xor32, add32_4]
  refine ⟨⟨t + 1, by omega, ⟨rfl, rfl, rfl, rfl, by show Value.int .i64 ((t : Int) + 1) = _; go_num, rfl, rfl, rfl, rfl, trivial⟩, hW2.but ((But.refl gw w5).setCell t _) hgw, ?_⟩, ?_⟩
  · have h := hS2.set t (wcell (shaNext (shaSpread bk t) t))
    rw [spreadTo_next bk t (by omega) _ (by rw [if_neg (by omega)]), HX2.out] at h
    rw [next_eq]
    exact h
  · show 64 - ((t : Int) + 1).toNat < 64 - ((t : Int)).toNat
    omega
/-- Behind the second loop. -/
def X2 (w : World) (gk gh gm cm N gw p0 : Nat) (hs : List Value) (ms bk : List UInt8) (a : Act) (wr : World) : Prop :=
  Fr 271 ([(6, .int .i64 (p0 : Int)), (7, .slice (some ⟨gw, 0, none⟩) 64 64)] ++ baseSlots w gk gh gm cm N) a ∧ RW w wr gk gh gm hs ms ∧ Cells wr gw (spreadTo bk 64) 61
set_option maxRecDepth 100000 in
set_option maxHeartbeats 4000000 in
theorem loop2 (w wr : World) (gk gh gm cm N gw p0 : Nat) (hs : List Value) (ms bk : List UInt8) (a : Act) (Q0 : Exit → Act → World → Prop) (hN : N ≤ 20000) (hml : ms.length = 64 * N) (hp : p0 + 64 ≤ 64 * N) (hgw : gm < gw) (hbk : bk = (ms.drop p0).take 64)
    (hI : I2 w gk gh gm cm N gw p0 hs ms bk a wr) (hX : ∀ a wr, X2 w gk gh gm cm N gw p0 hs ms bk a wr → Q0 (.exit 2) a wr) : Code.wp Tryd.prog (Code.loop (refBody 1)) Q0 a wr := by
  refine wp_loop (I2 w gk gh gm cm N gw p0 hs ms bk) mu2 hI ?_
  clear hI a wr
  rintro a wr ⟨t, ht, hF, hW, hS⟩
  by_cases h1 : t < 16
  · exact round2a w wr gk gh gm cm N gw p0 t hs ms bk a Q0 hN hml hp hgw hbk h1 hF hW hS
  by_cases h2 : t < 64
  · exact round2b w wr gk gh gm cm N gw p0 t hs ms bk a Q0 hgw (by omega) h2 hF hW hS
  obtain rfl : t = 64 := by omega
  have HX := Lib.hid hX
  clear hX
  obtain ⟨hs0, hd0, h6, h7, h8, h2, h3, h4, h5, _⟩ := hF
  obtain ⟨u, rfl⟩ := frame271 a hs0 hd0
  clear hs0 hd0
  change u 6 = _ at h6
  change u 7 = _ at h7
  change u 8 = _ at h8
  change u 2 = _ at h2
  change u 3 = _ at h3
  change u 4 = _ at h4
  change u 5 = _ at h5
  rw [h6, h7, h8, h2, h3, h4, h5]
  clear h6 h7 h8 h2 h3 h4 h5
  conv => arg 2; whnf
  go_wp2
  exact HX.out _ _ ⟨⟨rfl, rfl, rfl, rfl, rfl, rfl, rfl, rfl, trivial⟩, hW, hS⟩
end Go.Proofs.YtmhelmmonkgmmaaDoor
namespace Go.Proofs.YtmhelmmonkgmmaaDoor
open Go.RowKit
/-- At the third loop's head: k rounds are done. -/
def I3 (w : World) (gk gh gm cm N gw p0 : Nat) (oo : Oct) (ws : List (BitVec 32)) (ms : List UInt8) (a : Act) (wr : World) : Prop :=
  ∃ k : Nat, k ≤ 64 ∧ Fr 271 ([(6, .int .i64 (p0 : Int)), (7, .slice (some ⟨gw, 0, none⟩) 64 64), (20, .int .i64 (k : Int)), (12, wcell (shaRounds oo ws k).a), (13, wcell (shaRounds oo ws k).b), (14, wcell (shaRounds oo ws k).c), (15, wcell (shaRounds oo ws k).d), (16, wcell (shaRounds oo ws k).e), (17, wcell (shaRounds oo ws k).f), (18, wcell (shaRounds oo ws k).g), (19, wcell (shaRounds oo ws k).h)] ++ baseSlots w gk gh gm cm N) a ∧ RW w wr gk gh gm (oo.list.map wcell) ms ∧ Cells wr gw (ws.map wcell) 61
def mu3 (a : Act) (_ : World) : Nat := 64 - (intOf (a.tmps.getD 20 undef)).toNat
set_option maxRecDepth 100000 in
set_option maxHeartbeats 4000000 in
theorem round3 (w wr : World) (gk gh gm cm N gw p0 k : Nat) (oo : Oct) (ws : List (BitVec 32)) (ms : List UInt8) (a : Act) (Q0 : Exit → Act → World → Prop) (hws : ws.length = 64) (hk : k < 64)
    (hF : Fr 271 ([(6, .int .i64 (p0 : Int)), (7, .slice (some ⟨gw, 0, none⟩) 64 64), (20, .int .i64 (k : Int)), (12, wcell (shaRounds oo ws k).a), (13, wcell (shaRounds oo ws k).b), (14, wcell (shaRounds oo ws k).c), (15, wcell (shaRounds oo ws k).d), (16, wcell (shaRounds oo ws k).e), (17, wcell (shaRounds oo ws k).f), (18, wcell (shaRounds oo ws k).g), (19, wcell (shaRounds oo ws k).h)] ++ baseSlots w gk gh gm cm N) a) (hW : RW w wr gk gh gm (oo.list.map wcell) ms) (hS : Cells wr gw (ws.map wcell) 61) :
    Code.wp Tryd.prog (refBody 2) (Exit.then (fun a' w' => I3 w gk gh gm cm N gw p0 oo ws ms a' w' ∧ mu3 a' w' < mu3 a wr) Q0) a wr := by
  have cK := hW.ks.get (list_at shaK k hk)
  have cW := hS.get (list_at ws k (by rw [hws]; exact hk))
  have HRD : Hid (shaRounds oo ws (k + 1) = shaRound (shaRounds oo ws k) (shaK.getD k 0) (ws.getD k 0)) := rfl
  clear hws
  generalize shaRounds oo ws k = q at *
  generalize ws.getD k 0 = xw at *
  generalize shaK.getD k 0 = xk at *
  have i1 : (0 : Int) ≤ (k : Int) := by omega
  have i2 : (k : Int) < 64 := by omega
  obtain ⟨hs0, hd0, h6, h7, h20, h12, h13, h14, h15, h16, h17, h18, h19, h2, h3, h4, h5, _⟩ := hF
  obtain ⟨u, rfl⟩ := frame271 a hs0 hd0
  clear hs0 hd0
  change u 6 = _ at h6
  change u 7 = _ at h7
  change u 20 = _ at h20
  change u 12 = _ at h12
  change u 13 = _ at h13
  change u 14 = _ at h14
  change u 15 = _ at h15
  change u 16 = _ at h16
  change u 17 = _ at h17
  change u 18 = _ at h18
  change u 19 = _ at h19
  change u 2 = _ at h2
  change u 3 = _ at h3
  change u 4 = _ at h4
  change u 5 = _ at h5
  rw [h6, h7, h20, h12, h13, h14, h15, h16, h17, h18, h19, h2, h3, h4, h5]
  clear h6 h7 h20 h12 h13 h14 h15 h16 h17 h18 h19 h2 h3 h4 h5
  conv => arg 2; whnf
  go_wp2_with fail
  go_quiet ((go_at_call 33; exact Calls.quiet_of_same (turn_at _ _ _ (by omega) (by omega))))
  go_wp2_with (go_at_call 33; refine (turn_in _ _ _ (by omega) (by omega)).mono ?_; rintro e w' ⟨rfl, rfl⟩)
  rw [ref_a, ref_e]
  refine ⟨⟨k + 1, by omega, ⟨rfl, rfl, rfl, rfl, by show Value.int .i64 ((k : Int) + 1) = _; go_num, by rw [HRD.out]; rfl, by rw [HRD.out]; rfl, by rw [HRD.out]; rfl, by rw [HRD.out]; rfl, by rw [HRD.out]; rfl, by rw [HRD.out]; rfl, by rw [HRD.out]; rfl, by rw [HRD.out]; rfl, rfl, rfl, rfl, rfl, trivial⟩, hW.drewN nq, hS⟩, ?_⟩
  show 64 - ((k : Int) + 1).toNat < 64 - ((k : Int)).toNat
  omega
/-- Behind the third loop. -/
def X3 (w : World) (gk gh gm cm N gw p0 : Nat) (oo q : Oct) (ws : List (BitVec 32)) (ms : List UInt8) (a : Act) (wr : World) : Prop :=
  Fr 271 ([(6, .int .i64 (p0 : Int)), (7, .slice (some ⟨gw, 0, none⟩) 64 64), (12, wcell q.a), (13, wcell q.b), (14, wcell q.c), (15, wcell q.d), (16, wcell q.e), (17, wcell q.f), (18, wcell q.g), (19, wcell q.h)] ++ baseSlots w gk gh gm cm N) a ∧ RW w wr gk gh gm (oo.list.map wcell) ms ∧ Cells wr gw (ws.map wcell) 61
set_option maxRecDepth 100000 in
set_option maxHeartbeats 4000000 in
theorem loop3 (w wr : World) (gk gh gm cm N gw p0 : Nat) (oo : Oct) (ws : List (BitVec 32)) (ms : List UInt8) (a : Act) (Q0 : Exit → Act → World → Prop) (hws : ws.length = 64)
    (hI : I3 w gk gh gm cm N gw p0 oo ws ms a wr) (hX : ∀ a wr, X3 w gk gh gm cm N gw p0 oo (shaRounds oo ws 64) ws ms a wr → Q0 (.exit 4) a wr) : Code.wp Tryd.prog (Code.loop (refBody 2)) Q0 a wr := by
  refine wp_loop (I3 w gk gh gm cm N gw p0 oo ws ms) mu3 hI ?_
  clear hI a wr
  rintro a wr ⟨k, hk, hF, hW, hS⟩
  by_cases h1 : k < 64
  · exact round3 w wr gk gh gm cm N gw p0 k oo ws ms a Q0 hws h1 hF hW hS
  obtain rfl : k = 64 := by omega
  have HX := Lib.hid hX
  clear hX hws
  generalize shaRounds oo ws 64 = q at *
  obtain ⟨hs0, hd0, h6, h7, h20, h12, h13, h14, h15, h16, h17, h18, h19, h2, h3, h4, h5, _⟩ := hF
  obtain ⟨u, rfl⟩ := frame271 a hs0 hd0
  clear hs0 hd0
  change u 6 = _ at h6
  change u 7 = _ at h7
  change u 20 = _ at h20
  change u 12 = _ at h12
  change u 13 = _ at h13
  change u 14 = _ at h14
  change u 15 = _ at h15
  change u 16 = _ at h16
  change u 17 = _ at h17
  change u 18 = _ at h18
  change u 19 = _ at h19
  change u 2 = _ at h2
  change u 3 = _ at h3
  change u 4 = _ at h4
  change u 5 = _ at h5
  rw [h6, h7, h20, h12, h13, h14, h15, h16, h17, h18, h19, h2, h3, h4, h5]
  clear h6 h7 h20 h12 h13 h14 h15 h16 h17 h18 h19 h2 h3 h4 h5
  conv => arg 2; whnf
  go_wp2
  exact HX.out _ _ ⟨⟨rfl, rfl, rfl, rfl, rfl, rfl, rfl, rfl, rfl, rfl, rfl, rfl, rfl, rfl, rfl, rfl, trivial⟩, hW, hS⟩
end Go.Proofs.YtmhelmmonkgmmaaDoor
namespace Go.Proofs.YtmhelmmonkgmmaaDoor
open Go.RowKit
/-- At the fourth loop's head: k words are added. -/
def I4 (w : World) (gk gh gm cm N gx p0 : Nat) (oo q : Oct) (ms : List UInt8) (a : Act) (wr : World) : Prop :=
  ∃ k : Nat, k ≤ 8 ∧ Fr 271 ([(6, .int .i64 (p0 : Int)), (220, .slice (some ⟨gx, 0, none⟩) 8 8), (221, .int .i64 8), (222, .int .i64 (k : Int))] ++ baseSlots w gk gh gm cm N) a ∧ RW w wr gk gh gm (sumTo oo q k) ms ∧ Cells wr gx (q.list.map wcell) 61
def mu4 (a : Act) (_ : World) : Nat := 8 - (intOf (a.tmps.getD 222 undef)).toNat
set_option maxRecDepth 100000 in
set_option maxHeartbeats 4000000 in
theorem round4 (w wr : World) (gk gh gm cm N gx p0 k : Nat) (oo q : Oct) (ms : List UInt8) (a : Act) (Q0 : Exit → Act → World → Prop) (hk : k < 8) (hgx : gm < gx)
    (hF : Fr 271 ([(6, .int .i64 (p0 : Int)), (220, .slice (some ⟨gx, 0, none⟩) 8 8), (221, .int .i64 8), (222, .int .i64 (k : Int))] ++ baseSlots w gk gh gm cm N) a) (hW : RW w wr gk gh gm (sumTo oo q k) ms) (hG : Cells wr gx (q.list.map wcell) 61) :
    Code.wp Tryd.prog (refBody 3) (Exit.then (fun a' w' => I4 w gk gh gm cm N gx p0 oo q ms a' w' ∧ mu4 a' w' < mu4 a wr) Q0) a wr := by
  have cG := hG.get (oct_at q k hk)
  have cH := hW.ch.get (show (sumTo oo q k)[k]? = some (wcell (oo.list.getD k 0)) by simpa using sumTo_at oo q k hk [])
  have fH := hW.ch.frozen k
  have HE : Hid ((sumTo oo q k).set k (wcell (oo.list.getD k 0 + q.list.getD k 0)) = sumTo oo q (k + 1)) := by
    have e := sumTo_next oo q k hk []
    rw [List.append_nil, List.append_nil] at e
    exact e
  generalize oo.list.getD k 0 = x at *
  generalize q.list.getD k 0 = y at *
  have i1 : (0 : Int) ≤ (k : Int) := by omega
  have i2 : (k : Int) < 8 := by omega
  obtain ⟨hs0, hd0, h6, h220, h221, h222, h2, h3, h4, h5, _⟩ := hF
  obtain ⟨u, rfl⟩ := frame271 a hs0 hd0
  clear hs0 hd0
  change u 6 = _ at h6
  change u 220 = _ at h220
  change u 221 = _ at h221
  change u 222 = _ at h222
  change u 2 = _ at h2
  change u 3 = _ at h3
  change u 4 = _ at h4
  change u 5 = _ at h5
  rw [h6, h220, h221, h222, h2, h3, h4, h5]
  clear h6 h220 h221 h222 h2 h3 h4 h5
  conv => arg 2; whnf
  go_wp2
  rw [add32]
  have hc := hW.chain k (wcell (x + y))
  rw [HE.out] at hc
  have h1 := hW.o3
  refine ⟨⟨k + 1, by omega, ⟨rfl, rfl, rfl, rfl, rfl, by show Value.int .i64 ((k : Int) + 1) = _; go_num, rfl, rfl, rfl, rfl, trivial⟩, hc, hG.other (by show gx ≠ gh; omega) _⟩, ?_⟩
  show 8 - ((k : Int) + 1).toNat < 8 - ((k : Int)).toNat
  omega
/-- Behind the fourth loop. -/
def X4 (w : World) (gk gh gm cm N p0 : Nat) (oo q : Oct) (ms : List UInt8) (a : Act) (wr : World) : Prop :=
  Fr 271 ([(6, .int .i64 (p0 : Int))] ++ baseSlots w gk gh gm cm N) a ∧ RW w wr gk gh gm ((oo.plus q).list.map wcell) ms
set_option maxRecDepth 100000 in
set_option maxHeartbeats 4000000 in
theorem loop4 (w wr : World) (gk gh gm cm N gx p0 : Nat) (oo q : Oct) (ms : List UInt8) (a : Act) (Q0 : Exit → Act → World → Prop) (hgx : gm < gx)
    (hI : I4 w gk gh gm cm N gx p0 oo q ms a wr) (hX : ∀ a wr, X4 w gk gh gm cm N p0 oo q ms a wr → Q0 (.exit 6) a wr) : Code.wp Tryd.prog (Code.loop (refBody 3)) Q0 a wr := by
  refine wp_loop (I4 w gk gh gm cm N gx p0 oo q ms) mu4 hI ?_
  clear hI a wr
  rintro a wr ⟨k, hk, hF, hW, hG⟩
  by_cases h1 : k < 8
  · exact round4 w wr gk gh gm cm N gx p0 k oo q ms a Q0 h1 hgx hF hW hG
  obtain rfl : k = 8 := by omega
  have HX := Lib.hid hX
  clear hX
  obtain ⟨hs0, hd0, h6, h220, h221, h222, h2, h3, h4, h5, _⟩ := hF
  obtain ⟨u, rfl⟩ := frame271 a hs0 hd0
  clear hs0 hd0
  change u 6 = _ at h6
  change u 220 = _ at h220
  change u 221 = _ at h221
  change u 222 = _ at h222
  change u 2 = _ at h2
  change u 3 = _ at h3
  change u 4 = _ at h4
  change u 5 = _ at h5
  rw [h6, h220, h221, h222, h2, h3, h4, h5]
  clear h6 h220 h221 h222 h2 h3 h4 h5
  conv => arg 2; whnf
  go_wp2
  exact HX.out _ _ ⟨⟨rfl, rfl, rfl, rfl, rfl, rfl, rfl, trivial⟩, hW⟩
end Go.Proofs.YtmhelmmonkgmmaaDoor
