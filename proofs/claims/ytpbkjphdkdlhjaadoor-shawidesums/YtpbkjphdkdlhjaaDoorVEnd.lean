/- The chain's digest, a message's end, and how many blocks a message has. -/
import Derived.Test.YtpbkjphdkdlhjaaDoorVBlock
import Derived.Test.YtpbkjphdkdlhjaaDoorWNum
namespace Go.Proofs.YtpbkjphdkdlhjaaDoor
open Go.RowKit
theorem digest64_next (l : List (BitVec 64)) (k : Nat) (hk : k < l.length) (hl : l.length = 8) :
    splice ((words8 (l.take k)).map cellOf ++ List.replicate (64 - 8 * k) (cellOf 0)) (8 * k) ((word8 l[k]).map cellOf) = (words8 (l.take (k + 1))).map cellOf ++ List.replicate (64 - 8 * (k + 1)) (cellOf 0) := by
  have e := splice_mid ((words8 (l.take k)).map cellOf) (List.replicate (64 - 8 * k) (cellOf 0)) [] ((word8 l[k]).map cellOf) 0 (by rw [List.length_map, word8_length, List.length_replicate]; omega)
  rw [List.append_nil, List.append_nil, Nat.add_zero, List.length_map, words8_length, List.length_take, Nat.min_eq_left (by omega), List.length_map, word8_length, List.take_zero, List.nil_append, List.drop_replicate] at e
  rw [e, take_snoc l k hk, words8_snoc, List.map_append, List.append_assoc]
  congr 3
theorem zero_wide : ∀ w, (zeroValue 26).run Tryd.prog w = .ok (.agg (List.replicate 64 (cellOf 0)).toArray) w := (zero_of_info (P := Tryd.prog) (t := 26) (v := .agg (List.replicate 64 (cellOf 0)).toArray) (n := 64) (by kernel_rfl)).1
theorem size_wide : (Tryd.prog.info? 26).map (·.size) = some 64 := by kernel_rfl
/-- 'out[l:]' of a digest of 64 bytes. -/
theorem wide_cut (g l : Nat) (w : World) (h1 : l < 64) :
    (Instr.sliceAt 26 (.pointer (some ⟨g, 0, none⟩)) (some (.int .i64 (l : Int))) none none).run Tryd.prog w = .ok (.slice (some ⟨g, l, none⟩) (64 - l) (64 - l)) w := by
  obtain ⟨i0, hi0, hs0⟩ := Option.map_eq_some_iff.1 size_u8
  have h4 : (l : Int) ≤ 64 := by omega
  have h5 : ¬ 64 = l := by omega
  simp [Instr.sliceAt, Instr.sureAddr, run_underlying Tryd.underlying26, Instr.sliceBounds, run_sliceBound, sizeOf, typeInfo, hi0, hs0, h4, h5, Addr.add]
  exact fun e => e.symm
set_option maxRecDepth 100000 in
theorem digest64_any (o : Wct) (ls : List Value) (w : World) (hl : ls = chainVal o) :
    Calls Tryd.prog 15 #[.agg ls.toArray] w fun e w' => e = .returned (hashVal (words8 o.list)) ∧ Below w.heap.size w w' := by
  have HL := Lib.hid hl
  have HZ : Hid (ls.length = 8) := by show _ = _; rw [hl]; rfl
  have HS : Hid (ls.toArray.size = 8) := by show _ = _; rw [List.size_toArray, HZ.out]
  have hil : (Tryd.prog.info? 42).map (·.size) = some ls.toArray.size := by rw [HS.out]; exact size_chain
  clear hl
  go_enter Tryd.func15, Tryd.ntmps15
  go_wp2_with (first
    | (refine box_step rfl 42 _ rfl ls.toArray rfl ?_
       intro w1 hw1
       have hB1 : Below w.heap.size w w1 := by rw [hw1]; exact (Below.refl _ _).alloc (Nat.le_refl _) _
       have hC1 : Cells w1 w.heap.size ls 42 := by rw [hw1]; exact Cells.new w _ _
       have hs1 : w1.heap.size = w.heap.size + 1 := by rw [hw1]; simp
       clear hw1)
    | (refine alloc_step rfl 26 rfl _ zero_wide ?_
       first
       | (intro w2 hw2
          have hB2 : Below w.heap.size w w2 := by rw [hw2]; exact hB1.alloc hB1.size _
          have hC2 : Cells w2 w.heap.size ls 42 := by rw [hw2]; exact hC1.alloc _
          have hR2 : Cells w2 (w.heap.size + 1) (List.replicate 64 (cellOf 0)) 26 := by rw [hw2, ← hs1]; exact Cells.new w1 _ _
          have hs2 : w2.heap.size = w.heap.size + 2 := by rw [hw2]; simp [hs1]
          rw [hs1]
          clear hw2 hB1 hC1)
       | (intro w3 hw3
          have hB3 : Below w.heap.size w w3 := by rw [hw3]; exact hB2.alloc hB2.size _
          have hC3 : Cells w3 w.heap.size ls 42 := by rw [hw3]; exact hC2.alloc _
          have hR3 : Cells w3 (w.heap.size + 1) (List.replicate 64 (cellOf 0)) 26 := by rw [hw3]; exact hR2.alloc _
          have hD3 : Cells w3 (w.heap.size + 2) (List.replicate 64 (cellOf 0)) 26 := by rw [hw3, ← hs2]; exact Cells.new w2 _ _
          rw [hs2]
          clear hw3 hB2 hC2 hR2 hs1 hs2))
    | (refine wpList_load_row rfl 42 _ rfl w.heap.size rfl 42 _ (0, 0) _ hC3 Tryd.underlying42 rfl hil ?_))
  clear hC3
  have HO : Hid (o.list.length = 8) := rfl
  have HC : Hid (ls = o.list.map vcell) := HL.out
  clear HL
  generalize hol : o.list = l at *
  replace hol := Lib.hid hol
  go_loopw [7] (fun i wr => ∃ k : Nat, k ≤ 8 ∧ i = .int .i64 k ∧ Below w.heap.size w wr ∧ Cells wr (w.heap.size + 1) (List.replicate 64 (cellOf 0)) 26 ∧ Cells wr (w.heap.size + 2) ((words8 (l.take k)).map cellOf ++ List.replicate (64 - 8 * k) (cellOf 0)) 26) (fun i _ => 8 - (intOf i).toNat)
  case atStart => exact ⟨0, Nat.zero_le _, rfl, hB3, hR3, hD3⟩
  case round =>
    clear hB3 hR3 hD3
    obtain ⟨k, hk, rfl, hB, hR, hS⟩ := hrel
    by_cases hlt : k < 8
    · have hlt2 : k < l.length := by rw [HO.out]; exact hlt
      have hix := run_index_int (P := Tryd.prog) (t := 42) ls k (vcell l[k]) wr Tryd.underlying42 Tryd.underlying40 size_u64 hlt (by rw [HC.out, List.getElem?_map, List.getElem?_eq_getElem hlt2]; rfl)
      have hcut := wide_cut (w.heap.size + 2) (8 * k) wr (by omega)
      rw [show ((8 * k : Nat) : Int) = 8 * (k : Int) by omega] at hcut
      have HD := Lib.hid (digest64_next l k hlt2 HO.out)
      have HE : Hid (((words8 (l.take k)).map cellOf ++ List.replicate (64 - 8 * k) (cellOf 0)).length = 64) := by
        show _ = _
        rw [List.length_append, List.length_map, words8_length, List.length_take, HO.out, List.length_replicate]; omega
      generalize l[k] = x at *
      go_wp2_with fail
      refine (widePutBig_any (w.heap.size + 2) (8 * k) _ _ x.toNat _ _ wr hS (by have := x.isLt; omega) (by omega) (by rw [HE.out]; omega)).mono ?_
      rintro e w1 ⟨rfl, hB1, hC1⟩
      go_wp2
      go_roundw
      case rel =>
        refine ⟨k + 1, by omega, by go_num, hB.trans (hB1.below (by omega) hB.size), hR.but hB1 (by omega), ?_⟩
        rw [← HD.out]
        exact hC1
      case measure => simp [intOf]; omega
    · obtain rfl : k = 8 := by omega
      have HV : Hid ((words8 (l.take 8)).map cellOf ++ List.replicate (64 - 8 * 8) (cellOf 0) = (words8 l).map cellOf) := by
        show _ = _
        rw [List.take_of_length_le (by rw [HO.out]; omega)]; simp
      have HW : Hid (((words8 l).map cellOf).length = 64) := by show _ = _; rw [List.length_map, words8_length, HO.out]
      rw [HV.out] at hS
      have HP : Hid (∀ v ∈ (words8 l).map cellOf, v.oneCell' = true) := cells8_one _
      generalize hvs : (words8 l).map cellOf = vs at *
      replace hvs := Lib.hid hvs
      have HS2 : Hid (vs.toArray.size = 64) := by show _ = _; rw [List.size_toArray, HW.out]
      have hi : (Tryd.prog.info? 26).map (·.size) = some vs.toArray.size := by rw [HS2.out]; exact size_wide
      have hT : wr.there (w.heap.size + 1) 0 vs.toArray.size := by rw [HS2.out]; exact hR.there 0 64 (by simp)
      go_wp2_with (first
        | (refine wpList_load_row rfl 26 _ rfl (w.heap.size + 2) rfl 26 _ (0, 0) _ hS Tryd.underlying26 rfl hi ?_)
        | (refine wpList_store_mid rfl 26 _ _ rfl (w.heap.size + 1) 0 vs.toArray rfl rfl hT hi (all_oneCell_toArray HP.out) ?_))
      have hC := hR.setCells (cs := vs) (o := 0) (by simp [HW.out])
      rw [splice_all _ _ (by simp [HW.out])] at hC
      refine ret_block Tryd.results15 (w.heap.size + 1) vs 26 rfl hC Tryd.underlying26 rfl (by simpa using hi) rfl ⟨by rw [← hvs.out, ← hol.out]; rfl, below_setCells hB (by omega) _ _⟩
theorem withEnd_any (n : Nat) (w : World) (hn : n ≤ 1000000) :
    Calls Tryd.prog 18 #[.int .i64 (n : Int)] w fun e w' => e = .returned (.int .i64 ((n + (widPad n + 16) : Nat) : Int)) ∧ w = w' := by
  have HE := Lib.hid (widEnd_with n)
  go_enter Tryd.func18, Tryd.ntmps18
  go_wp2
  go_ret
  refine ⟨ret_int ?_, rfl⟩
  have := HE.out
  omega
theorem wideBlocks_in (n : Nat) (w : World) (hn : n ≤ 65536) :
    Calls Tryd.prog 9 #[.int .i64 (n : Int)] w fun e w' => e = .returned (.tuple #[.int .i64 (((n + (widPad n + 16) : Nat) : Int) / 128), .nilIface]) ∧ w = w' := by
  have h1 : (0 : Int) ≤ (n : Int) := by omega
  have h2 : ¬ (65536 : Int) < (n : Int) := by omega
  have h3 : ¬ (n : Int) < 0 := by omega
  have HW := Lib.hid (withEnd_any n w (by omega))
  have hp := widPad_pos n
  generalize hm : n + (widPad n + 16) = m at *
  have hm2 : m ≤ 70000 := by omega
  clear hm hp
  go_enter Tryd.func9, Tryd.ntmps9
  go_wp2_with fail
  refine HW.out.mono ?_
  rintro e w' ⟨rfl, rfl⟩
  go_wp2
  go_ret2
  exact ⟨rfl, rfl⟩
theorem wideBlocks_out (n : Int) (E : Value) (w : World) (hn : n < 0 ∨ 65536 < n) (hE : w.cell? ⟨1, 0, none⟩ = some E) :
    Calls Tryd.prog 9 #[.int .i64 n] w fun e w' => e = .returned (.tuple #[.int .i64 0, E]) ∧ ∃ k, w' = w.drewN k := by
  rcases hn with hn | hn
  · go_enter Tryd.func9, Tryd.ntmps9
    go_wp2
    go_quiet (fail)
    go_wp2
    go_ret2
    exact ⟨rfl, nq, rfl⟩
  · have h0 : ¬ n < 0 := by omega
    go_enter Tryd.func9, Tryd.ntmps9
    go_wp2
    go_quiet (fail)
    go_wp2
    go_ret2
    exact ⟨rfl, nq, rfl⟩
/-- The end's room: a bit of 1, and noughts. -/
def wideTail (p : Nat) : List Value := cellOf 128 :: List.replicate (p + 15) (cellOf 0)
theorem wideTail_length (p : Nat) : (wideTail p).length = p + 16 := by simp [wideTail]
theorem wideTail_is (n : Nat) : splice (splice (wideTail (widPad n)) (widPad n) (bigCells 0 8)) (widPad n + 8) (bigCells (8 * n) 8) = (widEnd n).map cellOf := by
  have hp := widPad_pos n
  have hb : ∀ x, (bigCells x 8).length = 8 := fun x => by simp [bigCells, putL_length]
  have hz : bigCells 0 8 = List.replicate 8 (cellOf 0) := by rfl
  obtain ⟨m, hm⟩ : ∃ m, widPad n = m + 1 := ⟨widPad n - 1, by omega⟩
  have e1 : (wideTail (widPad n)).take (widPad n) = cellOf 128 :: List.replicate (widPad n - 1) (cellOf 0) := by
    rw [hm, wideTail, List.take_succ_cons, List.take_replicate, Nat.min_eq_left (by omega), Nat.add_sub_cancel]
  have e2 : (wideTail (widPad n)).drop (widPad n + 8) = List.replicate 8 (cellOf 0) := by
    rw [hm, wideTail, show m + 1 + 8 = (m + 8) + 1 by omega, List.drop_succ_cons, List.drop_replicate]
    congr 1; omega
  have e3 : splice (wideTail (widPad n)) (widPad n) (bigCells 0 8) = (cellOf 128 :: List.replicate (widPad n - 1) (cellOf 0) ++ List.replicate 8 (cellOf 0)) ++ List.replicate 8 (cellOf 0) := by
    rw [splice, hb, e1, e2, hz]
  rw [e3]
  have hl : (cellOf 128 :: List.replicate (widPad n - 1) (cellOf 0) ++ List.replicate 8 (cellOf 0)).length = widPad n + 8 := by simp; omega
  have e4 := splice_mid (cellOf 128 :: List.replicate (widPad n - 1) (cellOf 0) ++ List.replicate 8 (cellOf 0)) (List.replicate 8 (cellOf 0)) [] (bigCells (8 * n) 8) 0 (by rw [hb]; simp)
  rw [List.append_nil, Nat.add_zero, hl] at e4
  rw [e4]
  simp [widEnd, bigCells, putL_length]
set_option maxRecDepth 100000 in
theorem wideEnd_any (n : Nat) (w : World) (hn : n ≤ 900000) :
    Calls Tryd.prog 21 #[.int .i64 (n : Int)] w fun e w' => e = .returned (.slice (some ⟨w.heap.size, 0, none⟩) (widPad n + 16) (widPad n + 16)) ∧ Below w.heap.size w w' ∧ Made w' w.heap.size (widEnd n) := by
  have hp := widPad_pos n
  have HT := Lib.hid (wideTail_is n)
  have HW := Lib.hid (withEnd_any n w (by omega))
  have HLen := Lib.hid (wideTail_length (widPad n))
  generalize hpad : widPad n = p at *
  replace hpad := Lib.hid hpad
  generalize htt : n + (p + 16) = tt at *
  generalize hm : p + 16 = m at *
  have hsub : (tt : Int) - (n : Int) = (m : Int) := by omega
  have hsub2 : (m : Int) - 16 = (p : Int) := by omega
  have htt2 : tt ≤ 2000000 := by omega
  have hm2 : m ≤ 144 := by omega
  have hm3 : 17 ≤ m := by omega
  have hp2 : p ≤ m := by omega
  replace htt := Lib.hid htt
  replace hm := Lib.hid hm
  have hz : n / 2305843009213693952 = 0 := by omega
  have hz2 : (n : Int) / 2305843009213693952 = 0 := by omega
  have hz3 : (n : Int) * 8 % 18446744073709551616 = ((8 * n : Nat) : Int) := by omega
  have HX : Hid (((List.replicate m (0 : UInt8)).map cellOf).set 0 (cellOf 128) = wideTail p) := by
    show _ = _
    rw [← hm.out, List.map_replicate, show p + 16 = (p + 15) + 1 by omega, List.replicate_succ, wideTail]
    rfl
  have i1 : ¬ m = p := by have := hm.out; omega
  have i2 : m - p = 16 := by have := hm.out; omega
  have i3 : (0 : Int) < (m : Int) := by omega
  go_enter Tryd.func21, Tryd.ntmps21
  go_wp2_with fail
  refine HW.out.mono ?_
  rintro e w' ⟨rfl, rfl⟩
  go_wp2_with (first
    | (refine make_step rfl _ _ rfl m m rfl rfl (Nat.le_refl _) (by omega) ?_
       intro w1 hB1 hM1 hs1
       have hC1 := hM1.cells
       have hT1 := hC1.there 0 1 (by rw [List.length_map, List.length_replicate]; omega))
    | (refine store_step rfl 5 _ _ rfl w.heap.size 0 .u8 128 rfl rfl size_u8 hT1 ?_
       intro w2 hw2
       have hB2 : Below w.heap.size w w2 := by rw [hw2]; exact hB1.setCell (Nat.le_refl _) _
       have hC2 : Cells w2 w.heap.size (wideTail p) 5 := by rw [hw2, ← HX.out]; exact hC1.set 0 (cellOf 128)
       clear hw2 hB1 hM1 hC1 hT1 hs1)
    | (refine cut_from rfl _ _ rfl (some ⟨w.heap.size, 0, none⟩) m m p rfl rfl hp2 ?_
       rw [cutA_some _ _ _ _ i1, Nat.zero_add, i2]))
  refine (widePutBig_any w.heap.size p 16 16 0 _ _ w2 hC2 (by omega) (by omega) (by rw [HLen.out, ← hm.out]; omega)).mono ?_
  rintro e w3 ⟨rfl, hB3, hC3⟩
  have hB4 := hB2.trans (hB3.below (Nat.le_refl _) hB2.size)
  clear hB2 hC2 hB3
  go_wp2_with fail
  rw [show (n : Int) * 8 = ((8 * n : Nat) : Int) by omega]
  refine (widePutBig_any w.heap.size (p + 8) 8 8 (8 * n) _ _ w3 hC3 (by omega) (by omega) (by
    rw [splice_length _ _ _ (by rw [HLen.out, ← hm.out]; simp [bigCells, putL_length]), HLen.out, ← hm.out]; omega)).mono ?_
  rintro e w4 ⟨rfl, hB5, hC5⟩
  rw [HT.out] at hC5
  have hB6 := hB4.trans (hB5.below (Nat.le_refl _) hB4.size)
  go_wp2
  go_ret
  exact ⟨rfl, hB6, hC5⟩
end Go.Proofs.YtpbkjphdkdlhjaaDoor
