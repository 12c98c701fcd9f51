/- putBig, digest, end, and a hash's Sum. -/
import Derived.Test.YtmhelmmonkgmmaaDoorSSum
namespace Go.Proofs.YtmhelmmonkgmmaaDoor
open Go.RowKit
set_option maxRecDepth 100000 in
theorem shaPutBig_any (g off len cap x n : Nat) (vs : List Value) (t : TypeId) (w : World) (hC : Cells w g vs t) (hx : x < 18446744073709551616) (hn : n ≤ 8) (hl : n ≤ len) (ho : off + n ≤ vs.length) :
    Calls Tryd.prog 46 #[.slice (some ⟨g, off, none⟩) len cap, .int .u64 x, .int .i64 n] w fun e w' => e = .returned (.tuple #[]) ∧ But g w w' ∧ Cells w' g (splice vs off (bigCells x n)) t := by
  have HL : Hid ((putL x n).reverse.length = n) := by show _ = _; rw [List.length_reverse, putL_length]
  have HM : Hid (min n len = n) := by show _ = _; omega
  have HT : Hid ((putL x n).reverse.take len = (putL x n).reverse) := by show _ = _; rw [List.take_of_length_le (by rw [HL.out]; omega)]
  go_enter Tryd.func46, Tryd.ntmps46
  go_wp2_with fail
  refine (putBig_in x n w hx hn).mono ?_
  rintro e w1 ⟨rfl, hB1, hM1⟩
  have hC1 := hC.below hB1 hC.lt
  have hR1 := hM1.row hM1.lt
  have hT1 := hC1.there off n ho
  go_wp2_with (refine copy_row rfl (.tmp 14) (.tmp 15) rfl g off len cap n n w1.heap.size n _ (putL x n).reverse rfl rfl HL.out HM.out hR1 hT1 ?_
               intro w2 hw2
               rw [HT.out] at hw2
               have hB2 : But g w1 w2 := by rw [hw2]; exact (But.refl g w1).setCells _ _
               have hC2 : Cells w2 g (splice vs off (bigCells x n)) t := by rw [hw2]; exact hC1.setCells (by rw [List.length_map, HL.out]; exact ho)
               clear hw2)
  go_end0
  exact ⟨rfl, (But.of_below hB1).trans hB2, hC2⟩
theorem digest_next (l : List (BitVec 32)) (k : Nat) (hk : k < l.length) (hl : l.length = 8) :
    splice ((words4 (l.take k)).map cellOf ++ List.replicate (32 - 4 * k) (cellOf 0)) (4 * k) ((word4 l[k]).map cellOf) = (words4 (l.take (k + 1))).map cellOf ++ List.replicate (32 - 4 * (k + 1)) (cellOf 0) := by
  have e := splice_mid ((words4 (l.take k)).map cellOf) (List.replicate (32 - 4 * k) (cellOf 0)) [] ((word4 l[k]).map cellOf) 0 (by rw [List.length_map, word4_length, List.length_replicate]; omega)
  rw [List.append_nil, List.append_nil, Nat.add_zero, List.length_map, words4_length, List.length_take, Nat.min_eq_left (by omega), List.length_map, word4_length, List.take_zero, List.nil_append, List.drop_replicate] at e
  rw [e, take_snoc l k hk, words4_snoc, List.map_append, List.append_assoc]
  congr 3
theorem zeros32 : (List.replicate 32 (cellOf 0)).toArray = #[.int .u8 0, .int .u8 0, .int .u8 0, .int .u8 0, .int .u8 0, .int .u8 0, .int .u8 0, .int .u8 0, .int .u8 0, .int .u8 0, .int .u8 0, .int .u8 0, .int .u8 0, .int .u8 0, .int .u8 0, .int .u8 0, .int .u8 0, .int .u8 0, .int .u8 0, .int .u8 0, .int .u8 0, .int .u8 0, .int .u8 0, .int .u8 0, .int .u8 0, .int .u8 0, .int .u8 0, .int .u8 0, .int .u8 0, .int .u8 0, .int .u8 0, .int .u8 0] := by rfl
theorem zero_h32 : ∀ w, (zeroValue 30).run Tryd.prog w = .ok (.agg (List.replicate 32 (cellOf 0)).toArray) w := (zero_of_info (P := Tryd.prog) (t := 30) (v := .agg (List.replicate 32 (cellOf 0)).toArray) (n := 32) (by kernel_rfl)).1
theorem size_h32 : (Tryd.prog.info? 30).map (·.size) = some 32 := by kernel_rfl
set_option maxRecDepth 100000 in
theorem digest_any (g n : Nat) (o : Oct) (rest : List UInt8) (w : World) (hH : HashIs w g o rest n) :
    Calls Tryd.prog 43 #[.pointer (some ⟨g, 0, none⟩)] w fun e w' => e = .returned (.agg ((words4 o.list).map cellOf).toArray) ∧ Below w.heap.size w w' := by
  have hR := hH.2.range 0 8
  rw [hash_links] at hR
  go_enter Tryd.func43, Tryd.ntmps43
  have hR2 : ∀ (b1 b2 : Obj), ((w.alloc b1).alloc b2).rangeAt g 0 (o.list.map wcell) := fun b1 b2 => World.rangeAt_alloc (World.rangeAt_alloc hR b1) b2
  have HR2 := Lib.hid hR2
  clear hR2
  go_wp2_with (refine wpList_load_mid rfl 84 _ rfl g 0 rfl (o.list.map wcell) _ (HR2.out _ _) Tryd.underlying84 rfl size_eight ?_)
  rw [← zeros32]
  have hS : Below w.heap.size w ((w.alloc (.cells (List.replicate 32 (cellOf 0)).toArray 30)).alloc (.cells (List.replicate 32 (cellOf 0)).toArray 30)) ∧ Cells ((w.alloc (.cells (List.replicate 32 (cellOf 0)).toArray 30)).alloc (.cells (List.replicate 32 (cellOf 0)).toArray 30)) w.heap.size (List.replicate 32 (cellOf 0)) 30 ∧ Cells ((w.alloc (.cells (List.replicate 32 (cellOf 0)).toArray 30)).alloc (.cells (List.replicate 32 (cellOf 0)).toArray 30)) (w.heap.size + 1) (List.replicate 32 (cellOf 0)) 30 := by
    refine ⟨((Below.refl _ _).alloc (Nat.le_refl _) _).alloc (by simp) _, ?_, ?_⟩
    · have := (Cells.new w (List.replicate 32 (cellOf 0)).toArray 30).alloc (.cells (List.replicate 32 (cellOf 0)).toArray 30)
      simpa using this
    · have := Cells.new (w.alloc (.cells (List.replicate 32 (cellOf 0)).toArray 30)) (List.replicate 32 (cellOf 0)).toArray 30
      simpa using this
  generalize (w.alloc (.cells (List.replicate 32 (cellOf 0)).toArray 30)).alloc (.cells (List.replicate 32 (cellOf 0)).toArray 30) = w0 at *
  obtain ⟨hB0, hR0, hS0⟩ := hS
  have HO : Hid (o.list.length = 8) := rfl
  generalize hol : o.list = l at *
  replace hol := Lib.hid hol
  go_loopw [10] (fun i wr => ∃ k : Nat, k ≤ 8 ∧ i = .int .i64 k ∧ Below w.heap.size w wr ∧ Cells wr w.heap.size (List.replicate 32 (cellOf 0)) 30 ∧ Cells wr (w.heap.size + 1) ((words4 (l.take k)).map cellOf ++ List.replicate (32 - 4 * k) (cellOf 0)) 30) (fun i _ => 8 - (intOf i).toNat)
  case atStart => exact ⟨0, Nat.zero_le _, rfl, hB0, hR0, hS0⟩
  case round =>
    clear hB0 hR0 hS0
    obtain ⟨k, hk, rfl, hB, hR, hS⟩ := hrel
    by_cases hlt : k < 8
    · have hlt2 : k < l.length := by rw [HO.out]; exact hlt
      have hix := run_index_int (P := Tryd.prog) (t := 84) (l.map wcell) k (wcell l[k]) wr Tryd.underlying84 Tryd.underlying61 size_u32 hlt (by rw [List.getElem?_map, List.getElem?_eq_getElem hlt2]; rfl)
      have HD := Lib.hid (digest_next l k hlt2 HO.out)
      have HE : Hid (((words4 (l.take k)).map cellOf ++ List.replicate (32 - 4 * k) (cellOf 0)).length = 32) := by
        show _ = _
        rw [List.length_append, List.length_map, words4_length, List.length_take, HO.out, List.length_replicate]; omega
      generalize l[k] = x at *
      have i1 : (0 : Int) ≤ 4 * (k : Int) := by omega
      have i2 : 4 * (k : Int) ≤ 32 := by omega
      have i3 : 4 * k ≤ 32 := by omega
      have i4 : ¬ 32 = 4 * k := by omega
      go_wp2_with fail
      refine (shaPutBig_any (w.heap.size + 1) (4 * k) _ _ x.toNat 4 _ _ wr hS (by have := x.isLt; omega) (by omega) (by omega) (by rw [HE.out]; omega)).mono ?_
      rintro e w1 ⟨rfl, hB1, hC1⟩
      go_wp2
      go_roundw
      case rel =>
        refine ⟨k + 1, by omega, by go_num, hB.trans (hB1.below (by omega) hB.size), hR.but hB1 (by omega), ?_⟩
        rw [← HD.out]
        exact hC1
      case measure => simp [intOf]; omega
    · obtain rfl : k = 8 := by omega
      have HV : Hid ((words4 (l.take 8)).map cellOf ++ List.replicate (32 - 4 * 8) (cellOf 0) = (words4 l).map cellOf) := by
        show _ = _
        rw [List.take_of_length_le (by rw [HO.out]; omega)]; simp
      have HW : Hid (((words4 l).map cellOf).length = 32) := by show _ = _; rw [List.length_map, words4_length, HO.out]
      rw [HV.out] at hS
      have HP : Hid (∀ v ∈ (words4 l).map cellOf, v.oneCell' = true) := cells8_one _
      generalize hvs : (words4 l).map cellOf = vs at *
      replace hvs := Lib.hid hvs
      have hi : (Tryd.prog.info? 30).map (·.size) = some vs.toArray.size := by rw [List.size_toArray, HW.out]; exact size_h32
      have HS : Hid (vs.toArray.size = 32) := by show _ = _; rw [List.size_toArray, HW.out]
      have hT : wr.there w.heap.size 0 vs.toArray.size := by rw [HS.out]; exact hR.there 0 32 (by simp)
      go_wp2_with (first
        | (refine wpList_load_row rfl 30 _ rfl (w.heap.size + 1) rfl 30 _ (0, 0) _ hS Tryd.underlying30 rfl hi ?_)
        | (refine wpList_store_mid rfl 30 _ _ rfl w.heap.size 0 vs.toArray rfl rfl hT hi (all_oneCell_toArray HP.out) ?_))
      have hC := hR.setCells (cs := vs) (o := 0) (by simp [HW.out])
      rw [splice_all _ _ (by simp [HW.out])] at hC
      refine ret_block Tryd.results43 w.heap.size vs 30 rfl hC Tryd.underlying30 rfl (by simpa using hi) rfl ⟨by rw [← hvs.out, ← hol.out], below_setCells hB (Nat.le_refl _) _ _⟩
theorem HashIs.but {w w' : World} {g n b : Nat} {o : Oct} {rest : List UInt8} (h : HashIs w g o rest n) (hb : But b w w') (hg : g ≠ b) : HashIs w' g o rest n := ⟨h.1, h.2.but hb hg⟩
theorem HashOf.but {w w' : World} {g b : Nat} {bs : List UInt8} (h : HashOf w g bs) (hb : But b w w') (hg : g ≠ b) : HashOf w' g bs := by
  obtain ⟨o, rest, hI, hh⟩ := h
  exact ⟨o, rest, hI.but hb hg, hh⟩
theorem HashOf.below {w w' : World} {g : Nat} {bs : List UInt8} (h : HashOf w g bs) (hb : Below w.heap.size w w') : HashOf w' g bs := by
  obtain ⟨o, rest, hI, hh⟩ := h
  exact ⟨o, rest, hI.below hb, hh⟩
theorem HashOf.lt {w : World} {g : Nat} {bs : List UInt8} (h : HashOf w g bs) : g < w.heap.size := by
  obtain ⟨o, rest, hI, hh⟩ := h
  exact hI.2.lt
/-- The end's room: a bit of 1, and noughts. -/
def tailCells : List Value := cellOf 128 :: List.replicate 71 (cellOf 0)
theorem tail_take (n : Nat) : (splice tailCells (shaPad n) (bigCells (8 * n) 8)).take (shaPad n + 8) = (shaEnd n).map cellOf := by
  have hp := shaPad_pos n
  have hb : (bigCells (8 * n) 8).length = 8 := by simp [bigCells, putL_length]
  have e1 : tailCells.take (shaPad n) = cellOf 128 :: List.replicate (shaPad n - 1) (cellOf 0) := by
    obtain ⟨m, hm⟩ : ∃ m, shaPad n = m + 1 := ⟨shaPad n - 1, by omega⟩
    rw [hm, tailCells, List.take_succ_cons, List.take_replicate, Nat.min_eq_left (by omega), Nat.add_sub_cancel]
  have e2 : (tailCells.take (shaPad n) ++ bigCells (8 * n) 8).length = shaPad n + 8 := by rw [e1]; simp [hb]; omega
  rw [splice, List.take_append_of_le_length (by omega), List.take_of_length_le (by omega), e1]
  simp [shaEnd, bigCells]
theorem zero_tail : ∀ w, (zeroValue 94).run Tryd.prog w = .ok (.agg (List.replicate 72 (cellOf 0)).toArray) w := (zero_of_info (P := Tryd.prog) (t := 94) (v := .agg (List.replicate 72 (cellOf 0)).toArray) (n := 72) (by kernel_rfl)).1
set_option maxRecDepth 100000 in
theorem end_any (g : Nat) (bs : List UInt8) (w : World) (hK : Tabs w) (hg : 21 ≤ g) (hH : HashOf w g bs) (hn : bs.length ≤ 900000) :
    Calls Tryd.prog 42 #[.pointer (some ⟨g, 0, none⟩)] w fun e w' => e = .returned (.tuple #[]) ∧ But g w w' ∧ HashOf w' g (shaPadded bs) := by
  have hgl := hH.lt
  obtain ⟨o, rest, hI, hh⟩ := hH
  have hcnt := hI.count
  have hp := shaPad_pos bs.length
  go_enter Tryd.func42, Tryd.ntmps42
  go_wp2_with (refine alloc_step rfl 94 rfl _ zero_tail ?_
               intro w1 hw1
               have hB1 : Below w.heap.size w w1 := by rw [hw1]; exact (Below.refl _ _).alloc (Nat.le_refl _) _
               have hC1 : Cells w1 w.heap.size (List.replicate 72 (cellOf 0)) 94 := by rw [hw1]; exact Cells.new w _ _
               clear hw1
               have c0 := hC1.get (j := 0) (v := cellOf 0) rfl
               have f0 := hC1.frozen 0)
  have hB2 : Below w.heap.size w (w1.setCell ⟨w.heap.size, 0, none⟩ (.int .u8 128)) := hB1.setCell (Nat.le_refl _) _
  have hC2 : Cells (w1.setCell ⟨w.heap.size, 0, none⟩ (.int .u8 128)) w.heap.size tailCells 94 := hC1.set 0 (cellOf 128)
  generalize w1.setCell ⟨w.heap.size, 0, none⟩ (.int .u8 128) = w2 at *
  clear hB1 hC1 c0 f0 w1
  refine (held_any g _ o rest _ (hI.below hB2) (by omega)).mono ?_
  rintro e w' ⟨rfl, rfl⟩
  have eP : 64 - ((bs.length : Int) + 8) % 64 = (shaPad bs.length : Int) := by unfold shaPad; omega
  have HT := Lib.hid (tail_take bs.length)
  have HE := Lib.hid (shaEnd_length bs.length)
  have hO : HashOf w2 g bs := ⟨o, rest, hI.below hB2, hh⟩
  clear hI hh hcnt
  generalize hpad : shaPad bs.length = pad at *
  replace hpad := Lib.hid hpad
  have p1 : (pad : Int) ≤ 72 := by omega
  have p2 : pad ≤ 72 := by omega
  have p3 : ¬ 72 = pad := by omega
  have p4 : (pad : Int) + 8 ≤ 72 := by omega
  have p5 : (pad : Int) ≤ 64 := by omega
  have p6 : (0 : Int) ≤ (pad : Int) + 8 := by omega
  go_wp2_with fail
  refine (shaPutBig_any w.heap.size pad (72 - pad) (72 - pad) (8 * bs.length) 8 _ _ w2 hC2 (by omega) (by omega) (by omega) (by simp [tailCells]; omega)).mono ?_
  rintro e w3 ⟨rfl, hB3, hC3⟩
  have hO3 := hO.but hB3 (by omega)
  have hB4 := hB2.trans (hB3.below (Nat.le_refl _) hB2.size)
  have hR3 := hC3.row HT.out
  clear hB2 hC2 hO hB3 hC3
  go_wp2_with fail
  refine (write_any g bs (shaEnd bs.length) (some ⟨w.heap.size, 0, none⟩) (pad + 8) 72 w3 (hK.below hB4) hg hO3 HE.out hR3 ?_ (by omega) (by unfold maxLen; omega) (by omega)).mono ?_
  · intro _ p hp
    cases hp
    show w.heap.size ≠ g
    omega
  rintro e w4 ⟨rfl, hB5, hO5⟩
  go_wp2_with fail
  go_end0
  exact ⟨rfl, (But.of_below hB4).trans hB5, hO5⟩
theorem Holds.digest {bs : List UInt8} {o : Oct} {rest : List UInt8} (h : Holds (shaPadded bs) o rest) : words4 o.list = shaSum bs := by
  rw [h.1]; rfl
set_option maxRecDepth 100000 in
theorem hashSum_any (g : Nat) (bs : List UInt8) (w : World) (hK : Tabs w) (hg : 21 ≤ w.heap.size) (hH : HashOf w g bs) (hn : bs.length ≤ 900000) :
    Calls Tryd.prog 39 #[.pointer (some ⟨g, 0, none⟩)] w fun e w' => e = .returned (hashVal (shaSum bs)) ∧ Below w.heap.size w w' := by
  obtain ⟨o, rest, hI, hh⟩ := hH
  have HL := Lib.hid (hashCells_length o rest bs.length hI.1)
  have HS : Hid ((hashCells o rest bs.length).toArray.size = 73) := by show _ = _; rw [List.size_toArray, HL.out]
  have hi : (Tryd.prog.info? 88).map (·.size) = some (hashCells o rest bs.length).toArray.size := by rw [HS.out]; exact size_hash
  have H1 := Lib.hid (hash_one o rest bs.length)
  go_enter Tryd.func39, Tryd.ntmps39
  go_wp2_with (first
    | (refine alloc_step rfl 30 rfl _ zero_h32 ?_
       intro w0 hw0
       have hB0 : Below w.heap.size w w0 := by rw [hw0]; exact (Below.refl _ _).alloc (Nat.le_refl _) _
       have hR0 : Cells w0 w.heap.size (List.replicate 32 (cellOf 0)) 30 := by rw [hw0]; exact Cells.new w _ _
       clear hw0
       have hC0 := hI.2.below hB0 hI.2.lt
       have hz := hR0.lt)
    | (refine wpList_load_row rfl 88 _ rfl g rfl 88 _ (0, 0) _ hC0 Tryd.underlying88 rfl hi ?_)
    | (refine alloc_step rfl 88 rfl _ zero_hash ?_
       intro w1 hw1
       have hB1 : Below w.heap.size w w1 := by rw [hw1]; exact hB0.alloc hB0.size _
       have hR1 : Cells w1 w.heap.size (List.replicate 32 (cellOf 0)) 30 := by rw [hw1]; exact hR0.alloc _
       have hC1 : Cells w1 w0.heap.size (hashCells ⟨0, 0, 0, 0, 0, 0, 0, 0⟩ (List.replicate 64 0) 0) 88 := by rw [hw1]; exact Cells.new w0 _ _
       clear hw1 hB0 hR0 hC0
       have hT1 : w1.there w0.heap.size 0 (hashCells o rest bs.length).toArray.size := by rw [HS.out]; exact hC1.there 0 73 (by rw [hashCells_length _ _ _ (by simp)]; omega))
    | (refine wpList_store_mid rfl 88 _ _ rfl w0.heap.size 0 (hashCells o rest bs.length).toArray rfl rfl hT1 hi H1.out ?_))
  have hB2 : Below w.heap.size w (w1.setCells w0.heap.size 0 (hashCells o rest bs.length)) := below_setCells hB1 (by omega) _ _
  have hR2 : Cells (w1.setCells w0.heap.size 0 (hashCells o rest bs.length)) w.heap.size (List.replicate 32 (cellOf 0)) 30 := hR1.otherCells (by omega) _ _
  have hO2 : HashOf (w1.setCells w0.heap.size 0 (hashCells o rest bs.length)) w0.heap.size bs := by
    refine ⟨o, rest, ⟨hI.1, ?_⟩, hh⟩
    have h := hC1.setCells (cs := hashCells o rest bs.length) (o := 0) (by rw [HL.out, hashCells_length _ _ _ (by simp)]; omega)
    rw [splice_all _ _ (by rw [HL.out, hashCells_length _ _ _ (by simp)])] at h
    exact h
  generalize w1.setCells w0.heap.size 0 (hashCells o rest bs.length) = w2 at *
  clear hB1 hR1 hC1 hT1
  refine (end_any w0.heap.size bs w2 (hK.below hB2) (by omega) hO2 hn).mono ?_
  rintro e w3 ⟨rfl, hB3, o3, rest3, hI3, hh3⟩
  have hB4 := hB2.trans (hB3.below (by omega) hB2.size)
  have hR4 := hR2.but hB3 (by omega)
  have HD := Lib.hid hh3.digest
  clear hB2 hR2 hO2 hB3 hh3 hI hh hi H1 HS HL
  go_wp2_with fail
  refine (digest_any w0.heap.size _ o3 rest3 w3 hI3).mono ?_
  rintro e w4 ⟨rfl, hB5⟩
  have hB6 := hB4.trans (hB5.mono hB4.size)
  have hR6 := hR4.below hB5 hR4.lt
  clear hB4 hR4 hB5 hI3
  rw [HD.out]
  have HW : Hid (((shaSum bs).map cellOf).length = 32) := by show _ = _; rw [List.length_map, shaSum_length]
  have HP : Hid (∀ v ∈ (shaSum bs).map cellOf, v.oneCell' = true) := cells8_one _
  have HV : Hid (hashVal (shaSum bs) = .agg ((shaSum bs).map cellOf).toArray) := rfl
  generalize (shaSum bs).map cellOf = vs at *
  have HS : Hid (vs.toArray.size = 32) := by show _ = _; rw [List.size_toArray, HW.out]
  have hi : (Tryd.prog.info? 30).map (·.size) = some vs.toArray.size := by rw [HS.out]; exact size_h32
  have hT : w4.there w.heap.size 0 vs.toArray.size := by rw [HS.out]; exact hR6.there 0 32 (by simp)
  go_wp2_with (refine wpList_store_mid rfl 30 _ _ rfl w.heap.size 0 vs.toArray rfl rfl hT hi (all_oneCell_toArray HP.out) ?_)
  have hC := hR6.setCells (cs := vs) (o := 0) (by simp [HW.out])
  rw [splice_all _ _ (by simp [HW.out])] at hC
  refine ret_block Tryd.results39 w.heap.size vs 30 rfl hC Tryd.underlying30 rfl (by simpa using hi) rfl ⟨by rw [HV.out], below_setCells hB6 (Nat.le_refl _) _ _⟩
end Go.Proofs.YtmhelmmonkgmmaaDoor
