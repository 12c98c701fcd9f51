/- Part 4 of what the laws of this seat share: SEnd, SParts, MBlock, MFill, DOwn, DConcat. -/
import Derived.Laws.IdiomStrings
import Derived.Test.YtmhelmmonkgmmaaDoorPart3
namespace Go.Proofs.YtmhelmmonkgmmaaDoor
open Go.RowKit
set_option maxRecDepth 100000 in
theorem shaPutBig_any (g off len cap x n : Nat) (vs : List Value) (t : TypeId) (w : World) (hC : Cells w g vs t) (hx : x < 18446744073709551616) (hn : n ≤ 8) (hl : n ≤ len) (ho : off + n ≤ vs.length) :
    Calls Tryd.prog 46 #[.slice (some ⟨g, off, none⟩) len cap, .int .u64 x, .int .i64 n] w fun e w' => e = .returned (.tuple #[]) ∧ But g w w' ∧ Cells w' g (splice vs off (bigCells x n)) t := by
  have HL : Hid ((putL x n).reverse.length = n) := by show _ = _; rw [List.length_reverse, putL_length]
  have HM : Hid (min n len = n) := by show _ = _; omega
  have HT : Hid ((putL x n).reverse.take len = (putL x n).reverse) := by show _ = _; rw [List.take_of_length_le (by rw [HL.out]; omega)]
  go_enter Tryd.func46, Tryd.ntmps46
  go_wp2_with fail
  refine (putBig_in x n w hx hn).mono ?_
  rintro e w1 ⟨rfl, hB1, hM1⟩
  have hC1 := hC.below hB1 hC.lt
  have hR1 := hM1.row hM1.lt
  have hT1 := hC1.there off n ho
  go_wp2_with (refine copy_row rfl (.tmp 14) (.tmp 15) rfl g off len cap n n w1.heap.size n _ (putL x n).reverse rfl rfl HL.out HM.out hR1 hT1 ?_
               intro w2 hw2
               rw [HT.out] at hw2
               have hB2 : But g w1 w2 := by rw [hw2]; exact (But.refl g w1).setCells _ _
               have hC2 : Cells w2 g (splice vs off (bigCells x n)) t := by rw [hw2]; exact hC1.setCells (by rw [List.length_map, HL.out]; exact ho)
               clear hw2)
  go_end0
  exact ⟨rfl, (But.of_below hB1).trans hB2, hC2⟩
theorem digest_next (l : List (BitVec 32)) (k : Nat) (hk : k < l.length) (hl : l.length = 8) :
    splice ((words4 (l.take k)).map cellOf ++ List.replicate (32 - 4 * k) (cellOf 0)) (4 * k) ((word4 l[k]).map cellOf) = (words4 (l.take (k + 1))).map cellOf ++ List.replicate (32 - 4 * (k + 1)) (cellOf 0) := by
  have e := splice_mid ((words4 (l.take k)).map cellOf) (List.replicate (32 - 4 * k) (cellOf 0)) [] ((word4 l[k]).map cellOf) 0 (by rw [List.length_map, word4_length, List.length_replicate]; omega)
  rw [List.append_nil, List.append_nil, Nat.add_zero, List.length_map, words4_length, List.length_take, Nat.min_eq_left (by omega), List.length_map, word4_length, List.take_zero, List.nil_append, List.drop_replicate] at e
  rw [e, take_snoc l k hk, words4_snoc, List.map_append, List.append_assoc]
  congr 3
theorem zeros32 : (List.replicate 32 (cellOf 0)).toArray = #[.int .u8 0, .int .u8 0, .int .u8 0, .int .u8 0, .int .u8 0, .int .u8 0, .int .u8 0, .int .u8 0, .int .u8 0, .int .u8 0, .int .u8 0, .int .u8 0, .int .u8 0, .int .u8 0, .int .u8 0, .int .u8 0, .int .u8 0, .int .u8 0, .int .u8 0, .int .u8 0, .int .u8 0, .int .u8 0, .int .u8 0, .int .u8 0, .int .u8 0, .int .u8 0, .int .u8 0, .int .u8 0, .int .u8 0, .int .u8 0, .int .u8 0, .int .u8 0] := by rfl
theorem zero_h32 : ∀ w, (zeroValue 30).run Tryd.prog w = .ok (.agg (List.replicate 32 (cellOf 0)).toArray) w := (zero_of_info (P := Tryd.prog) (t := 30) (v := .agg (List.replicate 32 (cellOf 0)).toArray) (n := 32) (by kernel_rfl)).1
theorem size_h32 : (Tryd.prog.info? 30).map (·.size) = some 32 := by kernel_rfl
set_option maxRecDepth 100000 in
theorem digest_any (g n : Nat) (o : Oct) (rest : List UInt8) (w : World) (hH : HashIs w g o rest n) :
    Calls Tryd.prog 43 #[.pointer (some ⟨g, 0, none⟩)] w fun e w' => e = .returned (.agg ((words4 o.list).map cellOf).toArray) ∧ Below w.heap.size w w' := by
  have hR := hH.2.range 0 8
  rw [hash_links] at hR
  go_enter Tryd.func43, Tryd.ntmps43
  have hR2 : ∀ (b1 b2 : Obj), ((w.alloc b1).alloc b2).rangeAt g 0 (o.list.map wcell) := fun b1 b2 => World.rangeAt_alloc (World.rangeAt_alloc hR b1) b2
  have HR2 := Lib.hid hR2
  clear hR2
  go_wp2_with (refine wpList_load_mid rfl 84 _ rfl g 0 rfl (o.list.map wcell) _ (HR2.out _ _) Tryd.underlying84 rfl size_eight ?_)
  rw [← zeros32]
  have hS : Below w.heap.size w ((w.alloc (.cells (List.replicate 32 (cellOf 0)).toArray 30)).alloc (.cells (List.replicate 32 (cellOf 0)).toArray 30)) ∧ Cells ((w.alloc (.cells (List.replicate 32 (cellOf 0)).toArray 30)).alloc (.cells (List.replicate 32 (cellOf 0)).toArray 30)) w.heap.size (List.replicate 32 (cellOf 0)) 30 ∧ Cells ((w.alloc (.cells (List.replicate 32 (cellOf 0)).toArray 30)).alloc (.cells (List.replicate 32 (cellOf 0)).toArray 30)) (w.heap.size + 1) (List.replicate 32 (cellOf 0)) 30 := by
    refine ⟨((Below.refl _ _).alloc (Nat.le_refl _) _).alloc (by simp) _, ?_, ?_⟩
    · have := (Cells.new w (List.replicate 32 (cellOf 0)).toArray 30).alloc (.cells (List.replicate 32 (cellOf 0)).toArray 30)
      simpa using this
    · have := Cells.new (w.alloc (.cells (List.replicate 32 (cellOf 0)).toArray 30)) (List.replicate 32 (cellOf 0)).toArray 30
      simpa using this
  generalize (w.alloc (.cells (List.replicate 32 (cellOf 0)).toArray 30)).alloc (.cells (List.replicate 32 (cellOf 0)).toArray 30) = w0 at *
  obtain ⟨hB0, hR0, hS0⟩ := hS
  have HO : Hid (o.list.length = 8) := rfl
  generalize hol : o.list = l at *
  replace hol := Lib.hid hol
  go_loopw [10] (fun i wr => ∃ k : Nat, k ≤ 8 ∧ i = .int .i64 k ∧ Below w.heap.size w wr ∧ Cells wr w.heap.size (List.replicate 32 (cellOf 0)) 30 ∧ Cells wr (w.heap.size + 1) ((words4 (l.take k)).map cellOf ++ List.replicate (32 - 4 * k) (cellOf 0)) 30) (fun i _ => 8 - (intOf i).toNat)
  case atStart => exact ⟨0, Nat.zero_le _, rfl, hB0, hR0, hS0⟩
  case round =>
    clear hB0 hR0 hS0
    obtain ⟨k, hk, rfl, hB, hR, hS⟩ := hrel
    by_cases hlt : k < 8
    · have hlt2 : k < l.length := by rw [HO.out]; exact hlt
      have hix := run_index_int (P := Tryd.prog) (t := 84) (l.map wcell) k (wcell l[k]) wr Tryd.underlying84 Tryd.underlying61 size_u32 hlt (by rw [List.getElem?_map, List.getElem?_eq_getElem hlt2]; rfl)
      have HD := Lib.hid (digest_next l k hlt2 HO.out)
      have HE : Hid (((words4 (l.take k)).map cellOf ++ List.replicate (32 - 4 * k) (cellOf 0)).length = 32) := by
        show _ = _
        rw [List.length_append, List.length_map, words4_length, List.length_take, HO.out, List.length_replicate]; omega
      generalize l[k] = x at *
      have i1 : (0 : Int) ≤ 4 * (k : Int) := by omega
      have i2 : 4 * (k : Int) ≤ 32 := by omega
      have i3 : 4 * k ≤ 32 := by omega
      have i4 : ¬ 32 = 4 * k := by omega
      go_wp2_with fail
      refine (shaPutBig_any (w.heap.size + 1) (4 * k) _ _ x.toNat 4 _ _ wr hS (by have := x.isLt; omega) (by omega) (by omega) (by rw [HE.out]; omega)).mono ?_
      rintro e w1 ⟨rfl, hB1, hC1⟩
      go_wp2
      go_roundw
      case rel =>
        refine ⟨k + 1, by omega, by go_num, hB.trans (hB1.below (by omega) hB.size), hR.but hB1 (by omega), ?_⟩
        rw [← HD.out]
        exact hC1
      case measure => simp [intOf]; omega
    · obtain rfl : k = 8 := by omega
      have HV : Hid ((words4 (l.take 8)).map cellOf ++ List.replicate (32 - 4 * 8) (cellOf 0) = (words4 l).map cellOf) := by
        show _ = _
        rw [List.take_of_length_le (by rw [HO.out]; omega)]; simp
      have HW : Hid (((words4 l).map cellOf).length = 32) := by show _ = _; rw [List.length_map, words4_length, HO.out]
      rw [HV.out] at hS
      have HP : Hid (∀ v ∈ (words4 l).map cellOf, v.oneCell' = true) := cells8_one _
      generalize hvs : (words4 l).map cellOf = vs at *
      replace hvs := Lib.hid hvs
      have hi : (Tryd.prog.info? 30).map (·.size) = some vs.toArray.size := by rw [List.size_toArray, HW.out]; exact size_h32
      have HS : Hid (vs.toArray.size = 32) := by show _ = _; rw [List.size_toArray, HW.out]
      have hT : wr.there w.heap.size 0 vs.toArray.size := by rw [HS.out]; exact hR.there 0 32 (by simp)
      go_wp2_with (first
        | (refine wpList_load_row rfl 30 _ rfl (w.heap.size + 1) rfl 30 _ (0, 0) _ hS Tryd.underlying30 rfl hi ?_)
        | (refine wpList_store_mid rfl 30 _ _ rfl w.heap.size 0 vs.toArray rfl rfl hT hi (all_oneCell_toArray HP.out) ?_))
      have hC := hR.setCells (cs := vs) (o := 0) (by simp [HW.out])
      rw [splice_all _ _ (by simp [HW.out])] at hC
      refine ret_block Tryd.results43 w.heap.size vs 30 rfl hC Tryd.underlying30 rfl (by simpa using hi) rfl ⟨by rw [← hvs.out, ← hol.out], below_setCells hB (Nat.le_refl _) _ _⟩
theorem HashIs.but {w w' : World} {g n b : Nat} {o : Oct} {rest : List UInt8} (h : HashIs w g o rest n) (hb : But b w w') (hg : g ≠ b) : HashIs w' g o rest n := ⟨h.1, h.2.but hb hg⟩
theorem HashOf.but {w w' : World} {g b : Nat} {bs : List UInt8} (h : HashOf w g bs) (hb : But b w w') (hg : g ≠ b) : HashOf w' g bs := by
  obtain ⟨o, rest, hI, hh⟩ := h
  exact ⟨o, rest, hI.but hb hg, hh⟩
theorem HashOf.below {w w' : World} {g : Nat} {bs : List UInt8} (h : HashOf w g bs) (hb : Below w.heap.size w w') : HashOf w' g bs := by
  obtain ⟨o, rest, hI, hh⟩ := h
  exact ⟨o, rest, hI.below hb, hh⟩
theorem HashOf.lt {w : World} {g : Nat} {bs : List UInt8} (h : HashOf w g bs) : g < w.heap.size := by
  obtain ⟨o, rest, hI, hh⟩ := h
  exact hI.2.lt
/-- The end's room: a bit of 1, and noughts. -/
def tailCells : List Value := cellOf 128 :: List.replicate 71 (cellOf 0)
theorem tail_take (n : Nat) : (splice tailCells (shaPad n) (bigCells (8 * n) 8)).take (shaPad n + 8) = (shaEnd n).map cellOf := by
  have hp := shaPad_pos n
  have hb : (bigCells (8 * n) 8).length = 8 := by simp [bigCells, putL_length]
  have e1 : tailCells.take (shaPad n) = cellOf 128 :: List.replicate (shaPad n - 1) (cellOf 0) := by
    obtain ⟨m, hm⟩ : ∃ m, shaPad n = m + 1 := ⟨shaPad n - 1, by omega⟩
    rw [hm, tailCells, List.take_succ_cons, List.take_replicate, Nat.min_eq_left (by omega), Nat.add_sub_cancel]
  have e2 : (tailCells.take (shaPad n) ++ bigCells (8 * n) 8).length = shaPad n + 8 := by rw [e1]; simp [hb]; omega
  rw [splice, List.take_append_of_le_length (by omega), List.take_of_length_le (by omega), e1]
  simp [shaEnd, bigCells]
theorem zero_tail : ∀ w, (zeroValue 94).run Tryd.prog w = .ok (.agg (List.replicate 72 (cellOf 0)).toArray) w := (zero_of_info (P := Tryd.prog) (t := 94) (v := .agg (List.replicate 72 (cellOf 0)).toArray) (n := 72) (by kernel_rfl)).1
set_option maxRecDepth 100000 in
theorem end_any (g : Nat) (bs : List UInt8) (w : World) (hK : Tabs w) (hg : 21 ≤ g) (hH : HashOf w g bs) (hn : bs.length ≤ 900000) :
    Calls Tryd.prog 42 #[.pointer (some ⟨g, 0, none⟩)] w fun e w' => e = .returned (.tuple #[]) ∧ But g w w' ∧ HashOf w' g (shaPadded bs) := by
  have hgl := hH.lt
  obtain ⟨o, rest, hI, hh⟩ := hH
  have hcnt := hI.count
  have hp := shaPad_pos bs.length
  go_enter Tryd.func42, Tryd.ntmps42
  go_wp2_with (refine alloc_step rfl 94 rfl _ zero_tail ?_
               intro w1 hw1
               have hB1 : Below w.heap.size w w1 := by rw [hw1]; exact (Below.refl _ _).alloc (Nat.le_refl _) _
               have hC1 : Cells w1 w.heap.size (List.replicate 72 (cellOf 0)) 94 := by rw [hw1]; exact Cells.new w _ _
               clear hw1
               have c0 := hC1.get (j := 0) (v := cellOf 0) rfl
               have f0 := hC1.frozen 0)
  have hB2 : Below w.heap.size w (w1.setCell ⟨w.heap.size, 0, none⟩ (.int .u8 128)) := hB1.setCell (Nat.le_refl _) _
  have hC2 : Cells (w1.setCell ⟨w.heap.size, 0, none⟩ (.int .u8 128)) w.heap.size tailCells 94 := hC1.set 0 (cellOf 128)
  generalize w1.setCell ⟨w.heap.size, 0, none⟩ (.int .u8 128) = w2 at *
  clear hB1 hC1 c0 f0 w1
  refine (held_any g _ o rest _ (hI.below hB2) (by omega)).mono ?_
  rintro e w' ⟨rfl, rfl⟩
  have eP : 64 - ((bs.length : Int) + 8) % 64 = (shaPad bs.length : Int) := by unfold shaPad; omega
  have HT := Lib.hid (tail_take bs.length)
  have HE := Lib.hid (shaEnd_length bs.length)
  have hO : HashOf w2 g bs := ⟨o, rest, hI.below hB2, hh⟩
  clear hI hh hcnt
  generalize hpad : shaPad bs.length = pad at *
  replace hpad := Lib.hid hpad
  have p1 : (pad : Int) ≤ 72 := by omega
  have p2 : pad ≤ 72 := by omega
  have p3 : ¬ 72 = pad := by omega
  have p4 : (pad : Int) + 8 ≤ 72 := by omega
  have p5 : (pad : Int) ≤ 64 := by omega
  have p6 : (0 : Int) ≤ (pad : Int) + 8 := by omega
  go_wp2_with fail
  refine (shaPutBig_any w.heap.size pad (72 - pad) (72 - pad) (8 * bs.length) 8 _ _ w2 hC2 (by omega) (by omega) (by omega) (by simp [tailCells]; omega)).mono ?_
  rintro e w3 ⟨rfl, hB3, hC3⟩
  have hO3 := hO.but hB3 (by omega)
  have hB4 := hB2.trans (hB3.below (Nat.le_refl _) hB2.size)
  have hR3 := hC3.row HT.out
  clear hB2 hC2 hO hB3 hC3
  go_wp2_with fail
  refine (write_any g bs (shaEnd bs.length) (some ⟨w.heap.size, 0, none⟩) (pad + 8) 72 w3 (hK.below hB4) hg hO3 HE.out hR3 ?_ (by omega) (by unfold maxLen; omega) (by omega)).mono ?_
  · intro _ p hp
    cases hp
    show w.heap.size ≠ g
    omega
  rintro e w4 ⟨rfl, hB5, hO5⟩
  go_wp2_with fail
  go_end0
  exact ⟨rfl, (But.of_below hB4).trans hB5, hO5⟩
theorem Holds.digest {bs : List UInt8} {o : Oct} {rest : List UInt8} (h : Holds (shaPadded bs) o rest) : words4 o.list = shaSum bs := by
  rw [h.1]; rfl
set_option maxRecDepth 100000 in
theorem hashSum_any (g : Nat) (bs : List UInt8) (w : World) (hK : Tabs w) (hg : 21 ≤ w.heap.size) (hH : HashOf w g bs) (hn : bs.length ≤ 900000) :
    Calls Tryd.prog 39 #[.pointer (some ⟨g, 0, none⟩)] w fun e w' => e = .returned (hashVal (shaSum bs)) ∧ Below w.heap.size w w' := by
  obtain ⟨o, rest, hI, hh⟩ := hH
  have HL := Lib.hid (hashCells_length o rest bs.length hI.1)
  have HS : Hid ((hashCells o rest bs.length).toArray.size = 73) := by show _ = _; rw [List.size_toArray, HL.out]
  have hi : (Tryd.prog.info? 88).map (·.size) = some (hashCells o rest bs.length).toArray.size := by rw [HS.out]; exact size_hash
  have H1 := Lib.hid (hash_one o rest bs.length)
  go_enter Tryd.func39, Tryd.ntmps39
  go_wp2_with (first
    | (refine alloc_step rfl 30 rfl _ zero_h32 ?_
       intro w0 hw0
       have hB0 : Below w.heap.size w w0 := by rw [hw0]; exact (Below.refl _ _).alloc (Nat.le_refl _) _
       have hR0 : Cells w0 w.heap.size (List.replicate 32 (cellOf 0)) 30 := by rw [hw0]; exact Cells.new w _ _
       clear hw0
       have hC0 := hI.2.below hB0 hI.2.lt
       have hz := hR0.lt)
    | (refine wpList_load_row rfl 88 _ rfl g rfl 88 _ (0, 0) _ hC0 Tryd.underlying88 rfl hi ?_)
    | (refine alloc_step rfl 88 rfl _ zero_hash ?_
       intro w1 hw1
       have hB1 : Below w.heap.size w w1 := by rw [hw1]; exact hB0.alloc hB0.size _
       have hR1 : Cells w1 w.heap.size (List.replicate 32 (cellOf 0)) 30 := by rw [hw1]; exact hR0.alloc _
       have hC1 : Cells w1 w0.heap.size (hashCells ⟨0, 0, 0, 0, 0, 0, 0, 0⟩ (List.replicate 64 0) 0) 88 := by rw [hw1]; exact Cells.new w0 _ _
       clear hw1 hB0 hR0 hC0
       have hT1 : w1.there w0.heap.size 0 (hashCells o rest bs.length).toArray.size := by rw [HS.out]; exact hC1.there 0 73 (by rw [hashCells_length _ _ _ (by simp)]; omega))
    | (refine wpList_store_mid rfl 88 _ _ rfl w0.heap.size 0 (hashCells o rest bs.length).toArray rfl rfl hT1 hi H1.out ?_))
  have hB2 : Below w.heap.size w (w1.setCells w0.heap.size 0 (hashCells o rest bs.length)) := below_setCells hB1 (by omega) _ _
  have hR2 : Cells (w1.setCells w0.heap.size 0 (hashCells o rest bs.length)) w.heap.size (List.replicate 32 (cellOf 0)) 30 := hR1.otherCells (by omega) _ _
  have hO2 : HashOf (w1.setCells w0.heap.size 0 (hashCells o rest bs.length)) w0.heap.size bs := by
    refine ⟨o, rest, ⟨hI.1, ?_⟩, hh⟩
    have h := hC1.setCells (cs := hashCells o rest bs.length) (o := 0) (by rw [HL.out, hashCells_length _ _ _ (by simp)]; omega)
    rw [splice_all _ _ (by rw [HL.out, hashCells_length _ _ _ (by simp)])] at h
    exact h
  generalize w1.setCells w0.heap.size 0 (hashCells o rest bs.length) = w2 at *
  clear hB1 hR1 hC1 hT1
  refine (end_any w0.heap.size bs w2 (hK.below hB2) (by omega) hO2 hn).mono ?_
  rintro e w3 ⟨rfl, hB3, o3, rest3, hI3, hh3⟩
  have hB4 := hB2.trans (hB3.below (by omega) hB2.size)
  have hR4 := hR2.but hB3 (by omega)
  have HD := Lib.hid hh3.digest
  clear hB2 hR2 hO2 hB3 hh3 hI hh hi H1 HS HL
  go_wp2_with fail
  refine (digest_any w0.heap.size _ o3 rest3 w3 hI3).mono ?_
  rintro e w4 ⟨rfl, hB5⟩
  have hB6 := hB4.trans (hB5.mono hB4.size)
  have hR6 := hR4.below hB5 hR4.lt
  clear hB4 hR4 hB5 hI3
  rw [HD.out]
  have HW : Hid (((shaSum bs).map cellOf).length = 32) := by show _ = _; rw [List.length_map, shaSum_length]
  have HP : Hid (∀ v ∈ (shaSum bs).map cellOf, v.oneCell' = true) := cells8_one _
  have HV : Hid (hashVal (shaSum bs) = .agg ((shaSum bs).map cellOf).toArray) := rfl
  generalize (shaSum bs).map cellOf = vs at *
  have HS : Hid (vs.toArray.size = 32) := by show _ = _; rw [List.size_toArray, HW.out]
  have hi : (Tryd.prog.info? 30).map (·.size) = some vs.toArray.size := by rw [HS.out]; exact size_h32
  have hT : w4.there w.heap.size 0 vs.toArray.size := by rw [HS.out]; exact hR6.there 0 32 (by simp)
  go_wp2_with (refine wpList_store_mid rfl 30 _ _ rfl w.heap.size 0 vs.toArray rfl rfl hT hi (all_oneCell_toArray HP.out) ?_)
  have hC := hR6.setCells (cs := vs) (o := 0) (by simp [HW.out])
  rw [splice_all _ _ (by simp [HW.out])] at hC
  refine ret_block Tryd.results39 w.heap.size vs 30 rfl hC Tryd.underlying30 rfl (by simpa using hi) rfl ⟨by rw [HV.out], below_setCells hB6 (Nat.le_refl _) _ _⟩
end Go.Proofs.YtmhelmmonkgmmaaDoor
namespace Go.Proofs.YtmhelmmonkgmmaaDoor
open Go.RowKit
set_option maxRecDepth 100000 in
theorem sum_any (D : Option Addr) (d n : Nat) (ps : List (List UInt8)) (w : World) (hK : Tabs w) (hg : 21 ≤ w.heap.size) (hl : ps.length = n) (hP : Parts w w.heap.size D ps) (hn1 : n ≤ 1000000) (hn : ps.flatten.length ≤ 900000) :
    Calls Tryd.prog 30 #[.slice D n d] w fun e w' => e = .returned (hashVal (shaSum ps.flatten)) ∧ Below w.heap.size w w' := by
  have HL := Lib.hid hl
  clear hl
  go_enter Tryd.func30, Tryd.ntmps30
  go_wp2_with (refine alloc_step rfl 30 rfl _ zero_h32 ?_
               intro w0 hw0
               have hB0 : Below w.heap.size w w0 := by rw [hw0]; exact (Below.refl _ _).alloc (Nat.le_refl _) _
               have hR0 : Cells w0 w.heap.size (List.replicate 32 (cellOf 0)) 30 := by rw [hw0]; exact Cells.new w _ _
               clear hw0
               have hz := hR0.lt)
  refine (new_any w0 (hK.below hB0)).mono ?_
  rintro e w1 ⟨rfl, hB1, hO1⟩
  have hB2 := hB0.trans (hB1.mono hB0.size)
  have hR2 := hR0.below hB1 hR0.lt
  have hz2 := hO1.lt
  generalize w0.heap.size = g at *
  clear hB0 hR0 hB1
  go_wp2_with fail
  go_loopw [9] (fun i wr => ∃ k : Nat, k ≤ n ∧ i = .int .i64 k ∧ Below w.heap.size w wr ∧ Cells wr w.heap.size (List.replicate 32 (cellOf 0)) 30 ∧ HashOf wr g (ps.take k).flatten) (fun i _ => n - (intOf i).toNat)
  case atStart => exact ⟨0, Nat.zero_le _, rfl, hB2, hR2, hO1⟩
  case round =>
    clear hB2 hR2 hO1
    obtain ⟨k, hk, rfl, hB, hR, hO⟩ := hrel
    by_cases hlt : k < n
    · have hlt2 : k < ps.length := by rw [HL.out]; exact hlt
      obtain ⟨b, off, A, c, rfl, hc1, hr1, h1, h2, _⟩ := (hP.below hB).at k hlt2
      have HS := Lib.hid (show (ps.take (k + 1)).flatten = (ps.take k).flatten ++ ps[k] by rw [take_snoc ps k hlt2, List.flatten_append]; simp)
      have hle := flatten_take_le ps (k + 1)
      rw [HS.out, List.length_append] at hle
      have HE := Lib.hid (rfl : ps[k].length = ps[k].length)
      generalize ps[k] = us at *
      generalize hul : us.length = m at *
      replace hul := Lib.hid hul
      go_wp2_with fail
      refine (write_any g _ us A m c wr (hK.below hB) (by omega) hO hul.out (hr1.more hB.size) (hr1.apart (by omega)) h1 h2 (by omega)).mono ?_
      rintro e w3 ⟨rfl, hB3, hO3⟩
      go_wp2_with fail
      go_roundw
      case rel => exact ⟨k + 1, by omega, by go_num, hB.trans (hB3.below (by omega) hB.size), hR.but hB3 (by omega), by rw [HS.out]; exact hO3⟩
      case measure => simp [intOf]; omega
    · have e : ps.take k = ps := List.take_of_length_le (by rw [HL.out]; omega)
      rw [e] at hO
      clear e
      go_wp2_with fail
      refine (hashSum_any g _ wr (hK.below hB) (by have := hB.size; omega) hO hn).mono ?_
      rintro e w4 ⟨rfl, hB5⟩
      have hB6 := hB.trans (hB5.mono hB.size)
      have hR6 := hR.below hB5 hR.lt
      clear hB hR hB5
      have HW : Hid (((shaSum ps.flatten).map cellOf).length = 32) := by show _ = _; rw [List.length_map, shaSum_length]
      have HP : Hid (∀ v ∈ (shaSum ps.flatten).map cellOf, v.oneCell' = true) := cells8_one _
      have HV : Hid (hashVal (shaSum ps.flatten) = .agg ((shaSum ps.flatten).map cellOf).toArray) := rfl
      rw [HV.out]
      generalize (shaSum ps.flatten).map cellOf = vs at *
      have HS : Hid (vs.toArray.size = 32) := by show _ = _; rw [List.size_toArray, HW.out]
      have hi : (Tryd.prog.info? 30).map (·.size) = some vs.toArray.size := by rw [HS.out]; exact size_h32
      have hT : w4.there w.heap.size 0 vs.toArray.size := by rw [HS.out]; exact hR6.there 0 32 (by simp)
      go_wp2_with (refine wpList_store_mid rfl 30 _ _ rfl w.heap.size 0 vs.toArray rfl rfl hT hi (all_oneCell_toArray HP.out) ?_)
      have hC := hR6.setCells (cs := vs) (o := 0) (by simp [HW.out])
      rw [splice_all _ _ (by simp [HW.out])] at hC
      refine ret_block Tryd.results30 w.heap.size vs 30 rfl hC Tryd.underlying30 rfl (by simpa using hi) rfl ⟨by rw [HV.out], below_setCells hB6 (Nat.le_refl _) _ _⟩
end Go.Proofs.YtmhelmmonkgmmaaDoor
namespace Go.Proofs.YtmhelmmonkgmmaaDoor
open Go.RowKit
def z64 : List Value := List.replicate 64 (cellOf 0)
theorem z64_length : z64.length = 64 := by simp [z64]
theorem zero_blk : ∀ w, (zeroValue 54).run Tryd.prog w = .ok (.agg z64.toArray) w := (zero_of_info (P := Tryd.prog) (t := 54) (v := .agg z64.toArray) (n := 64) (by kernel_rfl)).1
theorem size_blk : (Tryd.prog.info? 54).map (·.size) = some 64 := by kernel_rfl
/-- A block whose first k bytes are padded. -/
def padTo (bs : List UInt8) (p : UInt8) (k : Nat) : List Value := (macPad (bs.take k) p ++ bs.drop k).map cellOf
theorem padTo_length (bs : List UInt8) (p : UInt8) (k : Nat) : (padTo bs p k).length = bs.length := by simp [padTo, macPad]; omega
theorem padTo_at (bs : List UInt8) (p : UInt8) (k : Nat) (hk : k < bs.length) : (padTo bs p k)[k]? = some (cellOf bs[k]) := by
  rw [padTo, List.getElem?_map, List.getElem?_append_right (by rw [macPad_length, List.length_take]; omega), macPad_length, List.length_take, Nat.min_eq_left (by omega), Nat.sub_self, List.getElem?_drop, Nat.add_zero, List.getElem?_eq_getElem hk]
  rfl
theorem padTo_next (bs : List UInt8) (p : UInt8) (k : Nat) (hk : k < bs.length) : (padTo bs p k).set k (cellOf (bs[k] ^^^ p)) = padTo bs p (k + 1) := by
  have e : (macPad (bs.take k) p).length = k := by rw [macPad_length, List.length_take]; omega
  rw [padTo, ← List.map_set, List.set_append_right _ _ (by omega), e, Nat.sub_self, List.drop_eq_getElem_cons hk, List.set_cons_zero, padTo, take_snoc bs k hk]
  simp only [macPad, List.map_append, List.map_cons, List.map_nil, List.append_assoc, List.cons_append, List.nil_append]
set_option maxRecDepth 100000 in
theorem blockPad_any (bs : List UInt8) (p : UInt8) (z : Int) (w : World) (hl : bs.length = 64) (hz : (p.toNat : Int) = z) :
    Calls Tryd.prog 29 #[hashVal bs, .int .u8 z] w fun e w' => e = .returned (hashVal (macPad bs p)) ∧ Below w.heap.size w w' := by
  subst hz
  have HL := Lib.hid hl
  clear hl
  have H0 := Lib.hid (show bs.map cellOf = padTo bs p 0 by simp [padTo, macPad])
  have HE := Lib.hid (show padTo bs p 64 = (macPad bs p).map cellOf by rw [padTo, List.take_of_length_le (by rw [HL.out]; omega), List.drop_eq_nil_of_le (by rw [HL.out]; omega), List.append_nil])
  have HV : Hid (hashVal bs = .agg (padTo bs p 0).toArray) := by show _ = _; rw [← H0.out]; rfl
  rw [HV.out]
  generalize hv0 : padTo bs p 0 = vs0 at *
  replace hv0 := Lib.hid hv0
  go_enter Tryd.func29, Tryd.ntmps29
  go_wp2_with (first
    | (refine box_step rfl 54 _ rfl vs0.toArray rfl ?_
       intro w0 hw0
       have hB0 : Below w.heap.size w w0 := by rw [hw0]; exact (Below.refl _ _).alloc (Nat.le_refl _) _
       have hC0 : Cells w0 w.heap.size vs0 54 := by rw [hw0]; exact Cells.new w _ _
       have hz0 : w0.heap.size = w.heap.size + 1 := by rw [hw0]; simp
       clear hw0)
    | (refine alloc_step rfl 54 rfl _ zero_blk ?_
       intro w1 hw1
       have hB1 : Below w.heap.size w w1 := by rw [hw1]; exact hB0.alloc hB0.size _
       have hC1 : Cells w1 w.heap.size vs0 54 := by rw [hw1]; exact hC0.alloc _
       have hR1 : Cells w1 (w.heap.size + 1) z64 54 := by rw [hw1, ← hz0]; exact Cells.new w0 _ _
       clear hw1
       rw [hz0]))
  clear hB0 hC0 hz0
  go_loopw [6] (fun i wr => ∃ k : Nat, k ≤ 64 ∧ i = .int .i64 k ∧ Below w.heap.size w wr ∧ Cells wr w.heap.size (padTo bs p k) 54 ∧ Cells wr (w.heap.size + 1) z64 54) (fun i _ => 64 - (intOf i).toNat)
  case atStart => exact ⟨0, Nat.zero_le _, rfl, hB1, by rw [hv0.out]; exact hC1, hR1⟩
  case round =>
    clear hB1 hC1 hR1
    obtain ⟨k, hk, rfl, hB, hC, hR⟩ := hrel
    by_cases hlt : k < 64
    · have hlt2 : k < bs.length := by rw [HL.out]; exact hlt
      have hc := hC.get (padTo_at bs p k hlt2)
      have hf := hC.frozen k
      have HN := Lib.hid (padTo_next bs p k hlt2)
      have HX := Lib.hid (xor8 bs[k] p)
      generalize bs[k] = x at *
      go_wp2
      go_roundw
      case rel =>
        refine ⟨k + 1, by omega, by go_num, hB.setCell (p := ⟨w.heap.size, k, none⟩) (Nat.le_refl _) _, ?_, hR.other (by simp) _⟩
        rw [HX.out, ← HN.out]
        exact hC.set k _
      case measure => simp [intOf]; omega
    · obtain rfl : k = 64 := by omega
      rw [HE.out] at hC
      have HW : Hid (((macPad bs p).map cellOf).length = 64) := by show _ = _; rw [List.length_map, macPad_length, HL.out]
      have HP : Hid (∀ v ∈ (macPad bs p).map cellOf, v.oneCell' = true) := cells8_one _
      have HV2 : Hid (hashVal (macPad bs p) = .agg ((macPad bs p).map cellOf).toArray) := rfl
      generalize (macPad bs p).map cellOf = vs at *
      have HS : Hid (vs.toArray.size = 64) := by show _ = _; rw [List.size_toArray, HW.out]
      have hi : (Tryd.prog.info? 54).map (·.size) = some vs.toArray.size := by rw [HS.out]; exact size_blk
      have hT : wr.there (w.heap.size + 1) 0 vs.toArray.size := by rw [HS.out]; exact hR.there 0 64 (by rw [z64_length]; omega)
      go_wp2_with (first
        | (refine wpList_load_row rfl 54 _ rfl w.heap.size rfl 54 _ (0, 0) _ hC Tryd.underlying54 rfl hi ?_)
        | (refine wpList_store_mid rfl 54 _ _ rfl (w.heap.size + 1) 0 vs.toArray rfl rfl hT hi (all_oneCell_toArray HP.out) ?_))
      have hD := hR.setCells (cs := vs) (o := 0) (by simp [HW.out, z64_length])
      rw [splice_all _ _ (by simp [HW.out, z64_length])] at hD
      refine ret_block Tryd.results29 (w.heap.size + 1) vs 54 rfl hD Tryd.underlying54 rfl (by simpa using hi) rfl ⟨by rw [HV2.out], below_setCells hB (Nat.le_succ _) _ _⟩
end Go.Proofs.YtmhelmmonkgmmaaDoor
namespace Go.Proofs.YtmhelmmonkgmmaaDoor
open Go.RowKit
theorem fill_cells (k : List UInt8) (h : k.length ≤ 64) : splice z64 0 (k.map cellOf) = (macFill k).map cellOf := by
  rw [macFill_eq k h, z64, splice, List.take_zero, List.nil_append, List.length_map, Nat.zero_add, List.drop_replicate, List.map_append, List.map_replicate]
/-- A literal of one slice of bytes, and of two. -/
theorem parts_one (w : World) (A : Option Addr) (n c : Nat) (us : List UInt8) (hl : us.length = n) (hr : Row w w.heap.size A us) (hA : A = none → c = 0) (hc : n ≤ c) (hc2 : c ≤ maxLen) :
    Parts (w.alloc (.cells #[.slice A n c] 22)) (w.alloc (.cells #[.slice A n c] 22)).heap.size (some ⟨w.heap.size, 0, none⟩) [us] := parts_lit w #[.slice A n c] [us] (fun j vs hu => by
  match j, hu with
  | 0, hu => cases hu; exact ⟨.slice A n c, rfl, A, c, by rw [hl], hr, by omega, hc2, hA⟩
  | j + 1, hu => simp at hu)
theorem parts_two (w : World) (A B : Option Addr) (n c m d : Nat) (us xs : List UInt8) (hl : us.length = n) (hr : Row w w.heap.size A us) (hA : A = none → c = 0) (hc : n ≤ c) (hc2 : c ≤ maxLen) (kl : xs.length = m) (kr : Row w w.heap.size B xs) (kA : B = none → d = 0) (kc : m ≤ d) (kc2 : d ≤ maxLen) :
    Parts (w.alloc (.cells #[.slice A n c, .slice B m d] 22)) (w.alloc (.cells #[.slice A n c, .slice B m d] 22)).heap.size (some ⟨w.heap.size, 0, none⟩) [us, xs] := parts_lit w #[.slice A n c, .slice B m d] [us, xs] (fun j vs hu => by
  match j, hu with
  | 0, hu => cases hu; exact ⟨.slice A n c, rfl, A, c, by rw [hl], hr, by omega, hc2, hA⟩
  | 1, hu => cases hu; exact ⟨.slice B m d, rfl, B, d, by rw [kl], kr, by omega, kc2, kA⟩
  | j + 2, hu => simp at hu)
set_option maxRecDepth 100000 in
theorem filled_any (A : Option Addr) (c n : Nat) (key : List UInt8) (w : World) (hK : Tabs w) (hg : 21 ≤ w.heap.size) (hl : key.length = n) (hr : Row w w.heap.size A key) (hA : A = none → c = 0) (hc : n ≤ c) (hc2 : c ≤ maxLen) (hn : n ≤ 900000) :
    Calls Tryd.prog 27 #[.slice A n c] w fun e w' => e = .returned (hashVal (macKey key)) ∧ Below w.heap.size w w' := by
  have HL := Lib.hid hl
  clear hl
  have HW : Hid (((macKey key).map cellOf).length = 64) := by show _ = _; rw [List.length_map, macKey_length]
  have HP : Hid (∀ v ∈ (macKey key).map cellOf, v.oneCell' = true) := cells8_one _
  have HV : Hid (hashVal (macKey key) = .agg ((macKey key).map cellOf).toArray) := rfl
  by_cases hlong : 64 < n
  · have HF : Hid (splice z64 0 ((shaSum key).map cellOf) = (macKey key).map cellOf) := by
      show _ = _
      rw [fill_cells _ (by rw [shaSum_length]; omega), macKey_long key (by rw [HL.out]; exact hlong)]
    generalize (macKey key).map cellOf = vs at *
    have HS : Hid (vs.toArray.size = 64) := by show _ = _; rw [List.size_toArray, HW.out]
    have hi : (Tryd.prog.info? 54).map (·.size) = some vs.toArray.size := by rw [HS.out]; exact size_blk
    have h1 : (64 : Int) < (n : Int) := by omega
    go_enter Tryd.func27, Tryd.ntmps27
    go_wp2_with (first
      | (refine alloc_step rfl 54 rfl _ zero_blk ?_
         intro w0 hw0
         have hB0 : Below w.heap.size w w0 := by rw [hw0]; exact (Below.refl _ _).alloc (Nat.le_refl _) _
         have hR0 : Cells w0 w.heap.size z64 54 := by rw [hw0]; exact Cells.new w _ _
         have hz0 : w0.heap.size = w.heap.size + 1 := by rw [hw0]; simp
         clear hw0)
      | (refine alloc_step rfl 54 rfl _ zero_blk ?_
         intro w1 hw1
         have hB1 : Below w.heap.size w w1 := by rw [hw1]; exact hB0.alloc hB0.size _
         have hR1 : Cells w1 w.heap.size z64 54 := by rw [hw1]; exact hR0.alloc _
         have hO1 : Cells w1 (w.heap.size + 1) z64 54 := by rw [hw1, ← hz0]; exact Cells.new w0 _ _
         clear hw1
         rw [hz0]
         have HP1 := Lib.hid (parts_one w1 A n c key HL.out (hr.on hB1) hA hc hc2)
         have HB1 : Hid (Below w1.heap.size w1 (w1.alloc (.cells #[.slice A n c] 22))) := (Below.refl _ _).alloc (Nat.le_refl _) _))
    generalize w1.alloc (.cells #[.slice A n c] 22) = w2 at *
    have hb2 := HB1.out
    have hB2 := below_then hB1 hb2
    have hR2 := hR1.below hb2 hR1.lt
    have hO2 := hO1.below hb2 hO1.lt
    refine (sum_any _ _ 1 [key] w2 (hK.below hB2) (by have := hB2.size; omega) rfl HP1.out (by omega) (by simp [HL.out]; omega)).mono ?_
    rintro e w3 ⟨rfl, hB3⟩
    rw [show [key].flatten = key by simp]
    have hB4 := below_then hB2 hB3
    have hR4 := hR2.below hB3 hR2.lt
    have hO4 := hO2.below hB3 hO2.lt
    clear hB0 hR0 hz0 hB1 hR1 hO1 HP1 HB1 hb2 hB2 hR2 hO2 hB3
    have HD : Hid (hashVal (shaSum key) = .agg ((shaSum key).map cellOf).toArray) := rfl
    have HDL : Hid ((shaSum key).length = 32) := shaSum_length key
    have HDS : Hid (((shaSum key).map cellOf).length = 32) := by show _ = _; rw [List.length_map, HDL.out]
    have HDP : Hid (∀ v ∈ (shaSum key).map cellOf, v.oneCell' = true) := cells8_one _
    rw [HD.out]
    generalize shaSum key = dg at *
    have HDZ : Hid ((dg.map cellOf).toArray.size = 32) := by show _ = _; rw [List.size_toArray, HDS.out]
    have hid : (Tryd.prog.info? 30).map (·.size) = some (dg.map cellOf).toArray.size := by rw [HDZ.out]; exact size_h32
    have HT : Hid (dg.take 64 = dg) := by show _ = _; rw [List.take_of_length_le (by rw [HDL.out]; omega)]
    generalize hdv : dg.map cellOf = dv at *
    replace hdv := Lib.hid hdv
    go_wp2_with (first
      | (refine alloc_step rfl 30 rfl _ zero_h32 ?_
         intro w4 hw4
         have hB5 : Below w.heap.size w w4 := by rw [hw4]; exact hB4.alloc hB4.size _
         have hR5 : Cells w4 w.heap.size z64 54 := by rw [hw4]; exact hR4.alloc _
         have hO5 : Cells w4 (w.heap.size + 1) z64 54 := by rw [hw4]; exact hO4.alloc _
         have hD5 : Cells w4 w3.heap.size (List.replicate 32 (cellOf 0)) 30 := by rw [hw4]; exact Cells.new w3 _ _
         clear hw4
         have hT5 : w4.there w3.heap.size 0 dv.toArray.size := by rw [HDZ.out]; exact hD5.there 0 32 (by simp))
      | (refine wpList_store_mid rfl 30 _ _ rfl w3.heap.size 0 dv.toArray rfl rfl hT5 hid (all_oneCell_toArray HDP.out) ?_))
    have hz4 := hO4.lt
    have hD6 := hD5.setCells (cs := dv) (o := 0) (by simp [HDS.out])
    rw [splice_all _ _ (by simp [HDS.out])] at hD6
    have hR6 := hR5.otherCells (b := w3.heap.size) (by omega) 0 dv
    have hO6 := hO5.otherCells (b := w3.heap.size) (by omega) 0 dv
    have hB6 := below_setCells hB5 hB4.size 0 dv
    generalize w4.setCells w3.heap.size 0 dv = w6 at *
    have HRD : Hid (Row w6 w6.heap.size (some ⟨w3.heap.size, 0, none⟩) dg) := hD6.row (m := 32) (by rw [hdv.out, List.take_of_length_le (by rw [HDS.out]; omega)])
    generalize w3.heap.size = gd at *
    clear hB4 hR4 hO4 hB5 hR5 hO5 hD5 hT5 hD6
    refine wp_region_tail 2 (by kernel_rfl) (by kernel_rfl) ?_
    intro w7 hw7
    have hB7 : Below w.heap.size w w7 := by rw [hw7]; exact hB6.drew
    have hR7 : Cells w7 w.heap.size z64 54 := by rw [hw7]; exact hR6
    have hO7 : Cells w7 (w.heap.size + 1) z64 54 := by rw [hw7]; exact hO6
    have HR7 : Hid (Row w7 w7.heap.size (some ⟨gd, 0, none⟩) dg) := by show Row _ _ _ _; rw [hw7]; exact HRD.out
    clear hw7 hB6 hR6 hO6 HRD
    simp only [List.take_succ_cons, List.take_zero, List.drop_succ_cons, List.drop_zero]
    repeat still_step
    refine wpStill_nil ?_
    have hT7 := hO7.there 0 32 (by rw [z64_length]; omega)
    go_wp2_with (first
      | (refine copy_row rfl (.tmp 11) (.tmp 12) rfl (w.heap.size + 1) 0 64 64 32 32 w7.heap.size 32 _ dg rfl rfl HDL.out rfl HR7.out hT7 ?_
         intro w8 hw8
         rw [HT.out] at hw8
         have hB8 : Below w.heap.size w w8 := by rw [hw8]; exact below_setCells hB7 (Nat.le_succ _) _ _
         have hR8 : Cells w8 w.heap.size z64 54 := by rw [hw8]; exact hR7.otherCells (by omega) _ _
         have hO8 : Cells w8 (w.heap.size + 1) vs 54 := by
           rw [hw8, ← HF.out, ← hdv.out]
           exact hO7.setCells (by rw [hdv.out, HDS.out, z64_length]; omega)
         clear hw8
         have hT8 : w8.there w.heap.size 0 vs.toArray.size := by rw [HS.out]; exact hR8.there 0 64 (by rw [z64_length]; omega))
      | (refine wpList_load_row rfl 54 _ rfl (w.heap.size + 1) rfl 54 _ (0, 0) _ hO8 Tryd.underlying54 rfl hi ?_)
      | (refine wpList_store_mid rfl 54 _ _ rfl w.heap.size 0 vs.toArray rfl rfl hT8 hi (all_oneCell_toArray HP.out) ?_))
    have hD := hR8.setCells (cs := vs) (o := 0) (by simp [HW.out, z64_length])
    rw [splice_all _ _ (by simp [HW.out, z64_length])] at hD
    refine ret_block Tryd.results27 w.heap.size vs 54 rfl hD Tryd.underlying54 rfl (by simpa using hi) rfl ⟨by rw [HV.out], below_setCells hB8 (Nat.le_refl _) _ _⟩
  · have HF : Hid (splice z64 0 (key.map cellOf) = (macKey key).map cellOf) := by
      show _ = _
      rw [fill_cells _ (by rw [HL.out]; omega), macKey_short key (by rw [HL.out]; omega)]
    generalize (macKey key).map cellOf = vs at *
    have HS : Hid (vs.toArray.size = 64) := by show _ = _; rw [List.size_toArray, HW.out]
    have hi : (Tryd.prog.info? 54).map (·.size) = some vs.toArray.size := by rw [HS.out]; exact size_blk
    have h1 : ¬ (64 : Int) < (n : Int) := by omega
    have HT : Hid (key.take 64 = key) := by show _ = _; rw [List.take_of_length_le (by rw [HL.out]; omega)]
    have HM : Hid (min n 64 = n) := by show _ = _; omega
    go_enter Tryd.func27, Tryd.ntmps27
    go_wp2_with (first
      | (refine alloc_step rfl 54 rfl _ zero_blk ?_
         intro w0 hw0
         have hB0 : Below w.heap.size w w0 := by rw [hw0]; exact (Below.refl _ _).alloc (Nat.le_refl _) _
         have hR0 : Cells w0 w.heap.size z64 54 := by rw [hw0]; exact Cells.new w _ _
         have hz0 : w0.heap.size = w.heap.size + 1 := by rw [hw0]; simp
         clear hw0)
      | (refine alloc_step rfl 54 rfl _ zero_blk ?_
         intro w7 hw1
         have hB7 : Below w.heap.size w w7 := by rw [hw1]; exact hB0.alloc hB0.size _
         have hR7 : Cells w7 w.heap.size z64 54 := by rw [hw1]; exact hR0.alloc _
         have hO7 : Cells w7 (w.heap.size + 1) z64 54 := by rw [hw1, ← hz0]; exact Cells.new w0 _ _
         clear hw1
         rw [hz0]
         have hT7 := hO7.there 0 n (by rw [z64_length]; omega)
         have HR7 : Hid (Row w7 w7.heap.size A key) := hr.on hB7)
      | (refine copy_row rfl (.tmp 15) (.tmp 16) rfl (w.heap.size + 1) 0 64 64 n c w7.heap.size n _ key rfl rfl HL.out HM.out HR7.out hT7 ?_
         intro w8 hw8
         rw [HT.out] at hw8
         have hB8 : Below w.heap.size w w8 := by rw [hw8]; exact below_setCells hB7 (Nat.le_succ _) _ _
         have hR8 : Cells w8 w.heap.size z64 54 := by rw [hw8]; exact hR7.otherCells (by omega) _ _
         have hO8 : Cells w8 (w.heap.size + 1) vs 54 := by
           rw [hw8, ← HF.out]
           exact hO7.setCells (by rw [List.length_map, HL.out, z64_length]; omega)
         clear hw8
         have hT8 : w8.there w.heap.size 0 vs.toArray.size := by rw [HS.out]; exact hR8.there 0 64 (by rw [z64_length]; omega))
      | (refine wpList_load_row rfl 54 _ rfl (w.heap.size + 1) rfl 54 _ (0, 0) _ hO8 Tryd.underlying54 rfl hi ?_)
      | (refine wpList_store_mid rfl 54 _ _ rfl w.heap.size 0 vs.toArray rfl rfl hT8 hi (all_oneCell_toArray HP.out) ?_))
    have hD := hR8.setCells (cs := vs) (o := 0) (by simp [HW.out, z64_length])
    rw [splice_all _ _ (by simp [HW.out, z64_length])] at hD
    refine ret_block Tryd.results27 w.heap.size vs 54 rfl hD Tryd.underlying54 rfl (by simpa using hi) rfl ⟨by rw [HV.out], below_setCells hB8 (Nat.le_refl _) _ _⟩
end Go.Proofs.YtmhelmmonkgmmaaDoor
namespace Go.Proofs.YtmhelmmonkgmmaaDoor
open Go.RowKit
theorem Owns.cutTo {w : World} {base n c : Nat} {A : Option Addr} {bs : List UInt8} (h : Owns w base (.slice A n c) bs) (k : Nat) (hk : k ≤ n) : Owns w base (.slice A k c) (bs.take k) := by
  obtain ⟨h1, h2⟩ := h
  rcases h2 with ⟨hv, hn⟩ | ⟨g, cap, cur, hv, hg, hh, hnc, hcm, hsz, htk⟩
  · injection hv with hA hn2 hc
    obtain rfl : k = 0 := by omega
    subst hA hc
    exact ⟨by simp, .inl ⟨rfl, by simp⟩⟩
  · injection hv with hA hn2 hc
    subst hA hc
    have hl : (bs.take k).length = k := by rw [List.length_take]; omega
    refine ⟨by simp, .inr ⟨g, c, cur, by rw [hl], hg, hh, by omega, hcm, hsz, ?_⟩⟩
    rw [hl, Nat.mul_one, List.map_take, ← htk, Nat.mul_one, List.take_take, Nat.min_eq_left (by omega)]
theorem str_of (s : ByteArray) : s = str s.data.toList := by unfold str; simp
theorem str_append (a b : List UInt8) : str a ++ str b = str (a ++ b) := by
  unfold str
  rw [ByteArray.ext_iff, ByteArray.data_append]
  simp
section
variable {w : World} {ops : Array Oper} {rest : List Oper} {o : Oper} {a : Act} {Q : Exit → Act → World → Prop}
/-- '[]byte(s)'. -/
theorem bytes_step (hgd : o.guard = none) (x : Operand) (ho : o.op = .convert 9 22 x) (n : Nat) (bs : List UInt8) (hl : bs.length = n) (hx : a.eval x = .string (str bs)) (hn : n ≤ 1000000)
    (h : ∀ w' c, Below w.heap.size w w' → Row w' w'.heap.size (some ⟨w.heap.size, 0, none⟩) bs → w'.heap.size = w.heap.size + 1 → n ≤ c → c ≤ maxLen → wpList Tryd.prog ops Q rest (a.put o.dst (.slice (some ⟨w.heap.size, 0, none⟩) n c)) w') : wpList Tryd.prog ops Q (o :: rest) a w := by
  refine wpList_plain hgd fun K hK => ?_
  have hrun := run_bytes_of_string (P := Tryd.prog) w 9 22 5 (str bs) Tryd.underlying9 Tryd.underlying22 Tryd.underlying5
  have hs : (str bs).size = n := by rw [str_size, hl]
  rw [hs] at hrun
  unfold Oper.wp
  simp only [execOp, ho, hx, hrun, Sem.run_bind, Sem.run_pure, Result.andThen_ok]
  have hb : Below w.heap.size w (w.drew.alloc (.cells (bytesRow (str bs) (grownCap w n 0 5)) 5 ((bytesRow (str bs) (grownCap w n 0 5)).size, (bytesRow (str bs) (grownCap w n 0 5)).size + 1))) :=
    (Below.refl w.heap.size w).drew.alloc (Nat.le_refl _) _
  refine hK _ _ (h _ _ hb ?_ (by simp) (grownCap_ge w n 0 _) (grownCap_le_maxLen w n 0 _ (by unfold maxLen; omega)))
  refine .inr ⟨w.heap.size, 0, rfl, by simp, fun j u hu => ?_⟩
  have hj := World.cell?_alloc_mark w.drew (bytesRow (str bs) (grownCap w n 0 5)) 5 ((bytesRow (str bs) (grownCap w n 0 5)).size, (bytesRow (str bs) (grownCap w n 0 5)).size + 1) j
  rw [Nat.zero_add]
  refine (show _ = _ from hj).trans ?_
  have hjl : j < bs.length := by
    rcases Nat.lt_or_ge j bs.length with h | h
    · exact h
    · rw [List.getElem?_eq_none h] at hu; cases hu
  rw [List.getElem?_eq_getElem hjl] at hu
  cases hu
  simp [bytesRow, str, Array.getElem?_append, hjl]
/-- 'append(out, s...)', s a text. -/
theorem append_text (hgd : o.guard = none) (s x : Operand) (ho : o.op = .call { callee := .builtin .append, args := #[s, x], argTypes := #[22, 9] }) (base n : Nat)
    (v : Value) (bs us : List UInt8) (hs : a.eval s = v) (hown : Owns w base v bs) (hx : a.eval x = .string (str us)) (hl : us.length = n) (hlen : bs.length + n ≤ 1000000) (hbase : base ≤ w.heap.size)
    (h : ∀ v' w', Owns w' base v' (bs ++ us) → Below base w w' → wpList Tryd.prog ops Q rest (a.put o.dst v') w') : wpList Tryd.prog ops Q (o :: rest) a w := by
  obtain ⟨i0, hi0, hz0, hz1, hz2⟩ := info_parts u8_info
  have hsz : (str us).size = n := by rw [str_size, hl]
  refine Lib.wpList_append_own_string (P := Tryd.prog) w hgd s x 22 9 ho base 5 i0 Tryd.underlying22 Tryd.underlying9 hi0 hz0 hz1 hz2 v bs.length (bs.map cellOf) hs hown (str us) hx (by rw [hsz]; simp only [maxLen]; omega) (by rw [hsz]; omega) hbase ?_
  intro v' w' h2 h3 _
  refine h v' w' ?_ ((Below.refl _ _).grown h3 hbase (fun k hk => hown.far k hk))
  rw [strCells_str, hsz, ← List.map_append, ← hl] at h2
  unfold Owns
  rw [List.length_append]
  exact h2
end
/-- 'b[:i]'. -/
theorem cut_to {w : World} {ops : Array Oper} {rest : List Oper} {o : Oper} {a : Act} {Q : Exit → Act → World → Prop} (hgd : o.guard = none) (x y : Operand) (ho : o.op = .slice 22 x none (some y) none)
    (A : Option Addr) (len cap i : Nat) (z : Int) (hx : a.eval x = .slice A len cap) (hy : a.eval y = .int .i64 z) (hz : z = (i : Int)) (hi : i ≤ cap)
    (h : wpList Tryd.prog ops Q rest (a.put o.dst (.slice (cutA A 0 cap) i cap)) w) : wpList Tryd.prog ops Q (o :: rest) a w := by
  subst hz
  refine wpList_plain hgd fun K hK => ?_
  obtain ⟨i0, hi0, hs0⟩ := Option.map_eq_some_iff.1 size_u8
  have hrun : (Instr.sliceAt 22 (.slice A len cap) none (some (.int .i64 (i : Int))) none).run Tryd.prog w = .ok (.slice (cutA A 0 cap) i cap) w := by
    have hu : Tryd.prog.underlying 22 = some (.slice 5) := Tryd.underlying22
    have h1 : (Instr.sliceAt 22 (.slice A len cap) none (some (.int .i64 (i : Int))) none).run Tryd.prog w = (Instr.slice 22 (.slice A len cap) none (some (.int .i64 (i : Int))) none).run Tryd.prog w := by
      simp [Instr.sliceAt, run_underlying hu]
    rw [h1]
    have h4 : (i : Int) ≤ (cap : Int) := by omega
    simp [Instr.slice, run_underlying hu, Instr.sliceBounds, run_sliceBound, sizeOf, typeInfo, hi0, cutA, h4]
  unfold Oper.wp
  simp only [execOp, ho, hx, hy, Option.map_some, Option.map_none, hrun, Sem.run_bind, Sem.run_pure, Result.andThen_ok]
  exact hK _ _ h
/-- 'min(p, q)' of integers. -/
theorem min_step {w : World} {ops : Array Oper} {rest : List Oper} {o : Oper} {a : Act} {Q : Exit → Act → World → Prop} (hgd : o.guard = none) (p q : Operand) (ho : o.op = .call { callee := .builtin .min, args := #[p, q], argTypes := #[3, 3] })
    (x y : Int) (m : Nat) (hp : a.eval p = .int .i64 x) (hq : a.eval q = .int .i64 y) (hm : min x y = (m : Int)) (h : wpList Tryd.prog ops Q rest (a.put o.dst (.int .i64 (m : Int))) w) : wpList Tryd.prog ops Q (o :: rest) a w := by
  refine wpList_plain hgd fun K hK => ?_
  have e : (if y < x then y else x) = (m : Int) := by rw [← hm]; split <;> omega
  unfold Oper.wp execOp
  simp only [ho, resolve, invoke, builtin, Sem.run_bind, Sem.run_pure, Result.andThen_ok, List.map_toArray, List.map_cons, List.map_nil, hp, hq, run_min_int2, e]
  exact hK _ _ h
theorem Row.cutTo {w : World} {B : Nat} {A : Option Addr} {us : List UInt8} (h : Row w B A us) (i cap : Nat) (hl : us.length ≤ cap) : Row w B (cutA A 0 cap) (us.take i) := by
  have h := (h.cut 0 cap hl).take i
  rwa [List.drop_zero] at h
theorem cutA_zero (g o cap : Nat) : cutA (some ⟨g, o, none⟩) 0 cap = some ⟨g, o, none⟩ := by
  unfold cutA
  split <;> simp [Addr.add_mid]
/-- A slice of these bytes, as a part. -/
theorem Part.mk {w : World} {B : Nat} {A : Option Addr} {n c : Nat} {us : List UInt8} (hl : us.length = n) (hr : Row w B A us) (hA : A = none → c = 0) (hc : n ≤ c) (hc2 : c ≤ maxLen) : Part w B (.slice A n c) us := ⟨A, c, by rw [hl], hr, by omega, hc2, hA⟩
theorem Part.on {w w' : World} {v : Value} {us : List UInt8} (h : Part w w.heap.size v us) (hb : Below w.heap.size w w') : Part w' w'.heap.size v us := (h.below hb).more hb.size
theorem parts_three (w : World) (a b c : Value) (x y z : List UInt8) (ha : Part w w.heap.size a x) (hb : Part w w.heap.size b y) (hc : Part w w.heap.size c z) :
    Parts (w.alloc (.cells #[a, b, c] 22)) (w.alloc (.cells #[a, b, c] 22)).heap.size (some ⟨w.heap.size, 0, none⟩) [x, y, z] := parts_lit w #[a, b, c] [x, y, z] (fun j us hu => by
  match j, hu with
  | 0, hu => cases hu; exact ⟨a, rfl, ha⟩
  | 1, hu => cases hu; exact ⟨b, rfl, hb⟩
  | 2, hu => cases hu; exact ⟨c, rfl, hc⟩
  | j + 3, hu => simp at hu)
theorem parts_five (w : World) (a b c d e : Value) (x y z u v : List UInt8) (ha : Part w w.heap.size a x) (hb : Part w w.heap.size b y) (hc : Part w w.heap.size c z) (hd : Part w w.heap.size d u) (he : Part w w.heap.size e v) :
    Parts (w.alloc (.cells #[a, b, c, d, e] 22)) (w.alloc (.cells #[a, b, c, d, e] 22)).heap.size (some ⟨w.heap.size, 0, none⟩) [x, y, z, u, v] := parts_lit w #[a, b, c, d, e] [x, y, z, u, v] (fun j us hu => by
  match j, hu with
  | 0, hu => cases hu; exact ⟨a, rfl, ha⟩
  | 1, hu => cases hu; exact ⟨b, rfl, hb⟩
  | 2, hu => cases hu; exact ⟨c, rfl, hc⟩
  | 3, hu => cases hu; exact ⟨d, rfl, hd⟩
  | 4, hu => cases hu; exact ⟨e, rfl, he⟩
  | j + 5, hu => simp at hu)
theorem Cells.rangeAll {w : World} {g : Nat} {vs : List Value} {t : TypeId} (h : Cells w g vs t) : w.rangeAt g 0 vs := fun j v hj => by
  rw [Nat.zero_add]
  exact h.get hj
theorem Row.rangeAll {w : World} {B b off : Nat} {ds : List UInt8} (h : Row w B (some ⟨b, off, none⟩) ds) : w.rangeAt b off (ds.map cellOf) := fun j v hj => by
  rw [List.getElem?_map] at hj
  cases hd : ds[j]? with
  | none => rw [hd] at hj; cases hj
  | some u =>
    rw [hd] at hj
    cases hj
    rcases h with rfl | ⟨b', off', hA, _, hc⟩
    · simp at hd
    · cases hA
      exact hc j u hd
/-- A row of bytes loaded as an array's value. -/
theorem load_row_step {w : World} {ops : Array Oper} {rest : List Oper} {o : Oper} {a : Act} {Q : Exit → Act → World → Prop} (hgd : o.guard = none) (t : TypeId) (x : Operand) (ho : o.op = .load t x) (B b off n : Nat) (ds : List UInt8) (e : TypeId) (hx : a.eval x = .pointer (some ⟨b, off, none⟩)) (hR : Row w B (some ⟨b, off, none⟩) ds) (hu : Tryd.prog.underlying t = some (.array n e))
    (hs : (Tryd.prog.info? t).map (·.size) = some n) (hl : ds.length = n) (h : wpList Tryd.prog ops Q rest (a.put o.dst (hashVal ds)) w) : wpList Tryd.prog ops Q (o :: rest) a w :=
  wpList_load_mid hgd t x ho b off hx (ds.map cellOf) _ hR.rangeAll hu rfl (by rw [List.length_map, hl]; exact hs) h
theorem Row.some {w : World} {B : Nat} {A : Option Addr} {ds : List UInt8} (h : Row w B A ds) (hp : 0 < ds.length) : ∃ b off, A = some ⟨b, off, none⟩ := by
  rcases h with rfl | ⟨b, off, rfl, _, _⟩
  · simp at hp
  · exact ⟨b, off, rfl⟩
/-- What a call answers that makes a row of these bytes. -/
def Gives (w : World) (bs : List UInt8) (n : Nat) (e : Ending) (w' : World) : Prop :=
  ∃ A c, e = .returned (.slice A n c) ∧ (A = none → c = 0) ∧ n ≤ c ∧ c ≤ maxLen ∧ Row w' w'.heap.size A bs ∧ Below w.heap.size w w'
end Go.Proofs.YtmhelmmonkgmmaaDoor
namespace Go.Proofs.YtmhelmmonkgmmaaDoor
open Go.RowKit
set_option maxRecDepth 100000 in
/-- Room for n bytes, none of them taken. -/
theorem grow_none (n : Nat) (w : World) (hn : n ≤ 1000000) :
    Calls Tryd.prog 36 #[.slice none 0 0, .int .i64 (n : Int)] w fun e w' => ∃ v, e = .returned v ∧ Owns w' w.heap.size v [] ∧ Below w.heap.size w w' := by
  have h0 : Owns w w.heap.size (.slice none 0 0) [] := ⟨by simp, .inl ⟨rfl, by simp⟩⟩
  have i0 : ¬ (n : Int) < 0 := by omega
  by_cases hz : n = 0
  · subst hz
    go_enter Tryd.func36, Tryd.ntmps36
    go_wp2
    go_ret
    exact ⟨_, rfl, h0, Below.refl _ _⟩
  · have i1 : (0 : Int) < (n : Int) := by omega
    go_enter Tryd.func36, Tryd.ntmps36
    go_wp2_with (first
      | (at_builtin
         refine append_zeros rfl (.tmp 20) (.tmp 21) rfl w.heap.size n _ [] rfl h0 rfl (by simpa using hn) (Nat.le_refl _) ?_
         intro v1 w1 hO1 hB1
         rw [List.nil_append] at hO1
         obtain ⟨g1, c1, hv1, _, _, _, _⟩ := hO1.form_pos (by rw [List.length_replicate]; omega)
         rw [List.length_replicate] at hv1
         subst hv1
         have hO2 := hO1.cutTo 0 (Nat.zero_le _)
         rw [List.take_zero] at hO2)
      | (refine cut_to rfl (.tmp 22) (.tmp 24) rfl (some ⟨g1, 0, none⟩) n c1 0 _ rfl rfl rfl (Nat.zero_le _) ?_
         rw [cutA_zero]))
    go_ret
    exact ⟨_, rfl, hO2, hB1⟩
set_option maxRecDepth 100000 in
set_option maxHeartbeats 800000 in
/-- All parts one behind the other, in a row of its own. -/
theorem concat_any (D : Option Addr) (d m L : Nat) (ps : List (List UInt8)) (w : World) (hpl : ps.length = m) (hP : Parts w w.heap.size D ps) (hm : m ≤ 1000000) (hL : ps.flatten.length = L) (hn : L ≤ 1000000) :
    Calls Tryd.prog 24 #[.slice D m d] w (Gives w ps.flatten L) := by
  have HPL := Lib.hid hpl
  have HFL := Lib.hid hL
  clear hpl hL
  go_enter Tryd.func24, Tryd.ntmps24
  go_wp2
  go_loopw [3, 11] (fun s i wr => ∃ k : Nat, k ≤ m ∧ i = .int .i64 k ∧ s = .int .i64 ((ps.take k).flatten.length : Int) ∧ wr = w) (fun _ i _ => m - (intOf i).toNat)
  case atStart => exact ⟨0, Nat.zero_le _, rfl, by simp, rfl⟩
  case round =>
    obtain ⟨k, hk, rfl, rfl, rfl⟩ := hrel
    have HTL := Lib.hid (flatten_take_le ps k)
    generalize hs : (ps.take k).flatten.length = s at *
    replace hs := Lib.hid hs
    by_cases hlt : k < m
    · have hlt2 : k < ps.length := by rw [HPL.out]; exact hlt
      obtain ⟨b, off, A1, c1, rfl, hcl, hr1, h1, h2, h3⟩ := hP.at k hlt2
      have HS := Lib.hid (show (ps.take (k + 1)).flatten.length = (ps.take k).flatten.length + ps[k].length by rw [take_snoc ps k hlt2, List.flatten_append]; simp)
      have HTL2 := Lib.hid (flatten_take_le ps (k + 1))
      generalize hul : ps[k].length = q at *
      replace hul := Lib.hid hul
      have hq : s + q ≤ L := by have h1 := HS.out; have h2 := hs.out; have h3 := HTL2.out; have h4 := HFL.out; omega
      have i1 : ¬ (s : Int) + (q : Int) < 0 := by omega
      have i2 : (0 : Int) ≤ (s : Int) + (q : Int) := by omega
      go_wp2
      go_roundw
      case rel => exact ⟨k + 1, by omega, by go_num, by rw [HS.out, hs.out]; go_num, trivial⟩
      case measure => simp [intOf]; omega
    · obtain rfl : k = m := by omega
      have e1 : s = L := by rw [← hs.out, List.take_of_length_le (by rw [HPL.out]; exact Nat.le_refl _), HFL.out]
      subst e1
      clear HTL hs
      go_wp2_with (first
        | (go_at_call 36
           refine (grow_none s wr hn).mono ?_
           rintro e w1 ⟨v1, rfl, hO1, hB1⟩))
      have HZ := Lib.hid hB1.size
      have HB1 := Lib.hid hB1
      have HO1 := Lib.hid hO1
      clear hO1 hB1
      go_loopw [6, 27] (fun v i wq => ∃ j : Nat, j ≤ k ∧ i = .int .i64 j ∧ Below wr.heap.size wr wq ∧ Owns wq wr.heap.size v (ps.take j).flatten) (fun _ i _ => k - (intOf i).toNat)
      case atStart => exact ⟨0, Nat.zero_le _, rfl, HB1.out, by simpa using HO1.out⟩
      case round =>
        obtain ⟨j, hj, rfl, hB, hO⟩ := hrel
        rename World => wq
        by_cases hlt : j < k
        · have hlt2 : j < ps.length := by rw [HPL.out]; exact hlt
          obtain ⟨b, off, A1, c1, rfl, hcl, hr1, h1, h2, h3⟩ := (hP.below hB).at j hlt2
          have HS := Lib.hid (show (ps.take (j + 1)).flatten = (ps.take j).flatten ++ ps[j] by rw [take_snoc ps j hlt2, List.flatten_append]; simp)
          have HTL2 : Hid ((ps.take j).flatten.length + ps[j].length ≤ s) := by
            show _ ≤ _
            have h1 := flatten_take_le ps (j + 1)
            rw [HS.out, List.length_append, HFL.out] at h1
            exact h1
          generalize ps[j] = us at *
          generalize hul : us.length = q at *
          replace hul := Lib.hid hul
          generalize hF : (ps.take j).flatten = F at *
          replace hF := Lib.hid hF
          have hsz := hB.size
          go_wp2_with (first
            | (at_builtin
               refine append_row rfl (.tmp 31) (.tmp 32) rfl wr.heap.size _ F us _ A1 c1 rfl hO (by rw [hul.out]; rfl) h3 (hr1.more hsz) (by rw [hul.out]; have := HTL2.out; omega) hsz ?_
               intro v7 w7 hO7 hB7))
          go_roundw
          case rel => exact ⟨j + 1, by omega, by go_num, hB.trans hB7, by rw [HS.out]; exact hO7⟩
          case measure => simp [intOf]; omega
        · obtain rfl : j = k := by omega
          rw [List.take_of_length_le (by rw [HPL.out]; exact Nat.le_refl _)] at hO
          obtain ⟨A', c', hv, h1, h2, h3, h4⟩ := hO.form2
          rw [HFL.out] at hv h1
          subst hv
          go_wp2
          go_ret
          exact ⟨A', c', rfl, h3, h1, h2, h4, hB⟩
end Go.Proofs.YtmhelmmonkgmmaaDoor
