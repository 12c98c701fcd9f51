/- Part 3 of what the laws of this seat share: VBlock, VEnd, VEnded, WRange. -/
import Derived.RangeFuncKeeps
import Derived.RangeFuncCalls
import Derived.RangeFuncLeaves
import Derived.TacticsInMore
import Derived.Test.YtoggkhjaghkpnaaDoorPart2
namespace Go.Proofs.YtoggkhjaghkpnaaDoor
open Go.RowKit
/-- The package's two tables lie where the program's text lays them. -/
def TabsW (w : World) : Prop := w.rangeAt 2 0 (widStart.list.map vcell) ∧ w.rangeAt 3 0 (widK.map vcell)
theorem TabsW.keep {w w' : World} {B : Nat} (h : TabsW w) (hb : Below B w w') (h1 : 2 < B) (h2 : 3 < B) : TabsW w' :=
  ⟨fun j v hj => (hb.cell (p := ⟨2, 0 + j, none⟩) h1).trans (h.1 j v hj), fun j v hj => (hb.cell (p := ⟨3, 0 + j, none⟩) h2).trans (h.2 j v hj)⟩
theorem TabsW.lt {w : World} (h : TabsW w) : 2 < w.heap.size ∧ 3 < w.heap.size :=
  ⟨block_lt_of_cell (h.1 0 _ (show (widStart.list.map vcell)[0]? = some (vcell widStart.a) from rfl)), block_lt_of_cell (h.2 0 _ (show (widK.map vcell)[0]? = some (vcell 4794697086780616226) from rfl))⟩
theorem TabsW.below {w w' : World} (h : TabsW w) (hb : Below w.heap.size w w') : TabsW w' := h.keep hb h.lt.1 h.lt.2
theorem TabsW.drewN {w : World} (h : TabsW w) (n : Nat) : TabsW (w.drewN n) := h
theorem TabsW.round {w : World} (h : TabsW w) (k : Nat) (hk : k < 80) : w.cell? ⟨3, k, none⟩ = some (vcell (widK.getD k 0)) := by
  have := h.2 k (vcell (widK.getD k 0)) (by rw [List.getElem?_map, List.getD_eq_getElem?_getD, List.getElem?_eq_getElem (show k < widK.length from hk)]; rfl)
  rwa [Nat.zero_add] at this
theorem size_chain : (Tryd.prog.info? 84).map (·.size) = some 8 := by kernel_rfl
theorem size_block : (Tryd.prog.info? 90).map (·.size) = some 128 := by kernel_rfl
theorem zero_chain : ∀ w, (zeroValue 84).run Tryd.prog w = .ok (.agg (List.replicate 8 (vcell 0)).toArray) w := (zero_of_info (P := Tryd.prog) (t := 84) (v := .agg (List.replicate 8 (vcell 0)).toArray) (n := 8) (by kernel_rfl)).1
theorem zero_block : ∀ w, (zeroValue 90).run Tryd.prog w = .ok (.agg (List.replicate 128 (cellOf 0)).toArray) w := (zero_of_info (P := Tryd.prog) (t := 90) (v := .agg (List.replicate 128 (cellOf 0)).toArray) (n := 128) (by kernel_rfl)).1
theorem vcells_one (l : List (BitVec 64)) : (l.map vcell).toArray.all (·.oneCell') = true := all_oneCell_toArray (by intro v hv; obtain ⟨x, _, rfl⟩ := List.mem_map.1 hv; rfl)
/-- A chain to which another is added, up to the k-th word. -/
def sumToW (o q : Wct) (k : Nat) : List Value := ((o.plus q).list.take k).map vcell ++ (o.list.drop k).map vcell
theorem sumToW_next (o q : Wct) (k : Nat) (hk : k < 8) : (sumToW o q k).set k (vcell (o.list.getD k 0 + q.list.getD k 0)) = sumToW o q (k + 1) := by
  match k, hk with
  | 0, _ => rfl
  | 1, _ => rfl
  | 2, _ => rfl
  | 3, _ => rfl
  | 4, _ => rfl
  | 5, _ => rfl
  | 6, _ => rfl
  | 7, _ => rfl
theorem sumToW_at (o q : Wct) (k : Nat) (hk : k < 8) : (sumToW o q k)[k]? = some (vcell (o.list.getD k 0)) := by
  match k, hk with
  | 0, _ => rfl
  | 1, _ => rfl
  | 2, _ => rfl
  | 3, _ => rfl
  | 4, _ => rfl
  | 5, _ => rfl
  | 6, _ => rfl
  | 7, _ => rfl
theorem wct_at (q : Wct) (k : Nat) (hk : k < 8) : (q.list.map vcell)[k]? = some (vcell (q.list.getD k 0)) := by
  rw [List.getElem?_map, List.getD_eq_getElem?_getD, List.getElem?_eq_getElem (show k < q.list.length from hk)]
  rfl
/-- A chain as the program holds it. -/
def chainVal (o : Wct) : List Value := o.list.map vcell
set_option maxRecDepth 100000 in
theorem worked_any (o : Wct) (bs : List UInt8) (ls vs : List Value) (w : World) (hK : TabsW w) (hl : ls = chainVal o) (hv : vs = bs.map cellOf) (hn : bs.length = 128) :
    Calls Tryd.prog 48 #[.agg ls.toArray, .agg vs.toArray] w (gvn (.agg (chainVal (widBlock o bs)).toArray) w) := by
  have HN := Lib.hid hn
  have HV := Lib.hid hv
  have HL := Lib.hid hl
  have HZ : Hid (ls.length = 8) := by show _ = _; rw [hl]; rfl
  have HZ2 : Hid (vs.length = 128) := by show _ = _; rw [hv, List.length_map, hn]
  have hil : (Tryd.prog.info? 84).map (·.size) = some ls.toArray.size := by rw [List.size_toArray, HZ.out]; exact size_chain
  have hib : (Tryd.prog.info? 90).map (·.size) = some vs.toArray.size := by rw [List.size_toArray, HZ2.out]; exact size_block
  have HS : Hid (ls.toArray.size = 8) := by show _ = _; rw [List.size_toArray, HZ.out]
  have H1 : Hid (ls.toArray.all (·.oneCell') = true) := by show _ = _; rw [hl]; exact vcells_one _
  clear hn hv hl
  go_enter Tryd.func48, Tryd.ntmps48
  go_wp2_with (first
    | (refine box_step rfl 84 _ rfl ls.toArray rfl ?_
       intro w1 hw1
       have hB1 : Below w.heap.size w w1 := by rw [hw1]; exact (Below.refl _ _).alloc (Nat.le_refl _) _
       have hC1 : Cells w1 w.heap.size ls 84 := by rw [hw1]; exact Cells.new w _ _
       have hs1 : w1.heap.size = w.heap.size + 1 := by rw [hw1]; simp
       clear hw1)
    | (refine box_step rfl 90 _ rfl vs.toArray rfl ?_
       intro w2 hw2
       have hB2 : Below w.heap.size w w2 := by rw [hw2]; exact hB1.alloc hB1.size _
       have hC2 : Cells w2 w.heap.size ls 84 := by rw [hw2]; exact hC1.alloc _
       have hD2 : Cells w2 (w.heap.size + 1) vs 90 := by rw [hw2, ← hs1]; exact Cells.new w1 _ _
       have hs2 : w2.heap.size = w.heap.size + 2 := by rw [hw2]; simp [hs1]
       rw [hs1]
       clear hw2 hB1 hC1)
    | (refine alloc_step rfl 84 rfl _ zero_chain ?_
       first
       | (intro w3 hw3
          have hB3 : Below w.heap.size w w3 := by rw [hw3]; exact hB2.alloc hB2.size _
          have hC3 : Cells w3 w.heap.size ls 84 := by rw [hw3]; exact hC2.alloc _
          have hD3 : Cells w3 (w.heap.size + 1) vs 90 := by rw [hw3]; exact hD2.alloc _
          have hR3 : Cells w3 (w.heap.size + 2) (List.replicate 8 (vcell 0)) 84 := by rw [hw3, ← hs2]; exact Cells.new w2 _ _
          have hs3 : w3.heap.size = w.heap.size + 3 := by rw [hw3]; simp [hs2]
          rw [hs2]
          clear hw3 hB2 hC2 hD2)
       | (intro w4 hw4
          have hB4 : Below w.heap.size w w4 := by rw [hw4]; exact hB3.alloc hB3.size _
          have hC4 : Cells w4 w.heap.size ls 84 := by rw [hw4]; exact hC3.alloc _
          have hD4 : Cells w4 (w.heap.size + 1) vs 90 := by rw [hw4]; exact hD3.alloc _
          have hR4 : Cells w4 (w.heap.size + 2) (List.replicate 8 (vcell 0)) 84 := by rw [hw4]; exact hR3.alloc _
          have hE4 : Cells w4 (w.heap.size + 3) (List.replicate 8 (vcell 0)) 84 := by rw [hw4, ← hs3]; exact Cells.new w3 _ _
          have hT4 : w4.there (w.heap.size + 3) 0 ls.toArray.size := by rw [HS.out]; exact hE4.there 0 8 (by simp)
          rw [hs3]
          clear hw4 hB3 hC3 hD3 hR3))
    | (refine wpList_load_row rfl 84 _ rfl w.heap.size rfl 84 _ (0, 0) _ hC3 Tryd.underlying84 rfl hil ?_)
    | (refine wpList_store_mid rfl 84 _ _ rfl (w.heap.size + 3) 0 ls.toArray rfl rfl hT4 hil H1.out ?_))
  have hB5 : Below w.heap.size w (w4.setCells (w.heap.size + 3) 0 ls) := below_setCells hB4 (by omega) _ _
  have hC5 : Cells (w4.setCells (w.heap.size + 3) 0 ls) w.heap.size ls 84 := hC4.otherCells (by omega) _ _
  have hD5 : Cells (w4.setCells (w.heap.size + 3) 0 ls) (w.heap.size + 1) vs 90 := hD4.otherCells (by omega) _ _
  have hR5 : Cells (w4.setCells (w.heap.size + 3) 0 ls) (w.heap.size + 2) (List.replicate 8 (vcell 0)) 84 := hR4.otherCells (by omega) _ _
  have hE5 : Cells (w4.setCells (w.heap.size + 3) 0 ls) (w.heap.size + 3) ls 84 := by
    have h := hE4.setCells (cs := ls) (o := 0) (by rw [HZ.out]; simp)
    rw [splice_all _ _ (by rw [HZ.out]; simp)] at h
    exact h
  generalize w4.setCells (w.heap.size + 3) 0 ls = w0 at *
  clear hB4 hC4 hD4 hR4 hE4 hT4
  rw [HL.out] at hE5 hC5
  clear hs1 hs2 hs3
  have c0 := hE5.get (j := 0) (v := vcell o.a) rfl
  have c1 := hE5.get (j := 1) (v := vcell o.b) rfl
  have c2 := hE5.get (j := 2) (v := vcell o.c) rfl
  have c3 := hE5.get (j := 3) (v := vcell o.d) rfl
  have c4 := hE5.get (j := 4) (v := vcell o.e) rfl
  have c5 := hE5.get (j := 5) (v := vcell o.f) rfl
  have c6 := hE5.get (j := 6) (v := vcell o.g) rfl
  have c7 := hE5.get (j := 7) (v := vcell o.h) rfl
  go_simp
  go_quiet (fail)
  have hB6 := below_drewN hB5 nq
  have hC6 := hC5.drewN nq
  have hD6 := hD5.drewN nq
  have hR6 := hR5.drewN nq
  clear hB5 hC5 hD5 hR5 hE5 c0 c1 c2 c3 c4 c5 c6 c7
  generalize w0.drewN nq = w5 at *
  go_wp2_with (refine wpList_load_row rfl 90 _ rfl (w.heap.size + 1) rfl 90 _ (0, 0) _ hD6 Tryd.underlying90 rfl hib ?_)
  refine (wideSpread_any bs vs _ HV.out HN.out).mono ?_
  rintro e w6 ⟨rfl, hB7⟩
  have hC7 := hC6.below hB7 hC6.lt
  have hR7 := hR6.below hB7 hR6.lt
  replace hB7 := hB6.trans (hB7.mono hB6.size)
  clear hB6 hC6 hD6 hR6
  have HS := Lib.hid (widSpread_length bs 80)
  have HO : Hid (widBlock o bs = o.plus (widRounds o (widSpread bs 80) 80)) := rfl
  generalize widSpread bs 80 = ws at *
  have hK7 := hK.below hB7
  go_wp2_with fail
  go_loopw [6, 7, 8, 9, 10, 11, 12, 13, 39] (fun p q r s t u v x i wr => ∃ k : Nat, k ≤ 80 ∧ i = .int .i64 k ∧ Below w.heap.size w wr ∧ TabsW wr ∧ Cells wr w.heap.size (chainVal o) 84 ∧ Cells wr (w.heap.size + 2) (List.replicate 8 (vcell 0)) 84 ∧ p = vcell (widRounds o ws k).a ∧ q = vcell (widRounds o ws k).b ∧ r = vcell (widRounds o ws k).c ∧ s = vcell (widRounds o ws k).d ∧ t = vcell (widRounds o ws k).e ∧ u = vcell (widRounds o ws k).f ∧ v = vcell (widRounds o ws k).g ∧ x = vcell (widRounds o ws k).h) (fun _ _ _ _ _ _ _ _ i _ => 80 - (intOf i).toNat)
  case atStart => exact ⟨0, Nat.zero_le _, rfl, hB7, hK7, hC7, hR7, rfl, rfl, rfl, rfl, rfl, rfl, rfl, rfl⟩
  case round =>
    clear hB7 hK7 hC7 hR7
    obtain ⟨k, hk, rfl, hB, hT, hC, hR, rfl, rfl, rfl, rfl, rfl, rfl, rfl, rfl⟩ := hrel
    by_cases hlt : k < 80
    · have hcK := hT.round k hlt
      have hix := run_index_int (P := Tryd.prog) (t := 113) (ws.map vcell) k (vcell (ws.getD k 0)) wr Tryd.underlying113 Tryd.underlying40 size_w64 hlt (by
        rw [List.getElem?_map, List.getD_eq_getElem?_getD, List.getElem?_eq_getElem (by rw [HS.out]; exact hlt)]
        rfl)
      have HX : Hid (widRounds o ws (k + 1) = widRound (widRounds o ws k) (widK.getD k 0) (ws.getD k 0)) := rfl
      generalize widRounds o ws k = q at *
      generalize ws.getD k 0 = xw at *
      generalize widK.getD k 0 = xk at *
      have i1 : (0 : Int) ≤ (k : Int) := by omega
      have i2 : (k : Int) < 80 := by omega
      go_wp2_with fail
      go_quiet ((go_at_call 77; exact Calls.quiet_of_same (turns64_same _ _ _ _ _)))
      go_wp2_with (go_at_call 77; refine (turns64_any _ _ _ _ _).mono ?_; rintro e w' ⟨rfl, rfl⟩)
      go_roundw
      case rel =>
        rw [one64_eq, two64_eq, wadd64, wadd64]
        exact ⟨k + 1, by omega, by go_num, below_drewN hB nq, hT, hC, hR, by rw [HX.out]; rfl, by rw [HX.out]; rfl, by rw [HX.out]; rfl, by rw [HX.out]; rfl, by rw [HX.out]; rfl, by rw [HX.out]; rfl, by rw [HX.out]; rfl, by rw [HX.out]; rfl⟩
      case measure => simp [intOf]; omega
    · obtain rfl : k = 80 := by omega
      have HQ := HO.out
      generalize widRounds o ws 80 = q at *
      replace HQ := Lib.hid HQ
      clear HO hT
      go_wp2_with fail
      rw [show ((80 : Nat) : Int) = 80 from rfl]
      go_loopw [98] (fun i wr => ∃ k : Nat, k ≤ 8 ∧ i = .int .i64 k ∧ Below w.heap.size w wr ∧ Cells wr w.heap.size (sumToW o q k) 84 ∧ Cells wr (w.heap.size + 2) (List.replicate 8 (vcell 0)) 84) (fun i _ => 8 - (intOf i).toNat)
      case atStart => exact ⟨0, Nat.zero_le _, rfl, hB, hC, hR⟩
      case round =>
        clear hB hC hR
        obtain ⟨k, hk, rfl, hB, hC, hR⟩ := hrel
        by_cases hlt : k < 8
        · have hix : ∀ W : World, (Instr.index 62 (.agg #[vcell q.a, vcell q.b, vcell q.c, vcell q.d, vcell q.e, vcell q.f, vcell q.g, vcell q.h]) (.int .i64 (k : Int))).run Tryd.prog W = .ok (vcell (q.list.getD k 0)) W := fun W =>
            run_index_int (P := Tryd.prog) (t := 62) (q.list.map vcell) k (vcell (q.list.getD k 0)) W Tryd.underlying62 Tryd.underlying40 size_w64 hlt (wct_at q k hlt)
          have i1 : (0 : Int) ≤ (k : Int) := by omega
          have i2 : (k : Int) < 8 := by omega
          have d1 := hC.get (sumToW_at o q k hlt)
          have d2 := hC.frozen k
          have HN := Lib.hid (sumToW_next o q k hlt)
          go_wp2
          go_roundw
          case rel =>
            rw [wadd64]
            refine ⟨k + 1, by omega, by go_num, hB.setCell (p := ⟨w.heap.size, k, none⟩) (Nat.le_refl _) _, ?_, hR.other (by simp) _⟩
            have h := hC.set k (vcell (o.list.getD k 0 + q.list.getD k 0))
            rw [HN.out] at h
            exact h
          case measure => simp [intOf]; omega
        · obtain rfl : k = 8 := by omega
          have HW : Hid (sumToW o q 8 = chainVal (widBlock o bs)) := by show _ = _; rw [HQ.out]; rfl
          have HY : Hid ((sumToW o q 8).length = 8) := rfl
          have HP : Hid (∀ v ∈ sumToW o q 8, v.oneCell' = true) := by
            show ∀ v ∈ sumToW o q 8, v.oneCell' = true
            rw [HW.out]
            intro v hv
            obtain ⟨x, _, rfl⟩ := List.mem_map.1 hv
            rfl
          generalize sumToW o q 8 = ys at *
          have HS2 : Hid (ys.toArray.size = 8) := by show _ = _; rw [List.size_toArray, HY.out]
          have hi : (Tryd.prog.info? 84).map (·.size) = some ys.toArray.size := by rw [HS2.out]; exact size_chain
          have hT : wr.there (w.heap.size + 2) 0 ys.toArray.size := by rw [HS2.out]; exact hR.there 0 8 (by simp)
          go_wp2_with (first
            | (refine wpList_load_row rfl 84 _ rfl w.heap.size rfl 84 _ (0, 0) _ hC Tryd.underlying84 rfl hi ?_)
            | (refine wpList_store_mid rfl 84 _ _ rfl (w.heap.size + 2) 0 ys.toArray rfl rfl hT hi (all_oneCell_toArray HP.out) ?_))
          have hD := hR.setCells (cs := ys) (o := 0) (by simp [HY.out])
          rw [splice_all _ _ (by simp [HY.out])] at hD
          refine ret_block Tryd.results48 (w.heap.size + 2) ys 84 rfl hD Tryd.underlying84 rfl (by simpa using hi) rfl ⟨by rw [HW.out], below_setCells hB (by omega) _ _⟩
theorem digest64_next (l : List (BitVec 64)) (k : Nat) (hk : k < l.length) (hl : l.length = 8) :
    splice ((words8 (l.take k)).map cellOf ++ List.replicate (64 - 8 * k) (cellOf 0)) (8 * k) ((word8 l[k]).map cellOf) = (words8 (l.take (k + 1))).map cellOf ++ List.replicate (64 - 8 * (k + 1)) (cellOf 0) := by
  have e := splice_mid ((words8 (l.take k)).map cellOf) (List.replicate (64 - 8 * k) (cellOf 0)) [] ((word8 l[k]).map cellOf) 0 (by rw [List.length_map, word8_length, List.length_replicate]; omega)
  rw [List.append_nil, List.append_nil, Nat.add_zero, List.length_map, words8_length, List.length_take, Nat.min_eq_left (by omega), List.length_map, word8_length, List.take_zero, List.nil_append, List.drop_replicate] at e
  rw [e, take_snoc l k hk, words8_snoc, List.map_append, List.append_assoc]
  congr 3
theorem zero_apiwide : ∀ w, (zeroValue 54).run Tryd.prog w = .ok (.agg (List.replicate 64 (cellOf 0)).toArray) w := (zero_of_info (P := Tryd.prog) (t := 54) (v := .agg (List.replicate 64 (cellOf 0)).toArray) (n := 64) (by kernel_rfl)).1
theorem size_apiwide : (Tryd.prog.info? 54).map (·.size) = some 64 := by kernel_rfl
/-- 'out[l:]' of a digest of 64 bytes. -/
theorem wide_cut (g l : Nat) (w : World) (h1 : l < 64) :
    (Instr.sliceAt 54 (.pointer (some ⟨g, 0, none⟩)) (some (.int .i64 (l : Int))) none none).run Tryd.prog w = .ok (.slice (some ⟨g, l, none⟩) (64 - l) (64 - l)) w := by
  obtain ⟨i0, hi0, hs0⟩ := Option.map_eq_some_iff.1 size_u8
  have h4 : (l : Int) ≤ 64 := by omega
  have h5 : ¬ 64 = l := by omega
  simp [Instr.sliceAt, Instr.sureAddr, run_underlying Tryd.underlying54, Instr.sliceBounds, run_sliceBound, sizeOf, typeInfo, hi0, hs0, h4, h5, Addr.add]
  exact fun e => e.symm
set_option maxRecDepth 100000 in
theorem digest64_any (o : Wct) (ls : List Value) (w : World) (hl : ls = chainVal o) :
    Calls Tryd.prog 49 #[.agg ls.toArray] w (gvn (hashVal (words8 o.list)) w) := by
  have HL := Lib.hid hl
  have HZ : Hid (ls.length = 8) := by show _ = _; rw [hl]; rfl
  have HS : Hid (ls.toArray.size = 8) := by show _ = _; rw [List.size_toArray, HZ.out]
  have hil : (Tryd.prog.info? 84).map (·.size) = some ls.toArray.size := by rw [HS.out]; exact size_chain
  clear hl
  go_enter Tryd.func49, Tryd.ntmps49
  go_wp2_with (first
    | (refine box_step rfl 84 _ rfl ls.toArray rfl ?_
       intro w1 hw1
       have hB1 : Below w.heap.size w w1 := by rw [hw1]; exact (Below.refl _ _).alloc (Nat.le_refl _) _
       have hC1 : Cells w1 w.heap.size ls 84 := by rw [hw1]; exact Cells.new w _ _
       have hs1 : w1.heap.size = w.heap.size + 1 := by rw [hw1]; simp
       clear hw1)
    | (refine alloc_step rfl 54 rfl _ zero_apiwide ?_
       first
       | (intro w2 hw2
          have hB2 : Below w.heap.size w w2 := by rw [hw2]; exact hB1.alloc hB1.size _
          have hC2 : Cells w2 w.heap.size ls 84 := by rw [hw2]; exact hC1.alloc _
          have hR2 : Cells w2 (w.heap.size + 1) (List.replicate 64 (cellOf 0)) 54 := by rw [hw2, ← hs1]; exact Cells.new w1 _ _
          have hs2 : w2.heap.size = w.heap.size + 2 := by rw [hw2]; simp [hs1]
          rw [hs1]
          clear hw2 hB1 hC1)
       | (intro w3 hw3
          have hB3 : Below w.heap.size w w3 := by rw [hw3]; exact hB2.alloc hB2.size _
          have hC3 : Cells w3 w.heap.size ls 84 := by rw [hw3]; exact hC2.alloc _
          have hR3 : Cells w3 (w.heap.size + 1) (List.replicate 64 (cellOf 0)) 54 := by rw [hw3]; exact hR2.alloc _
          have hD3 : Cells w3 (w.heap.size + 2) (List.replicate 64 (cellOf 0)) 54 := by rw [hw3, ← hs2]; exact Cells.new w2 _ _
          rw [hs2]
          clear hw3 hB2 hC2 hR2 hs1 hs2))
    | (refine wpList_load_row rfl 84 _ rfl w.heap.size rfl 84 _ (0, 0) _ hC3 Tryd.underlying84 rfl hil ?_))
  clear hC3
  have HO : Hid (o.list.length = 8) := rfl
  have HC : Hid (ls = o.list.map vcell) := HL.out
  clear HL
  generalize hol : o.list = l at *
  replace hol := Lib.hid hol
  go_loopw [7] (fun i wr => ∃ k : Nat, k ≤ 8 ∧ i = .int .i64 k ∧ Below w.heap.size w wr ∧ Cells wr (w.heap.size + 1) (List.replicate 64 (cellOf 0)) 54 ∧ Cells wr (w.heap.size + 2) ((words8 (l.take k)).map cellOf ++ List.replicate (64 - 8 * k) (cellOf 0)) 54) (fun i _ => 8 - (intOf i).toNat)
  case atStart => exact ⟨0, Nat.zero_le _, rfl, hB3, hR3, hD3⟩
  case round =>
    clear hB3 hR3 hD3
    obtain ⟨k, hk, rfl, hB, hR, hS⟩ := hrel
    by_cases hlt : k < 8
    · have hlt2 : k < l.length := by rw [HO.out]; exact hlt
      have hix := run_index_int (P := Tryd.prog) (t := 84) ls k (vcell l[k]) wr Tryd.underlying84 Tryd.underlying40 size_w64 hlt (by rw [HC.out, List.getElem?_map, List.getElem?_eq_getElem hlt2]; rfl)
      have hcut := wide_cut (w.heap.size + 2) (8 * k) wr (by omega)
      rw [show ((8 * k : Nat) : Int) = 8 * (k : Int) by omega] at hcut
      have HD := Lib.hid (digest64_next l k hlt2 HO.out)
      have HE : Hid (((words8 (l.take k)).map cellOf ++ List.replicate (64 - 8 * k) (cellOf 0)).length = 64) := by
        show _ = _
        rw [List.length_append, List.length_map, words8_length, List.length_take, HO.out, List.length_replicate]; omega
      generalize l[k] = x at *
      go_wp2_with fail
      refine (widePutBig_any (w.heap.size + 2) (8 * k) _ _ x.toNat _ _ wr hS (by have := x.isLt; omega) (by omega) (by rw [HE.out]; omega)).mono ?_
      rintro e w1 ⟨rfl, hB1, hC1⟩
      go_wp2
      go_roundw
      case rel =>
        refine ⟨k + 1, by omega, by go_num, hB.trans (hB1.below (by omega) hB.size), hR.but hB1 (by omega), ?_⟩
        rw [← HD.out]
        exact hC1
      case measure => simp [intOf]; omega
    · obtain rfl : k = 8 := by omega
      have HV : Hid ((words8 (l.take 8)).map cellOf ++ List.replicate (64 - 8 * 8) (cellOf 0) = (words8 l).map cellOf) := by
        show _ = _
        rw [List.take_of_length_le (by rw [HO.out]; omega)]; simp
      have HW : Hid (((words8 l).map cellOf).length = 64) := by show _ = _; rw [List.length_map, words8_length, HO.out]
      rw [HV.out] at hS
      have HP : Hid (∀ v ∈ (words8 l).map cellOf, v.oneCell' = true) := cells8_one _
      generalize hvs : (words8 l).map cellOf = vs at *
      replace hvs := Lib.hid hvs
      have HS2 : Hid (vs.toArray.size = 64) := by show _ = _; rw [List.size_toArray, HW.out]
      have hi : (Tryd.prog.info? 54).map (·.size) = some vs.toArray.size := by rw [HS2.out]; exact size_apiwide
      have hT : wr.there (w.heap.size + 1) 0 vs.toArray.size := by rw [HS2.out]; exact hR.there 0 64 (by simp)
      go_wp2_with (first
        | (refine wpList_load_row rfl 54 _ rfl (w.heap.size + 2) rfl 54 _ (0, 0) _ hS Tryd.underlying54 rfl hi ?_)
        | (refine wpList_store_mid rfl 54 _ _ rfl (w.heap.size + 1) 0 vs.toArray rfl rfl hT hi (all_oneCell_toArray HP.out) ?_))
      have hC := hR.setCells (cs := vs) (o := 0) (by simp [HW.out])
      rw [splice_all _ _ (by simp [HW.out])] at hC
      refine ret_block Tryd.results49 (w.heap.size + 1) vs 54 rfl hC Tryd.underlying54 rfl (by simpa using hi) rfl ⟨by rw [← hvs.out, ← hol.out]; rfl, below_setCells hB (by omega) _ _⟩
theorem withEnd_any (n : Nat) (w : World) (hn : n ≤ 1000000) :
    Calls Tryd.prog 91 #[.int .i64 (n : Int)] w fun e w' => e = .returned (.int .i64 ((n + (widPad n + 16) : Nat) : Int)) ∧ w = w' := by
  have HE := Lib.hid (widEnd_with n)
  go_enter Tryd.func91, Tryd.ntmps91
  go_wp2
  go_ret
  refine ⟨ret_int ?_, rfl⟩
  have := HE.out
  omega
/-- The end's room: a bit of 1, and noughts. -/
def wideTail (p : Nat) : List Value := cellOf 128 :: List.replicate (p + 15) (cellOf 0)
theorem wideTail_length (p : Nat) : (wideTail p).length = p + 16 := by simp [wideTail]
theorem wideTail_is (n : Nat) : splice (splice (wideTail (widPad n)) (widPad n) (bigCells 0 8)) (widPad n + 8) (bigCells (8 * n) 8) = (widEnd n).map cellOf := by
  have hp := widPad_pos n
  have hb : ∀ x, (bigCells x 8).length = 8 := fun x => by simp [bigCells, putL_length]
  have hz : bigCells 0 8 = List.replicate 8 (cellOf 0) := by rfl
  obtain ⟨m, hm⟩ : ∃ m, widPad n = m + 1 := ⟨widPad n - 1, by omega⟩
  have e1 : (wideTail (widPad n)).take (widPad n) = cellOf 128 :: List.replicate (widPad n - 1) (cellOf 0) := by
    rw [hm, wideTail, List.take_succ_cons, List.take_replicate, Nat.min_eq_left (by omega), Nat.add_sub_cancel]
  have e2 : (wideTail (widPad n)).drop (widPad n + 8) = List.replicate 8 (cellOf 0) := by
    rw [hm, wideTail, show m + 1 + 8 = (m + 8) + 1 by omega, List.drop_succ_cons, List.drop_replicate]
    congr 1; omega
  have e3 : splice (wideTail (widPad n)) (widPad n) (bigCells 0 8) = (cellOf 128 :: List.replicate (widPad n - 1) (cellOf 0) ++ List.replicate 8 (cellOf 0)) ++ List.replicate 8 (cellOf 0) := by
    rw [splice, hb, e1, e2, hz]
  rw [e3]
  have hl : (cellOf 128 :: List.replicate (widPad n - 1) (cellOf 0) ++ List.replicate 8 (cellOf 0)).length = widPad n + 8 := by simp; omega
  have e4 := splice_mid (cellOf 128 :: List.replicate (widPad n - 1) (cellOf 0) ++ List.replicate 8 (cellOf 0)) (List.replicate 8 (cellOf 0)) [] (bigCells (8 * n) 8) 0 (by rw [hb]; simp)
  rw [List.append_nil, Nat.add_zero, hl] at e4
  rw [e4]
  simp [widEnd, bigCells, putL_length]
set_option maxRecDepth 100000 in
theorem wideEnd_any (n : Nat) (w : World) (hn : n ≤ 900000) :
    Calls Tryd.prog 75 #[.int .i64 (n : Int)] w fun e w' => e = .returned (.slice (some ⟨w.heap.size, 0, none⟩) (widPad n + 16) (widPad n + 16)) ∧ Below w.heap.size w w' ∧ Made w' w.heap.size (widEnd n) := by
  have hp := widPad_pos n
  have HT := Lib.hid (wideTail_is n)
  have HW := Lib.hid (withEnd_any n w (by omega))
  have HLen := Lib.hid (wideTail_length (widPad n))
  generalize hpad : widPad n = p at *
  replace hpad := Lib.hid hpad
  generalize htt : n + (p + 16) = tt at *
  generalize hm : p + 16 = m at *
  have hsub : (tt : Int) - (n : Int) = (m : Int) := by omega
  have hsub2 : (m : Int) - 16 = (p : Int) := by omega
  have htt2 : tt ≤ 2000000 := by omega
  have hm2 : m ≤ 144 := by omega
  have hm3 : 17 ≤ m := by omega
  have hp2 : p ≤ m := by omega
  replace htt := Lib.hid htt
  replace hm := Lib.hid hm
  have hz : n / 2305843009213693952 = 0 := by omega
  have hz2 : (n : Int) / 2305843009213693952 = 0 := by omega
  have hz3 : (n : Int) * 8 % 18446744073709551616 = ((8 * n : Nat) : Int) := by omega
  have HX : Hid (((List.replicate m (0 : UInt8)).map cellOf).set 0 (cellOf 128) = wideTail p) := by
    show _ = _
    rw [← hm.out, List.map_replicate, show p + 16 = (p + 15) + 1 by omega, List.replicate_succ, wideTail]
    rfl
  have i1 : ¬ m = p := by have := hm.out; omega
  have i2 : m - p = 16 := by have := hm.out; omega
  have i3 : (0 : Int) < (m : Int) := by omega
  go_enter Tryd.func75, Tryd.ntmps75
  go_wp2_with fail
  refine HW.out.mono ?_
  rintro e w' ⟨rfl, rfl⟩
  go_wp2_with (first
    | (refine make_step rfl _ _ rfl m m rfl rfl (Nat.le_refl _) (by omega) ?_
       intro w1 hB1 hM1 hs1
       have hC1 := hM1.cells
       have hT1 := hC1.there 0 1 (by rw [List.length_map, List.length_replicate]; omega))
    | (refine store_step rfl 5 _ _ rfl w.heap.size 0 .u8 128 rfl rfl size_u8 hT1 ?_
       intro w2 hw2
       have hB2 : Below w.heap.size w w2 := by rw [hw2]; exact hB1.setCell (Nat.le_refl _) _
       have hC2 : Cells w2 w.heap.size (wideTail p) 5 := by rw [hw2, ← HX.out]; exact hC1.set 0 (cellOf 128)
       clear hw2 hB1 hM1 hC1 hT1 hs1)
    | (refine cut_from rfl _ _ rfl (some ⟨w.heap.size, 0, none⟩) m m p rfl rfl hp2 ?_
       rw [cutA_some _ _ _ _ i1, Nat.zero_add, i2]))
  refine (widePutBig_any w.heap.size p 16 16 0 _ _ w2 hC2 (by omega) (by omega) (by rw [HLen.out, ← hm.out]; omega)).mono ?_
  rintro e w3 ⟨rfl, hB3, hC3⟩
  have hB4 := hB2.trans (hB3.below (Nat.le_refl _) hB2.size)
  clear hB2 hC2 hB3
  go_wp2_with fail
  rw [show (n : Int) * 8 = ((8 * n : Nat) : Int) by omega]
  refine (widePutBig_any w.heap.size (p + 8) 8 8 (8 * n) _ _ w3 hC3 (by omega) (by omega) (by
    rw [splice_length _ _ _ (by rw [HLen.out, ← hm.out]; simp [bigCells, putL_length]), HLen.out, ← hm.out]; omega)).mono ?_
  rintro e w4 ⟨rfl, hB5, hC5⟩
  rw [HT.out] at hC5
  have hB6 := hB4.trans (hB5.below (Nat.le_refl _) hB4.size)
  go_wp2
  go_ret
  exact ⟨rfl, hB6, hC5⟩
/-- The address leads to these bytes, in a block of which G holds. -/
def RowG (w : World) (G : Nat → Prop) (A : Option Addr) (bs : List UInt8) : Prop :=
  bs = [] ∨ ∃ b off, A = some ⟨b, off, none⟩ ∧ G b ∧ ∀ j u, bs[j]? = some u → w.cell? ⟨b, off + j, none⟩ = some (cellOf u)
/-- The value is a slice of these bytes. -/
def PartG (w : World) (G : Nat → Prop) (v : Value) (us : List UInt8) : Prop := ∃ A c, v = .slice A us.length c ∧ RowG w G A us ∧ us.length ≤ c ∧ c ≤ maxLen ∧ (A = none → c = 0)
theorem RowG.row {w : World} {G : Nat → Prop} {A : Option Addr} {bs : List UInt8} {B : Nat} (h : RowG w G A bs) (hG : ∀ b, G b → b < B) : Row w B A bs := by
  rcases h with rfl | ⟨b, off, e, hb, hc⟩
  · exact .inl rfl
  · exact .inr ⟨b, off, e, hG b hb, hc⟩
theorem RowG.keep {w w' : World} {G : Nat → Prop} {A : Option Addr} {bs : List UInt8} (h : RowG w G A bs) (hk : ∀ b, G b → w'.heap[b]? = w.heap[b]?) : RowG w' G A bs := by
  rcases h with rfl | ⟨b, off, e, hb, hc⟩
  · exact .inl rfl
  · exact .inr ⟨b, off, e, hb, fun j u hu => (World.cell?_of_block (hk b hb)).trans (hc j u hu)⟩
theorem PartG.keep {w w' : World} {G : Nat → Prop} {v : Value} {us : List UInt8} (h : PartG w G v us) (hk : ∀ b, G b → w'.heap[b]? = w.heap[b]?) : PartG w' G v us := by
  obtain ⟨A, c, e, hr, r⟩ := h
  exact ⟨A, c, e, hr.keep hk, r⟩
theorem RowG.mono {w : World} {G H : Nat → Prop} {A : Option Addr} {bs : List UInt8} (h : RowG w G A bs) (hG : ∀ b, G b → H b) : RowG w H A bs := by
  rcases h with rfl | ⟨b, off, e, hb, hc⟩
  · exact .inl rfl
  · exact .inr ⟨b, off, e, hG b hb, hc⟩
theorem PartG.mono {w : World} {G H : Nat → Prop} {v : Value} {us : List UInt8} (h : PartG w G v us) (hG : ∀ b, G b → H b) : PartG w H v us := by
  obtain ⟨A, c, e, hr, r⟩ := h
  exact ⟨A, c, e, hr.mono hG, r⟩
theorem Row.toG {w : World} {B : Nat} {A : Option Addr} {bs : List UInt8} {G : Nat → Prop} (h : Row w B A bs) (hG : ∀ b, b < B → G b) : RowG w G A bs := by
  rcases h with rfl | ⟨b, off, e, hb, hc⟩
  · exact .inl rfl
  · exact .inr ⟨b, off, e, hG b hb, hc⟩
theorem Part.toG {w : World} {B : Nat} {v : Value} {us : List UInt8} {G : Nat → Prop} (h : Part w B v us) (hG : ∀ b, b < B → G b) : PartG w G v us := by
  obtain ⟨A, c, e, hr, r⟩ := h
  exact ⟨A, c, e, hr.toG hG, r⟩
/-- The slices that stand at an address, one by one. -/
theorem Parts.vals {w : World} {B : Nat} {D : Option Addr} {ps : List (List UInt8)} (h : Parts w B D ps) :
    ∃ vs : List Value, vs.length = ps.length ∧ (∀ (j : Nat) (us : List UInt8) (v : Value), ps[j]? = some us → vs[j]? = some v → Part w B v us) ∧ (ps = [] ∨ ∃ b off, D = some ⟨b, off, none⟩ ∧ b < B ∧ ∀ (j : Nat) (v : Value), vs[j]? = some v → w.cell? ⟨b, off + j, none⟩ = some v) := by
  rcases h with rfl | ⟨b, off, rfl, hlt, hc⟩
  · exact ⟨[], rfl, fun j us v h => by simp at h, .inl rfl⟩
  · refine ⟨(List.range ps.length).map fun j => (w.cell? ⟨b, off + j, none⟩).getD undef, by simp, fun j us v hu hv => ?_, .inr ⟨b, off, rfl, hlt, fun j v hv => ?_⟩⟩
    · obtain ⟨v', h1, h2⟩ := hc j us hu
      have hj := (List.getElem?_eq_some_iff.1 hu).1
      rw [List.getElem?_map, List.getElem?_range hj, Option.map_some, h1] at hv
      cases hv
      exact h2
    · have hj : j < ps.length := by simpa using (List.getElem?_eq_some_iff.1 hv).1
      obtain ⟨v', h1, h2⟩ := hc j _ (List.getElem?_eq_getElem hj)
      rw [List.getElem?_map, List.getElem?_range hj, Option.map_some, h1] at hv
      cases hv
      exact h1
theorem sl_info : (Tryd.prog.info? 24).map (fun i => (i.zero, i.size, i.bytes)) = some (some (.slice none 0 0), 1, 24) := by kernel_rfl
theorem Part.one {w : World} {B : Nat} {v : Value} {us : List UInt8} (h : Part w B v us) : v.oneCell' = true := by
  obtain ⟨A, c, rfl, _⟩ := h
  rfl
theorem ownsRow_on {w w' : World} {base n sz : Nat} {e : TypeId} {v : Value} {xs : List Value} (h : w.ownsRow base e sz v n xs) (hb : Below w.heap.size w w') : w'.ownsRow base e sz v n xs := by
  have hlt := World.ownsRow.lt h
  obtain ⟨h1, h2⟩ := h
  refine ⟨h1, ?_⟩
  rcases h2 with h2 | ⟨g, cap, cur, hv, hg, hh, r⟩
  · exact .inl h2
  · refine .inr ⟨g, cap, cur, hv, hg, ?_, r⟩
    rw [hb.block g (hlt g (by rw [hv]; rfl)).2]
    exact hh
/-- The end of a message behind its parts, where they lie: old parts below B, new ones from S on. -/
def Ended (w : World) (B S g : Nat) (ps : List (List UInt8)) : Prop :=
  S ≤ g ∧ g < w.heap.size ∧ ∀ j us, ps[j]? = some us → ∃ v, w.cell? ⟨g, j, none⟩ = some v ∧ PartG w (fun b => b < B ∨ (S ≤ b ∧ b < w.heap.size)) v us
set_option maxRecDepth 100000 in
theorem ended_any (D : Option Addr) (d n B : Nat) (ps : List (List UInt8)) (w : World) (hl : ps.length = n) (hB : B ≤ w.heap.size) (hP : Parts w B D ps) (hn1 : n ≤ 100000) (hn : ps.flatten.length ≤ 900000) :
    Calls Tryd.prog 47 #[.slice D n d] w fun e w' => ∃ g c, e = .returned (.slice (some ⟨g, 0, none⟩) (n + 1) c) ∧ Below w.heap.size w w' ∧ Ended w' B w.heap.size g (ps ++ [widEnd ps.flatten.length]) := by
  have HL := Lib.hid hl
  obtain ⟨vs, hvl, hvp, hvc⟩ := hP.vals
  rw [hl] at hvl
  have HV := Lib.hid hvl
  clear hl hvl
  obtain ⟨i0, hi0, hz0, hz1, hz2⟩ := info_parts sl_info
  have HN2 : Hid (((n : Int) + 1) = ((n + 1 : Nat) : Int)) := by show _ = _; omega
  have HM : Hid (i0.bytes * (n + 1) ≤ 281474976710656) := by show _ ≤ _; rw [hz2]; omega
  go_enter Tryd.func47, Tryd.ntmps47
  go_wp2_with (first
    | (refine wpList_make_own w rfl _ _ 32 rfl w.heap.size 24 i0 _ 1 Tryd.underlying32 hi0 hz0 hz1 .i64 .i64 _ (n + 1) rfl rfl HN2.out HM.out (by simp only [maxLen]; omega) (Nat.le_refl _) ?_
       intro w1 hO1 hG1
       have hB1 : Below w.heap.size w w1 := (Below.refl _ _).grown hG1 (Nat.le_refl _) (fun k e => by cases e)))
  go_loopw [3, 4, 13] (fun v s i wr => ∃ k : Nat, k ≤ n ∧ i = .int .i64 k ∧ s = .int .i64 ((ps.take k).flatten.length : Int) ∧ v = .slice (some ⟨w.heap.size, 0, none⟩) k (n + 1) ∧ Below w.heap.size w wr ∧ wr.ownsRow w.heap.size 24 1 v k (vs.take k)) (fun _ _ i _ => n - (intOf i).toNat)
  case atStart => exact ⟨0, Nat.zero_le _, rfl, rfl, rfl, hB1, hO1⟩
  case round =>
    clear hB1 hO1 hG1
    obtain ⟨k, hk, rfl, rfl, rfl, hBr, hO⟩ := hrel
    have hle := flatten_take_le ps k
    by_cases hlt : k < n
    · have hlt2 : k < ps.length := by rw [HL.out]; exact hlt
      have hlt3 : k < vs.length := by rw [HV.out]; exact hlt
      have HS := Lib.hid (show (ps.take (k + 1)).flatten.length = (ps.take k).flatten.length + ps[k].length by rw [take_snoc ps k hlt2, List.flatten_append]; simp)
      have HT := Lib.hid (take_snoc vs k hlt3)
      have hle2 := flatten_take_le ps (k + 1)
      rw [HS.out] at hle2
      obtain ⟨A, c, hvk, _⟩ := hvp k _ _ (List.getElem?_eq_getElem hlt2) (List.getElem?_eq_getElem hlt3)
      rcases hvc with rfl | ⟨b, off, rfl, hbB, hcell⟩
      · simp at hlt2
      have hc1 := (hBr.cell (p := ⟨b, off + k, none⟩) (Nat.lt_of_lt_of_le hbB hB)).trans (hcell k _ (List.getElem?_eq_getElem hlt3))
      rw [hvk] at hc1 HT
      generalize hps : ps[k].length = m at *
      replace hps := Lib.hid hps
      generalize (ps.take k).flatten.length = q at *
      have hcell2 : ∀ (j : Nat) (u : Value), [Value.slice A m c][j]? = some u → (wr.alloc (.cells #[.slice A m c] 24)).cell? ((⟨wr.heap.size, 0, none⟩ : Addr).add j) = some u := fun j u hu => by
        match j, hu with
        | 0, hu =>
          cases hu
          rw [Go.WideShapes.add_plain, World.cell?_alloc_at _ _ _ _ rfl]
          rfl
        | j + 1, hu => simp at hu
      have HC := Lib.hid hcell2
      clear hcell2
      go_wp2_with (first
        | (at_builtin
           refine wpList_append_fits _ rfl (.tmp 17) (.tmp 19) 32 rfl w.heap.size 24 i0 1 Tryd.underlying32 hi0 hz1 w.heap.size k (n + 1) (vs.take k) rfl (World.ownsRow.alloc hO _) ⟨wr.heap.size, 0, none⟩ 1 1 [.slice A m c] rfl rfl HC.out (by intro u hu; rw [List.mem_singleton.1 hu]; rfl) (by omega) ?_
           intro w3 hO3 hG3))
      go_roundw
      case rel =>
        refine ⟨k + 1, by omega, by go_num, by rw [HS.out]; go_num, rfl, ?_, by rw [HT.out]; exact hO3⟩
        exact (hBr.alloc hBr.size _).grown hG3 (by have := hBr.size; simp; omega) (fun j e => by cases e; exact Nat.le_refl _)
      case measure => simp [intOf]; omega
    · obtain rfl : k = n := by omega
      have e1 : ps.take k = ps := List.take_of_length_le (by rw [HL.out]; omega)
      have e2 : vs.take k = vs := List.take_of_length_le (by rw [HV.out]; omega)
      rw [e2] at hO
      rw [e1]
      clear e1 e2 hle
      have hown := (World.ownsRow.lt hO w.heap.size rfl).2
      generalize hLL : ps.flatten.length = L at *
      replace hLL := Lib.hid hLL
      go_wp2_with fail
      refine (wideEnd_any L wr hn).mono ?_
      rintro e w4 ⟨rfl, hB4, hM4⟩
      have hO4 := ownsRow_on hO hB4
      have hB5 := hBr.trans (hB4.mono hBr.size)
      have hp := widPad_pos L
      have HE := Lib.hid (widEnd_length L)
      generalize widPad L = p at *
      have hcell2 : ∀ (j : Nat) (u : Value), [Value.slice (some ⟨wr.heap.size, 0, none⟩) (p + 16) (p + 16)][j]? = some u → (w4.alloc (.cells #[.slice (some ⟨wr.heap.size, 0, none⟩) (p + 16) (p + 16)] 24)).cell? ((⟨w4.heap.size, 0, none⟩ : Addr).add j) = some u := fun j u hu => by
        match j, hu with
        | 0, hu =>
          cases hu
          rw [Go.WideShapes.add_plain, World.cell?_alloc_at _ _ _ _ rfl]
          rfl
        | j + 1, hu => simp at hu
      have HC := Lib.hid hcell2
      clear hcell2
      go_wp2_with (first
        | (at_builtin
           refine wpList_append_fits _ rfl (.tmp 26) (.tmp 29) 32 rfl w.heap.size 24 i0 1 Tryd.underlying32 hi0 hz1 w.heap.size k (k + 1) vs rfl (World.ownsRow.alloc hO4 _) ⟨w4.heap.size, 0, none⟩ 1 1 [.slice (some ⟨wr.heap.size, 0, none⟩) (p + 16) (p + 16)] rfl rfl HC.out (by intro u hu; rw [List.mem_singleton.1 hu]; rfl) (by omega) ?_
           intro w5 hO5 hG5))
      go_ret
      have hB6 : Below w.heap.size w w5 := (hB5.alloc hB5.size _).grown hG5 (by have := hB5.size; simp; omega) (fun j e => by cases e; exact Nat.le_refl _)
      have hz4 := hB4.size
      have hz5 := hG5.size
      rw [World.size_alloc] at hz5
      refine ⟨w.heap.size, k + 1, rfl, hB6, Nat.le_refl _, (World.ownsRow.lt hO5 w.heap.size rfl).2, fun j us hu => ?_⟩
      by_cases hj : j < k
      · rw [List.getElem?_append_left (by rw [HL.out]; exact hj)] at hu
        have hj2 : j < vs.length := by rw [HV.out]; exact hj
        have hc5 := World.ownsRow.cells hO5 (g := w.heap.size) rfl j vs[j] (by rw [List.getElem?_append_left hj2, List.getElem?_eq_getElem hj2])
        rw [Go.WideShapes.add_plain, Nat.zero_add] at hc5
        refine ⟨_, hc5, ?_⟩
        have hq := (hvp j us _ hu (List.getElem?_eq_getElem hj2)).below (hB6.mono hB)
        exact hq.toG fun b hb => .inl hb
      · have hj2 : j = k := by
          have := (List.getElem?_eq_some_iff.1 hu).1
          rw [List.length_append, HL.out] at this
          simp at this
          omega
        subst hj2
        rw [List.getElem?_append_right (by rw [HL.out]; exact Nat.le_refl _), HL.out, Nat.sub_self, hLL.out] at hu
        cases hu
        have hc5 := World.ownsRow.cells hO5 (g := w.heap.size) rfl j (.slice (some ⟨wr.heap.size, 0, none⟩) (p + 16) (p + 16)) (by rw [List.getElem?_append_right (by rw [HV.out]; exact Nat.le_refl _), HV.out]; simp)
        rw [Go.WideShapes.add_plain, Nat.zero_add] at hc5
        refine ⟨_, hc5, some ⟨wr.heap.size, 0, none⟩, p + 16, by rw [HE.out], ?_, by rw [HE.out]; exact Nat.le_refl _, by simp only [maxLen]; omega, fun h => by cases h⟩
        have hM5 : Made w5 wr.heap.size (widEnd L) := by
          have h := hG5.block wr.heap.size (by have := hM4.lt; simp; omega) (by intro e; have e := Option.some.inj e; omega)
          exact h.trans ((Below.heap_alloc _ _ _ hM4.lt).trans hM4)
        rcases hM5.row hM5.lt with h0 | ⟨b, off, e, hb, hc⟩
        · exact .inl h0
        · cases e
          exact .inr ⟨wr.heap.size, 0, rfl, .inr ⟨by omega, hb⟩, hc⟩
/-- Of all blocks that there were only those may have turned of which T holds. -/
structure Turns (T : Nat → Prop) (w w' : World) : Prop where
  os : w'.os = w.os
  tape : w'.tape = w.tape
  output : w'.output = w.output
  size : w.heap.size ≤ w'.heap.size
  block : ∀ k, k < w.heap.size → ¬ T k → w'.heap[k]? = w.heap[k]?
theorem Turns.refl (T : Nat → Prop) (w : World) : Turns T w w := ⟨rfl, rfl, rfl, Nat.le_refl _, fun _ _ _ => rfl⟩
theorem Turns.trans {T : Nat → Prop} {a b c : World} (h : Turns T a b) (k : Turns T b c) : Turns T a c :=
  ⟨k.os.trans h.os, k.tape.trans h.tape, k.output.trans h.output, Nat.le_trans h.size k.size, fun i hi ht => (k.block i (Nat.lt_of_lt_of_le hi h.size) ht).trans (h.block i hi ht)⟩
theorem Turns.mono {T S : Nat → Prop} {a b : World} (h : Turns T a b) (hs : ∀ k, T k → S k) : Turns S a b := ⟨h.os, h.tape, h.output, h.size, fun k hk ht => h.block k hk fun t => ht (hs k t)⟩
theorem Turns.of_below {T : Nat → Prop} {a b : World} (h : Below a.heap.size a b) : Turns T a b := ⟨h.os, h.tape, h.output, h.size, fun k hk _ => h.block k hk⟩
theorem Turns.of_but {T : Nat → Prop} {a b : World} {g : Nat} (h : But g a b) (hg : T g) : Turns T a b := ⟨h.os, h.tape, h.output, h.size, fun k hk ht => h.block k hk fun e => ht (e ▸ hg)⟩
theorem Turns.below {T : Nat → Prop} {a b : World} {B : Nat} (h : Turns T a b) (hB : B ≤ a.heap.size) (hT : ∀ k, T k → B ≤ k) : Below B a b :=
  ⟨h.os, h.tape, h.output, h.size, fun k hk => h.block k (Nat.lt_of_lt_of_le hk hB) fun t => absurd (hT k t) (by omega)⟩
theorem turns_putObj (w : World) (l : Nat) (o : Obj) : Turns (· = l) w (w.putObj l o) := ⟨rfl, rfl, rfl, by simp, fun _ _ hk => World.putObj_heap_other hk⟩
theorem Cells.turns {T : Nat → Prop} {w w' : World} {g : Nat} {vs : List Value} {t : TypeId} (h : Cells w g vs t) (ht : Turns T w w') (hg : ¬ T g) : Cells w' g vs t := (ht.block g h.lt hg).trans h
section
variable {P : Program} {o : Oper} {a : Act} {Q : Exit → Act → World → Prop} {l : Nat}
theorem upon_in {next next' : Act → World → Prop} (hn : ∀ a w, next a w → next' a w) (r : Result Next) (h : o.upon P a next Q r) : o.uponIn (Fence.wide.inRound l) 0 P a next' Q r := by
  cases r with
  | ok x w' =>
    cases x with
    | value v => exact hn _ _ h
    | skip => exact hn _ _ h
    | defer d => exact hn _ _ h
    | enter f args =>
      refine ⟨(fun h => by cases h), CallsIn.inRound l (callsIn_wide.2 (Calls.mono h ?_))⟩
      intro e w1 he
      cases e with
      | returned v => exact hn _ _ he
      | panicked c => exact he
      | outgrown => exact he
    | row r args => exact ⟨(fun h => by cases h), fun c cs _ => let ⟨v, w', r, s⟩ := h c cs; ⟨v, w', hn _ _ r, stepsIn_wide.2 s⟩⟩
    | round l f tmps assign body => exact h.elim
    | _ => exact h.elim
  | halt x w' =>
    cases x with
    | panic v => exact h
    | _ => exact h.elim
/-- A step that the plain walk makes is made behind the wide fence too. -/
theorem one_in {ops : Array Oper} {rest : List Oper} {w w' : World} {a' : Act} (hgd : o.guard = none) (h : ∀ Q0 : Exit → Act → World → Prop, Q0 .normal a' w' → wpList P ops Q0 [o] a w) (h2 : wpListIn Fence.wide 0 P ops Q rest a' w') : wpListIn Fence.wide 0 P ops Q (o :: rest) a w := by
  refine wpListIn_plain hgd fun K hK => ⟨fun _ _ => trivial, ?_⟩
  have h1 := h (fun e a'' w'' => e = .normal ∧ a'' = a' ∧ w'' = w') ⟨rfl, rfl, rfl⟩
  unfold wpList at h1
  rw [if_pos (by simp [Region.wanted, hgd])] at h1
  rcases h1 with h1 | ⟨_, _, _, h1, _⟩
  · have hn : ∀ a'' w'', wpList P ops (fun e a'' w'' => e = .normal ∧ a'' = a' ∧ w'' = w') [] a'' w'' → K a'' w'' := fun a'' w'' hh => by
      obtain ⟨_, rfl, rfl⟩ := hh
      exact hK _ _ h2
    unfold Oper.wp at h1
    show o.uponIn Fence.wide 0 P a K Q ((execOp a.eval o).run P w)
    revert h1
    generalize (execOp a.eval o).run P w = r
    intro h1
    cases r with
    | ok x w1 =>
      cases x with
      | value v => exact hn _ _ h1
      | skip => exact hn _ _ h1
      | defer d => exact hn _ _ h1
      | enter f args =>
        refine ⟨(fun h => by cases h), callsIn_wide.2 (Calls.mono h1 ?_)⟩
        intro e w1 he
        cases e with
        | returned v => exact hn _ _ he
        | panicked c => cases he.1
        | outgrown =>
          obtain ⟨_, _, he, _⟩ := he
          cases he
      | row r args => exact ⟨(fun h => by cases h), fun c cs _ => let ⟨v, w', r, s⟩ := h1 c cs; ⟨v, w', hn _ _ r, stepsIn_wide.2 s⟩⟩
      | round l f tmps assign body => exact h1.elim
      | _ => exact h1.elim
    | halt x w1 =>
      cases x with
      | panic v => cases h1.1
      | _ => exact h1.elim
  · cases h1
/-- In a round's frame operations that defer nothing go as everywhere. -/
theorem list_in {ops : Array Oper} (hQ : ¬ LetsOut Q) : ∀ (rest : List Oper) (a : Act) (w : World), (∀ o ∈ rest, ∀ c, o.op ≠ .defer c) → wpList P ops Q rest a w → wpListIn (Fence.wide.inRound l) 0 P ops Q rest a w
  | [], _, _, _, h => h
  | o :: rest, a, w, hd, h => by
    unfold wpList at h
    unfold wpListIn
    split at h
    · next hw =>
      rw [if_pos hw]
      rcases h with h | h
      · refine ⟨fun _ _ => trivial, ?_⟩
        rw [show (Fence.wide.inRound l).round = some l from rfl, Oper.semAt_some l _ _ (hd o List.mem_cons_self)]
        exact upon_in (fun a w hh => list_in hQ rest a w (fun o ho => hd o (List.mem_cons_of_mem _ ho)) hh) _ h
      · exact absurd h.2 hQ
    · next hw =>
      rw [if_neg hw]
      exact ⟨fun _ _ => trivial, list_in hQ rest _ w (fun o ho => hd o (List.mem_cons_of_mem _ ho)) h⟩
theorem region_in {id : Nat} {ops : List Oper} {w : World} (hQ : ¬ LetsOut Q) (hd : ∀ o ∈ ops, ∀ c, o.op ≠ .defer c) (h : wpList P ops.toArray Q ops a w) : (Code.region id ops.toArray false).wpIn (Fence.wide.inRound l) 0 P Q a w :=
  wpIn_region_lit (list_in hQ ops a w hd h)
theorem one_param (t : Array Value) (p : Tmp) (v : Value) : (#[p].zip #[v]).foldl (fun t (p, v) => t.setIfInBounds p v) t = t.setIfInBounds p v := by simp
/-- How the body of a round ends: it goes on. -/
def allPost (T : Nat → Prop) (I : Nat → World → Prop) (k : Nat) (W : World) : Exit → Act → World → Prop
  | .normal, _, W' => Turns T W W' ∧ I k W'
  | _, _, _ => False
/-- What an iterator promises that comes to N rounds: it steps from round to round, whatever the caller holds below its own blocks; a round turns what T allows, and the loop's record. -/
def SeqAll (P : Program) (gf : Nat) (lb : Array Value) (N : Nat) (arg : Nat → Array Value) (T : Nat → Prop) (w : World) : Prop :=
  ∀ (l : Nat) (J : Nat → World → Prop) (W1 : World), Below w.heap.size w W1 → w.heap.size ≤ l → l < W1.heap.size → (∀ k W W', J k W → Below W1.heap.size W W' → J k W') →
    (∀ k W, k < N → J k W → W1.heap.size ≤ W.heap.size → YieldAt Fence.wide 0 P l (arg k) W fun e W' => e = .returned (.bool true) ∧ J (k + 1) W' ∧ Turns (fun b => T b ∨ b = l) W W') → J 0 W1 →
    CallsIn Fence.wide 0 P gf (#[.func (.yield l) #[] #[]] ++ lb) W1 fun e W' => (∃ v, e = .returned v) ∧ J N W'
/-- The statement 'for x := range seq { .. }' whose body never leaves. -/
theorem wp_rangeFunc_all {g : Operand} {ps : Array Tmp} {assign body : Code} {w : World} {gf : Nat} {lb : Array Value} (hg : a.eval g = .func (.func gf) #[] lb) (eg : ∀ args w, (callFunc gf args).run P w = .ok (.enter gf args) w)
    {N : Nat} {arg : Nat → Array Value} {T : Nat → Prop} (hseq : SeqAll P gf lb N arg T w) (hps : ∀ k, (arg k).size = ps.size) (hT : ∀ k, T k → k < w.heap.size)
    (I : Nat → World → Prop) (hI : ∀ k W W', I k W → Below w.heap.size W W' → I k W') (h0 : I 0 w)
    (hround : ∀ (l k : Nat) (W : World), k < N → w.heap.size ≤ l → l < W.heap.size → I k W →
      assign.wpIn (Fence.wide.inRound l) 0 P (Exit.then (fun a₁ W₁ => Below W.heap.size W W₁ ∧ ∀ W₂, Turns (· = l) W₁ W₂ → I k W₂ → body.wpIn (Fence.wide.inRound l) 0 P (allPost T I (k + 1) W₂) a₁ W₂) (fun _ _ _ => False))
        { tmps := (ps.zip (arg k)).foldl (fun t (p, v) => t.setIfInBounds p v) a.tmps, defers := [] } W)
    (hdone : ∀ W, I N W → w.heap.size < W.heap.size → W.heap[w.heap.size]? = some (.deferred (some [])) → Q .normal { a with defers := { target := .collected w.heap.size, args := #[] } :: a.defers } W) :
    (Code.rangeFunc g ps assign body).wp P Q a w := by
  refine (wpIn_wide (n := 0)).1 (wpIn_rangeFunc ?_)
  intro fn hfn
  show ∃ _ _ _ _ _ _ _ _, (Instr.enterLoop fn a.tmps ps assign body none).run P w = _ ∧ _
  obtain ⟨rec, hrec⟩ : ∃ rec : LoopState → Option Code → Loop, rec = fun st pe => { state := st, pending := pe, fn, tmps := a.tmps, params := ps, assign, body, defers := w.heap.size } := ⟨_, rfl⟩
  obtain ⟨W1, hW1⟩ : ∃ W1, (w.alloc (.deferred (some []))).alloc (.loop (rec .ready none)) = W1 := ⟨_, rfl⟩
  have hb1 : Below w.heap.size w W1 := by rw [← hW1]; exact ((Below.refl _ w).alloc (Nat.le_refl _) _).alloc (by simp) _
  have hs1 : W1.heap.size = w.heap.size + 2 := by rw [← hW1]; simp
  have hL1 : W1.heap[w.heap.size + 1]? = some (.loop (rec .ready none)) := by
    rw [← hW1]; have := World.alloc_heap_new (w.alloc (.deferred (some []))) (.loop (rec .ready none)); rwa [World.size_alloc] at this
  have hK1 : W1.heap[w.heap.size]? = some (.deferred (some [])) := by
    rw [← hW1]; exact (Below.heap_alloc _ _ _ (by simp)).trans (World.alloc_heap_new w _)
  refine ⟨w.heap.size + 1, [{ target := .collected w.heap.size, args := #[] }], W1, { target := .fn (.func gf) lb, args := #[.func (.yield (w.heap.size + 1)) #[] #[]] }, W1, gf,
    #[.func (.yield (w.heap.size + 1)) #[] #[]] ++ lb, W1, ?_, ?_, fun _ _ => trivial, ?_, (fun h => by cases h), ?_⟩
  · rw [← hW1, hrec]; exact run_enterLoop_outer _ _ _ _ _
  · simp only [resolve, hg]
    simp [go_sem]
  · simp [invoke, go_sem, eg]
  refine (hseq (w.heap.size + 1) (fun k W => I k W ∧ W1.heap.size ≤ W.heap.size ∧ W.heap[w.heap.size + 1]? = some (.loop (rec .ready none)) ∧ W.heap[w.heap.size]? = some (.deferred (some []))) W1 hb1 (by omega) (by omega)
    (fun k W W' h hb => ⟨hI k W W' h.1 (hb.mono (by omega)), Nat.le_trans h.2.1 hb.size, (hb.block _ (by omega)).trans h.2.2.1, (hb.block _ (by omega)).trans h.2.2.2⟩) ?_ ⟨hI 0 w W1 h0 hb1, Nat.le_refl _, hL1, hK1⟩).mono ?_
  · rintro k W hk ⟨hi, hsz, hl, hd⟩ _
    have hlt : w.heap.size + 1 < W.heap.size := heap_lt hl
    have hy := run_yield (P := P) (args := arg k) hl (by rw [hrec]; exact hps k)
    rw [hrec] at hy
    refine ⟨fn, _, assign, body, hy, roundIn_of_wpIn hfn (wpIn_mono (hround (w.heap.size + 1) k W hk (by omega) hlt hi) ?_)⟩
    intro e a₁ W₁ he
    cases e with
    | normal =>
      obtain ⟨hbW, hbody⟩ := he
      have hl1 : W₁.heap[w.heap.size + 1]? = some (.loop (rec .ready none)) := (hbW.block _ hlt).trans hl
      have hd1 : W₁.heap[w.heap.size]? = some (.deferred (some [])) := (hbW.block _ (by omega)).trans hd
      have hlt1 : w.heap.size + 1 < W₁.heap.size := heap_lt hl1
      refine ⟨_, run_beginRound hl1 (by rw [hrec]), ?_⟩
      have ht2 := turns_putObj W₁ (w.heap.size + 1) (.loop { rec .ready none with state := .busy })
      have hl2 : (W₁.putObj (w.heap.size + 1) (.loop { rec .ready none with state := .busy })).heap[w.heap.size + 1]? = some (.loop { rec .ready none with state := .busy }) := World.putObj_heap_same hlt1
      have hd2 : (W₁.putObj (w.heap.size + 1) (.loop { rec .ready none with state := .busy })).heap[w.heap.size]? = some (.deferred (some [])) := (World.putObj_heap_other (by omega)).trans hd1
      have hi2 : I k (W₁.putObj (w.heap.size + 1) (.loop { rec .ready none with state := .busy })) :=
        hI k _ _ (hI k W W₁ hi (hbW.mono (by omega))) (ht2.below (by omega) (fun j e => by omega))
      refine wpIn_mono (hbody _ ht2 hi2) ?_
      generalize W₁.putObj (w.heap.size + 1) (.loop { rec .ready none with state := .busy }) = W₂ at *
      intro e a₃ W₃ hp
      cases e with
      | normal =>
        obtain ⟨ht3, hi3⟩ := hp
        have hnl : ¬ T (w.heap.size + 1) := fun h => absurd (hT _ h) (by omega)
        have hnd : ¬ T w.heap.size := fun h => absurd (hT _ h) (by omega)
        have hl3 := (ht3.block _ (heap_lt hl2) hnl).trans hl2
        have hd3 := (ht3.block _ (heap_lt hd2) hnd).trans hd2
        have hend := run_endRound (P := P) none hl3
        have ht4 := turns_putObj W₃ (w.heap.size + 1) (.loop (rec .ready none))
        have hlt3 := heap_lt hl3
        refine ⟨_, _, hend, rfl, ⟨?_, ?_, ?_, ?_⟩, ?_⟩
        · have := hI (k + 1) _ _ hi3 (ht4.below (B := w.heap.size) (by omega) (fun j e => by omega))
          rw [hrec] at this ⊢
          exact this
        · have h1 := hbW.size
          have h2 := ht2.size
          have h3 := ht3.size
          rw [World.putObj_size]
          omega
        · rw [World.putObj_heap_same hlt3, hrec]
          rfl
        · exact (World.putObj_heap_other (by omega)).trans hd3
        · have t1 : Turns (fun b => T b ∨ b = w.heap.size + 1) W W₁ := Turns.of_below hbW
          have t2 : Turns (fun b => T b ∨ b = w.heap.size + 1) W₁ W₂ := ht2.mono fun _ e => .inr e
          have t3 : Turns (fun b => T b ∨ b = w.heap.size + 1) W₂ W₃ := ht3.mono fun _ e => .inl e
          exact ((t1.trans t2).trans t3).trans ((turns_putObj W₃ (w.heap.size + 1) _).mono fun _ e => .inr e)
      | exit id => exact hp.elim
      | goto t => exact hp.elim
      | ret => exact hp.elim
      | panic ch => exact hp.elim
      | outgrown => exact hp.elim
    | exit id => exact he.elim
    | goto t => exact he.elim
    | ret => exact he.elim
    | panic ch => exact he.elim
    | outgrown => exact he.elim
  · rintro e W2 ⟨⟨v, rfl⟩, hi, hsz, hl, hd⟩
    have hlt := heap_lt hl
    refine ⟨none, _, by have := run_endLoop (P := P) hl (by rw [hrec]; simp); rw [hrec] at this; exact this, hdone _ (hI N _ _ hi ((turns_putObj W2 (w.heap.size + 1) _).below (by omega) (fun j e => by omega))) (by rw [World.putObj_size]; omega) ((World.putObj_heap_other (by omega)).trans hd)⟩
end
end Go.Proofs.YtoggkhjaghkpnaaDoor
