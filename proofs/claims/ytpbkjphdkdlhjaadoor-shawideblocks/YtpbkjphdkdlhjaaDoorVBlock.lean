/- One block's work: the chain behind it. -/
import Derived.Test.YtpbkjphdkdlhjaaDoorVWork
namespace Go.Proofs.YtpbkjphdkdlhjaaDoor
open Go.RowKit
/-- The package's two tables lie where the program's text lays them. -/
def TabsW (w : World) : Prop := w.rangeAt 0 0 (widStart.list.map vcell) ∧ w.rangeAt 20 0 (widK.map vcell)
theorem TabsW.keep {w w' : World} {B : Nat} (h : TabsW w) (hb : Below B w w') (h1 : 0 < B) (h2 : 20 < B) : TabsW w' :=
  ⟨fun j v hj => (hb.cell (p := ⟨0, 0 + j, none⟩) h1).trans (h.1 j v hj), fun j v hj => (hb.cell (p := ⟨20, 0 + j, none⟩) h2).trans (h.2 j v hj)⟩
theorem TabsW.lt {w : World} (h : TabsW w) : 0 < w.heap.size ∧ 20 < w.heap.size :=
  ⟨block_lt_of_cell (h.1 0 _ (show (widStart.list.map vcell)[0]? = some (vcell widStart.a) from rfl)), block_lt_of_cell (h.2 0 _ (show (widK.map vcell)[0]? = some (vcell 4794697086780616226) from rfl))⟩
theorem TabsW.below {w w' : World} (h : TabsW w) (hb : Below w.heap.size w w') : TabsW w' := h.keep hb h.lt.1 h.lt.2
theorem TabsW.drewN {w : World} (h : TabsW w) (n : Nat) : TabsW (w.drewN n) := h
theorem TabsW.round {w : World} (h : TabsW w) (k : Nat) (hk : k < 80) : w.cell? ⟨20, k, none⟩ = some (vcell (widK.getD k 0)) := by
  have := h.2 k (vcell (widK.getD k 0)) (by rw [List.getElem?_map, List.getD_eq_getElem?_getD, List.getElem?_eq_getElem (show k < widK.length from hk)]; rfl)
  rwa [Nat.zero_add] at this
theorem size_chain : (Tryd.prog.info? 42).map (·.size) = some 8 := by kernel_rfl
theorem size_block : (Tryd.prog.info? 48).map (·.size) = some 128 := by kernel_rfl
theorem zero_chain : ∀ w, (zeroValue 42).run Tryd.prog w = .ok (.agg (List.replicate 8 (vcell 0)).toArray) w := (zero_of_info (P := Tryd.prog) (t := 42) (v := .agg (List.replicate 8 (vcell 0)).toArray) (n := 8) (by kernel_rfl)).1
theorem zero_block : ∀ w, (zeroValue 48).run Tryd.prog w = .ok (.agg (List.replicate 128 (cellOf 0)).toArray) w := (zero_of_info (P := Tryd.prog) (t := 48) (v := .agg (List.replicate 128 (cellOf 0)).toArray) (n := 128) (by kernel_rfl)).1
theorem vcells_one (l : List (BitVec 64)) : (l.map vcell).toArray.all (·.oneCell') = true := all_oneCell_toArray (by intro v hv; obtain ⟨x, _, rfl⟩ := List.mem_map.1 hv; rfl)
/-- A chain to which another is added, up to the k-th word. -/
def sumToW (o q : Wct) (k : Nat) : List Value := ((o.plus q).list.take k).map vcell ++ (o.list.drop k).map vcell
theorem sumToW_next (o q : Wct) (k : Nat) (hk : k < 8) : (sumToW o q k).set k (vcell (o.list.getD k 0 + q.list.getD k 0)) = sumToW o q (k + 1) := by
  match k, hk with
  | 0, _ => rfl
  | 1, _ => rfl
  | 2, _ => rfl
  | 3, _ => rfl
  | 4, _ => rfl
  | 5, _ => rfl
  | 6, _ => rfl
  | 7, _ => rfl
theorem sumToW_at (o q : Wct) (k : Nat) (hk : k < 8) : (sumToW o q k)[k]? = some (vcell (o.list.getD k 0)) := by
  match k, hk with
  | 0, _ => rfl
  | 1, _ => rfl
  | 2, _ => rfl
  | 3, _ => rfl
  | 4, _ => rfl
  | 5, _ => rfl
  | 6, _ => rfl
  | 7, _ => rfl
theorem wct_at (q : Wct) (k : Nat) (hk : k < 8) : (q.list.map vcell)[k]? = some (vcell (q.list.getD k 0)) := by
  rw [List.getElem?_map, List.getD_eq_getElem?_getD, List.getElem?_eq_getElem (show k < q.list.length from hk)]
  rfl
/-- A chain as the program holds it. -/
def chainVal (o : Wct) : List Value := o.list.map vcell
theorem chainVal_length (o : Wct) : (chainVal o).length = 8 := rfl
set_option maxRecDepth 100000 in
theorem worked_any (o : Wct) (bs : List UInt8) (ls vs : List Value) (w : World) (hK : TabsW w) (hl : ls = chainVal o) (hv : vs = bs.map cellOf) (hn : bs.length = 128) :
    Calls Tryd.prog 14 #[.agg ls.toArray, .agg vs.toArray] w fun e w' => e = .returned (.agg (chainVal (widBlock o bs)).toArray) ∧ Below w.heap.size w w' := by
  have HN := Lib.hid hn
  have HV := Lib.hid hv
  have HL := Lib.hid hl
  have HZ : Hid (ls.length = 8) := by show _ = _; rw [hl]; rfl
  have HZ2 : Hid (vs.length = 128) := by show _ = _; rw [hv, List.length_map, hn]
  have hil : (Tryd.prog.info? 42).map (·.size) = some ls.toArray.size := by rw [List.size_toArray, HZ.out]; exact size_chain
  have hib : (Tryd.prog.info? 48).map (·.size) = some vs.toArray.size := by rw [List.size_toArray, HZ2.out]; exact size_block
  have HS : Hid (ls.toArray.size = 8) := by show _ = _; rw [List.size_toArray, HZ.out]
  have H1 : Hid (ls.toArray.all (·.oneCell') = true) := by show _ = _; rw [hl]; exact vcells_one _
  clear hn hv hl
  go_enter Tryd.func14, Tryd.ntmps14
  go_wp2_with (first
    | (refine box_step rfl 42 _ rfl ls.toArray rfl ?_
       intro w1 hw1
       have hB1 : Below w.heap.size w w1 := by rw [hw1]; exact (Below.refl _ _).alloc (Nat.le_refl _) _
       have hC1 : Cells w1 w.heap.size ls 42 := by rw [hw1]; exact Cells.new w _ _
       have hs1 : w1.heap.size = w.heap.size + 1 := by rw [hw1]; simp
       clear hw1)
    | (refine box_step rfl 48 _ rfl vs.toArray rfl ?_
       intro w2 hw2
       have hB2 : Below w.heap.size w w2 := by rw [hw2]; exact hB1.alloc hB1.size _
       have hC2 : Cells w2 w.heap.size ls 42 := by rw [hw2]; exact hC1.alloc _
       have hD2 : Cells w2 (w.heap.size + 1) vs 48 := by rw [hw2, ← hs1]; exact Cells.new w1 _ _
       have hs2 : w2.heap.size = w.heap.size + 2 := by rw [hw2]; simp [hs1]
       rw [hs1]
       clear hw2 hB1 hC1)
    | (refine alloc_step rfl 42 rfl _ zero_chain ?_
       first
       | (intro w3 hw3
          have hB3 : Below w.heap.size w w3 := by rw [hw3]; exact hB2.alloc hB2.size _
          have hC3 : Cells w3 w.heap.size ls 42 := by rw [hw3]; exact hC2.alloc _
          have hD3 : Cells w3 (w.heap.size + 1) vs 48 := by rw [hw3]; exact hD2.alloc _
          have hR3 : Cells w3 (w.heap.size + 2) (List.replicate 8 (vcell 0)) 42 := by rw [hw3, ← hs2]; exact Cells.new w2 _ _
          have hs3 : w3.heap.size = w.heap.size + 3 := by rw [hw3]; simp [hs2]
          rw [hs2]
          clear hw3 hB2 hC2 hD2)
       | (intro w4 hw4
          have hB4 : Below w.heap.size w w4 := by rw [hw4]; exact hB3.alloc hB3.size _
          have hC4 : Cells w4 w.heap.size ls 42 := by rw [hw4]; exact hC3.alloc _
          have hD4 : Cells w4 (w.heap.size + 1) vs 48 := by rw [hw4]; exact hD3.alloc _
          have hR4 : Cells w4 (w.heap.size + 2) (List.replicate 8 (vcell 0)) 42 := by rw [hw4]; exact hR3.alloc _
          have hE4 : Cells w4 (w.heap.size + 3) (List.replicate 8 (vcell 0)) 42 := by rw [hw4, ← hs3]; exact Cells.new w3 _ _
          have hT4 : w4.there (w.heap.size + 3) 0 ls.toArray.size := by rw [HS.out]; exact hE4.there 0 8 (by simp)
          rw [hs3]
          clear hw4 hB3 hC3 hD3 hR3))
    | (refine wpList_load_row rfl 42 _ rfl w.heap.size rfl 42 _ (0, 0) _ hC3 Tryd.underlying42 rfl hil ?_)
    | (refine wpList_store_mid rfl 42 _ _ rfl (w.heap.size + 3) 0 ls.toArray rfl rfl hT4 hil H1.out ?_))
  have hB5 : Below w.heap.size w (w4.setCells (w.heap.size + 3) 0 ls) := below_setCells hB4 (by omega) _ _
  have hC5 : Cells (w4.setCells (w.heap.size + 3) 0 ls) w.heap.size ls 42 := hC4.otherCells (by omega) _ _
  have hD5 : Cells (w4.setCells (w.heap.size + 3) 0 ls) (w.heap.size + 1) vs 48 := hD4.otherCells (by omega) _ _
  have hR5 : Cells (w4.setCells (w.heap.size + 3) 0 ls) (w.heap.size + 2) (List.replicate 8 (vcell 0)) 42 := hR4.otherCells (by omega) _ _
  have hE5 : Cells (w4.setCells (w.heap.size + 3) 0 ls) (w.heap.size + 3) ls 42 := by
    have h := hE4.setCells (cs := ls) (o := 0) (by rw [HZ.out]; simp)
    rw [splice_all _ _ (by rw [HZ.out]; simp)] at h
    exact h
  generalize w4.setCells (w.heap.size + 3) 0 ls = w0 at *
  clear hB4 hC4 hD4 hR4 hE4 hT4
  rw [HL.out] at hE5 hC5
  clear hs1 hs2 hs3
  have c0 := hE5.get (j := 0) (v := vcell o.a) rfl
  have c1 := hE5.get (j := 1) (v := vcell o.b) rfl
  have c2 := hE5.get (j := 2) (v := vcell o.c) rfl
  have c3 := hE5.get (j := 3) (v := vcell o.d) rfl
  have c4 := hE5.get (j := 4) (v := vcell o.e) rfl
  have c5 := hE5.get (j := 5) (v := vcell o.f) rfl
  have c6 := hE5.get (j := 6) (v := vcell o.g) rfl
  have c7 := hE5.get (j := 7) (v := vcell o.h) rfl
  go_simp
  go_quiet (fail)
  have hB6 := below_drewN hB5 nq
  have hC6 := hC5.drewN nq
  have hD6 := hD5.drewN nq
  have hR6 := hR5.drewN nq
  clear hB5 hC5 hD5 hR5 hE5 c0 c1 c2 c3 c4 c5 c6 c7
  generalize w0.drewN nq = w5 at *
  go_wp2_with (refine wpList_load_row rfl 48 _ rfl (w.heap.size + 1) rfl 48 _ (0, 0) _ hD6 Tryd.underlying48 rfl hib ?_)
  refine (wideSpread_any bs vs _ HV.out HN.out).mono ?_
  rintro e w6 ⟨rfl, hB7⟩
  have hC7 := hC6.below hB7 hC6.lt
  have hR7 := hR6.below hB7 hR6.lt
  replace hB7 := hB6.trans (hB7.mono hB6.size)
  clear hB6 hC6 hD6 hR6
  have HS := Lib.hid (widSpread_length bs 80)
  have HO : Hid (widBlock o bs = o.plus (widRounds o (widSpread bs 80) 80)) := rfl
  generalize widSpread bs 80 = ws at *
  have hK7 := hK.below hB7
  go_wp2_with fail
  go_loopw [6, 7, 8, 9, 10, 11, 12, 13, 39] (fun p q r s t u v x i wr => ∃ k : Nat, k ≤ 80 ∧ i = .int .i64 k ∧ Below w.heap.size w wr ∧ TabsW wr ∧ Cells wr w.heap.size (chainVal o) 42 ∧ Cells wr (w.heap.size + 2) (List.replicate 8 (vcell 0)) 42 ∧ p = vcell (widRounds o ws k).a ∧ q = vcell (widRounds o ws k).b ∧ r = vcell (widRounds o ws k).c ∧ s = vcell (widRounds o ws k).d ∧ t = vcell (widRounds o ws k).e ∧ u = vcell (widRounds o ws k).f ∧ v = vcell (widRounds o ws k).g ∧ x = vcell (widRounds o ws k).h) (fun _ _ _ _ _ _ _ _ i _ => 80 - (intOf i).toNat)
  case atStart => exact ⟨0, Nat.zero_le _, rfl, hB7, hK7, hC7, hR7, rfl, rfl, rfl, rfl, rfl, rfl, rfl, rfl⟩
  case round =>
    clear hB7 hK7 hC7 hR7
    obtain ⟨k, hk, rfl, hB, hT, hC, hR, rfl, rfl, rfl, rfl, rfl, rfl, rfl, rfl⟩ := hrel
    by_cases hlt : k < 80
    · have hcK := hT.round k hlt
      have hix := run_index_int (P := Tryd.prog) (t := 59) (ws.map vcell) k (vcell (ws.getD k 0)) wr Tryd.underlying59 Tryd.underlying40 size_u64 hlt (by
        rw [List.getElem?_map, List.getD_eq_getElem?_getD, List.getElem?_eq_getElem (by rw [HS.out]; exact hlt)]
        rfl)
      have HX : Hid (widRounds o ws (k + 1) = widRound (widRounds o ws k) (widK.getD k 0) (ws.getD k 0)) := rfl
      generalize widRounds o ws k = q at *
      generalize ws.getD k 0 = xw at *
      generalize widK.getD k 0 = xk at *
      have i1 : (0 : Int) ≤ (k : Int) := by omega
      have i2 : (k : Int) < 80 := by omega
      go_wp2_with fail
      go_quiet ((go_at_call 23; exact Calls.quiet_of_same (turns64_same _ _ _ _ _)))
      go_wp2_with (go_at_call 23; refine (turns64_any _ _ _ _ _).mono ?_; rintro e w' ⟨rfl, rfl⟩)
      go_roundw
      case rel =>
        rw [one64_eq, two64_eq, wadd64, wadd64]
        exact ⟨k + 1, by omega, by go_num, below_drewN hB nq, hT, hC, hR, by rw [HX.out]; rfl, by rw [HX.out]; rfl, by rw [HX.out]; rfl, by rw [HX.out]; rfl, by rw [HX.out]; rfl, by rw [HX.out]; rfl, by rw [HX.out]; rfl, by rw [HX.out]; rfl⟩
      case measure => simp [intOf]; omega
    · obtain rfl : k = 80 := by omega
      have HQ := HO.out
      generalize widRounds o ws 80 = q at *
      replace HQ := Lib.hid HQ
      clear HO hT
      go_wp2_with fail
      rw [show ((80 : Nat) : Int) = 80 from rfl]
      go_loopw [98] (fun i wr => ∃ k : Nat, k ≤ 8 ∧ i = .int .i64 k ∧ Below w.heap.size w wr ∧ Cells wr w.heap.size (sumToW o q k) 42 ∧ Cells wr (w.heap.size + 2) (List.replicate 8 (vcell 0)) 42) (fun i _ => 8 - (intOf i).toNat)
      case atStart => exact ⟨0, Nat.zero_le _, rfl, hB, hC, hR⟩
      case round =>
        clear hB hC hR
        obtain ⟨k, hk, rfl, hB, hC, hR⟩ := hrel
        by_cases hlt : k < 8
        · have hix : ∀ W : World, (Instr.index 41 (.agg #[vcell q.a, vcell q.b, vcell q.c, vcell q.d, vcell q.e, vcell q.f, vcell q.g, vcell q.h]) (.int .i64 (k : Int))).run Tryd.prog W = .ok (vcell (q.list.getD k 0)) W := fun W =>
            run_index_int (P := Tryd.prog) (t := 41) (q.list.map vcell) k (vcell (q.list.getD k 0)) W Tryd.underlying41 Tryd.underlying40 size_u64 hlt (wct_at q k hlt)
          have i1 : (0 : Int) ≤ (k : Int) := by omega
          have i2 : (k : Int) < 8 := by omega
          have d1 := hC.get (sumToW_at o q k hlt)
          have d2 := hC.frozen k
          have HN := Lib.hid (sumToW_next o q k hlt)
          go_wp2
          go_roundw
          case rel =>
            rw [wadd64]
            refine ⟨k + 1, by omega, by go_num, hB.setCell (p := ⟨w.heap.size, k, none⟩) (Nat.le_refl _) _, ?_, hR.other (by simp) _⟩
            have h := hC.set k (vcell (o.list.getD k 0 + q.list.getD k 0))
            rw [HN.out] at h
            exact h
          case measure => simp [intOf]; omega
        · obtain rfl : k = 8 := by omega
          have HW : Hid (sumToW o q 8 = chainVal (widBlock o bs)) := by show _ = _; rw [HQ.out]; rfl
          have HY : Hid ((sumToW o q 8).length = 8) := rfl
          have HP : Hid (∀ v ∈ sumToW o q 8, v.oneCell' = true) := by
            show ∀ v ∈ sumToW o q 8, v.oneCell' = true
            rw [HW.out]
            intro v hv
            obtain ⟨x, _, rfl⟩ := List.mem_map.1 hv
            rfl
          generalize sumToW o q 8 = ys at *
          have HS2 : Hid (ys.toArray.size = 8) := by show _ = _; rw [List.size_toArray, HY.out]
          have hi : (Tryd.prog.info? 42).map (·.size) = some ys.toArray.size := by rw [HS2.out]; exact size_chain
          have hT : wr.there (w.heap.size + 2) 0 ys.toArray.size := by rw [HS2.out]; exact hR.there 0 8 (by simp)
          go_wp2_with (first
            | (refine wpList_load_row rfl 42 _ rfl w.heap.size rfl 42 _ (0, 0) _ hC Tryd.underlying42 rfl hi ?_)
            | (refine wpList_store_mid rfl 42 _ _ rfl (w.heap.size + 2) 0 ys.toArray rfl rfl hT hi (all_oneCell_toArray HP.out) ?_))
          have hD := hR.setCells (cs := ys) (o := 0) (by simp [HY.out])
          rw [splice_all _ _ (by simp [HY.out])] at hD
          refine ret_block Tryd.results14 (w.heap.size + 2) ys 42 rfl hD Tryd.underlying42 rfl (by simpa using hi) rfl ⟨by rw [HW.out], below_setCells hB (by omega) _ _⟩
end Go.Proofs.YtpbkjphdkdlhjaaDoor
