/- One block's work: the chain behind it. -/
import Derived.Test.YtmhelmmonkgmmaaDoorSWork
import Derived.Deep.QuietTactic
import Derived.BigQuiet
namespace Go.Proofs.YtmhelmmonkgmmaaDoor
open Go.RowKit
/-- What a hash holds: the chain, the bytes that wait (and what lies behind them), how many there are. -/
def hashCells (o : Oct) (rest : List UInt8) (n : Nat) : List Value := o.list.map wcell ++ rest.map cellOf ++ [.int .u64 (n : Int)]
theorem hashCells_length (o : Oct) (rest : List UInt8) (n : Nat) (h : rest.length = 64) : (hashCells o rest n).length = 73 := by simp [hashCells, Oct.list, h]
def HashIs (w : World) (g : Nat) (o : Oct) (rest : List UInt8) (n : Nat) : Prop := rest.length = 64 ∧ Cells w g (hashCells o rest n) 88
theorem hash_links (o : Oct) (rest : List UInt8) (n : Nat) : ((hashCells o rest n).drop 0).take 8 = o.list.map wcell := by
  simp [hashCells, Oct.list]
theorem size_u32 : (Tryd.prog.info? 61).map (·.size) = some 1 := by kernel_rfl
theorem turns_same (x : BitVec 32) (i j k : Int) (w : World) :
    Calls Tryd.prog 45 #[.int .u32 x.toNat, .int .i64 i, .int .i64 j, .int .i64 k] w fun e w' => e = .returned (.int .u32 ((tri32 x i j k).toNat : Int)) ∧ w' = w :=
  (turns_any x i j k w).mono fun _ _ ⟨h1, h2⟩ => ⟨h1, h2.symm⟩
theorem size_eight : (Tryd.prog.info? 84).map (·.size) = some 8 := by kernel_rfl
theorem wcells_one (l : List (BitVec 32)) : (l.map wcell).toArray.all (·.oneCell') = true := all_oneCell_toArray (by intro v hv; obtain ⟨x, _, rfl⟩ := List.mem_map.1 hv; rfl)
/-- A new array of eight words, and these laid into it. -/
def eightNew (w : World) (l : List Value) : World := (w.alloc (.cells #[.int .u32 0, .int .u32 0, .int .u32 0, .int .u32 0, .int .u32 0, .int .u32 0, .int .u32 0, .int .u32 0] 84)).setCells w.heap.size 0 l
theorem eight_there (w : World) : (w.alloc (.cells #[.int .u32 0, .int .u32 0, .int .u32 0, .int .u32 0, .int .u32 0, .int .u32 0, .int .u32 0, .int .u32 0] 84)).there w.heap.size 0 8 := (Cells.new w _ _).there 0 8 (by simp)
theorem eightNew_below (w : World) (l : List Value) : Below w.heap.size w (eightNew w l) := below_setCells ((Below.refl _ _).alloc (Nat.le_refl _) _) (Nat.le_refl _) _ _
theorem eightNew_cells (w : World) (l : List Value) (hl : l.length = 8) : Cells (eightNew w l) w.heap.size l 84 := by
  have h := (Cells.new w #[.int .u32 0, .int .u32 0, .int .u32 0, .int .u32 0, .int .u32 0, .int .u32 0, .int .u32 0, .int .u32 0] 84).setCells (cs := l) (o := 0) (by simp [hl])
  rw [splice_all _ _ (by simp [hl])] at h
  exact h
/-- The package's two tables lie where the program's text lays them. -/
def Tabs (w : World) : Prop := w.rangeAt 19 0 (shaStart.list.map wcell) ∧ w.rangeAt 20 0 (shaK.map wcell)
theorem rangeAt_but {w w' : World} {g b o : Nat} {cs : List Value} (h : w.rangeAt b o cs) (hb : But g w w') (hg : b ≠ g) : w'.rangeAt b o cs := fun j v hv => by
  have h1 := h j v hv
  rw [World.cell?_of_block (w := w) (hb.block b (block_lt_of_cell h1) hg)]
  exact h1
theorem Tabs.but {w w' : World} {g : Nat} (h : Tabs w) (hb : But g w w') (hg : 21 ≤ g) : Tabs w' := ⟨rangeAt_but h.1 hb (Nat.ne_of_lt (Nat.lt_of_lt_of_le (by decide) hg)), rangeAt_but h.2 hb (Nat.ne_of_lt (Nat.lt_of_lt_of_le (by decide) hg))⟩
theorem rangeAt_below {w w' : World} {b o : Nat} {cs : List Value} (h : w.rangeAt b o cs) (hb : Below w.heap.size w w') : w'.rangeAt b o cs := fun j v hv => by
  have h1 := h j v hv
  rw [hb.cell (block_lt_of_cell h1)]
  exact h1
theorem Tabs.below {w w' : World} (h : Tabs w) (hb : Below w.heap.size w w') : Tabs w' := ⟨rangeAt_below h.1 hb, rangeAt_below h.2 hb⟩
theorem Tabs.drewN {w : World} (h : Tabs w) (n : Nat) : Tabs (w.drewN n) := h
theorem Tabs.round {w : World} (h : Tabs w) (k : Nat) (hk : k < 64) : w.cell? ⟨20, k, none⟩ = some (wcell (shaK.getD k 0)) := by
  have h1 := h.2 k (wcell (shaK.getD k 0)) (by
    rw [List.getElem?_map, List.getD_eq_getElem?_getD, List.getElem?_eq_getElem (show k < shaK.length from hk)]
    rfl)
  rwa [Nat.zero_add] at h1
theorem HashIs.below {w w' : World} {g n : Nat} {o : Oct} {rest : List UInt8} (h : HashIs w g o rest n) (hb : Below w.heap.size w w') : HashIs w' g o rest n := ⟨h.1, h.2.below hb h.2.lt⟩
/-- A chain to which another is added, up to the k-th word. -/
def sumTo (o q : Oct) (k : Nat) : List Value := ((o.plus q).list.take k).map wcell ++ (o.list.drop k).map wcell
theorem sumTo_next (o q : Oct) (k : Nat) (hk : k < 8) (t : List Value) : (sumTo o q k ++ t).set k (wcell (o.list.getD k 0 + q.list.getD k 0)) = sumTo o q (k + 1) ++ t := by
  match k, hk with
  | 0, _ => rfl
  | 1, _ => rfl
  | 2, _ => rfl
  | 3, _ => rfl
  | 4, _ => rfl
  | 5, _ => rfl
  | 6, _ => rfl
  | 7, _ => rfl
theorem sumTo_at (o q : Oct) (k : Nat) (hk : k < 8) (t : List Value) : (sumTo o q k ++ t)[k]? = some (wcell (o.list.getD k 0)) := by
  match k, hk with
  | 0, _ => rfl
  | 1, _ => rfl
  | 2, _ => rfl
  | 3, _ => rfl
  | 4, _ => rfl
  | 5, _ => rfl
  | 6, _ => rfl
  | 7, _ => rfl
theorem oct_at (q : Oct) (k : Nat) (hk : k < 8) : (q.list.map wcell)[k]? = some (wcell (q.list.getD k 0)) := by
  rw [List.getElem?_map, List.getD_eq_getElem?_getD, List.getElem?_eq_getElem (show k < q.list.length from hk)]
  rfl
set_option maxRecDepth 100000 in
theorem work_any (g b off c n : Nat) (o : Oct) (rest bs : List UInt8) (w : World) (hK : Tabs w) (hH : HashIs w g o rest n) (hr : Row w w.heap.size (some ⟨b, off, none⟩) bs) (hn : bs.length = 64) (hc : 64 ≤ c) (hc2 : c ≤ maxLen) :
    Calls Tryd.prog 41 #[.pointer (some ⟨g, 0, none⟩), .slice (some ⟨b, off, none⟩) 64 c] w fun e w' => e = .returned (.tuple #[]) ∧ But g w w' ∧ HashIs w' g (shaBlock o bs) rest n := by
  have hR := hH.2.range 0 8
  rw [hash_links] at hR
  have HN := Lib.hid hn
  clear hn
  unfold maxLen at hc2
  go_enter Tryd.func41, Tryd.ntmps41
  go_wp2_with (first
    | (refine wpList_load_mid rfl 84 _ rfl g 0 rfl (o.list.map wcell) _ hR Tryd.underlying84 rfl size_eight ?_)
    | (refine wpList_store_mid rfl 84 _ _ rfl w.heap.size 0 (o.list.map wcell).toArray rfl rfl (eight_there w) size_eight (wcells_one _) ?_))
  generalize hw0 : (w.alloc (.cells #[.int .u32 0, .int .u32 0, .int .u32 0, .int .u32 0, .int .u32 0, .int .u32 0, .int .u32 0, .int .u32 0] 84)).setCells w.heap.size 0 (o.list.map wcell) = w0
  have hB0 : Below w.heap.size w w0 := hw0 ▸ eightNew_below w _
  have hC0 : Cells w0 w.heap.size (o.list.map wcell) 84 := hw0 ▸ eightNew_cells w _ rfl
  clear hw0
  go_simp
  have c0 := hC0.get (j := 0) (v := wcell o.a) rfl
  have c1 := hC0.get (j := 1) (v := wcell o.b) rfl
  have c2 := hC0.get (j := 2) (v := wcell o.c) rfl
  have c3 := hC0.get (j := 3) (v := wcell o.d) rfl
  have c4 := hC0.get (j := 4) (v := wcell o.e) rfl
  have c5 := hC0.get (j := 5) (v := wcell o.f) rfl
  have c6 := hC0.get (j := 6) (v := wcell o.g) rfl
  have c7 := hC0.get (j := 7) (v := wcell o.h) rfl
  go_quiet (fail)
  have hB1 := below_drewN hB0 nq
  clear hB0 hC0 c0 c1 c2 c3 c4 c5 c6 c7
  generalize w0.drewN nq = w1 at *
  go_wp2_with fail
  refine (spread_any b off c bs _ (hr.on hB1) HN.out hc (by unfold maxLen; omega)).mono ?_
  rintro e w2 ⟨rfl, hB2⟩
  replace hB2 := below_then hB1 hB2
  clear hB1
  have HS := Lib.hid (shaSpread_length bs 64)
  have HO : Hid (shaBlock o bs = o.plus (shaRounds o (shaSpread bs 64) 64)) := rfl
  generalize shaSpread bs 64 = ws at *
  have hK2 := hK.below hB2
  have hH2 := hH.below hB2
  go_wp2_with fail
  go_loopw [5, 6, 7, 8, 9, 10, 11, 12, 41] (fun p q r s t u v x i wr => ∃ k : Nat, k ≤ 64 ∧ i = .int .i64 k ∧ Below w.heap.size w wr ∧ Tabs wr ∧ HashIs wr g o rest n ∧ p = wcell (shaRounds o ws k).a ∧ q = wcell (shaRounds o ws k).b ∧ r = wcell (shaRounds o ws k).c ∧ s = wcell (shaRounds o ws k).d ∧ t = wcell (shaRounds o ws k).e ∧ u = wcell (shaRounds o ws k).f ∧ v = wcell (shaRounds o ws k).g ∧ x = wcell (shaRounds o ws k).h) (fun _ _ _ _ _ _ _ _ i _ => 64 - (intOf i).toNat)
  case atStart => exact ⟨0, Nat.zero_le _, rfl, hB2, hK2, hH2, rfl, rfl, rfl, rfl, rfl, rfl, rfl, rfl⟩
  case round =>
    clear hB2 hK2 hH2
    obtain ⟨k, hk, rfl, hB, hT, hH', rfl, rfl, rfl, rfl, rfl, rfl, rfl, rfl⟩ := hrel
    by_cases hlt : k < 64
    · have hcK := hT.round k hlt
      have hix := run_index_int (P := Tryd.prog) (t := 91) (ws.map wcell) k (wcell (ws.getD k 0)) wr Tryd.underlying91 Tryd.underlying61 size_u32 hlt (by
        rw [List.getElem?_map, List.getD_eq_getElem?_getD, List.getElem?_eq_getElem (by rw [HS.out]; exact hlt)]
        rfl)
      have HX : Hid (shaRounds o ws (k + 1) = shaRound (shaRounds o ws k) (shaK.getD k 0) (ws.getD k 0)) := rfl
      generalize shaRounds o ws k = q at *
      generalize ws.getD k 0 = xw at *
      generalize shaK.getD k 0 = xk at *
      have i1 : (0 : Int) ≤ (k : Int) := by omega
      have i2 : (k : Int) < 64 := by omega
      go_wp2_with fail
      go_quiet ((go_at_call 45; exact Calls.quiet_of_same (turns_same _ _ _ _ _)))
      go_wp2_with (go_at_call 45; refine (turns_any _ _ _ _ _).mono ?_; rintro e w' ⟨rfl, rfl⟩)
      go_roundw
      case rel =>
        rw [one_eq, two_eq, add32, add32]
        exact ⟨k + 1, by omega, by go_num, below_drewN hB nq, hT, hH', by rw [HX.out]; rfl, by rw [HX.out]; rfl, by rw [HX.out]; rfl, by rw [HX.out]; rfl, by rw [HX.out]; rfl, by rw [HX.out]; rfl, by rw [HX.out]; rfl, by rw [HX.out]; rfl⟩
      case measure => simp [intOf]; omega
    · obtain rfl : k = 64 := by omega
      have HQ := HO.out
      generalize shaRounds o ws 64 = q at *
      replace HQ := Lib.hid HQ
      clear HO
      go_wp2_with fail
      rw [show ((64 : Nat) : Int) = 64 from rfl]
      go_loopw [100] (fun i wr => ∃ k : Nat, k ≤ 8 ∧ i = .int .i64 k ∧ But g w wr ∧ Cells wr g (sumTo o q k ++ (rest.map cellOf ++ [.int .u64 (n : Int)])) 88) (fun i _ => 8 - (intOf i).toNat)
      case atStart => exact ⟨0, Nat.zero_le _, rfl, But.of_below hB, by have h := hH'.2; unfold hashCells at h; rw [List.append_assoc] at h; exact h⟩
      case round =>
        have h64 := hH'.1
        clear hB hT hH'
        obtain ⟨k, hk, rfl, hB, hC⟩ := hrel
        by_cases hlt : k < 8
        · have hix : ∀ W : World, (Instr.index 84 (.agg #[wcell q.a, wcell q.b, wcell q.c, wcell q.d, wcell q.e, wcell q.f, wcell q.g, wcell q.h]) (.int .i64 (k : Int))).run Tryd.prog W = .ok (wcell (q.list.getD k 0)) W := fun W =>
            run_index_int (P := Tryd.prog) (t := 84) (q.list.map wcell) k (wcell (q.list.getD k 0)) W Tryd.underlying84 Tryd.underlying61 size_u32 hlt (oct_at q k hlt)
          have i1 : (0 : Int) ≤ (k : Int) := by omega
          have i2 : (k : Int) < 8 := by omega
          go_wp2_with fail
          refine wp_region_tail 11 (by kernel_rfl) (by kernel_rfl) ?_
          intro w3 hw3
          have hB3 : But g w w3 := by rw [hw3]; exact hB.drew
          have hC3 : Cells w3 g (sumTo o q k ++ (rest.map cellOf ++ [.int .u64 (n : Int)])) 88 := by rw [hw3]; exact hC
          clear hw3 hB hC
          have d1 := hC3.get (sumTo_at o q k hlt _)
          have d2 := hC3.frozen k
          have HN := Lib.hid (sumTo_next o q k hlt (rest.map cellOf ++ [.int .u64 (n : Int)]))
          simp only [List.take_succ_cons, List.take_zero, List.drop_succ_cons, List.drop_zero]
          repeat still_step
          refine wpStill_nil ?_
          go_wp2
          go_roundw
          case rel =>
            rw [add32]
            refine ⟨k + 1, by omega, by go_num, hB3.setCell _ _, ?_⟩
            have h := hC3.set k (wcell (o.list.getD k 0 + q.list.getD k 0))
            rw [HN.out] at h
            exact h
          case measure => simp [intOf]; omega
        · obtain rfl : k = 8 := by omega
          go_wp2_with fail
          go_end0
          refine ⟨rfl, hB, h64, ?_⟩
          rw [HQ.out]
          unfold hashCells
          rw [List.append_assoc]
          exact hC
end Go.Proofs.YtmhelmmonkgmmaaDoor
