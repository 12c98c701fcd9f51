/- The walk of the law FieldSums. (Made by tools/mksums.py.) -/
import Derived.Test.YtcnmohmlfffnkaaDoorPart13
import Derived.Test.YtcnmohmlfffnkaaDoorWFlat2
namespace Go.Proofs.YtcnmohmlfffnkaaDoor.fieldSums
open Go.RowKit
theorem key_run2 {w : World} {g : Nat} {l : List UInt8} {t' : TypeId} (hC : Cells w g (l.map cellOf) t') (hl : l.length = 32) : (Instr.loadAt 23 (.pointer (some ⟨g, 0, none⟩))).run Tryd.prog w = .ok (hashVal l) w := by
  have h := run_loadVar_row (P := Tryd.prog) w g t' 23 (l.map cellOf).toArray (0, 0) _ hC Tryd.underlying23 rfl (by rw [List.size_toArray, List.length_map, hl]; exact size_k32)
  simp only [Instr.loadAt, Instr.sureAddr, Sem.run_bind, Sem.run_pure, Result.andThen_ok]
  exact h
theorem key_run {w : World} {g : Nat} {l : List UInt8} {t' : TypeId} (hC : Cells w g (l.map cellOf) t') (hl : l.length = 32) : (Instr.loadAt 23 (.pointer (some ⟨g, 0, none⟩))).run Tryd.prog w = .ok (hashVal l) w := by
  have h := run_loadVar_row (P := Tryd.prog) w g t' 23 (l.map cellOf).toArray (0, 0) _ hC Tryd.underlying23 rfl (by rw [List.size_toArray, List.length_map, hl]; exact size_k32)
  simp only [Instr.loadAt, Instr.sureAddr, Sem.run_bind, Sem.run_pure, Result.andThen_ok]
  exact h
theorem pick_true {P : Program} (ρ : Operand → Value) (o : Oper) (c x y : Operand) (h : o.op = .pick c x y) (hc : ρ c = .bool true) (v : Value) (hx : ρ x = v) (w : World) : (execOp ρ o).run P w = .ok (.value v) w := by
  rw [exec_pick ρ o c x y h true hc w, if_pos rfl, hx]
def sumsVs3 (ka kb : List UInt8) (x y : List Nat) (ga gb : Nat) : List Value :=
  (hashVal ka) :: (hashVal kb) :: (.pointer (some ⟨ga, 0, none⟩)) :: (.pointer (some ⟨gb, 0, none⟩)) :: (.bool false) :: (undef) :: (undef) :: undef :: undef :: (.bool true) :: (.bool false) :: (hashVal ka) :: (numVal x) :: (hashVal kb) :: (numVal y) :: undef :: undef :: undef :: undef :: undef :: undef :: undef :: undef :: undef :: undef :: undef :: undef :: undef :: undef :: undef :: undef :: undef :: undef :: undef :: undef :: undef :: undef :: undef :: undef :: undef :: undef :: undef :: undef :: undef :: undef :: undef :: undef :: undef :: undef :: undef :: undef :: undef :: undef :: undef :: undef :: undef :: undef :: undef :: undef :: undef :: undef :: undef :: undef :: undef :: undef :: undef :: []
def sumsVs3N (ka kb : List UInt8) (x y : List Nat) (ga gb : Nat) (g5 g6 : Nat) : List Value :=
  (hashVal ka) :: (hashVal kb) :: (.pointer (some ⟨ga, 0, none⟩)) :: (.pointer (some ⟨gb, 0, none⟩)) :: (.bool false) :: (.pointer (some ⟨g5, 0, none⟩)) :: (.pointer (some ⟨g6, 0, none⟩)) :: undef :: undef :: (.bool true) :: (.bool false) :: (hashVal ka) :: (numVal x) :: (hashVal kb) :: (numVal y) :: undef :: undef :: undef :: undef :: undef :: undef :: undef :: undef :: undef :: undef :: undef :: undef :: undef :: undef :: undef :: undef :: undef :: undef :: undef :: undef :: undef :: undef :: undef :: undef :: undef :: undef :: undef :: undef :: undef :: undef :: undef :: undef :: undef :: undef :: undef :: undef :: undef :: undef :: undef :: undef :: undef :: undef :: undef :: undef :: undef :: undef :: undef :: undef :: undef :: undef :: undef :: []
def sumsVs4 (ka kb : List UInt8) (x y p q : List Nat) (ga gb gx gy : Nat) : List Value :=
  (hashVal ka) :: (hashVal kb) :: (.pointer (some ⟨ga, 0, none⟩)) :: (.pointer (some ⟨gb, 0, none⟩)) :: (.bool false) :: (.pointer (some ⟨gx, 0, none⟩)) :: (.pointer (some ⟨gy, 0, none⟩)) :: (undef) :: (undef) :: (.bool true) :: (.bool false) :: (hashVal ka) :: (numVal x) :: (hashVal kb) :: (numVal y) :: (hashVal ka) :: (numD p) :: (hashVal kb) :: (numD q) :: undef :: undef :: undef :: undef :: undef :: undef :: undef :: undef :: undef :: undef :: undef :: undef :: undef :: undef :: undef :: undef :: undef :: undef :: undef :: undef :: undef :: undef :: undef :: undef :: undef :: undef :: undef :: undef :: undef :: undef :: undef :: undef :: undef :: undef :: undef :: undef :: undef :: undef :: undef :: undef :: undef :: undef :: undef :: undef :: undef :: undef :: undef :: []
def sumsVs4N (ka kb : List UInt8) (x y p q : List Nat) (ga gb gx gy : Nat) (g7 g8 : Nat) : List Value :=
  (hashVal ka) :: (hashVal kb) :: (.pointer (some ⟨ga, 0, none⟩)) :: (.pointer (some ⟨gb, 0, none⟩)) :: (.bool false) :: (.pointer (some ⟨gx, 0, none⟩)) :: (.pointer (some ⟨gy, 0, none⟩)) :: (.pointer (some ⟨g7, 0, none⟩)) :: (.pointer (some ⟨g8, 0, none⟩)) :: (.bool true) :: (.bool false) :: (hashVal ka) :: (numVal x) :: (hashVal kb) :: (numVal y) :: (hashVal ka) :: (numD p) :: (hashVal kb) :: (numD q) :: undef :: undef :: undef :: undef :: undef :: undef :: undef :: undef :: undef :: undef :: undef :: undef :: undef :: undef :: undef :: undef :: undef :: undef :: undef :: undef :: undef :: undef :: undef :: undef :: undef :: undef :: undef :: undef :: undef :: undef :: undef :: undef :: undef :: undef :: undef :: undef :: undef :: undef :: undef :: undef :: undef :: undef :: undef :: undef :: undef :: undef :: undef :: []
def sumsVs5 (ka kb : List UInt8) (x y p q e1 e2 e3 e4 d1 d2 d3 d4 : List Nat) (b : Bool) (ga gb gx gy gp gq : Nat) : List Value :=
  (hashVal ka) :: (hashVal kb) :: (.pointer (some ⟨ga, 0, none⟩)) :: (.pointer (some ⟨gb, 0, none⟩)) :: (.bool true) :: (.pointer (some ⟨gx, 0, none⟩)) :: (.pointer (some ⟨gy, 0, none⟩)) :: (.pointer (some ⟨gp, 0, none⟩)) :: (.pointer (some ⟨gq, 0, none⟩)) :: (.bool true) :: (.bool false) :: (hashVal ka) :: (numVal x) :: (hashVal kb) :: (numVal y) :: (hashVal ka) :: (numD p) :: (hashVal kb) :: (numD q) :: (numVal x) :: (numVal y) :: (numVal e1) :: (numD p) :: (numD q) :: (numD d1) :: (.bool true) :: (.bool true) :: (numVal x) :: (numVal y) :: (numVal e2) :: (numD p) :: (numD q) :: (numD d2) :: (.bool true) :: (.bool true) :: (.bool true) :: (numVal x) :: (numVal y) :: (numVal e3) :: (numD p) :: (numD q) :: (numD d3) :: (.bool true) :: (.bool true) :: (.bool true) :: (numVal x) :: (numVal e4) :: (numD p) :: (numD p) :: (numD d4) :: (.bool true) :: (.bool true) :: (.bool true) :: (numVal x) :: (numVal y) :: (.bool b) :: (numD p) :: (numD q) :: (.bool b) :: (.bool true) :: (.bool true) :: (.bool true) :: (numVal x) :: (numVal x) :: (.bool true) :: (.bool true) :: []
set_option maxRecDepth 100000 in
set_option maxHeartbeats 1000000 in
theorem walk_over (ka kb : List UInt8) (x y p q e1 e2 e3 e4 d1 d2 d3 d4 : List Nat) (b : Bool) (w : World) (HP : Hid (p.length = 8)) (HQ : Hid (q.length = 8)) (HA : Hid (ka.length = 32)) (HB : Hid (kb.length = 32)) (HX : Hid (x.length = 5)) (HY : Hid (y.length = 5))
    (CX : Hid (∀ W, Calls Tryd.prog 10 #[hashVal ka] W fun e w' => e = .returned (numVal x) ∧ Below W.heap.size W w')) (CY : Hid (∀ W, Calls Tryd.prog 10 #[hashVal kb] W fun e w' => e = .returned (numVal y) ∧ Below W.heap.size W w')) (CP : Hid (∀ W, Calls Tryd.prog 9 #[hashVal ka] W fun e w' => e = .returned (numD p) ∧ Below W.heap.size W w')) (CQ : Hid (∀ W, Calls Tryd.prog 9 #[hashVal kb] W fun e w' => e = .returned (numD q) ∧ Below W.heap.size W w'))
    (CE1 : Hid (∀ W, Calls Tryd.prog 19 #[numVal x, numVal y] W fun e w' => e = .returned (numVal e1) ∧ Below W.heap.size W w')) (CE2 : Hid (∀ W, Calls Tryd.prog 21 #[numVal x, numVal y] W fun e w' => e = .returned (numVal e2) ∧ Below W.heap.size W w')) (CE3 : Hid (∀ W, Calls Tryd.prog 23 #[numVal x, numVal y] W fun e w' => e = .returned (numVal e3) ∧ Below W.heap.size W w')) (CE4 : Hid (∀ W, Calls Tryd.prog 25 #[numVal x] W fun e w' => e = .returned (numVal e4) ∧ Below W.heap.size W w')) (CD1 : Hid (∀ W, Calls Tryd.prog 20 #[numD p, numD q] W fun e w' => e = .returned (numD d1) ∧ Below W.heap.size W w')) (CD2 : Hid (∀ W, Calls Tryd.prog 22 #[numD p, numD q] W fun e w' => e = .returned (numD d2) ∧ Below W.heap.size W w')) (CD3 : Hid (∀ W, Calls Tryd.prog 24 #[numD p, numD q] W fun e w' => e = .returned (numD d3) ∧ Below W.heap.size W w')) (CD4 : Hid (∀ W, Calls Tryd.prog 24 #[numD p, numD p] W fun e w' => e = .returned (numD d4) ∧ Below W.heap.size W w')) (CS1 : Hid (∀ W, Calls Tryd.prog 13 #[numVal e1, numD d1] W fun e w' => e = .returned (.bool true) ∧ Below W.heap.size W w')) (CS2 : Hid (∀ W, Calls Tryd.prog 13 #[numVal e2, numD d2] W fun e w' => e = .returned (.bool true) ∧ Below W.heap.size W w')) (CS3 : Hid (∀ W, Calls Tryd.prog 13 #[numVal e3, numD d3] W fun e w' => e = .returned (.bool true) ∧ Below W.heap.size W w')) (CS4 : Hid (∀ W, Calls Tryd.prog 13 #[numVal e4, numD d4] W fun e w' => e = .returned (.bool true) ∧ Below W.heap.size W w')) (CB : Hid (∀ W, Calls Tryd.prog 26 #[numVal x, numVal y] W fun e w' => e = .returned (.bool b) ∧ Below W.heap.size W w')) (CT : Hid (∀ W, Calls Tryd.prog 26 #[numVal x, numVal x] W fun e w' => e = .returned (.bool true) ∧ Below W.heap.size W w'))
    (HE : ∀ w, (binOp .eql 27 (numD p) (numD q)).run Tryd.prog w = .ok (.bool b) w) :
    Calls Tryd.prog 4 #[hashVal ka, hashVal kb] w fun e w' => e = .returned (.bool true) ∧ Below w.heap.size w w' := by
  go_enter Tryd.func4, Tryd.ntmps4
  go_wp2_with (first
    | (refine take_step rfl 23 (.tmp 0) rfl ka rfl ?_
       intro w1 hB1 hA1 hz
       clear hz
       try simp only [Act.put, List.setIfInBounds_toArray, List.set_cons_zero, List.set_cons_succ]
       skip)
    | (refine take_step rfl 23 (.tmp 1) rfl kb rfl ?_
       intro w2 hb2 hC2 hz
       have hB2 := below_then hB1 hb2
       have hA2 := hA1.on hb2
       have hg1 := hA1.lt
       clear hz hB1 hA1 hb2
       try simp only [Act.put, List.setIfInBounds_toArray, List.set_cons_zero, List.set_cons_succ]
       skip))
  refine (alive9 w2).mono ?_
  rintro e w3 ⟨rfl, hb3⟩
  have hB := below_then hB2 hb3
  have hA := hA2.on hb3
  have hC := hC2.on hb3
  have hg2 := hC2.lt
  clear hB2 hA2 hC2 hb3
  go_wp2_with fail
  generalize w1.heap.size = gb at *
  replace hA := hA.drew
  replace hC := hC.drew
  refine wp_region_any (by kernel_rfl) ?_
  refine wpAny_flatM (L := [0, 1, 2, 3, 4, 5]) (by kernel_rfl) _ _ (sumsVs3 ka kb x y w.heap.size gb) [(4, 5), (5, 6)] 33 (nzeros 5) [0, 1, 2, 3, 4, 7, 8, 9, 10, 15, 16, 17, 18, 19, 20, 21, 22, 23, 24, 25, 26, 27, 28, 29, 30, 31, 32, 33, 34, 35, 36, 37, 38, 39, 40, 41, 42, 43, 44, 45, 46, 47, 48, 49, 50, 51, 52, 53, 54, 55, 56, 57, 58, 59, 60, 61, 62, 63, 64, 65] (by kernel_rfl) (by kernel_rfl) ?_ zero_elem ?_ (by rfl) ?_ 2 (by kernel_rfl) ?_
  · intro p hp
    rcases List.mem_cons.1 hp with rfl | hp
    · exact ⟨⟨_, rfl, rfl, rfl, rfl, by kernel_rfl, by kernel_rfl⟩⟩
    rcases List.mem_cons.1 hp with rfl | hp
    · exact ⟨⟨_, rfl, rfl, rfl, rfl, by kernel_rfl, by kernel_rfl⟩⟩
    exact absurd hp List.not_mem_nil
  · exact all_cons rfl (all_cons rfl (all_cons rfl (all_cons rfl (all_cons rfl (all_cons rfl (all_cons rfl (all_cons rfl (all_cons rfl (all_cons rfl (all_cons rfl (all_cons rfl (all_cons rfl (all_cons rfl (all_cons rfl (all_cons rfl (all_cons rfl (all_cons rfl (all_cons rfl (all_cons rfl (all_cons rfl (all_cons rfl (all_cons rfl (all_cons rfl (all_cons rfl (all_cons rfl (all_cons rfl (all_cons rfl (all_cons rfl (all_cons rfl (all_cons rfl (all_cons rfl (all_cons rfl (all_cons rfl (all_cons rfl (all_cons rfl (all_cons rfl (all_cons rfl (all_cons rfl (all_cons rfl (all_cons rfl (all_cons rfl (all_cons rfl (all_cons rfl (all_cons rfl (all_cons rfl (all_cons rfl (all_cons rfl (all_cons rfl (all_cons rfl (all_cons rfl (all_cons rfl (all_cons rfl (all_cons rfl (all_cons rfl (all_cons rfl (all_cons rfl (all_cons rfl (all_cons rfl (all_cons rfl (all_nil))))))))))))))))))))))))))))))))))))))))))))))))))))))))))))
  · refine all_cons (.inr (mStep _ 11 rfl rfl rfl rfl (by kernel_rfl) (fun a hv => wanted_all rfl _) (fun a w K hb hv hK => mPure (hashVal ka) (exec_load _ _ _ _ rfl _ _ (hv 2 (by kernel_rfl) rfl) w (key_run (hA.on hb) HA.out)) hK))) ?_
    refine all_cons (.inr (mStep _ 12 rfl rfl rfl rfl (by kernel_rfl) (fun a hv => wanted_all rfl _) (fun a w K hb hv hK => mCall (numVal x) 10 _ _ rfl [hashVal ka] (cons_eq (hv 11 (by kernel_rfl) rfl) (rfl)) (enters Tryd.func10 rfl rfl) (CX.out w) hK))) ?_
    refine all_cons (.inr (mStep _ 13 rfl rfl rfl rfl (by kernel_rfl) (fun a hv => wanted_all rfl _) (fun a w K hb hv hK => mPure (hashVal kb) (exec_load _ _ _ _ rfl _ _ (hv 3 (by kernel_rfl) rfl) w (key_run (hC.on hb) HB.out)) hK))) ?_
    refine all_cons (.inr (mStep _ 14 rfl rfl rfl rfl (by kernel_rfl) (fun a hv => wanted_all rfl _) (fun a w K hb hv hK => mCall (numVal y) 10 _ _ rfl [hashVal kb] (cons_eq (hv 13 (by kernel_rfl) rfl) (rfl)) (enters Tryd.func10 rfl rfl) (CY.out w) hK))) ?_
    refine all_cons (.inl ⟨(4, 5), by simp, rfl⟩) ?_
    refine all_cons (.inl ⟨(5, 6), by simp, rfl⟩) ?_
    exact all_nil
  intro w4 g hb4 hN4 hne4
  obtain ⟨hx0, hX4⟩ := hN4 (4, 5) (by simp)
  obtain ⟨hy0, hY4⟩ := hN4 (5, 6) (by simp)
  have hxy := hne4 (4, 5) (by simp) (5, 6) (by simp) (by decide)
  clear hN4 hne4
  have hB4 := below_then (show Below w.heap.size w w3.drew from hB.drew) hb4
  have hA4 := hA.on hb4
  have hC4 := hC.on hb4
  rw [show withNew g [(4, 5), (5, 6)] (sumsVs3 ka kb x y w.heap.size gb) = sumsVs3N ka kb x y w.heap.size gb (g 5) (g 6) from rfl]
  replace hx0 : w3.heap.size ≤ g 5 := hx0
  replace hy0 : w3.heap.size ≤ g 6 := hy0
  replace hxy : g 5 ≠ g 6 := hxy
  replace hX4 : Cells w4 (g 5) (nzeros 5) 33 := hX4
  replace hY4 : Cells w4 (g 6) (nzeros 5) 33 := hY4
  have hw3 := hB.size
  have hla : w.heap.size < w3.heap.size := hA.lt
  have hlc : gb < w3.heap.size := hC.lt
  generalize g 5 = gx at *
  generalize g 6 = gy at *
  refine wpAny_rest 6 rfl (by kernel_rfl) ?_
  refine vset_step rfl 33 (.tmp 5) (.tmp 12) rfl gx 5 (nzeros 5) (x.map ncell) rfl rfl hX4 rfl size_elem (by rw [List.length_map, HX.out]) (ncells_one _) ?_
  intro w5 hb5 hX5 hz5
  have hY5 := hY4.but hb5 (by omega)
  refine vset_step rfl 33 (.tmp 6) (.tmp 14) rfl gy 5 (nzeros 5) (y.map ncell) rfl rfl hY5 rfl size_elem (by rw [List.length_map, HY.out]) (ncells_one _) ?_
  intro w6 hb6 hY6 hz6
  have hX6 := hX5.but hb6 (by omega)
  have hB6 : Below w.heap.size w w6 := (hB4.trans (hb5.below (by omega) hB4.size)).trans (hb6.below (by omega) (by rw [hz5]; exact hB4.size))
  rename_i K hKK
  show Exit.then K _ Exit.normal (⟨(sumsVs3N ka kb x y w.heap.size gb gx gy).toArray, []⟩ : Act) w6
  simp only [Exit.then]
  refine hKK _ _ ?_
  clear hKK K
  have hA6 := (hA4.but hb5 (by omega)).but hb6 (by omega)
  have hC6 := (hC4.but hb5 (by omega)).but hb6 (by omega)
  clear hA4 hC4 hB4 hb5 hb6 hX4 hY4 hX5 hY5 hA hC hB hb4 CX CY hz5 hz6
  simp only [sumsVs3N]
  go_wp2_with fail
  replace hA6 := hA6.drew
  replace hC6 := hC6.drew
  refine wp_region_any (by kernel_rfl) ?_
  refine wpAny_flatM (L := [0, 1, 2, 3, 4, 5]) (by kernel_rfl) _ _ (sumsVs4 ka kb x y p q w.heap.size gb gx gy) [(4, 7), (5, 8)] 27 (dzeros 8) [0, 1, 2, 3, 4, 5, 6, 9, 10, 11, 12, 13, 14, 19, 20, 21, 22, 23, 24, 25, 26, 27, 28, 29, 30, 31, 32, 33, 34, 35, 36, 37, 38, 39, 40, 41, 42, 43, 44, 45, 46, 47, 48, 49, 50, 51, 52, 53, 54, 55, 56, 57, 58, 59, 60, 61, 62, 63, 64, 65] (by kernel_rfl) (by kernel_rfl) ?_ zero_ND ?_ (by rfl) ?_ 2 (by kernel_rfl) ?_
  · intro p hp
    rcases List.mem_cons.1 hp with rfl | hp
    · exact ⟨⟨_, rfl, rfl, rfl, rfl, by kernel_rfl, by kernel_rfl⟩⟩
    rcases List.mem_cons.1 hp with rfl | hp
    · exact ⟨⟨_, rfl, rfl, rfl, rfl, by kernel_rfl, by kernel_rfl⟩⟩
    exact absurd hp List.not_mem_nil
  · exact all_cons rfl (all_cons rfl (all_cons rfl (all_cons rfl (all_cons rfl (all_cons rfl (all_cons rfl (all_cons rfl (all_cons rfl (all_cons rfl (all_cons rfl (all_cons rfl (all_cons rfl (all_cons rfl (all_cons rfl (all_cons rfl (all_cons rfl (all_cons rfl (all_cons rfl (all_cons rfl (all_cons rfl (all_cons rfl (all_cons rfl (all_cons rfl (all_cons rfl (all_cons rfl (all_cons rfl (all_cons rfl (all_cons rfl (all_cons rfl (all_cons rfl (all_cons rfl (all_cons rfl (all_cons rfl (all_cons rfl (all_cons rfl (all_cons rfl (all_cons rfl (all_cons rfl (all_cons rfl (all_cons rfl (all_cons rfl (all_cons rfl (all_cons rfl (all_cons rfl (all_cons rfl (all_cons rfl (all_cons rfl (all_cons rfl (all_cons rfl (all_cons rfl (all_cons rfl (all_cons rfl (all_cons rfl (all_cons rfl (all_cons rfl (all_cons rfl (all_cons rfl (all_cons rfl (all_cons rfl (all_nil))))))))))))))))))))))))))))))))))))))))))))))))))))))))))))
  · refine all_cons (.inr (mStep _ 15 rfl rfl rfl rfl (by kernel_rfl) (fun a hv => wanted_all rfl _) (fun a w K hb hv hK => mPure (hashVal ka) (exec_load _ _ _ _ rfl _ _ (hv 2 (by kernel_rfl) rfl) w (key_run2 (hA6.on hb) HA.out)) hK))) ?_
    refine all_cons (.inr (mStep _ 16 rfl rfl rfl rfl (by kernel_rfl) (fun a hv => wanted_all rfl _) (fun a w K hb hv hK => mCall (numD p) 9 _ _ rfl [hashVal ka] (cons_eq (hv 15 (by kernel_rfl) rfl) (rfl)) (enters Tryd.func9 rfl rfl) (CP.out w) hK))) ?_
    refine all_cons (.inr (mStep _ 17 rfl rfl rfl rfl (by kernel_rfl) (fun a hv => wanted_all rfl _) (fun a w K hb hv hK => mPure (hashVal kb) (exec_load _ _ _ _ rfl _ _ (hv 3 (by kernel_rfl) rfl) w (key_run2 (hC6.on hb) HB.out)) hK))) ?_
    refine all_cons (.inr (mStep _ 18 rfl rfl rfl rfl (by kernel_rfl) (fun a hv => wanted_all rfl _) (fun a w K hb hv hK => mCall (numD q) 9 _ _ rfl [hashVal kb] (cons_eq (hv 17 (by kernel_rfl) rfl) (rfl)) (enters Tryd.func9 rfl rfl) (CQ.out w) hK))) ?_
    refine all_cons (.inl ⟨(4, 7), by simp, rfl⟩) ?_
    refine all_cons (.inl ⟨(5, 8), by simp, rfl⟩) ?_
    exact all_nil
  intro w7 g hb7 hN7 hne7
  obtain ⟨hp0, hP7⟩ := hN7 (4, 7) (by simp)
  obtain ⟨hq0, hQ7⟩ := hN7 (5, 8) (by simp)
  have hpq := hne7 (4, 7) (by simp) (5, 8) (by simp) (by decide)
  clear hN7 hne7
  have hB7 := below_then (show Below w.heap.size w w6.drew from hB6.drew) hb7
  have hX7 := hX6.drew.on hb7
  have hY7 := hY6.drew.on hb7
  have hlx : gx < w6.heap.size := hX6.lt
  have hly : gy < w6.heap.size := hY6.lt
  rw [show withNew g [(4, 7), (5, 8)] (sumsVs4 ka kb x y p q w.heap.size gb gx gy) = sumsVs4N ka kb x y p q w.heap.size gb gx gy (g 7) (g 8) from rfl]
  replace hp0 : w6.heap.size ≤ g 7 := hp0
  replace hq0 : w6.heap.size ≤ g 8 := hq0
  replace hpq : g 7 ≠ g 8 := hpq
  replace hP7 : Cells w7 (g 7) (dzeros 8) 27 := hP7
  replace hQ7 : Cells w7 (g 8) (dzeros 8) 27 := hQ7
  have hw6 := hB6.size
  generalize g 7 = gp at *
  generalize g 8 = gq at *
  refine wpAny_rest 6 rfl (by kernel_rfl) ?_
  refine vset_step rfl 27 (.tmp 7) (.tmp 16) rfl gp 8 (dzeros 8) (p.map dcell) rfl rfl hP7 rfl size_ND (by rw [List.length_map, HP.out]) (dcells_one _) ?_
  intro w8 hb8 hP8 hz8
  have hQ8 := hQ7.but hb8 (by omega)
  refine vset_step rfl 27 (.tmp 8) (.tmp 18) rfl gq 8 (dzeros 8) (q.map dcell) rfl rfl hQ8 rfl size_ND (by rw [List.length_map, HQ.out]) (dcells_one _) ?_
  intro w9 hb9 hQ9 hz9
  have hP9 := hP8.but hb9 (by omega)
  have hB9 : Below w.heap.size w w9 := (hB7.trans (hb8.below (by omega) hB7.size)).trans (hb9.below (by omega) (by rw [hz8]; exact hB7.size))
  have hX9 := (hX7.but hb8 (by omega)).but hb9 (by omega)
  have hY9 := (hY7.but hb8 (by omega)).but hb9 (by omega)
  rename_i K hKK
  show Exit.then K _ Exit.normal (⟨(sumsVs4N ka kb x y p q w.heap.size gb gx gy gp gq).toArray, []⟩ : Act) w9
  simp only [Exit.then]
  refine hKK _ _ ?_
  clear hKK K hX7 hY7 hb7 hb8 hb9 hP7 hQ7 hP8 hQ8 hB7 hA6 hC6 hX6 hY6 hB6 CP CQ hz8 hz9
  simp only [sumsVs4N]
  have HG : ∀ w, (eqGuard .eql 27 (.tmp 56) (.tmp 57) (numD p) (numD q)).run Tryd.prog w = .ok () w := fun w => run_eqGuard_agg w .eql 27 _ _ _ _ (by kernel_rfl)
  have HGB : ∀ w, (eqGuard .eql 4 (.tmp 55) (.tmp 58) (.bool b) (.bool b)).run Tryd.prog w = .ok () w := fun w => by cases b <;> kernel_rfl
  have HEB : ∀ w, (binOp .eql 4 (.bool b) (.bool b)).run Tryd.prog w = .ok (.bool true) w := fun w => by cases b <;> kernel_rfl
  go_wp2_with fail
  replace hX9 := hX9.drew
  replace hY9 := hY9.drew
  replace hP9 := hP9.drew
  replace hQ9 := hQ9.drew
  refine wp_region_any (by kernel_rfl) ?_
  refine wpAny_flatM (L := [0, 1, 2, 3, 4, 5, 6, 7, 8, 9, 10, 11, 12, 13, 14, 15, 16, 17, 18, 19, 20, 21, 22, 23, 24, 25, 26, 27, 28, 29, 30, 31, 32, 33, 34, 35, 36, 37, 38, 39, 40, 41, 42, 43, 44, 45, 46, 47]) (by kernel_rfl) _ _ (sumsVs5 ka kb x y p q e1 e2 e3 e4 d1 d2 d3 d4 b w.heap.size gb gx gy gp gq) [] 33 (nzeros 5) [0, 1, 2, 3, 5, 6, 7, 8, 9, 10, 11, 12, 13, 14, 15, 16, 17, 18] (by kernel_rfl) (by kernel_rfl) ?_ zero_elem ?_ (by rfl) ?_ 0 (by kernel_rfl) ?_
  · intro p hp
    exact absurd hp List.not_mem_nil
  · exact all_cons rfl (all_cons rfl (all_cons rfl (all_cons rfl (all_cons rfl (all_cons rfl (all_cons rfl (all_cons rfl (all_cons rfl (all_cons rfl (all_cons rfl (all_cons rfl (all_cons rfl (all_cons rfl (all_cons rfl (all_cons rfl (all_cons rfl (all_cons rfl (all_nil))))))))))))))))))
  · refine all_cons (.inr (mStep _ 19 rfl rfl rfl rfl (by kernel_rfl) (fun a hv => wanted_all rfl _) (fun a w K hb hv hK => mPure (numVal x) (exec_load _ _ _ _ rfl _ _ (hv 5 (by kernel_rfl) rfl) w (elem_run (hX9.on hb) HX.out)) hK))) ?_
    refine all_cons (.inr (mStep _ 20 rfl rfl rfl rfl (by kernel_rfl) (fun a hv => wanted_all rfl _) (fun a w K hb hv hK => mPure (numVal y) (exec_load _ _ _ _ rfl _ _ (hv 6 (by kernel_rfl) rfl) w (elem_run (hY9.on hb) HY.out)) hK))) ?_
    refine all_cons (.inr (mStep _ 21 rfl rfl rfl rfl (by kernel_rfl) (fun a hv => wanted_all rfl _) (fun a w K hb hv hK => mCall (numVal e1) 19 _ _ rfl [numVal x, numVal y] (cons_eq (hv 19 (by kernel_rfl) rfl) (cons_eq (hv 20 (by kernel_rfl) rfl) (rfl))) (enters Tryd.func19 rfl rfl) (CE1.out w) hK))) ?_
    refine all_cons (.inr (mStep _ 22 rfl rfl rfl rfl (by kernel_rfl) (fun a hv => wanted_all rfl _) (fun a w K hb hv hK => mPure (numD p) (exec_load _ _ _ _ rfl _ _ (hv 7 (by kernel_rfl) rfl) w (num_run (hP9.on hb) HP.out)) hK))) ?_
    refine all_cons (.inr (mStep _ 23 rfl rfl rfl rfl (by kernel_rfl) (fun a hv => wanted_all rfl _) (fun a w K hb hv hK => mPure (numD q) (exec_load _ _ _ _ rfl _ _ (hv 8 (by kernel_rfl) rfl) w (num_run (hQ9.on hb) HQ.out)) hK))) ?_
    refine all_cons (.inr (mStep _ 24 rfl rfl rfl rfl (by kernel_rfl) (fun a hv => wanted_all rfl _) (fun a w K hb hv hK => mCall (numD d1) 20 _ _ rfl [numD p, numD q] (cons_eq (hv 22 (by kernel_rfl) rfl) (cons_eq (hv 23 (by kernel_rfl) rfl) (rfl))) (enters Tryd.func20 rfl rfl) (CD1.out w) hK))) ?_
    refine all_cons (.inr (mStep _ 25 rfl rfl rfl rfl (by kernel_rfl) (fun a hv => wanted_all rfl _) (fun a w K hb hv hK => mCall (.bool true) 13 _ _ rfl [numVal e1, numD d1] (cons_eq (hv 21 (by kernel_rfl) rfl) (cons_eq (hv 24 (by kernel_rfl) rfl) (rfl))) (enters Tryd.func13 rfl rfl) (CS1.out w) hK))) ?_
    refine all_cons (.inr (mStep _ 26 rfl rfl rfl rfl (by kernel_rfl) (fun a hv => wanted_all rfl _) (fun a w K hb hv hK => mPure (.bool true) (exec_move _ _ _ (.inl rfl) _ (hv 25 (by kernel_rfl) rfl) w) hK))) ?_
    refine all_cons (.inr (mStep _ 27 rfl rfl rfl rfl (by kernel_rfl) (fun a hv => (wanted_is (j := 7) (b := true) (c := true) rfl rfl rfl (hv 26 (by kernel_rfl) rfl)).trans rfl) (fun a w K hb hv hK => mPure (numVal x) (exec_load _ _ _ _ rfl _ _ (hv 5 (by kernel_rfl) rfl) w (elem_run (hX9.on hb) HX.out)) hK))) ?_
    refine all_cons (.inr (mStep _ 28 rfl rfl rfl rfl (by kernel_rfl) (fun a hv => (wanted_is (j := 7) (b := true) (c := true) rfl rfl rfl (hv 26 (by kernel_rfl) rfl)).trans rfl) (fun a w K hb hv hK => mPure (numVal y) (exec_load _ _ _ _ rfl _ _ (hv 6 (by kernel_rfl) rfl) w (elem_run (hY9.on hb) HY.out)) hK))) ?_
    refine all_cons (.inr (mStep _ 29 rfl rfl rfl rfl (by kernel_rfl) (fun a hv => (wanted_is (j := 7) (b := true) (c := true) rfl rfl rfl (hv 26 (by kernel_rfl) rfl)).trans rfl) (fun a w K hb hv hK => mCall (numVal e2) 21 _ _ rfl [numVal x, numVal y] (cons_eq (hv 27 (by kernel_rfl) rfl) (cons_eq (hv 28 (by kernel_rfl) rfl) (rfl))) (enters Tryd.func21 rfl rfl) (CE2.out w) hK))) ?_
    refine all_cons (.inr (mStep _ 30 rfl rfl rfl rfl (by kernel_rfl) (fun a hv => (wanted_is (j := 7) (b := true) (c := true) rfl rfl rfl (hv 26 (by kernel_rfl) rfl)).trans rfl) (fun a w K hb hv hK => mPure (numD p) (exec_load _ _ _ _ rfl _ _ (hv 7 (by kernel_rfl) rfl) w (num_run (hP9.on hb) HP.out)) hK))) ?_
    refine all_cons (.inr (mStep _ 31 rfl rfl rfl rfl (by kernel_rfl) (fun a hv => (wanted_is (j := 7) (b := true) (c := true) rfl rfl rfl (hv 26 (by kernel_rfl) rfl)).trans rfl) (fun a w K hb hv hK => mPure (numD q) (exec_load _ _ _ _ rfl _ _ (hv 8 (by kernel_rfl) rfl) w (num_run (hQ9.on hb) HQ.out)) hK))) ?_
    refine all_cons (.inr (mStep _ 32 rfl rfl rfl rfl (by kernel_rfl) (fun a hv => (wanted_is (j := 7) (b := true) (c := true) rfl rfl rfl (hv 26 (by kernel_rfl) rfl)).trans rfl) (fun a w K hb hv hK => mCall (numD d2) 22 _ _ rfl [numD p, numD q] (cons_eq (hv 30 (by kernel_rfl) rfl) (cons_eq (hv 31 (by kernel_rfl) rfl) (rfl))) (enters Tryd.func22 rfl rfl) (CD2.out w) hK))) ?_
    refine all_cons (.inr (mStep _ 33 rfl rfl rfl rfl (by kernel_rfl) (fun a hv => (wanted_is (j := 7) (b := true) (c := true) rfl rfl rfl (hv 26 (by kernel_rfl) rfl)).trans rfl) (fun a w K hb hv hK => mCall (.bool true) 13 _ _ rfl [numVal e2, numD d2] (cons_eq (hv 29 (by kernel_rfl) rfl) (cons_eq (hv 32 (by kernel_rfl) rfl) (rfl))) (enters Tryd.func13 rfl rfl) (CS2.out w) hK))) ?_
    refine all_cons (.inr (mStep _ 34 rfl rfl rfl rfl (by kernel_rfl) (fun a hv => wanted_all rfl _) (fun a w K hb hv hK => mPure (.bool true) (pick_true _ _ _ _ _ rfl (hv 26 (by kernel_rfl) rfl) _ (hv 33 (by kernel_rfl) rfl) w) hK))) ?_
    refine all_cons (.inr (mStep _ 35 rfl rfl rfl rfl (by kernel_rfl) (fun a hv => wanted_all rfl _) (fun a w K hb hv hK => mPure (.bool true) (exec_move _ _ _ (.inl rfl) _ (hv 34 (by kernel_rfl) rfl) w) hK))) ?_
    refine all_cons (.inr (mStep _ 36 rfl rfl rfl rfl (by kernel_rfl) (fun a hv => (wanted_is (j := 16) (b := true) (c := true) rfl rfl rfl (hv 35 (by kernel_rfl) rfl)).trans rfl) (fun a w K hb hv hK => mPure (numVal x) (exec_load _ _ _ _ rfl _ _ (hv 5 (by kernel_rfl) rfl) w (elem_run (hX9.on hb) HX.out)) hK))) ?_
    refine all_cons (.inr (mStep _ 37 rfl rfl rfl rfl (by kernel_rfl) (fun a hv => (wanted_is (j := 16) (b := true) (c := true) rfl rfl rfl (hv 35 (by kernel_rfl) rfl)).trans rfl) (fun a w K hb hv hK => mPure (numVal y) (exec_load _ _ _ _ rfl _ _ (hv 6 (by kernel_rfl) rfl) w (elem_run (hY9.on hb) HY.out)) hK))) ?_
    refine all_cons (.inr (mStep _ 38 rfl rfl rfl rfl (by kernel_rfl) (fun a hv => (wanted_is (j := 16) (b := true) (c := true) rfl rfl rfl (hv 35 (by kernel_rfl) rfl)).trans rfl) (fun a w K hb hv hK => mCall (numVal e3) 23 _ _ rfl [numVal x, numVal y] (cons_eq (hv 36 (by kernel_rfl) rfl) (cons_eq (hv 37 (by kernel_rfl) rfl) (rfl))) (enters Tryd.func23 rfl rfl) (CE3.out w) hK))) ?_
    refine all_cons (.inr (mStep _ 39 rfl rfl rfl rfl (by kernel_rfl) (fun a hv => (wanted_is (j := 16) (b := true) (c := true) rfl rfl rfl (hv 35 (by kernel_rfl) rfl)).trans rfl) (fun a w K hb hv hK => mPure (numD p) (exec_load _ _ _ _ rfl _ _ (hv 7 (by kernel_rfl) rfl) w (num_run (hP9.on hb) HP.out)) hK))) ?_
    refine all_cons (.inr (mStep _ 40 rfl rfl rfl rfl (by kernel_rfl) (fun a hv => (wanted_is (j := 16) (b := true) (c := true) rfl rfl rfl (hv 35 (by kernel_rfl) rfl)).trans rfl) (fun a w K hb hv hK => mPure (numD q) (exec_load _ _ _ _ rfl _ _ (hv 8 (by kernel_rfl) rfl) w (num_run (hQ9.on hb) HQ.out)) hK))) ?_
    refine all_cons (.inr (mStep _ 41 rfl rfl rfl rfl (by kernel_rfl) (fun a hv => (wanted_is (j := 16) (b := true) (c := true) rfl rfl rfl (hv 35 (by kernel_rfl) rfl)).trans rfl) (fun a w K hb hv hK => mCall (numD d3) 24 _ _ rfl [numD p, numD q] (cons_eq (hv 39 (by kernel_rfl) rfl) (cons_eq (hv 40 (by kernel_rfl) rfl) (rfl))) (enters Tryd.func24 rfl rfl) (CD3.out w) hK))) ?_
    refine all_cons (.inr (mStep _ 42 rfl rfl rfl rfl (by kernel_rfl) (fun a hv => (wanted_is (j := 16) (b := true) (c := true) rfl rfl rfl (hv 35 (by kernel_rfl) rfl)).trans rfl) (fun a w K hb hv hK => mCall (.bool true) 13 _ _ rfl [numVal e3, numD d3] (cons_eq (hv 38 (by kernel_rfl) rfl) (cons_eq (hv 41 (by kernel_rfl) rfl) (rfl))) (enters Tryd.func13 rfl rfl) (CS3.out w) hK))) ?_
    refine all_cons (.inr (mStep _ 43 rfl rfl rfl rfl (by kernel_rfl) (fun a hv => wanted_all rfl _) (fun a w K hb hv hK => mPure (.bool true) (pick_true _ _ _ _ _ rfl (hv 35 (by kernel_rfl) rfl) _ (hv 42 (by kernel_rfl) rfl) w) hK))) ?_
    refine all_cons (.inr (mStep _ 44 rfl rfl rfl rfl (by kernel_rfl) (fun a hv => wanted_all rfl _) (fun a w K hb hv hK => mPure (.bool true) (exec_move _ _ _ (.inl rfl) _ (hv 43 (by kernel_rfl) rfl) w) hK))) ?_
    refine all_cons (.inr (mStep _ 45 rfl rfl rfl rfl (by kernel_rfl) (fun a hv => (wanted_is (j := 25) (b := true) (c := true) rfl rfl rfl (hv 44 (by kernel_rfl) rfl)).trans rfl) (fun a w K hb hv hK => mPure (numVal x) (exec_load _ _ _ _ rfl _ _ (hv 5 (by kernel_rfl) rfl) w (elem_run (hX9.on hb) HX.out)) hK))) ?_
    refine all_cons (.inr (mStep _ 46 rfl rfl rfl rfl (by kernel_rfl) (fun a hv => (wanted_is (j := 25) (b := true) (c := true) rfl rfl rfl (hv 44 (by kernel_rfl) rfl)).trans rfl) (fun a w K hb hv hK => mCall (numVal e4) 25 _ _ rfl [numVal x] (cons_eq (hv 45 (by kernel_rfl) rfl) (rfl)) (enters Tryd.func25 rfl rfl) (CE4.out w) hK))) ?_
    refine all_cons (.inr (mStep _ 47 rfl rfl rfl rfl (by kernel_rfl) (fun a hv => (wanted_is (j := 25) (b := true) (c := true) rfl rfl rfl (hv 44 (by kernel_rfl) rfl)).trans rfl) (fun a w K hb hv hK => mPure (numD p) (exec_load _ _ _ _ rfl _ _ (hv 7 (by kernel_rfl) rfl) w (num_run (hP9.on hb) HP.out)) hK))) ?_
    refine all_cons (.inr (mStep _ 48 rfl rfl rfl rfl (by kernel_rfl) (fun a hv => (wanted_is (j := 25) (b := true) (c := true) rfl rfl rfl (hv 44 (by kernel_rfl) rfl)).trans rfl) (fun a w K hb hv hK => mPure (numD p) (exec_load _ _ _ _ rfl _ _ (hv 7 (by kernel_rfl) rfl) w (num_run (hP9.on hb) HP.out)) hK))) ?_
    refine all_cons (.inr (mStep _ 49 rfl rfl rfl rfl (by kernel_rfl) (fun a hv => (wanted_is (j := 25) (b := true) (c := true) rfl rfl rfl (hv 44 (by kernel_rfl) rfl)).trans rfl) (fun a w K hb hv hK => mCall (numD d4) 24 _ _ rfl [numD p, numD p] (cons_eq (hv 47 (by kernel_rfl) rfl) (cons_eq (hv 48 (by kernel_rfl) rfl) (rfl))) (enters Tryd.func24 rfl rfl) (CD4.out w) hK))) ?_
    refine all_cons (.inr (mStep _ 50 rfl rfl rfl rfl (by kernel_rfl) (fun a hv => (wanted_is (j := 25) (b := true) (c := true) rfl rfl rfl (hv 44 (by kernel_rfl) rfl)).trans rfl) (fun a w K hb hv hK => mCall (.bool true) 13 _ _ rfl [numVal e4, numD d4] (cons_eq (hv 46 (by kernel_rfl) rfl) (cons_eq (hv 49 (by kernel_rfl) rfl) (rfl))) (enters Tryd.func13 rfl rfl) (CS4.out w) hK))) ?_
    refine all_cons (.inr (mStep _ 51 rfl rfl rfl rfl (by kernel_rfl) (fun a hv => wanted_all rfl _) (fun a w K hb hv hK => mPure (.bool true) (pick_true _ _ _ _ _ rfl (hv 44 (by kernel_rfl) rfl) _ (hv 50 (by kernel_rfl) rfl) w) hK))) ?_
    refine all_cons (.inr (mStep _ 52 rfl rfl rfl rfl (by kernel_rfl) (fun a hv => wanted_all rfl _) (fun a w K hb hv hK => mPure (.bool true) (exec_move _ _ _ (.inl rfl) _ (hv 51 (by kernel_rfl) rfl) w) hK))) ?_
    refine all_cons (.inr (mStep _ 53 rfl rfl rfl rfl (by kernel_rfl) (fun a hv => (wanted_is (j := 33) (b := true) (c := true) rfl rfl rfl (hv 52 (by kernel_rfl) rfl)).trans rfl) (fun a w K hb hv hK => mPure (numVal x) (exec_load _ _ _ _ rfl _ _ (hv 5 (by kernel_rfl) rfl) w (elem_run (hX9.on hb) HX.out)) hK))) ?_
    refine all_cons (.inr (mStep _ 54 rfl rfl rfl rfl (by kernel_rfl) (fun a hv => (wanted_is (j := 33) (b := true) (c := true) rfl rfl rfl (hv 52 (by kernel_rfl) rfl)).trans rfl) (fun a w K hb hv hK => mPure (numVal y) (exec_load _ _ _ _ rfl _ _ (hv 6 (by kernel_rfl) rfl) w (elem_run (hY9.on hb) HY.out)) hK))) ?_
    refine all_cons (.inr (mStep _ 55 rfl rfl rfl rfl (by kernel_rfl) (fun a hv => (wanted_is (j := 33) (b := true) (c := true) rfl rfl rfl (hv 52 (by kernel_rfl) rfl)).trans rfl) (fun a w K hb hv hK => mCall (.bool b) 26 _ _ rfl [numVal x, numVal y] (cons_eq (hv 53 (by kernel_rfl) rfl) (cons_eq (hv 54 (by kernel_rfl) rfl) (rfl))) (enters Tryd.func26 rfl rfl) (CB.out w) hK))) ?_
    refine all_cons (.inr (mStep _ 56 rfl rfl rfl rfl (by kernel_rfl) (fun a hv => (wanted_is (j := 33) (b := true) (c := true) rfl rfl rfl (hv 52 (by kernel_rfl) rfl)).trans rfl) (fun a w K hb hv hK => mPure (numD p) (exec_load _ _ _ _ rfl _ _ (hv 7 (by kernel_rfl) rfl) w (num_run (hP9.on hb) HP.out)) hK))) ?_
    refine all_cons (.inr (mStep _ 57 rfl rfl rfl rfl (by kernel_rfl) (fun a hv => (wanted_is (j := 33) (b := true) (c := true) rfl rfl rfl (hv 52 (by kernel_rfl) rfl)).trans rfl) (fun a w K hb hv hK => mPure (numD q) (exec_load _ _ _ _ rfl _ _ (hv 8 (by kernel_rfl) rfl) w (num_run (hQ9.on hb) HQ.out)) hK))) ?_
    refine all_cons (.inr (mStep _ 58 rfl rfl rfl rfl (by kernel_rfl) (fun a hv => (wanted_is (j := 33) (b := true) (c := true) rfl rfl rfl (hv 52 (by kernel_rfl) rfl)).trans rfl) (fun a w K hb hv hK => mPure (.bool b) (exec_bin _ _ _ _ _ _ _ rfl _ _ _ (hv 56 (by kernel_rfl) rfl) (hv 57 (by kernel_rfl) rfl) w (HG w) (HE w)) hK))) ?_
    refine all_cons (.inr (mStep _ 59 rfl rfl rfl rfl (by kernel_rfl) (fun a hv => (wanted_is (j := 33) (b := true) (c := true) rfl rfl rfl (hv 52 (by kernel_rfl) rfl)).trans rfl) (fun a w K hb hv hK => mPure (.bool true) (exec_bin _ _ _ _ _ _ _ rfl _ _ _ (hv 55 (by kernel_rfl) rfl) (hv 58 (by kernel_rfl) rfl) w (HGB w) (HEB w)) hK))) ?_
    refine all_cons (.inr (mStep _ 60 rfl rfl rfl rfl (by kernel_rfl) (fun a hv => wanted_all rfl _) (fun a w K hb hv hK => mPure (.bool true) (pick_true _ _ _ _ _ rfl (hv 52 (by kernel_rfl) rfl) _ (hv 59 (by kernel_rfl) rfl) w) hK))) ?_
    refine all_cons (.inr (mStep _ 61 rfl rfl rfl rfl (by kernel_rfl) (fun a hv => wanted_all rfl _) (fun a w K hb hv hK => mPure (.bool true) (exec_move _ _ _ (.inl rfl) _ (hv 60 (by kernel_rfl) rfl) w) hK))) ?_
    refine all_cons (.inr (mStep _ 62 rfl rfl rfl rfl (by kernel_rfl) (fun a hv => (wanted_is (j := 42) (b := true) (c := true) rfl rfl rfl (hv 61 (by kernel_rfl) rfl)).trans rfl) (fun a w K hb hv hK => mPure (numVal x) (exec_load _ _ _ _ rfl _ _ (hv 5 (by kernel_rfl) rfl) w (elem_run (hX9.on hb) HX.out)) hK))) ?_
    refine all_cons (.inr (mStep _ 63 rfl rfl rfl rfl (by kernel_rfl) (fun a hv => (wanted_is (j := 42) (b := true) (c := true) rfl rfl rfl (hv 61 (by kernel_rfl) rfl)).trans rfl) (fun a w K hb hv hK => mPure (numVal x) (exec_load _ _ _ _ rfl _ _ (hv 5 (by kernel_rfl) rfl) w (elem_run (hX9.on hb) HX.out)) hK))) ?_
    refine all_cons (.inr (mStep _ 64 rfl rfl rfl rfl (by kernel_rfl) (fun a hv => (wanted_is (j := 42) (b := true) (c := true) rfl rfl rfl (hv 61 (by kernel_rfl) rfl)).trans rfl) (fun a w K hb hv hK => mCall (.bool true) 26 _ _ rfl [numVal x, numVal x] (cons_eq (hv 62 (by kernel_rfl) rfl) (cons_eq (hv 63 (by kernel_rfl) rfl) (rfl))) (enters Tryd.func26 rfl rfl) (CT.out w) hK))) ?_
    refine all_cons (.inr (mStep _ 65 rfl rfl rfl rfl (by kernel_rfl) (fun a hv => wanted_all rfl _) (fun a w K hb hv hK => mPure (.bool true) (pick_true _ _ _ _ _ rfl (hv 61 (by kernel_rfl) rfl) _ (hv 64 (by kernel_rfl) rfl) w) hK))) ?_
    refine all_cons (.inr (mStep _ 4 rfl rfl rfl rfl (by kernel_rfl) (fun a hv => wanted_all rfl _) (fun a w K hb hv hK => mPure (.bool true) (exec_move _ _ _ (.inr rfl) _ (hv 65 (by kernel_rfl) rfl) w) hK))) ?_
    exact all_nil
  intro w10 g hb10 hn1 hn2
  clear hn1 hn2
  have hB10 := below_then (show Below w.heap.size w w9.drew from hB9.drew) hb10
  refine ⟨by kernel_rfl, ?_⟩
  rename_i K hKK
  show Exit.then K _ Exit.normal (⟨(sumsVs5 ka kb x y p q e1 e2 e3 e4 d1 d2 d3 d4 b w.heap.size gb gx gy gp gq).toArray, []⟩ : Act) w10
  simp only [Exit.then]
  refine hKK _ _ ?_
  clear hKK K
  simp only [sumsVs5]
  go_wp2
  go_ret
  exact ⟨rfl, hB10⟩
end Go.Proofs.YtcnmohmlfffnkaaDoor.fieldSums
