/- Part 5 of what the laws of this seat share: FProduct, FProd2. -/
import Derived.Test.YtagjbdhelfickaaDoorPart4
namespace Go.Proofs.YtagjbdhelfickaaDoor
open Go.RowKit
/-- What stands in product's slots when all has come up but the store. -/
def prodVs (A B R : Value) (ga gb gr : Nat) (x y c : Nat → Nat) (Z : Nat → Nat → Value) : List Value :=
  A :: B :: .pointer (some ⟨ga, 0, none⟩) :: .pointer (some ⟨gb, 0, none⟩) :: .pointer (some ⟨gr, 0, none⟩) :: ncell (c 1) :: ncell (c 2) :: ncell (c 3) :: ncell (c 4) :: .pointer (some ⟨gb, 1, none⟩) :: ncell (y 1) :: ncell (c 1) :: .pointer (some ⟨gb, 2, none⟩) :: ncell (y 2) :: ncell (c 2) :: .pointer (some ⟨gb, 3, none⟩) :: ncell (y 3) :: ncell (c 3) :: .pointer (some ⟨gb, 4, none⟩) :: ncell (y 4) :: ncell (c 4) :: Z 0 0 :: .pointer (some ⟨ga, 0, none⟩) :: ncell (x 0) :: .pointer (some ⟨gb, 0, none⟩) :: ncell (y 0) :: Z 0 1 :: .pointer (some ⟨ga, 1, none⟩) :: ncell (x 1) :: ncell (c 4) :: Z 0 2 :: .pointer (some ⟨ga, 2, none⟩) :: ncell (x 2) :: ncell (c 3) :: Z 0 3 :: .pointer (some ⟨ga, 3, none⟩) :: ncell (x 3) :: ncell (c 2) :: Z 0 4 :: .pointer (some ⟨ga, 4, none⟩) :: ncell (x 4) :: ncell (c 1) :: Z 0 5 :: Z 1 0 :: .pointer (some ⟨ga, 0, none⟩) :: ncell (x 0) :: .pointer (some ⟨gb, 1, none⟩) :: ncell (y 1) :: Z 1 1 :: .pointer (some ⟨ga, 1, none⟩) :: ncell (x 1) :: .pointer (some ⟨gb, 0, none⟩) :: ncell (y 0) :: Z 1 2 :: .pointer (some ⟨ga, 2, none⟩) :: ncell (x 2) :: ncell (c 4) :: Z 1 3 :: .pointer (some ⟨ga, 3, none⟩) :: ncell (x 3) :: ncell (c 3) :: Z 1 4 :: .pointer (some ⟨ga, 4, none⟩) :: ncell (x 4) :: ncell (c 2) :: Z 1 5 :: Z 2 0 :: .pointer (some ⟨ga, 0, none⟩) :: ncell (x 0) :: .pointer (some ⟨gb, 2, none⟩) :: ncell (y 2) :: Z 2 1 :: .pointer (some ⟨ga, 1, none⟩) :: ncell (x 1) :: .pointer (some ⟨gb, 1, none⟩) :: ncell (y 1) :: Z 2 2 :: .pointer (some ⟨ga, 2, none⟩) :: ncell (x 2) :: .pointer (some ⟨gb, 0, none⟩) :: ncell (y 0) :: Z 2 3 :: .pointer (some ⟨ga, 3, none⟩) :: ncell (x 3) :: ncell (c 4) :: Z 2 4 :: .pointer (some ⟨ga, 4, none⟩) :: ncell (x 4) :: ncell (c 3) :: Z 2 5 :: Z 3 0 :: .pointer (some ⟨ga, 0, none⟩) :: ncell (x 0) :: .pointer (some ⟨gb, 3, none⟩) :: ncell (y 3) :: Z 3 1 :: .pointer (some ⟨ga, 1, none⟩) :: ncell (x 1) :: .pointer (some ⟨gb, 2, none⟩) :: ncell (y 2) :: Z 3 2 :: .pointer (some ⟨ga, 2, none⟩) :: ncell (x 2) :: .pointer (some ⟨gb, 1, none⟩) :: ncell (y 1) :: Z 3 3 :: .pointer (some ⟨ga, 3, none⟩) :: ncell (x 3) :: .pointer (some ⟨gb, 0, none⟩) :: ncell (y 0) :: Z 3 4 :: .pointer (some ⟨ga, 4, none⟩) :: ncell (x 4) :: ncell (c 4) :: Z 3 5 :: Z 4 0 :: .pointer (some ⟨ga, 0, none⟩) :: ncell (x 0) :: .pointer (some ⟨gb, 4, none⟩) :: ncell (y 4) :: Z 4 1 :: .pointer (some ⟨ga, 1, none⟩) :: ncell (x 1) :: .pointer (some ⟨gb, 3, none⟩) :: ncell (y 3) :: Z 4 2 :: .pointer (some ⟨ga, 2, none⟩) :: ncell (x 2) :: .pointer (some ⟨gb, 2, none⟩) :: ncell (y 2) :: Z 4 3 :: .pointer (some ⟨ga, 3, none⟩) :: ncell (x 3) :: .pointer (some ⟨gb, 1, none⟩) :: ncell (y 1) :: Z 4 4 :: .pointer (some ⟨ga, 4, none⟩) :: ncell (x 4) :: .pointer (some ⟨gb, 0, none⟩) :: ncell (y 0) :: Z 4 5 :: R :: []
/-- The same ahead of the sums. -/
def prodVs1 (A B _R : Value) (ga gb gr : Nat) (_x y c : Nat → Nat) (_Z : Nat → Nat → Value) : List Value :=
  A :: B :: .pointer (some ⟨ga, 0, none⟩) :: .pointer (some ⟨gb, 0, none⟩) :: .pointer (some ⟨gr, 0, none⟩) :: ncell (c 1) :: ncell (c 2) :: ncell (c 3) :: ncell (c 4) :: .pointer (some ⟨gb, 1, none⟩) :: ncell (y 1) :: ncell (c 1) :: .pointer (some ⟨gb, 2, none⟩) :: ncell (y 2) :: ncell (c 2) :: .pointer (some ⟨gb, 3, none⟩) :: ncell (y 3) :: ncell (c 3) :: .pointer (some ⟨gb, 4, none⟩) :: ncell (y 4) :: ncell (c 4) :: undef :: undef :: undef :: undef :: undef :: undef :: undef :: undef :: undef :: undef :: undef :: undef :: undef :: undef :: undef :: undef :: undef :: undef :: undef :: undef :: undef :: undef :: undef :: undef :: undef :: undef :: undef :: undef :: undef :: undef :: undef :: undef :: undef :: undef :: undef :: undef :: undef :: undef :: undef :: undef :: undef :: undef :: undef :: undef :: undef :: undef :: undef :: undef :: undef :: undef :: undef :: undef :: undef :: undef :: undef :: undef :: undef :: undef :: undef :: undef :: undef :: undef :: undef :: undef :: undef :: undef :: undef :: undef :: undef :: undef :: undef :: undef :: undef :: undef :: undef :: undef :: undef :: undef :: undef :: undef :: undef :: undef :: undef :: undef :: undef :: undef :: undef :: undef :: undef :: undef :: undef :: undef :: undef :: undef :: undef :: undef :: undef :: undef :: undef :: undef :: undef :: undef :: undef :: undef :: undef :: undef :: undef :: undef :: undef :: undef :: undef :: undef :: undef :: undef :: undef :: undef :: undef :: undef :: undef :: undef :: undef :: []
theorem load_cell {w : World} {g j v : Nat} (h : w.cell? ⟨g, j, none⟩ = some (ncell v)) : (Instr.loadAt 25 (.pointer (some ⟨g, j, none⟩))).run Tryd.prog w = .ok (ncell v) w := by
  go_simp
theorem mul19_run (v u : Nat) (h : IntKind.u64.wrap (19 * (v : Int)) = (u : Int)) (w : World) : (binOp .mul 25 (.int .u64 19) (ncell v)).run Tryd.prog w = .ok (ncell u) w := by
  rw [ncell, ncell, ← h]
  kernel_rfl
set_option maxRecDepth 100000 in
set_option maxHeartbeats 4000000 in
theorem product_over (a b r : List Nat) (x y c : Nat → Nat) (Z : Nat → Nat → Value) (w : World) (Ha : Hid (a = [x 0, x 1, x 2, x 3, x 4])) (Hb : Hid (b = [y 0, y 1, y 2, y 3, y 4])) (Hr : Hid (r.length = 5))
    (MC : ∀ w k, (binOp .mul 25 (.int .u64 19) (ncell (y k))).run Tryd.prog w = .ok (ncell (c k)) w) (Z0 : ∀ i w, (Instr.build 122 #[]).run Tryd.prog w = .ok (Z i 0) w)
    (HC : ∀ i j, i < 5 → j < 5 → ∀ W, Calls Tryd.prog 88 #[Z i j, ncell (x j), ncell (if j ≤ i then y (i - j) else c (5 + i - j))] W fun e w' => e = .returned (Z i (j + 1)) ∧ Below W.heap.size W w')
    (CN : ∀ W, Calls Tryd.prog 87 #[Z 0 5, Z 1 5, Z 2 5, Z 3 5, Z 4 5] W fun e w' => e = .returned (numVal r) ∧ Below W.heap.size W w') :
    Calls Tryd.prog 74 #[numVal a, numVal b] w fun e w' => e = .returned (numVal r) ∧ Below w.heap.size w w' := by
  go_enter Tryd.func74, Tryd.ntmps74
  go_wp2_with (first
    | (refine vtake_step rfl 27 (.tmp 0) rfl (a.map ncell) rfl ?_
       intro w1 hB1 hA1)
    | (refine vtake_step rfl 27 (.tmp 1) rfl (b.map ncell) rfl ?_
       intro w2 hb2 hC2
       have hB2 := below_then hB1 hb2
       have hA2 := hA1.on hb2
       have hg1 := hA1.lt
       clear hB1 hA1 hb2)
    | (refine vzero_step rfl 27 rfl (nzeros 5) zero_numF ?_
       intro w3 hb3 hZ3
       have hB3 := below_then hB2 hb3
       have hA3 := hA2.on hb3
       have hC3 := hC2.on hb3
       have hg2 := hC2.lt
       clear hB2 hA2 hC2 hb3))
  generalize hg : w1.heap.size = gb at *
  generalize hh : w2.heap.size = gr at *
  generalize hz : w.heap.size = ga at *
  clear hg hh
  have LA : ∀ W, Below w3.drew.heap.size w3.drew W → ∀ k, k < 5 → (Instr.loadAt 25 (.pointer (some ⟨ga, k, none⟩))).run Tryd.prog W = .ok (ncell (x k)) W := by
    intro W hb k hk
    refine load_cell ((hA3.drew.on hb).get ?_)
    rw [Ha.out]
    match k, hk with
    | 0, _ => rfl
    | 1, _ => rfl
    | 2, _ => rfl
    | 3, _ => rfl
    | 4, _ => rfl
  have LB : ∀ W, Below w3.drew.heap.size w3.drew W → ∀ k, k < 5 → (Instr.loadAt 25 (.pointer (some ⟨gb, k, none⟩))).run Tryd.prog W = .ok (ncell (y k)) W := by
    intro W hb k hk
    refine load_cell ((hC3.drew.on hb).get ?_)
    rw [Hb.out]
    match k, hk with
    | 0, _ => rfl
    | 1, _ => rfl
    | 2, _ => rfl
    | 3, _ => rfl
    | 4, _ => rfl
  refine wp_region_any (by kernel_rfl) ?_
  refine wpAny_flatAt (L := [0, 1, 2, 3, 4, 5, 6, 7, 8, 9, 10, 11, 12, 13, 14, 15]) (by kernel_rfl) _ _ (prodVs1 (numVal a) (numVal b) (numVal r) ga gb gr x y c Z) [0, 1, 2, 3, 4, 21, 22, 23, 24, 25, 26, 27, 28, 29, 30, 31, 32, 33, 34, 35, 36, 37, 38, 39, 40, 41, 42, 43, 44, 45, 46, 47, 48, 49, 50, 51, 52, 53, 54, 55, 56, 57, 58, 59, 60, 61, 62, 63, 64, 65, 66, 67, 68, 69, 70, 71, 72, 73, 74, 75, 76, 77, 78, 79, 80, 81, 82, 83, 84, 85, 86, 87, 88, 89, 90, 91, 92, 93, 94, 95, 96, 97, 98, 99, 100, 101, 102, 103, 104, 105, 106, 107, 108, 109, 110, 111, 112, 113, 114, 115, 116, 117, 118, 119, 120, 121, 122, 123, 124, 125, 126, 127, 128, 129, 130, 131, 132, 133, 134, 135, 136, 137, 138, 139, 140, 141] (by kernel_rfl) ?_ (by rfl) ?_ 0 (by kernel_rfl) ?_
  · repeat refine all_cons rfl ?_
    exact all_nil
  · change ∀ i ∈ _, StepOk _ _ _ _ _ w3.drew _ i
    refine all_cons (stepPure _ 9 rfl rfl rfl (by kernel_rfl) (by kernel_rfl) fun a w hb hv => exec_index _ _ _ _ _ rfl _ _ _ (hv 3 (by kernel_rfl)) rfl w (by kernel_rfl)) ?_
    refine all_cons (stepPure _ 10 rfl rfl rfl (by kernel_rfl) (by kernel_rfl) fun a w hb hv => exec_load _ _ _ _ rfl _ _ (hv 9 (by kernel_rfl)) w (LB w hb 1 (by decide))) ?_
    refine all_cons (stepPure _ 11 rfl rfl rfl (by kernel_rfl) (by kernel_rfl) fun a w hb hv => exec_bin _ _ _ _ _ _ _ rfl _ _ _ rfl (hv 10 (by kernel_rfl)) w (by kernel_rfl) (MC w 1)) ?_
    refine all_cons (stepPure _ 12 rfl rfl rfl (by kernel_rfl) (by kernel_rfl) fun a w hb hv => exec_index _ _ _ _ _ rfl _ _ _ (hv 3 (by kernel_rfl)) rfl w (by kernel_rfl)) ?_
    refine all_cons (stepPure _ 13 rfl rfl rfl (by kernel_rfl) (by kernel_rfl) fun a w hb hv => exec_load _ _ _ _ rfl _ _ (hv 12 (by kernel_rfl)) w (LB w hb 2 (by decide))) ?_
    refine all_cons (stepPure _ 14 rfl rfl rfl (by kernel_rfl) (by kernel_rfl) fun a w hb hv => exec_bin _ _ _ _ _ _ _ rfl _ _ _ rfl (hv 13 (by kernel_rfl)) w (by kernel_rfl) (MC w 2)) ?_
    refine all_cons (stepPure _ 15 rfl rfl rfl (by kernel_rfl) (by kernel_rfl) fun a w hb hv => exec_index _ _ _ _ _ rfl _ _ _ (hv 3 (by kernel_rfl)) rfl w (by kernel_rfl)) ?_
    refine all_cons (stepPure _ 16 rfl rfl rfl (by kernel_rfl) (by kernel_rfl) fun a w hb hv => exec_load _ _ _ _ rfl _ _ (hv 15 (by kernel_rfl)) w (LB w hb 3 (by decide))) ?_
    refine all_cons (stepPure _ 17 rfl rfl rfl (by kernel_rfl) (by kernel_rfl) fun a w hb hv => exec_bin _ _ _ _ _ _ _ rfl _ _ _ rfl (hv 16 (by kernel_rfl)) w (by kernel_rfl) (MC w 3)) ?_
    refine all_cons (stepPure _ 18 rfl rfl rfl (by kernel_rfl) (by kernel_rfl) fun a w hb hv => exec_index _ _ _ _ _ rfl _ _ _ (hv 3 (by kernel_rfl)) rfl w (by kernel_rfl)) ?_
    refine all_cons (stepPure _ 19 rfl rfl rfl (by kernel_rfl) (by kernel_rfl) fun a w hb hv => exec_load _ _ _ _ rfl _ _ (hv 18 (by kernel_rfl)) w (LB w hb 4 (by decide))) ?_
    refine all_cons (stepPure _ 20 rfl rfl rfl (by kernel_rfl) (by kernel_rfl) fun a w hb hv => exec_bin _ _ _ _ _ _ _ rfl _ _ _ rfl (hv 19 (by kernel_rfl)) w (by kernel_rfl) (MC w 4)) ?_
    refine all_cons (stepPure _ 5 rfl rfl rfl (by kernel_rfl) (by kernel_rfl) fun a w hb hv => exec_move _ _ _ (.inr rfl) _ (hv 11 (by kernel_rfl)) w) ?_
    refine all_cons (stepPure _ 6 rfl rfl rfl (by kernel_rfl) (by kernel_rfl) fun a w hb hv => exec_move _ _ _ (.inr rfl) _ (hv 14 (by kernel_rfl)) w) ?_
    refine all_cons (stepPure _ 7 rfl rfl rfl (by kernel_rfl) (by kernel_rfl) fun a w hb hv => exec_move _ _ _ (.inr rfl) _ (hv 17 (by kernel_rfl)) w) ?_
    refine all_cons (stepPure _ 8 rfl rfl rfl (by kernel_rfl) (by kernel_rfl) fun a w hb hv => exec_move _ _ _ (.inr rfl) _ (hv 20 (by kernel_rfl)) w) ?_
    exact all_nil
  · intro w4 hb4
    have hB4 : Below ga w w4 := (show Below ga w w3.drew from hB3.drew).trans (Below.mono hb4 (by rw [← hz]; exact hB3.size))
    have hZ4 : Cells w4 gr (nzeros 5) 27 := hZ3.drew.on hb4
    replace LA : ∀ W, Below w4.drew.heap.size w4.drew W → ∀ k, k < 5 → (Instr.loadAt 25 (.pointer (some ⟨ga, k, none⟩))).run Tryd.prog W = .ok (ncell (x k)) W := fun W hb k hk => LA W (hb4.trans (Below.mono (show Below w4.heap.size w4 W from ⟨hb.os, hb.tape, hb.output, hb.size, hb.block⟩) hb4.size)) k hk
    replace LB : ∀ W, Below w4.drew.heap.size w4.drew W → ∀ k, k < 5 → (Instr.loadAt 25 (.pointer (some ⟨gb, k, none⟩))).run Tryd.prog W = .ok (ncell (y k)) W := fun W hb k hk => LB W (hb4.trans (Below.mono (show Below w4.heap.size w4 W from ⟨hb.os, hb.tape, hb.output, hb.size, hb.block⟩) hb4.size)) k hk
    clear hb4 hB3 hA3 hC3 hZ3
    refine ⟨by kernel_rfl, ?_⟩
    show Exit.then _ _ Exit.normal ⟨(prodVs1 (numVal a) (numVal b) (numVal r) ga gb gr x y c Z).toArray, []⟩ w4
    generalize hF : (⟨(prodVs1 (numVal a) (numVal b) (numVal r) ga gb gr x y c Z).toArray, []⟩ : Act) = F
    simp only [Exit.then]
    rename_i K hKK
    refine hKK _ _ ?_
    refine wp_seq_k fun K2 hK2 => ?_
    refine wp_region_any (by kernel_rfl) ?_
    subst hF
    refine wpAny_flatAt (L := [0, 1, 2, 3, 4, 5, 6, 7, 8, 9, 10, 11, 12, 13, 14, 15, 16, 17, 18, 19, 20, 21, 22, 23, 24, 25, 26, 27, 28, 29, 30, 31, 32, 33, 34, 35, 36, 37, 38, 39, 40, 41, 42, 43, 44, 45, 46, 47, 48, 49, 50, 51, 52, 53, 54, 55, 56, 57, 58, 59, 60, 61, 62, 63, 64, 65, 66, 67, 68, 69, 70, 71, 72, 73, 74, 75, 76, 77, 78, 79, 80, 81, 82, 83, 84, 85, 86, 87, 88, 89, 90, 91, 92, 93, 94, 95, 96, 97, 98, 99, 100, 101, 102, 103, 104, 105, 106, 107, 108, 109, 110, 111, 112, 113, 114, 115, 116, 117, 118, 119, 120]) (by kernel_rfl) _ _ (prodVs (numVal a) (numVal b) (numVal r) ga gb gr x y c Z) [0, 1, 2, 3, 4, 5, 6, 7, 8, 9, 10, 11, 12, 13, 14, 15, 16, 17, 18, 19, 20] (by kernel_rfl) ?_ (by rfl) ?_ 1 (by kernel_rfl) ?_
    · repeat refine all_cons rfl ?_
      exact all_nil
    · change ∀ i ∈ _, StepOk _ _ _ _ _ w4.drew _ i
      refine all_cons (stepPure _ 21 rfl rfl rfl (by kernel_rfl) (by kernel_rfl) fun a w hb hv => exec_build _ _ _ [] rfl [] rfl _ w (Z0 0 w)) ?_
      refine all_cons (stepPure _ 22 rfl rfl rfl (by kernel_rfl) (by kernel_rfl) fun a w hb hv => exec_index _ _ _ _ _ rfl _ _ _ (hv 2 (by kernel_rfl)) rfl w (by kernel_rfl)) ?_
      refine all_cons (stepPure _ 23 rfl rfl rfl (by kernel_rfl) (by kernel_rfl) fun a w hb hv => exec_load _ _ _ _ rfl _ _ (hv 22 (by kernel_rfl)) w (LA w hb 0 (by decide))) ?_
      refine all_cons (stepPure _ 24 rfl rfl rfl (by kernel_rfl) (by kernel_rfl) fun a w hb hv => exec_index _ _ _ _ _ rfl _ _ _ (hv 3 (by kernel_rfl)) rfl w (by kernel_rfl)) ?_
      refine all_cons (stepPure _ 25 rfl rfl rfl (by kernel_rfl) (by kernel_rfl) fun a w hb hv => exec_load _ _ _ _ rfl _ _ (hv 24 (by kernel_rfl)) w (LB w hb 0 (by decide))) ?_
      refine all_cons (stepCall _ 26 rfl rfl rfl (by kernel_rfl) (by kernel_rfl) 88 _ _ rfl [Z 0 0, ncell (x 0), ncell (y 0)] (fun a hv => by simp only [List.map_cons, List.map_nil]; exact cons_eq (hv 21 (by kernel_rfl)) ( cons_eq (hv 23 (by kernel_rfl)) ( cons_eq (hv 25 (by kernel_rfl)) (rfl)))) (enters Tryd.func88 rfl rfl) (fun w hb => HC 0 0 (by decide) (by decide) w)) ?_
      refine all_cons (stepPure _ 27 rfl rfl rfl (by kernel_rfl) (by kernel_rfl) fun a w hb hv => exec_index _ _ _ _ _ rfl _ _ _ (hv 2 (by kernel_rfl)) rfl w (by kernel_rfl)) ?_
      refine all_cons (stepPure _ 28 rfl rfl rfl (by kernel_rfl) (by kernel_rfl) fun a w hb hv => exec_load _ _ _ _ rfl _ _ (hv 27 (by kernel_rfl)) w (LA w hb 1 (by decide))) ?_
      refine all_cons (stepPure _ 29 rfl rfl rfl (by kernel_rfl) (by kernel_rfl) fun a w hb hv => exec_move _ _ _ (.inl rfl) _ (hv 8 (by kernel_rfl)) w) ?_
      refine all_cons (stepCall _ 30 rfl rfl rfl (by kernel_rfl) (by kernel_rfl) 88 _ _ rfl [Z 0 1, ncell (x 1), ncell (c 4)] (fun a hv => by simp only [List.map_cons, List.map_nil]; exact cons_eq (hv 26 (by kernel_rfl)) ( cons_eq (hv 28 (by kernel_rfl)) ( cons_eq (hv 29 (by kernel_rfl)) (rfl)))) (enters Tryd.func88 rfl rfl) (fun w hb => HC 0 1 (by decide) (by decide) w)) ?_
      refine all_cons (stepPure _ 31 rfl rfl rfl (by kernel_rfl) (by kernel_rfl) fun a w hb hv => exec_index _ _ _ _ _ rfl _ _ _ (hv 2 (by kernel_rfl)) rfl w (by kernel_rfl)) ?_
      refine all_cons (stepPure _ 32 rfl rfl rfl (by kernel_rfl) (by kernel_rfl) fun a w hb hv => exec_load _ _ _ _ rfl _ _ (hv 31 (by kernel_rfl)) w (LA w hb 2 (by decide))) ?_
      refine all_cons (stepPure _ 33 rfl rfl rfl (by kernel_rfl) (by kernel_rfl) fun a w hb hv => exec_move _ _ _ (.inl rfl) _ (hv 7 (by kernel_rfl)) w) ?_
      refine all_cons (stepCall _ 34 rfl rfl rfl (by kernel_rfl) (by kernel_rfl) 88 _ _ rfl [Z 0 2, ncell (x 2), ncell (c 3)] (fun a hv => by simp only [List.map_cons, List.map_nil]; exact cons_eq (hv 30 (by kernel_rfl)) ( cons_eq (hv 32 (by kernel_rfl)) ( cons_eq (hv 33 (by kernel_rfl)) (rfl)))) (enters Tryd.func88 rfl rfl) (fun w hb => HC 0 2 (by decide) (by decide) w)) ?_
      refine all_cons (stepPure _ 35 rfl rfl rfl (by kernel_rfl) (by kernel_rfl) fun a w hb hv => exec_index _ _ _ _ _ rfl _ _ _ (hv 2 (by kernel_rfl)) rfl w (by kernel_rfl)) ?_
      refine all_cons (stepPure _ 36 rfl rfl rfl (by kernel_rfl) (by kernel_rfl) fun a w hb hv => exec_load _ _ _ _ rfl _ _ (hv 35 (by kernel_rfl)) w (LA w hb 3 (by decide))) ?_
      refine all_cons (stepPure _ 37 rfl rfl rfl (by kernel_rfl) (by kernel_rfl) fun a w hb hv => exec_move _ _ _ (.inl rfl) _ (hv 6 (by kernel_rfl)) w) ?_
      refine all_cons (stepCall _ 38 rfl rfl rfl (by kernel_rfl) (by kernel_rfl) 88 _ _ rfl [Z 0 3, ncell (x 3), ncell (c 2)] (fun a hv => by simp only [List.map_cons, List.map_nil]; exact cons_eq (hv 34 (by kernel_rfl)) ( cons_eq (hv 36 (by kernel_rfl)) ( cons_eq (hv 37 (by kernel_rfl)) (rfl)))) (enters Tryd.func88 rfl rfl) (fun w hb => HC 0 3 (by decide) (by decide) w)) ?_
      refine all_cons (stepPure _ 39 rfl rfl rfl (by kernel_rfl) (by kernel_rfl) fun a w hb hv => exec_index _ _ _ _ _ rfl _ _ _ (hv 2 (by kernel_rfl)) rfl w (by kernel_rfl)) ?_
      refine all_cons (stepPure _ 40 rfl rfl rfl (by kernel_rfl) (by kernel_rfl) fun a w hb hv => exec_load _ _ _ _ rfl _ _ (hv 39 (by kernel_rfl)) w (LA w hb 4 (by decide))) ?_
      refine all_cons (stepPure _ 41 rfl rfl rfl (by kernel_rfl) (by kernel_rfl) fun a w hb hv => exec_move _ _ _ (.inl rfl) _ (hv 5 (by kernel_rfl)) w) ?_
      refine all_cons (stepCall _ 42 rfl rfl rfl (by kernel_rfl) (by kernel_rfl) 88 _ _ rfl [Z 0 4, ncell (x 4), ncell (c 1)] (fun a hv => by simp only [List.map_cons, List.map_nil]; exact cons_eq (hv 38 (by kernel_rfl)) ( cons_eq (hv 40 (by kernel_rfl)) ( cons_eq (hv 41 (by kernel_rfl)) (rfl)))) (enters Tryd.func88 rfl rfl) (fun w hb => HC 0 4 (by decide) (by decide) w)) ?_
      refine all_cons (stepPure _ 43 rfl rfl rfl (by kernel_rfl) (by kernel_rfl) fun a w hb hv => exec_build _ _ _ [] rfl [] rfl _ w (Z0 1 w)) ?_
      refine all_cons (stepPure _ 44 rfl rfl rfl (by kernel_rfl) (by kernel_rfl) fun a w hb hv => exec_index _ _ _ _ _ rfl _ _ _ (hv 2 (by kernel_rfl)) rfl w (by kernel_rfl)) ?_
      refine all_cons (stepPure _ 45 rfl rfl rfl (by kernel_rfl) (by kernel_rfl) fun a w hb hv => exec_load _ _ _ _ rfl _ _ (hv 44 (by kernel_rfl)) w (LA w hb 0 (by decide))) ?_
      refine all_cons (stepPure _ 46 rfl rfl rfl (by kernel_rfl) (by kernel_rfl) fun a w hb hv => exec_index _ _ _ _ _ rfl _ _ _ (hv 3 (by kernel_rfl)) rfl w (by kernel_rfl)) ?_
      refine all_cons (stepPure _ 47 rfl rfl rfl (by kernel_rfl) (by kernel_rfl) fun a w hb hv => exec_load _ _ _ _ rfl _ _ (hv 46 (by kernel_rfl)) w (LB w hb 1 (by decide))) ?_
      refine all_cons (stepCall _ 48 rfl rfl rfl (by kernel_rfl) (by kernel_rfl) 88 _ _ rfl [Z 1 0, ncell (x 0), ncell (y 1)] (fun a hv => by simp only [List.map_cons, List.map_nil]; exact cons_eq (hv 43 (by kernel_rfl)) ( cons_eq (hv 45 (by kernel_rfl)) ( cons_eq (hv 47 (by kernel_rfl)) (rfl)))) (enters Tryd.func88 rfl rfl) (fun w hb => HC 1 0 (by decide) (by decide) w)) ?_
      refine all_cons (stepPure _ 49 rfl rfl rfl (by kernel_rfl) (by kernel_rfl) fun a w hb hv => exec_index _ _ _ _ _ rfl _ _ _ (hv 2 (by kernel_rfl)) rfl w (by kernel_rfl)) ?_
      refine all_cons (stepPure _ 50 rfl rfl rfl (by kernel_rfl) (by kernel_rfl) fun a w hb hv => exec_load _ _ _ _ rfl _ _ (hv 49 (by kernel_rfl)) w (LA w hb 1 (by decide))) ?_
      refine all_cons (stepPure _ 51 rfl rfl rfl (by kernel_rfl) (by kernel_rfl) fun a w hb hv => exec_index _ _ _ _ _ rfl _ _ _ (hv 3 (by kernel_rfl)) rfl w (by kernel_rfl)) ?_
      refine all_cons (stepPure _ 52 rfl rfl rfl (by kernel_rfl) (by kernel_rfl) fun a w hb hv => exec_load _ _ _ _ rfl _ _ (hv 51 (by kernel_rfl)) w (LB w hb 0 (by decide))) ?_
      refine all_cons (stepCall _ 53 rfl rfl rfl (by kernel_rfl) (by kernel_rfl) 88 _ _ rfl [Z 1 1, ncell (x 1), ncell (y 0)] (fun a hv => by simp only [List.map_cons, List.map_nil]; exact cons_eq (hv 48 (by kernel_rfl)) ( cons_eq (hv 50 (by kernel_rfl)) ( cons_eq (hv 52 (by kernel_rfl)) (rfl)))) (enters Tryd.func88 rfl rfl) (fun w hb => HC 1 1 (by decide) (by decide) w)) ?_
      refine all_cons (stepPure _ 54 rfl rfl rfl (by kernel_rfl) (by kernel_rfl) fun a w hb hv => exec_index _ _ _ _ _ rfl _ _ _ (hv 2 (by kernel_rfl)) rfl w (by kernel_rfl)) ?_
      refine all_cons (stepPure _ 55 rfl rfl rfl (by kernel_rfl) (by kernel_rfl) fun a w hb hv => exec_load _ _ _ _ rfl _ _ (hv 54 (by kernel_rfl)) w (LA w hb 2 (by decide))) ?_
      refine all_cons (stepPure _ 56 rfl rfl rfl (by kernel_rfl) (by kernel_rfl) fun a w hb hv => exec_move _ _ _ (.inl rfl) _ (hv 8 (by kernel_rfl)) w) ?_
      refine all_cons (stepCall _ 57 rfl rfl rfl (by kernel_rfl) (by kernel_rfl) 88 _ _ rfl [Z 1 2, ncell (x 2), ncell (c 4)] (fun a hv => by simp only [List.map_cons, List.map_nil]; exact cons_eq (hv 53 (by kernel_rfl)) ( cons_eq (hv 55 (by kernel_rfl)) ( cons_eq (hv 56 (by kernel_rfl)) (rfl)))) (enters Tryd.func88 rfl rfl) (fun w hb => HC 1 2 (by decide) (by decide) w)) ?_
      refine all_cons (stepPure _ 58 rfl rfl rfl (by kernel_rfl) (by kernel_rfl) fun a w hb hv => exec_index _ _ _ _ _ rfl _ _ _ (hv 2 (by kernel_rfl)) rfl w (by kernel_rfl)) ?_
      refine all_cons (stepPure _ 59 rfl rfl rfl (by kernel_rfl) (by kernel_rfl) fun a w hb hv => exec_load _ _ _ _ rfl _ _ (hv 58 (by kernel_rfl)) w (LA w hb 3 (by decide))) ?_
      refine all_cons (stepPure _ 60 rfl rfl rfl (by kernel_rfl) (by kernel_rfl) fun a w hb hv => exec_move _ _ _ (.inl rfl) _ (hv 7 (by kernel_rfl)) w) ?_
      refine all_cons (stepCall _ 61 rfl rfl rfl (by kernel_rfl) (by kernel_rfl) 88 _ _ rfl [Z 1 3, ncell (x 3), ncell (c 3)] (fun a hv => by simp only [List.map_cons, List.map_nil]; exact cons_eq (hv 57 (by kernel_rfl)) ( cons_eq (hv 59 (by kernel_rfl)) ( cons_eq (hv 60 (by kernel_rfl)) (rfl)))) (enters Tryd.func88 rfl rfl) (fun w hb => HC 1 3 (by decide) (by decide) w)) ?_
      refine all_cons (stepPure _ 62 rfl rfl rfl (by kernel_rfl) (by kernel_rfl) fun a w hb hv => exec_index _ _ _ _ _ rfl _ _ _ (hv 2 (by kernel_rfl)) rfl w (by kernel_rfl)) ?_
      refine all_cons (stepPure _ 63 rfl rfl rfl (by kernel_rfl) (by kernel_rfl) fun a w hb hv => exec_load _ _ _ _ rfl _ _ (hv 62 (by kernel_rfl)) w (LA w hb 4 (by decide))) ?_
      refine all_cons (stepPure _ 64 rfl rfl rfl (by kernel_rfl) (by kernel_rfl) fun a w hb hv => exec_move _ _ _ (.inl rfl) _ (hv 6 (by kernel_rfl)) w) ?_
      refine all_cons (stepCall _ 65 rfl rfl rfl (by kernel_rfl) (by kernel_rfl) 88 _ _ rfl [Z 1 4, ncell (x 4), ncell (c 2)] (fun a hv => by simp only [List.map_cons, List.map_nil]; exact cons_eq (hv 61 (by kernel_rfl)) ( cons_eq (hv 63 (by kernel_rfl)) ( cons_eq (hv 64 (by kernel_rfl)) (rfl)))) (enters Tryd.func88 rfl rfl) (fun w hb => HC 1 4 (by decide) (by decide) w)) ?_
      refine all_cons (stepPure _ 66 rfl rfl rfl (by kernel_rfl) (by kernel_rfl) fun a w hb hv => exec_build _ _ _ [] rfl [] rfl _ w (Z0 2 w)) ?_
      refine all_cons (stepPure _ 67 rfl rfl rfl (by kernel_rfl) (by kernel_rfl) fun a w hb hv => exec_index _ _ _ _ _ rfl _ _ _ (hv 2 (by kernel_rfl)) rfl w (by kernel_rfl)) ?_
      refine all_cons (stepPure _ 68 rfl rfl rfl (by kernel_rfl) (by kernel_rfl) fun a w hb hv => exec_load _ _ _ _ rfl _ _ (hv 67 (by kernel_rfl)) w (LA w hb 0 (by decide))) ?_
      refine all_cons (stepPure _ 69 rfl rfl rfl (by kernel_rfl) (by kernel_rfl) fun a w hb hv => exec_index _ _ _ _ _ rfl _ _ _ (hv 3 (by kernel_rfl)) rfl w (by kernel_rfl)) ?_
      refine all_cons (stepPure _ 70 rfl rfl rfl (by kernel_rfl) (by kernel_rfl) fun a w hb hv => exec_load _ _ _ _ rfl _ _ (hv 69 (by kernel_rfl)) w (LB w hb 2 (by decide))) ?_
      refine all_cons (stepCall _ 71 rfl rfl rfl (by kernel_rfl) (by kernel_rfl) 88 _ _ rfl [Z 2 0, ncell (x 0), ncell (y 2)] (fun a hv => by simp only [List.map_cons, List.map_nil]; exact cons_eq (hv 66 (by kernel_rfl)) ( cons_eq (hv 68 (by kernel_rfl)) ( cons_eq (hv 70 (by kernel_rfl)) (rfl)))) (enters Tryd.func88 rfl rfl) (fun w hb => HC 2 0 (by decide) (by decide) w)) ?_
      refine all_cons (stepPure _ 72 rfl rfl rfl (by kernel_rfl) (by kernel_rfl) fun a w hb hv => exec_index _ _ _ _ _ rfl _ _ _ (hv 2 (by kernel_rfl)) rfl w (by kernel_rfl)) ?_
      refine all_cons (stepPure _ 73 rfl rfl rfl (by kernel_rfl) (by kernel_rfl) fun a w hb hv => exec_load _ _ _ _ rfl _ _ (hv 72 (by kernel_rfl)) w (LA w hb 1 (by decide))) ?_
      refine all_cons (stepPure _ 74 rfl rfl rfl (by kernel_rfl) (by kernel_rfl) fun a w hb hv => exec_index _ _ _ _ _ rfl _ _ _ (hv 3 (by kernel_rfl)) rfl w (by kernel_rfl)) ?_
      refine all_cons (stepPure _ 75 rfl rfl rfl (by kernel_rfl) (by kernel_rfl) fun a w hb hv => exec_load _ _ _ _ rfl _ _ (hv 74 (by kernel_rfl)) w (LB w hb 1 (by decide))) ?_
      refine all_cons (stepCall _ 76 rfl rfl rfl (by kernel_rfl) (by kernel_rfl) 88 _ _ rfl [Z 2 1, ncell (x 1), ncell (y 1)] (fun a hv => by simp only [List.map_cons, List.map_nil]; exact cons_eq (hv 71 (by kernel_rfl)) ( cons_eq (hv 73 (by kernel_rfl)) ( cons_eq (hv 75 (by kernel_rfl)) (rfl)))) (enters Tryd.func88 rfl rfl) (fun w hb => HC 2 1 (by decide) (by decide) w)) ?_
      refine all_cons (stepPure _ 77 rfl rfl rfl (by kernel_rfl) (by kernel_rfl) fun a w hb hv => exec_index _ _ _ _ _ rfl _ _ _ (hv 2 (by kernel_rfl)) rfl w (by kernel_rfl)) ?_
      refine all_cons (stepPure _ 78 rfl rfl rfl (by kernel_rfl) (by kernel_rfl) fun a w hb hv => exec_load _ _ _ _ rfl _ _ (hv 77 (by kernel_rfl)) w (LA w hb 2 (by decide))) ?_
      refine all_cons (stepPure _ 79 rfl rfl rfl (by kernel_rfl) (by kernel_rfl) fun a w hb hv => exec_index _ _ _ _ _ rfl _ _ _ (hv 3 (by kernel_rfl)) rfl w (by kernel_rfl)) ?_
      refine all_cons (stepPure _ 80 rfl rfl rfl (by kernel_rfl) (by kernel_rfl) fun a w hb hv => exec_load _ _ _ _ rfl _ _ (hv 79 (by kernel_rfl)) w (LB w hb 0 (by decide))) ?_
      refine all_cons (stepCall _ 81 rfl rfl rfl (by kernel_rfl) (by kernel_rfl) 88 _ _ rfl [Z 2 2, ncell (x 2), ncell (y 0)] (fun a hv => by simp only [List.map_cons, List.map_nil]; exact cons_eq (hv 76 (by kernel_rfl)) ( cons_eq (hv 78 (by kernel_rfl)) ( cons_eq (hv 80 (by kernel_rfl)) (rfl)))) (enters Tryd.func88 rfl rfl) (fun w hb => HC 2 2 (by decide) (by decide) w)) ?_
      refine all_cons (stepPure _ 82 rfl rfl rfl (by kernel_rfl) (by kernel_rfl) fun a w hb hv => exec_index _ _ _ _ _ rfl _ _ _ (hv 2 (by kernel_rfl)) rfl w (by kernel_rfl)) ?_
      refine all_cons (stepPure _ 83 rfl rfl rfl (by kernel_rfl) (by kernel_rfl) fun a w hb hv => exec_load _ _ _ _ rfl _ _ (hv 82 (by kernel_rfl)) w (LA w hb 3 (by decide))) ?_
      refine all_cons (stepPure _ 84 rfl rfl rfl (by kernel_rfl) (by kernel_rfl) fun a w hb hv => exec_move _ _ _ (.inl rfl) _ (hv 8 (by kernel_rfl)) w) ?_
      refine all_cons (stepCall _ 85 rfl rfl rfl (by kernel_rfl) (by kernel_rfl) 88 _ _ rfl [Z 2 3, ncell (x 3), ncell (c 4)] (fun a hv => by simp only [List.map_cons, List.map_nil]; exact cons_eq (hv 81 (by kernel_rfl)) ( cons_eq (hv 83 (by kernel_rfl)) ( cons_eq (hv 84 (by kernel_rfl)) (rfl)))) (enters Tryd.func88 rfl rfl) (fun w hb => HC 2 3 (by decide) (by decide) w)) ?_
      refine all_cons (stepPure _ 86 rfl rfl rfl (by kernel_rfl) (by kernel_rfl) fun a w hb hv => exec_index _ _ _ _ _ rfl _ _ _ (hv 2 (by kernel_rfl)) rfl w (by kernel_rfl)) ?_
      refine all_cons (stepPure _ 87 rfl rfl rfl (by kernel_rfl) (by kernel_rfl) fun a w hb hv => exec_load _ _ _ _ rfl _ _ (hv 86 (by kernel_rfl)) w (LA w hb 4 (by decide))) ?_
      refine all_cons (stepPure _ 88 rfl rfl rfl (by kernel_rfl) (by kernel_rfl) fun a w hb hv => exec_move _ _ _ (.inl rfl) _ (hv 7 (by kernel_rfl)) w) ?_
      refine all_cons (stepCall _ 89 rfl rfl rfl (by kernel_rfl) (by kernel_rfl) 88 _ _ rfl [Z 2 4, ncell (x 4), ncell (c 3)] (fun a hv => by simp only [List.map_cons, List.map_nil]; exact cons_eq (hv 85 (by kernel_rfl)) ( cons_eq (hv 87 (by kernel_rfl)) ( cons_eq (hv 88 (by kernel_rfl)) (rfl)))) (enters Tryd.func88 rfl rfl) (fun w hb => HC 2 4 (by decide) (by decide) w)) ?_
      refine all_cons (stepPure _ 90 rfl rfl rfl (by kernel_rfl) (by kernel_rfl) fun a w hb hv => exec_build _ _ _ [] rfl [] rfl _ w (Z0 3 w)) ?_
      refine all_cons (stepPure _ 91 rfl rfl rfl (by kernel_rfl) (by kernel_rfl) fun a w hb hv => exec_index _ _ _ _ _ rfl _ _ _ (hv 2 (by kernel_rfl)) rfl w (by kernel_rfl)) ?_
      refine all_cons (stepPure _ 92 rfl rfl rfl (by kernel_rfl) (by kernel_rfl) fun a w hb hv => exec_load _ _ _ _ rfl _ _ (hv 91 (by kernel_rfl)) w (LA w hb 0 (by decide))) ?_
      refine all_cons (stepPure _ 93 rfl rfl rfl (by kernel_rfl) (by kernel_rfl) fun a w hb hv => exec_index _ _ _ _ _ rfl _ _ _ (hv 3 (by kernel_rfl)) rfl w (by kernel_rfl)) ?_
      refine all_cons (stepPure _ 94 rfl rfl rfl (by kernel_rfl) (by kernel_rfl) fun a w hb hv => exec_load _ _ _ _ rfl _ _ (hv 93 (by kernel_rfl)) w (LB w hb 3 (by decide))) ?_
      refine all_cons (stepCall _ 95 rfl rfl rfl (by kernel_rfl) (by kernel_rfl) 88 _ _ rfl [Z 3 0, ncell (x 0), ncell (y 3)] (fun a hv => by simp only [List.map_cons, List.map_nil]; exact cons_eq (hv 90 (by kernel_rfl)) ( cons_eq (hv 92 (by kernel_rfl)) ( cons_eq (hv 94 (by kernel_rfl)) (rfl)))) (enters Tryd.func88 rfl rfl) (fun w hb => HC 3 0 (by decide) (by decide) w)) ?_
      refine all_cons (stepPure _ 96 rfl rfl rfl (by kernel_rfl) (by kernel_rfl) fun a w hb hv => exec_index _ _ _ _ _ rfl _ _ _ (hv 2 (by kernel_rfl)) rfl w (by kernel_rfl)) ?_
      refine all_cons (stepPure _ 97 rfl rfl rfl (by kernel_rfl) (by kernel_rfl) fun a w hb hv => exec_load _ _ _ _ rfl _ _ (hv 96 (by kernel_rfl)) w (LA w hb 1 (by decide))) ?_
      refine all_cons (stepPure _ 98 rfl rfl rfl (by kernel_rfl) (by kernel_rfl) fun a w hb hv => exec_index _ _ _ _ _ rfl _ _ _ (hv 3 (by kernel_rfl)) rfl w (by kernel_rfl)) ?_
      refine all_cons (stepPure _ 99 rfl rfl rfl (by kernel_rfl) (by kernel_rfl) fun a w hb hv => exec_load _ _ _ _ rfl _ _ (hv 98 (by kernel_rfl)) w (LB w hb 2 (by decide))) ?_
      refine all_cons (stepCall _ 100 rfl rfl rfl (by kernel_rfl) (by kernel_rfl) 88 _ _ rfl [Z 3 1, ncell (x 1), ncell (y 2)] (fun a hv => by simp only [List.map_cons, List.map_nil]; exact cons_eq (hv 95 (by kernel_rfl)) ( cons_eq (hv 97 (by kernel_rfl)) ( cons_eq (hv 99 (by kernel_rfl)) (rfl)))) (enters Tryd.func88 rfl rfl) (fun w hb => HC 3 1 (by decide) (by decide) w)) ?_
      refine all_cons (stepPure _ 101 rfl rfl rfl (by kernel_rfl) (by kernel_rfl) fun a w hb hv => exec_index _ _ _ _ _ rfl _ _ _ (hv 2 (by kernel_rfl)) rfl w (by kernel_rfl)) ?_
      refine all_cons (stepPure _ 102 rfl rfl rfl (by kernel_rfl) (by kernel_rfl) fun a w hb hv => exec_load _ _ _ _ rfl _ _ (hv 101 (by kernel_rfl)) w (LA w hb 2 (by decide))) ?_
      refine all_cons (stepPure _ 103 rfl rfl rfl (by kernel_rfl) (by kernel_rfl) fun a w hb hv => exec_index _ _ _ _ _ rfl _ _ _ (hv 3 (by kernel_rfl)) rfl w (by kernel_rfl)) ?_
      refine all_cons (stepPure _ 104 rfl rfl rfl (by kernel_rfl) (by kernel_rfl) fun a w hb hv => exec_load _ _ _ _ rfl _ _ (hv 103 (by kernel_rfl)) w (LB w hb 1 (by decide))) ?_
      refine all_cons (stepCall _ 105 rfl rfl rfl (by kernel_rfl) (by kernel_rfl) 88 _ _ rfl [Z 3 2, ncell (x 2), ncell (y 1)] (fun a hv => by simp only [List.map_cons, List.map_nil]; exact cons_eq (hv 100 (by kernel_rfl)) ( cons_eq (hv 102 (by kernel_rfl)) ( cons_eq (hv 104 (by kernel_rfl)) (rfl)))) (enters Tryd.func88 rfl rfl) (fun w hb => HC 3 2 (by decide) (by decide) w)) ?_
      refine all_cons (stepPure _ 106 rfl rfl rfl (by kernel_rfl) (by kernel_rfl) fun a w hb hv => exec_index _ _ _ _ _ rfl _ _ _ (hv 2 (by kernel_rfl)) rfl w (by kernel_rfl)) ?_
      refine all_cons (stepPure _ 107 rfl rfl rfl (by kernel_rfl) (by kernel_rfl) fun a w hb hv => exec_load _ _ _ _ rfl _ _ (hv 106 (by kernel_rfl)) w (LA w hb 3 (by decide))) ?_
      refine all_cons (stepPure _ 108 rfl rfl rfl (by kernel_rfl) (by kernel_rfl) fun a w hb hv => exec_index _ _ _ _ _ rfl _ _ _ (hv 3 (by kernel_rfl)) rfl w (by kernel_rfl)) ?_
      refine all_cons (stepPure _ 109 rfl rfl rfl (by kernel_rfl) (by kernel_rfl) fun a w hb hv => exec_load _ _ _ _ rfl _ _ (hv 108 (by kernel_rfl)) w (LB w hb 0 (by decide))) ?_
      refine all_cons (stepCall _ 110 rfl rfl rfl (by kernel_rfl) (by kernel_rfl) 88 _ _ rfl [Z 3 3, ncell (x 3), ncell (y 0)] (fun a hv => by simp only [List.map_cons, List.map_nil]; exact cons_eq (hv 105 (by kernel_rfl)) ( cons_eq (hv 107 (by kernel_rfl)) ( cons_eq (hv 109 (by kernel_rfl)) (rfl)))) (enters Tryd.func88 rfl rfl) (fun w hb => HC 3 3 (by decide) (by decide) w)) ?_
      refine all_cons (stepPure _ 111 rfl rfl rfl (by kernel_rfl) (by kernel_rfl) fun a w hb hv => exec_index _ _ _ _ _ rfl _ _ _ (hv 2 (by kernel_rfl)) rfl w (by kernel_rfl)) ?_
      refine all_cons (stepPure _ 112 rfl rfl rfl (by kernel_rfl) (by kernel_rfl) fun a w hb hv => exec_load _ _ _ _ rfl _ _ (hv 111 (by kernel_rfl)) w (LA w hb 4 (by decide))) ?_
      refine all_cons (stepPure _ 113 rfl rfl rfl (by kernel_rfl) (by kernel_rfl) fun a w hb hv => exec_move _ _ _ (.inl rfl) _ (hv 8 (by kernel_rfl)) w) ?_
      refine all_cons (stepCall _ 114 rfl rfl rfl (by kernel_rfl) (by kernel_rfl) 88 _ _ rfl [Z 3 4, ncell (x 4), ncell (c 4)] (fun a hv => by simp only [List.map_cons, List.map_nil]; exact cons_eq (hv 110 (by kernel_rfl)) ( cons_eq (hv 112 (by kernel_rfl)) ( cons_eq (hv 113 (by kernel_rfl)) (rfl)))) (enters Tryd.func88 rfl rfl) (fun w hb => HC 3 4 (by decide) (by decide) w)) ?_
      refine all_cons (stepPure _ 115 rfl rfl rfl (by kernel_rfl) (by kernel_rfl) fun a w hb hv => exec_build _ _ _ [] rfl [] rfl _ w (Z0 4 w)) ?_
      refine all_cons (stepPure _ 116 rfl rfl rfl (by kernel_rfl) (by kernel_rfl) fun a w hb hv => exec_index _ _ _ _ _ rfl _ _ _ (hv 2 (by kernel_rfl)) rfl w (by kernel_rfl)) ?_
      refine all_cons (stepPure _ 117 rfl rfl rfl (by kernel_rfl) (by kernel_rfl) fun a w hb hv => exec_load _ _ _ _ rfl _ _ (hv 116 (by kernel_rfl)) w (LA w hb 0 (by decide))) ?_
      refine all_cons (stepPure _ 118 rfl rfl rfl (by kernel_rfl) (by kernel_rfl) fun a w hb hv => exec_index _ _ _ _ _ rfl _ _ _ (hv 3 (by kernel_rfl)) rfl w (by kernel_rfl)) ?_
      refine all_cons (stepPure _ 119 rfl rfl rfl (by kernel_rfl) (by kernel_rfl) fun a w hb hv => exec_load _ _ _ _ rfl _ _ (hv 118 (by kernel_rfl)) w (LB w hb 4 (by decide))) ?_
      refine all_cons (stepCall _ 120 rfl rfl rfl (by kernel_rfl) (by kernel_rfl) 88 _ _ rfl [Z 4 0, ncell (x 0), ncell (y 4)] (fun a hv => by simp only [List.map_cons, List.map_nil]; exact cons_eq (hv 115 (by kernel_rfl)) ( cons_eq (hv 117 (by kernel_rfl)) ( cons_eq (hv 119 (by kernel_rfl)) (rfl)))) (enters Tryd.func88 rfl rfl) (fun w hb => HC 4 0 (by decide) (by decide) w)) ?_
      refine all_cons (stepPure _ 121 rfl rfl rfl (by kernel_rfl) (by kernel_rfl) fun a w hb hv => exec_index _ _ _ _ _ rfl _ _ _ (hv 2 (by kernel_rfl)) rfl w (by kernel_rfl)) ?_
      refine all_cons (stepPure _ 122 rfl rfl rfl (by kernel_rfl) (by kernel_rfl) fun a w hb hv => exec_load _ _ _ _ rfl _ _ (hv 121 (by kernel_rfl)) w (LA w hb 1 (by decide))) ?_
      refine all_cons (stepPure _ 123 rfl rfl rfl (by kernel_rfl) (by kernel_rfl) fun a w hb hv => exec_index _ _ _ _ _ rfl _ _ _ (hv 3 (by kernel_rfl)) rfl w (by kernel_rfl)) ?_
      refine all_cons (stepPure _ 124 rfl rfl rfl (by kernel_rfl) (by kernel_rfl) fun a w hb hv => exec_load _ _ _ _ rfl _ _ (hv 123 (by kernel_rfl)) w (LB w hb 3 (by decide))) ?_
      refine all_cons (stepCall _ 125 rfl rfl rfl (by kernel_rfl) (by kernel_rfl) 88 _ _ rfl [Z 4 1, ncell (x 1), ncell (y 3)] (fun a hv => by simp only [List.map_cons, List.map_nil]; exact cons_eq (hv 120 (by kernel_rfl)) ( cons_eq (hv 122 (by kernel_rfl)) ( cons_eq (hv 124 (by kernel_rfl)) (rfl)))) (enters Tryd.func88 rfl rfl) (fun w hb => HC 4 1 (by decide) (by decide) w)) ?_
      refine all_cons (stepPure _ 126 rfl rfl rfl (by kernel_rfl) (by kernel_rfl) fun a w hb hv => exec_index _ _ _ _ _ rfl _ _ _ (hv 2 (by kernel_rfl)) rfl w (by kernel_rfl)) ?_
      refine all_cons (stepPure _ 127 rfl rfl rfl (by kernel_rfl) (by kernel_rfl) fun a w hb hv => exec_load _ _ _ _ rfl _ _ (hv 126 (by kernel_rfl)) w (LA w hb 2 (by decide))) ?_
      refine all_cons (stepPure _ 128 rfl rfl rfl (by kernel_rfl) (by kernel_rfl) fun a w hb hv => exec_index _ _ _ _ _ rfl _ _ _ (hv 3 (by kernel_rfl)) rfl w (by kernel_rfl)) ?_
      refine all_cons (stepPure _ 129 rfl rfl rfl (by kernel_rfl) (by kernel_rfl) fun a w hb hv => exec_load _ _ _ _ rfl _ _ (hv 128 (by kernel_rfl)) w (LB w hb 2 (by decide))) ?_
      refine all_cons (stepCall _ 130 rfl rfl rfl (by kernel_rfl) (by kernel_rfl) 88 _ _ rfl [Z 4 2, ncell (x 2), ncell (y 2)] (fun a hv => by simp only [List.map_cons, List.map_nil]; exact cons_eq (hv 125 (by kernel_rfl)) ( cons_eq (hv 127 (by kernel_rfl)) ( cons_eq (hv 129 (by kernel_rfl)) (rfl)))) (enters Tryd.func88 rfl rfl) (fun w hb => HC 4 2 (by decide) (by decide) w)) ?_
      refine all_cons (stepPure _ 131 rfl rfl rfl (by kernel_rfl) (by kernel_rfl) fun a w hb hv => exec_index _ _ _ _ _ rfl _ _ _ (hv 2 (by kernel_rfl)) rfl w (by kernel_rfl)) ?_
      refine all_cons (stepPure _ 132 rfl rfl rfl (by kernel_rfl) (by kernel_rfl) fun a w hb hv => exec_load _ _ _ _ rfl _ _ (hv 131 (by kernel_rfl)) w (LA w hb 3 (by decide))) ?_
      refine all_cons (stepPure _ 133 rfl rfl rfl (by kernel_rfl) (by kernel_rfl) fun a w hb hv => exec_index _ _ _ _ _ rfl _ _ _ (hv 3 (by kernel_rfl)) rfl w (by kernel_rfl)) ?_
      refine all_cons (stepPure _ 134 rfl rfl rfl (by kernel_rfl) (by kernel_rfl) fun a w hb hv => exec_load _ _ _ _ rfl _ _ (hv 133 (by kernel_rfl)) w (LB w hb 1 (by decide))) ?_
      refine all_cons (stepCall _ 135 rfl rfl rfl (by kernel_rfl) (by kernel_rfl) 88 _ _ rfl [Z 4 3, ncell (x 3), ncell (y 1)] (fun a hv => by simp only [List.map_cons, List.map_nil]; exact cons_eq (hv 130 (by kernel_rfl)) ( cons_eq (hv 132 (by kernel_rfl)) ( cons_eq (hv 134 (by kernel_rfl)) (rfl)))) (enters Tryd.func88 rfl rfl) (fun w hb => HC 4 3 (by decide) (by decide) w)) ?_
      refine all_cons (stepPure _ 136 rfl rfl rfl (by kernel_rfl) (by kernel_rfl) fun a w hb hv => exec_index _ _ _ _ _ rfl _ _ _ (hv 2 (by kernel_rfl)) rfl w (by kernel_rfl)) ?_
      refine all_cons (stepPure _ 137 rfl rfl rfl (by kernel_rfl) (by kernel_rfl) fun a w hb hv => exec_load _ _ _ _ rfl _ _ (hv 136 (by kernel_rfl)) w (LA w hb 4 (by decide))) ?_
      refine all_cons (stepPure _ 138 rfl rfl rfl (by kernel_rfl) (by kernel_rfl) fun a w hb hv => exec_index _ _ _ _ _ rfl _ _ _ (hv 3 (by kernel_rfl)) rfl w (by kernel_rfl)) ?_
      refine all_cons (stepPure _ 139 rfl rfl rfl (by kernel_rfl) (by kernel_rfl) fun a w hb hv => exec_load _ _ _ _ rfl _ _ (hv 138 (by kernel_rfl)) w (LB w hb 0 (by decide))) ?_
      refine all_cons (stepCall _ 140 rfl rfl rfl (by kernel_rfl) (by kernel_rfl) 88 _ _ rfl [Z 4 4, ncell (x 4), ncell (y 0)] (fun a hv => by simp only [List.map_cons, List.map_nil]; exact cons_eq (hv 135 (by kernel_rfl)) ( cons_eq (hv 137 (by kernel_rfl)) ( cons_eq (hv 139 (by kernel_rfl)) (rfl)))) (enters Tryd.func88 rfl rfl) (fun w hb => HC 4 4 (by decide) (by decide) w)) ?_
      refine all_cons (stepCall _ 141 rfl rfl rfl (by kernel_rfl) (by kernel_rfl) 87 _ _ rfl [Z 0 5, Z 1 5, Z 2 5, Z 3 5, Z 4 5] (fun a hv => by simp only [List.map_cons, List.map_nil]; exact cons_eq (hv 42 (by kernel_rfl)) ( cons_eq (hv 65 (by kernel_rfl)) ( cons_eq (hv 89 (by kernel_rfl)) ( cons_eq (hv 114 (by kernel_rfl)) ( cons_eq (hv 140 (by kernel_rfl)) (rfl)))))) (enters Tryd.func87 rfl rfl) (fun w hb => CN w)) ?_
      exact all_nil
    · intro w5 hb5
      have hB5 : Below ga w w5 := (show Below ga w w4.drew from hB4.drew).trans (Below.mono hb5 (by rw [← hz] at hB4 ⊢; exact hB4.size))
      have hZ5 : Cells w5 gr (nzeros 5) 27 := hZ4.drew.on hb5
      clear hb5 hB4 hZ4 LA LB MC Z0 HC CN
      refine wpAny_rest 121 rfl (by kernel_rfl) ?_
      refine vset_step rfl 27 (.tmp 4) (.tmp 141) rfl gr 5 (nzeros 5) (r.map ncell) rfl rfl hZ5 rfl size_numF (by rw [List.length_map, Hr.out]) (ncells_one r) ?_
      intro w7 hb7 hC7 hz7
      generalize hF : (⟨(prodVs (numVal a) (numVal b) (numVal r) ga gb gr x y c Z).toArray, []⟩ : Act) = F
      show Exit.then K2 _ Exit.normal (F.put none undef) w7
      simp only [Exit.then]
      refine hK2 _ _ ?_
      refine wp_ret ?_
      subst hF
      refine vret Tryd.results74 gr (r.map ncell) rfl hC7 Tryd.underlying27 size_numF (by rw [List.length_map, Hr.out]) rfl ⟨rfl, by rw [hz]; exact hB5.trans (hb7.below (by omega) (by have := hZ5.lt; omega))⟩
end Go.Proofs.YtagjbdhelfickaaDoor
namespace Go.Proofs.YtagjbdhelfickaaDoor
open Go.RowKit
/-- The part j of product's sum i. -/
def prodM (y : Nat → Nat) (i j : Nat) : Nat := if j ≤ i then y (i - j) else 19 * y (5 + i - j)
def prodS (x y : Nat → Nat) (i : Nat) : Nat → Nat
  | 0 => 0
  | j + 1 => prodS x y i j + x j * prodM y i j
theorem prodM_le {y : Nat → Nat} (hy : ∀ k, y k < 2251799813685248) (i j : Nat) : prodM y i j ≤ 42784196460019693 := by
  have h1 := hy (i - j)
  have h2 := hy (5 + i - j)
  unfold prodM
  split <;> omega
theorem prod_part {x y : Nat → Nat} (hx : ∀ k, x k < 2251799813685248) (hy : ∀ k, y k < 2251799813685248) (i j : Nat) : x j * prodM y i j ≤ 2251799813685247 * 42784196460019693 := Nat.mul_le_mul (by have := hx j; omega) (prodM_le hy i j)
theorem prodS_le {x y : Nat → Nat} (hx : ∀ k, x k < 2251799813685248) (hy : ∀ k, y k < 2251799813685248) (i : Nat) : ∀ j, prodS x y i j ≤ j * (2251799813685247 * 42784196460019693)
  | 0 => Nat.zero_le _
  | j + 1 => by
    have h1 := prodS_le hx hy i j
    have h2 := prod_part hx hy i j
    rw [prodS, Nat.add_mul j 1]
    omega
theorem prodS_last {x y : Nat → Nat} (hx : ∀ k, x k < 2251799813685248) (hy : ∀ k, y k < 2251799813685248) : prodS x y 4 5 < 162259276829213363391578010288128 := by
  have h : ∀ k l, x k * y l ≤ 2251799813685247 * 2251799813685247 := fun k l => Nat.mul_le_mul (by have := hx k; omega) (by have := hy l; omega)
  have e : prodS x y 4 5 = 0 + x 0 * y 4 + x 1 * y 3 + x 2 * y 2 + x 3 * y 1 + x 4 * y 0 := rfl
  rw [e]
  have h0 := h 0 4
  have h1 := h 1 3
  have h2 := h 2 2
  have h3 := h 3 1
  have h4 := h 4 0
  omega
theorem prod_ring (m x0 x1 x2 x3 x4 y0 y1 y2 y3 y4 : Int) : (x0 + m * (x1 + m * (x2 + m * (x3 + m * x4)))) * (y0 + m * (y1 + m * (y2 + m * (y3 + m * y4)))) =
    (x0 * y0 + x1 * (19 * y4) + x2 * (19 * y3) + x3 * (19 * y2) + x4 * (19 * y1)) + m * ((x0 * y1 + x1 * y0 + x2 * (19 * y4) + x3 * (19 * y3) + x4 * (19 * y2)) + m * ((x0 * y2 + x1 * y1 + x2 * y0 + x3 * (19 * y4) + x4 * (19 * y3)) + m * ((x0 * y3 + x1 * y2 + x2 * y1 + x3 * y0 + x4 * (19 * y4)) + m * (x0 * y4 + x1 * y3 + x2 * y2 + x3 * y1 + x4 * y0)))) +
    (m * m * m * m * m - 19) * ((x1 * y4 + x2 * y3 + x3 * y2 + x4 * y1) + m * ((x2 * y4 + x3 * y3 + x4 * y2) + m * ((x3 * y4 + x4 * y3) + m * (x4 * y4)))) := by grind
theorem narrow_val (v0 v1 v2 v3 v4 : Nat) : val5 (v0 % 2251799813685248 + 19 * (v4 / 2251799813685248)) (v1 % 2251799813685248 + v0 / 2251799813685248) (v2 % 2251799813685248 + v1 / 2251799813685248) (v3 % 2251799813685248 + v2 / 2251799813685248) (v4 % 2251799813685248 + v3 / 2251799813685248) + pp * (v4 / 2251799813685248) = val5 v0 v1 v2 v3 v4 := by
  simp only [val5, pp]; omega
theorem prod_val (x y : Nat → Nat) : val5 (prodS x y 0 5) (prodS x y 1 5) (prodS x y 2 5) (prodS x y 3 5) (prodS x y 4 5) % pp = val5 (x 0) (x 1) (x 2) (x 3) (x 4) * val5 (y 0) (y 1) (y 2) (y 3) (y 4) % pp := by
  have e0 : prodS x y 0 5 = 0 + x 0 * y 0 + x 1 * (19 * y 4) + x 2 * (19 * y 3) + x 3 * (19 * y 2) + x 4 * (19 * y 1) := rfl
  have e1 : prodS x y 1 5 = 0 + x 0 * y 1 + x 1 * y 0 + x 2 * (19 * y 4) + x 3 * (19 * y 3) + x 4 * (19 * y 2) := rfl
  have e2 : prodS x y 2 5 = 0 + x 0 * y 2 + x 1 * y 1 + x 2 * y 0 + x 3 * (19 * y 4) + x 4 * (19 * y 3) := rfl
  have e3 : prodS x y 3 5 = 0 + x 0 * y 3 + x 1 * y 2 + x 2 * y 1 + x 3 * y 0 + x 4 * (19 * y 4) := rfl
  have e4 : prodS x y 4 5 = 0 + x 0 * y 4 + x 1 * y 3 + x 2 * y 2 + x 3 * y 1 + x 4 * y 0 := rfl
  rw [NP.cg, e0, e1, e2, e3, e4]
  generalize x 0 = x0
  generalize x 1 = x1
  generalize x 2 = x2
  generalize x 3 = x3
  generalize x 4 = x4
  generalize y 0 = y0
  generalize y 1 = y1
  generalize y 2 = y2
  generalize y 3 = y3
  generalize y 4 = y4
  have h := prod_ring 2251799813685248 x0 x1 x2 x3 x4 y0 y1 y2 y3 y4
  refine ⟨-((x1 * y4 + x2 * y3 + x3 * y2 + x4 * y1) + 2251799813685248 * ((x2 * y4 + x3 * y3 + x4 * y2) + 2251799813685248 * ((x3 * y4 + x4 * y3) + 2251799813685248 * (x4 * y4)))), ?_⟩
  simp only [val5, Int.natCast_mul, Int.natCast_add, Int.natCast_zero, Int.zero_add]
  rw [show ((2251799813685248 : Nat) : Int) = 2251799813685248 from rfl, show ((19 : Nat) : Int) = 19 from rfl, h]
  generalize ((x1 : Int) * y4 + x2 * y3 + x3 * y2 + x4 * y1) + 2251799813685248 * ((x2 * y4 + x3 * y3 + x4 * y2) + 2251799813685248 * ((x3 * y4 + x4 * y3) + 2251799813685248 * (x4 * y4))) = W
  rw [show (2251799813685248 : Int) * 2251799813685248 * 2251799813685248 * 2251799813685248 * 2251799813685248 - 19 = 57896044618658097711785492504343953926634992332820282019728792003956564819949 from by decide, show ((pp : Nat) : Int) = 57896044618658097711785492504343953926634992332820282019728792003956564819949 from rfl]
  omega
/-- What product's limbs are. -/
structure ProdIs (x y : Nat → Nat) (a b c d e : Nat) : Prop where
  low : a < 2305843009213693952 ∧ b < 2305843009213693952 ∧ c < 2305843009213693952 ∧ d < 2305843009213693952 ∧ e < 1152921504606846976
  val : val5 a b c d e % pp = val5 (x 0) (x 1) (x 2) (x 3) (x 4) * val5 (y 0) (y 1) (y 2) (y 3) (y 4) % pp
theorem product_any (x y : Nat → Nat) (hx : ∀ k, x k < 2251799813685248) (hy : ∀ k, y k < 2251799813685248) :
    ∃ a b c d e, ProdIs x y a b c d e ∧ ∀ w, Calls Tryd.prog 74 #[numVal [x 0, x 1, x 2, x 3, x 4], numVal [y 0, y 1, y 2, y 3, y 4]] w fun r w' => r = .returned (numVal [a, b, c, d, e]) ∧ Below w.heap.size w w' := by
  have hS := fun i => prodS_le hx hy i 5
  have hL := prodS_last hx hy
  refine ⟨_, _, _, _, _, ⟨?_, ?_⟩, fun w => product_over _ _ _ x y (fun k => 19 * y k) (fun i j => wideV (prodS x y i j)) w rfl rfl rfl (fun w k => mul19_run _ _ ?_ w) (fun i w => build_wide0 w) (fun i j hi hj W => ?_) (fun W => narrow_any _ _ _ _ _ W ?_ ?_ ?_ ?_ hL)⟩
  · have h0 := hS 0
    have h1 := hS 1
    have h2 := hS 2
    have h3 := hS 3
    refine ⟨?_, ?_, ?_, ?_, ?_⟩ <;> omega
  · rw [← prod_val]
    conv => rhs; rw [← narrow_val, Nat.add_mul_mod_self_left]
  · exact wmul 19 (y k) (by have := hy k; omega)
  · have h1 := prodS_le hx hy i j
    have h2 := prod_part hx hy i j
    have h3 : prodS x y i j ≤ 5 * (2251799813685247 * 42784196460019693) := Nat.le_trans h1 (Nat.mul_le_mul_right _ (by omega))
    exact wplus_any (prodS x y i j) (x j) (prodM y i j) W (by have := hx j; omega) (by have := prodM_le hy i j; omega) (by omega)
  all_goals
    have h0 := hS 0
    have h1 := hS 1
    have h2 := hS 2
    have h3 := hS 3
    omega
end Go.Proofs.YtagjbdhelfickaaDoor
