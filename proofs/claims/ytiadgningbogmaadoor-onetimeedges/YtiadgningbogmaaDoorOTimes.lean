/- Package onetime: times. -/
import Derived.Test.YtiadgningbogmaaDoorOFold
import Derived.IntWalk
namespace Go.Proofs.YtiadgningbogmaaDoor
open Go.RowKit
set_option maxRecDepth 100000 in
set_option maxHeartbeats 1000000 in
theorem times_over (a b s f r : List Nat) (M : Nat → Nat → List Nat) (w : World) (HA : Hid (a.length = 5)) (HB : Hid (b.length = 5)) (HL : Hid (∀ i j, (M i j).length = 5)) (H0 : Hid (M 0 0 = [0, 0, 0, 0, 0])) (HT : Hid (∀ i, M (i + 1) 0 = M i 5))
    (HM : Hid (∀ i j, M i (j + 1) = (M i j).set ((i + j) % 5) (addW ((M i j).getD ((i + j) % 5) 0) (mulPart a b i j)))) (HS : Hid (M 5 0 = s)) (HRL : Hid (r.length = 5))
    (CF : Hid (∀ W, Calls Tryd.prog 29 #[numVal s] W fun e w' => e = .returned (numVal f) ∧ Below W.heap.size W w'))
    (CR : Hid (∀ W, Calls Tryd.prog 29 #[numVal f] W fun e w' => e = .returned (numVal r) ∧ Below W.heap.size W w')) :
    Calls Tryd.prog 28 #[numVal a, numVal b] w fun e w' => e = .returned (numVal r) ∧ Below w.heap.size w w' := by
  go_enter Tryd.func28, Tryd.ntmps28
  go_wp2_with (first
    | (refine vtake_step rfl 41 (.tmp 0) rfl (a.map ncell) rfl ?_
       intro w1 hB1 hA1)
    | (refine vtake_step rfl 41 (.tmp 1) rfl (b.map ncell) rfl ?_
       intro w2 hb2 hC2
       have hB2 := below_then hB1 hb2
       have hA2 := hA1.on hb2
       have hg1 := hA1.lt
       clear hB1 hA1 hb2)
    | (refine vzero_step (o := ⟨some 4, _, _, _, _, _⟩) rfl 41 rfl (nzeros 5) zero_num ?_
       intro w3 hb3 hZ3
       have hB3 := below_then hB2 hb3
       have hA3 := hA2.on hb3
       have hC3 := hC2.on hb3
       have hg2 := hC2.lt
       clear hB2 hA2 hC2 hb3)
    | (refine vzero_step (o := ⟨some 5, _, _, _, _, _⟩) rfl 41 rfl (nzeros 5) zero_num ?_
       intro w4 hb4 hS4
       have hB4 := below_then hB3 hb4
       have hA4 := hA3.on hb4
       have hC4 := hC3.on hb4
       have hZ4 := hZ3.on hb4
       have hg3 := hZ3.lt
       clear hB3 hA3 hC3 hZ3 hb4))
  generalize hg : w1.heap.size = gb at *
  generalize hh : w2.heap.size = gz at *
  generalize hh3 : w3.heap.size = gs at *
  clear hg hh hh3
  go_loopw [9] (fun i wr => ∃ k : Nat, k ≤ 5 ∧ i = .int .i64 k ∧ Below w.heap.size w wr ∧ Cells wr w.heap.size (a.map ncell) 41 ∧ Cells wr gb (b.map ncell) 41 ∧ Cells wr gz (nzeros 5) 41 ∧ Cells wr gs ((M k 0).map ncell) 41) (fun i _ => 5 - (intOf i).toNat)
  case atStart => exact ⟨0, Nat.zero_le _, rfl, hB4, hA4, hC4, hZ4, by rw [H0.out]; exact hS4⟩
  case round =>
    clear hB4 hA4 hC4 hZ4 hS4
    obtain ⟨k, hk, rfl, hB, hA, hC, hZ, hS⟩ := hrel
    by_cases hlt : k < 5
    · go_wp2_with fail
      rw [show decide ((k : Int) < 5) = true by simp; omega]
      go_loopw [12] (fun i wr => ∃ j : Nat, j ≤ 5 ∧ i = .int .i64 j ∧ Below w.heap.size w wr ∧ Cells wr w.heap.size (a.map ncell) 41 ∧ Cells wr gb (b.map ncell) 41 ∧ Cells wr gz (nzeros 5) 41 ∧ Cells wr gs ((M k j).map ncell) 41) (fun i _ => 5 - (intOf i).toNat)
      case atStart => exact ⟨0, Nat.zero_le _, rfl, hB, hA, hC, hZ, hS⟩
      case round =>
        clear hB hA hC hZ hS
        obtain ⟨j, hj, rfl, hB, hA, hC, hZ, hS⟩ := hrel
        by_cases hjl : j < 5
        · have HLk := Lib.hid (HL.out k j)
          have HN := Lib.hid (HM.out k j)
          have hq := Nat.mod_lt (k + j) (show 5 > 0 by omega)
          generalize M k j = t at *
          have i1 : (0 : Int) ≤ (k : Int) := by omega
          have i2 : (k : Int) < 5 := by omega
          have i3 : (0 : Int) ≤ (j : Int) := by omega
          have i4 : (j : Int) < 5 := by omega
          go_wp2_with fail
          refine wp_region_tail 7 (by kernel_rfl) (by kernel_rfl) ?_
          intro w5 hw5
          have hB5 : Below w.heap.size w w5 := by rw [hw5]; exact hB.drew
          have hA5 : Cells w5 w.heap.size (a.map ncell) 41 := by rw [hw5]; exact hA
          have hC5 : Cells w5 gb (b.map ncell) 41 := by rw [hw5]; exact hC
          have hZ5 : Cells w5 gz (nzeros 5) 41 := by rw [hw5]; exact hZ
          have hS5 : Cells w5 gs (t.map ncell) 41 := by rw [hw5]; exact hS
          clear hw5 hB hA hC hZ hS
          have d1 := hA5.get (nat_at a k (by rw [HA.out]; exact hlt))
          have d2 := hC5.get (nat_at b j (by rw [HB.out]; exact hjl))
          have d3 := hS5.get (nat_at t ((k + j) % 5) (by rw [HLk.out]; exact hq))
          have d4 := hS5.frozen ((k + j) % 5)
          have HP : Hid (mulPart a b k j = if 5 ≤ k + j then mulW (mulW (a.getD k 0) (b.getD j 0)) 5 else mulW (a.getD k 0) (b.getD j 0)) := rfl
          have HW := Lib.hid (mul64n (a.getD k 0) (b.getD j 0))
          generalize a.getD k 0 = x at *
          generalize b.getD j 0 = y at *
          generalize t.getD ((k + j) % 5) 0 = z at *
          simp only [List.take_succ_cons, List.take_zero, List.drop_succ_cons, List.drop_zero]
          repeat still_step
          refine wpStill_nil ?_
          by_cases hge : 5 ≤ k + j
          · have hge2 : (5 : Int) ≤ (k : Int) + (j : Int) := by omega
            have HX : Hid (IntKind.u64.wrap (IntKind.u64.wrap ((x : Int) * (y : Int)) * 5) = ((mulPart a b k j : Nat) : Int)) := by
              show _ = _
              rw [HP.out, if_pos hge, HW.out, show (5 : Int) = ((5 : Nat) : Int) from rfl, mul64n]
            clear HP HW
            generalize mulPart a b k j = p at *
            go_wp2_with fail
            go_roundw
            case rel =>
              rw [HX.out, add64n]
              refine ⟨j + 1, by omega, by go_num, hB5.setCell (p := ⟨gs, (k + j) % 5, none⟩) (by show w.heap.size ≤ gs; omega) _, hA5.other (by show w.heap.size ≠ gs; omega) _, hC5.other (by show gb ≠ gs; omega) _, hZ5.other (by show gz ≠ gs; omega) _, ?_⟩
              rw [HN.out, ← nset_map]
              exact hS5.set _ _
            case measure => simp [intOf]; omega
          · have hge2 : ¬ (5 : Int) ≤ (k : Int) + (j : Int) := by omega
            have HX : Hid (IntKind.u64.wrap ((x : Int) * (y : Int)) = ((mulPart a b k j : Nat) : Int)) := by
              show _ = _
              rw [HP.out, if_neg hge, HW.out]
            clear HP HW
            generalize mulPart a b k j = p at *
            go_wp2_with fail
            go_roundw
            case rel =>
              rw [HX.out, add64n]
              refine ⟨j + 1, by omega, by go_num, hB5.setCell (p := ⟨gs, (k + j) % 5, none⟩) (by show w.heap.size ≤ gs; omega) _, hA5.other (by show w.heap.size ≠ gs; omega) _, hC5.other (by show gb ≠ gs; omega) _, hZ5.other (by show gz ≠ gs; omega) _, ?_⟩
              rw [HN.out, ← nset_map]
              exact hS5.set _ _
            case measure => simp [intOf]; omega
        · obtain rfl : j = 5 := by omega
          go_wp2_with fail
          go_roundw
          case rel => exact ⟨k + 1, by omega, by go_num, hB, hA, hC, hZ, by rw [HT.out]; exact hS⟩
          case measure => simp [intOf]; omega
    · obtain rfl : k = 5 := by omega
      have HSL := Lib.hid (HL.out 5 0)
      rw [HS.out] at hS HSL
      clear HM HT H0 HL HS
      go_wp2_with (first
        | (refine vget_step rfl 41 _ rfl gs 5 (s.map ncell) 39 rfl hS Tryd.underlying41 size_num (by rw [List.length_map, HSL.out]) ?_))
      refine (CF.out wr).mono ?_
      rintro e w6 ⟨rfl, hb6⟩
      have hB6 := below_then hB hb6
      have hZ6 := hZ.on hb6
      clear CF hB hA hC hZ hS hb6
      go_wp2_with fail
      refine (CR.out w6).mono ?_
      rintro e w7 ⟨rfl, hb7⟩
      have hB7 := below_then hB6 hb7
      have hZ7 := hZ6.on hb7
      clear CR hB6 hZ6 hb7
      go_wp2_with (first
        | (refine vset_step rfl 41 _ _ rfl gz 5 (nzeros 5) (r.map ncell) rfl rfl hZ7 rfl size_num (by rw [List.length_map, HRL.out]) (ncells_one r) ?_
           intro w8 hb8 hC8 _))
      refine vret Tryd.results28 gz (r.map ncell) rfl hC8 Tryd.underlying41 size_num (by rw [List.length_map, HRL.out]) rfl ⟨rfl, hB7.trans (hb8.below (by omega) hB7.size)⟩
theorem times_any (a b : List Nat) (w : World) (ha : a.length = 5) (hb : b.length = 5) :
    Calls Tryd.prog 28 #[numVal a, numVal b] w fun e w' => e = .returned (numVal (timesN a b)) ∧ Below w.heap.size w w' :=
  times_over a b (mulTo a b 5) (foldN (mulTo a b 5)) _ (fun i j => mulRow a b i (mulTo a b i) j) w ha hb (fun i j => (mulRow_length a b i _ j).trans (mulTo_length a b i)) rfl (fun _ => rfl) (fun _ _ => rfl) rfl (timesN_length a b) (fun W => folded_any _ W (mulTo_length a b 5)) (fun W => folded_any _ W (by rw [foldN_length, mulTo_length]))
end Go.Proofs.YtiadgningbogmaaDoor
