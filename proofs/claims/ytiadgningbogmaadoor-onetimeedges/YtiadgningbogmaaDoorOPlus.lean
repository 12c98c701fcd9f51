/- Package onetime: plus, carried. -/
import Derived.Test.YtiadgningbogmaaDoorOCells
namespace Go.Proofs.YtiadgningbogmaaDoor
open Go.RowKit
set_option maxRecDepth 100000 in
set_option maxHeartbeats 1000000 in
theorem plus_over (a b r : List Nat) (S : Nat → List Nat) (w : World) (HB : Hid (b.length = 5)) (HL : Hid (∀ k, (S k).length = 5)) (H0 : Hid (S 0 = a)) (HS : Hid (∀ k, S (k + 1) = (S k).set k (addW ((S k).getD k 0) (b.getD k 0)))) (HR : Hid (S 5 = r)) :
    Calls Tryd.prog 25 #[numVal a, numVal b] w fun e w' => e = .returned (numVal r) ∧ Below w.heap.size w w' := by
  go_enter Tryd.func25, Tryd.ntmps25
  go_wp2_with (first
    | (refine vtake_step rfl 41 (.tmp 0) rfl (a.map ncell) rfl ?_
       intro w1 hB1 hA1)
    | (refine vtake_step rfl 41 (.tmp 1) rfl (b.map ncell) rfl ?_
       intro w2 hb2 hC2
       have hB2 := below_then hB1 hb2
       have hA2 := hA1.on hb2
       have hg1 := hA1.lt
       clear hB1 hA1 hb2)
    | (refine vzero_step rfl 41 rfl (nzeros 5) zero_num ?_
       intro w3 hb3 hZ3
       have hB3 := below_then hB2 hb3
       have hA3 := hA2.on hb3
       have hC3 := hC2.on hb3
       have hg2 := hC2.lt
       clear hB2 hA2 hC2 hb3))
  generalize hg : w1.heap.size = gb at *
  generalize hh : w2.heap.size = gz at *
  clear hg hh
  go_loopw [6] (fun i wr => ∃ k : Nat, k ≤ 5 ∧ i = .int .i64 k ∧ Below w.heap.size w wr ∧ Cells wr w.heap.size ((S k).map ncell) 41 ∧ Cells wr gb (b.map ncell) 41 ∧ Cells wr gz (nzeros 5) 41) (fun i _ => 5 - (intOf i).toNat)
  case atStart => exact ⟨0, Nat.zero_le _, rfl, hB3, by rw [H0.out]; exact hA3, hC3, hZ3⟩
  case round =>
    clear hB3 hA3 hC3 hZ3
    obtain ⟨k, hk, rfl, hB, hS, hC, hZ⟩ := hrel
    have HLk := Lib.hid (HL.out k)
    by_cases hlt : k < 5
    · have HN := Lib.hid (HS.out k)
      generalize S k = s at *
      have i1 : (0 : Int) ≤ (k : Int) := by omega
      have i2 : (k : Int) < 5 := by omega
      go_wp2_with fail
      refine wp_region_tail 8 (by kernel_rfl) (by kernel_rfl) ?_
      intro w4 hw4
      have hB4 : Below w.heap.size w w4 := by rw [hw4]; exact hB.drew
      have hS4 : Cells w4 w.heap.size (s.map ncell) 41 := by rw [hw4]; exact hS
      have hC4 : Cells w4 gb (b.map ncell) 41 := by rw [hw4]; exact hC
      have hZ4 : Cells w4 gz (nzeros 5) 41 := by rw [hw4]; exact hZ
      clear hw4 hB hS hC hZ
      have d1 := hS4.get (nat_at s k (by rw [HLk.out]; exact hlt))
      have d2 := hC4.get (nat_at b k (by rw [HB.out]; exact hlt))
      have d3 := hS4.frozen k
      generalize s.getD k 0 = x at *
      generalize b.getD k 0 = y at *
      simp only [List.take_succ_cons, List.take_zero, List.drop_succ_cons, List.drop_zero]
      repeat still_step
      refine wpStill_nil ?_
      go_wp2
      go_roundw
      case rel =>
        rw [add64n]
        refine ⟨k + 1, by omega, by go_num, hB4.setCell (p := ⟨w.heap.size, k, none⟩) (Nat.le_refl _) _, ?_, hC4.other (by show gb ≠ w.heap.size; omega) _, hZ4.other (by show gz ≠ w.heap.size; omega) _⟩
        rw [HN.out, ← nset_map]
        exact hS4.set k _
      case measure => simp [intOf]; omega
    · obtain rfl : k = 5 := by omega
      rw [HR.out] at hS HLk
      go_wp2_with (first
        | (refine vget_step rfl 41 _ rfl w.heap.size 5 (r.map ncell) 39 rfl hS Tryd.underlying41 size_num (by rw [List.length_map, HLk.out]) ?_)
        | (refine vset_step rfl 41 _ _ rfl gz 5 (nzeros 5) (r.map ncell) rfl rfl hZ rfl size_num (by rw [List.length_map, HLk.out]) (ncells_one r) ?_
           intro w7 hb7 hC7 _))
      refine vret Tryd.results25 gz (r.map ncell) rfl hC7 Tryd.underlying41 size_num (by rw [List.length_map, HLk.out]) rfl ⟨rfl, hB.trans (hb7.below (by omega) hB.size)⟩
theorem plus_any (a b : List Nat) (w : World) (ha : a.length = 5) (hb : b.length = 5) :
    Calls Tryd.prog 25 #[numVal a, numVal b] w fun e w' => e = .returned (numVal (plusN a b)) ∧ Below w.heap.size w w' :=
  plus_over a b _ (plusTo a b) w hb (fun k => (plusTo_length a b k).trans ha) rfl (fun _ => rfl) rfl
set_option maxRecDepth 100000 in
set_option maxHeartbeats 1000000 in
theorem carried_over (n r : List Nat) (o : Nat) (S : Nat → List Nat) (O : Nat → Nat) (w : World) (HL : Hid (∀ k, (S k).length = 5)) (H0 : Hid (S 0 = n)) (HO : Hid (O 0 = 0)) (HS : Hid (∀ k, S (k + 1) = (S k).set k (addW ((S k).getD k 0) (O k) % 67108864))) (HT : Hid (∀ k, O (k + 1) = addW ((S k).getD k 0) (O k) / 67108864)) (HR : Hid (S 5 = r)) (HQ : Hid (O 5 = o)) :
    Calls Tryd.prog 24 #[numVal n] w fun e w' => e = .returned (.tuple #[numVal r, .int .u64 (o : Int)]) ∧ Below w.heap.size w w' := by
  go_enter Tryd.func24, Tryd.ntmps24
  go_wp2_with (first
    | (refine vtake_step rfl 41 (.tmp 0) rfl (n.map ncell) rfl ?_
       intro w1 hB1 hA1)
    | (refine vzero_step rfl 41 rfl (nzeros 5) zero_num ?_
       intro w3 hb3 hZ3
       have hB3 := below_then hB1 hb3
       have hA3 := hA1.on hb3
       have hg2 := hA1.lt
       clear hB1 hA1 hb3))
  generalize hh : w1.heap.size = gz at *
  clear hh
  go_loopw [4, 6] (fun v i wr => ∃ k : Nat, k ≤ 5 ∧ i = .int .i64 k ∧ v = .int .u64 (O k : Int) ∧ Below w.heap.size w wr ∧ Cells wr w.heap.size ((S k).map ncell) 41 ∧ Cells wr gz (nzeros 5) 41) (fun _ i _ => 5 - (intOf i).toNat)
  case atStart => exact ⟨0, Nat.zero_le _, rfl, by rw [HO.out]; rfl, hB3, by rw [H0.out]; exact hA3, hZ3⟩
  case round =>
    clear hB3 hA3 hZ3
    obtain ⟨k, hk, rfl, rfl, hB, hS, hZ⟩ := hrel
    have HLk := Lib.hid (HL.out k)
    by_cases hlt : k < 5
    · have HN := Lib.hid (HS.out k)
      have HM := Lib.hid (HT.out k)
      generalize O k = u at *
      generalize S k = s at *
      have i1 : (0 : Int) ≤ (k : Int) := by omega
      have i2 : (k : Int) < 5 := by omega
      have d1 := hS.get (nat_at s k (by rw [HLk.out]; exact hlt))
      have hT := hS.there k 1 (by rw [List.length_map, HLk.out]; omega)
      have HX := Lib.hid (addW_lt (s.getD k 0) u)
      have HE := Lib.hid (add64n (s.getD k 0) u)
      generalize s.getD k 0 = x at *
      generalize addW x u = y at *
      go_wp2_with (first
        | (rw [HE.out]
           refine store_step rfl 39 _ _ rfl w.heap.size k .u64 (y : Int) rfl rfl size_u64 hT ?_
           clear HE
           intro w4 hw4
           have hB4 : Below w.heap.size w w4 := by rw [hw4]; exact hB.setCell (p := ⟨w.heap.size, k, none⟩) (Nat.le_refl _) _
           have hS4 : Cells w4 w.heap.size ((s.set k y).map ncell) 41 := by rw [hw4, ← nset_map]; exact hS.set k _
           have hZ4 : Cells w4 gz (nzeros 5) 41 := by rw [hw4]; exact hZ.other (by show gz ≠ w.heap.size; omega) _
           have d4 := hS4.get (v := ncell y) (j := k) (by simp [HLk.out, hlt])
           have d5 := hS4.frozen k
           clear hw4 hB hS hZ d1 hT))
      go_roundw
      case rel =>
        rw [and26 y HX.out]
        refine ⟨k + 1, by omega, by go_num, by rw [HM.out, Int.natCast_ediv]; rfl, hB4.setCell (p := ⟨w.heap.size, k, none⟩) (Nat.le_refl _) _, ?_, hZ4.other (by show gz ≠ w.heap.size; omega) _⟩
        rw [HN.out]
        have h := hS4.set k (ncell (y % 67108864))
        rw [nset_map, List.set_set] at h
        exact h
      case measure => simp [intOf]; omega
    · obtain rfl : k = 5 := by omega
      rw [HR.out] at hS HLk
      rw [HQ.out]
      go_wp2_with (first
        | (refine vget_step rfl 41 _ rfl w.heap.size 5 (r.map ncell) 39 rfl hS Tryd.underlying41 size_num (by rw [List.length_map, HLk.out]) ?_)
        | (refine vset_step rfl 41 _ _ rfl gz 5 (nzeros 5) (r.map ncell) rfl rfl hZ rfl size_num (by rw [List.length_map, HLk.out]) (ncells_one r) ?_
           intro w7 hb7 hC7 _))
      refine vret2 Tryd.results24 gz (r.map ncell) (.int .u64 (o : Int)) rfl rfl hC7 Tryd.underlying41 size_num (by rw [List.length_map, HLk.out]) rfl ⟨rfl, hB.trans (hb7.below (by omega) hB.size)⟩
theorem carried_any (n : List Nat) (w : World) (hn : n.length = 5) :
    Calls Tryd.prog 24 #[numVal n] w fun e w' => e = .returned (.tuple #[numVal (carN n), .int .u64 (overN n : Int)]) ∧ Below w.heap.size w w' :=
  carried_over n _ _ (fun k => (carTo n k).1) (fun k => (carTo n k).2) w (fun k => (carTo_length n k).trans hn) rfl rfl (fun _ => rfl) (fun _ => rfl) rfl rfl
end Go.Proofs.YtiadgningbogmaaDoor
