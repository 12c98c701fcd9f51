/- Package onetime: folded, least. -/
import Derived.Test.YtiadgningbogmaaDoorOPlus
namespace Go.Proofs.YtiadgningbogmaaDoor
open Go.RowKit
theorem mul5 (o : Nat) : IntKind.u64.wrap (5 * (o : Int)) = ((mulW 5 o : Nat) : Int) := mul64n 5 o
theorem add5 (x : Nat) : IntKind.u64.wrap ((x : Int) + 5) = ((addW x 5 : Nat) : Int) := add64n x 5
set_option maxRecDepth 100000 in
set_option maxHeartbeats 1000000 in
theorem folded_over (n c r : List Nat) (o : Nat) (w : World) (HN : Hid (n.length = 5)) (HL : Hid (c.length = 5)) (HR : Hid (r = c.set 0 (addW (c.getD 0 0) (mulW 5 o))))
    (CC : Hid (∀ W, Calls Tryd.prog 24 #[numVal n] W fun e w' => e = .returned (.tuple #[numVal c, .int .u64 (o : Int)]) ∧ Below W.heap.size W w')) :
    Calls Tryd.prog 29 #[numVal n] w fun e w' => e = .returned (numVal r) ∧ Below w.heap.size w w' := by
  go_enter Tryd.func29, Tryd.ntmps29
  go_wp2_with (first
    | (refine vtake_step rfl 41 (.tmp 0) rfl (n.map ncell) rfl ?_
       intro w1 hB1 hA1)
    | (refine vzero_step rfl 41 rfl (nzeros 5) zero_num ?_
       intro w3 hb3 hZ3
       have hB3 := below_then hB1 hb3
       have hA3 := hA1.on hb3
       have hg2 := hA1.lt
       clear hB1 hA1 hb3)
    | (refine vget_step rfl 41 _ rfl w.heap.size 5 (n.map ncell) 39 rfl hA3 Tryd.underlying41 size_num (by rw [List.length_map, HN.out]) ?_))
  refine (CC.out w3).mono ?_
  rintro e w4 ⟨rfl, hb4⟩
  clear CC
  have hB4 := below_then hB3 hb4
  have hA4 := hA3.on hb4
  have hZ4 := hZ3.on hb4
  clear hB3 hA3 hZ3 hb4
  generalize hh : w1.heap.size = gz at *
  clear hh
  have HX := Lib.hid (nat_at c 0 (by rw [HL.out]; omega))
  have hE := Lib.hid (add64n (c.getD 0 0) (mulW 5 o))
  have HRL : Hid (r.length = 5) := by show _ = _; rw [HR.out, List.length_set, HL.out]
  generalize c.getD 0 0 = x at *
  go_wp2_with (first
    | (refine vset_step rfl 41 (.tmp 1) (.tmp 7) rfl w.heap.size 5 (n.map ncell) (c.map ncell) rfl rfl hA4 (by rw [List.length_map, HN.out]) size_num (by rw [List.length_map, HL.out]) (ncells_one c) ?_
       intro w5 hb5 hA5 _
       have hB5 := hB4.trans (hb5.below (Nat.le_refl _) hB4.size)
       have hZ5 := hZ4.but hb5 (Nat.ne_of_gt hg2)
       have d5 := hA5.get HX.out
       have hT := hA5.there 0 1 (by rw [List.length_map, HL.out]; omega)
       clear hB4 hA4 hZ4 hb5)
    | (rw [mul5, hE.out]
       refine store_step rfl 39 _ _ rfl w.heap.size 0 .u64 _ rfl rfl size_u64 hT ?_
       intro w6 hw6
       have hB6 : Below w.heap.size w w6 := by rw [hw6]; exact hB5.setCell (p := ⟨w.heap.size, 0, none⟩) (Nat.le_refl _) _
       have hA6 : Cells w6 w.heap.size (r.map ncell) 41 := by rw [hw6, HR.out, ← nset_map]; exact hA5.set 0 _
       have hZ6 : Cells w6 gz (nzeros 5) 41 := by rw [hw6]; exact hZ5.other (by show gz ≠ w.heap.size; omega) _
       clear hw6 hB5 hA5 hZ5 d5 hT)
    | (refine vget_step rfl 41 _ rfl w.heap.size 5 (r.map ncell) 39 rfl hA6 Tryd.underlying41 size_num (by rw [List.length_map, HRL.out]) ?_)
    | (refine vset_step rfl 41 _ _ rfl gz 5 (nzeros 5) (r.map ncell) rfl rfl hZ6 rfl size_num (by rw [List.length_map, HRL.out]) (ncells_one r) ?_
       intro w7 hb7 hC7 _))
  refine vret Tryd.results29 gz (r.map ncell) rfl hC7 Tryd.underlying41 size_num (by rw [List.length_map, HRL.out]) rfl ⟨rfl, hB6.trans (hb7.below (by omega) hB6.size)⟩
theorem folded_any (n : List Nat) (w : World) (hn : n.length = 5) :
    Calls Tryd.prog 29 #[numVal n] w fun e w' => e = .returned (numVal (foldN n)) ∧ Below w.heap.size w w' :=
  folded_over n (carN n) _ (overN n) w hn ((carN_length n).trans hn) rfl (fun W => carried_any n W hn)
set_option maxRecDepth 100000 in
set_option maxHeartbeats 1000000 in
theorem least_over (n m c l r : List Nat) (o q : Nat) (w : World) (HN : Hid (n.length = 5)) (HCL : Hid (c.length = 5)) (HRL : Hid (r.length = 5)) (HM : Hid (m = n.set 0 (addW (n.getD 0 0) 5))) (HE : Hid (l = n.set 0 (addW (n.getD 0 0) (mulW 5 o))))
    (CC : Hid (∀ W, Calls Tryd.prog 24 #[numVal m] W fun e w' => e = .returned (.tuple #[numVal c, .int .u64 (o : Int)]) ∧ Below W.heap.size W w'))
    (CD : Hid (∀ W, Calls Tryd.prog 24 #[numVal l] W fun e w' => e = .returned (.tuple #[numVal r, .int .u64 (q : Int)]) ∧ Below W.heap.size W w')) :
    Calls Tryd.prog 26 #[numVal n] w fun e w' => e = .returned (numVal r) ∧ Below w.heap.size w w' := by
  have HX := Lib.hid (nat_at n 0 (by rw [HN.out]; omega))
  have HE1 := Lib.hid (add64n (n.getD 0 0) (mulW 5 o))
  have HE2 := Lib.hid (add5 (n.getD 0 0))
  have HML : Hid (m.length = 5) := by show _ = _; rw [HM.out, List.length_set, HN.out]
  have HLL : Hid (l.length = 5) := by show _ = _; rw [HE.out, List.length_set, HN.out]
  generalize n.getD 0 0 = x at *
  go_enter Tryd.func26, Tryd.ntmps26
  go_wp2_with (first
    | (refine vtake_step rfl 41 (.tmp 0) rfl (n.map ncell) rfl ?_
       intro w1 hB1 hA1)
    | (refine vput_step rfl rfl 41 (.tmp 3) (.tmp 6) rfl rfl 5 (nzeros 5) (n.map ncell) rfl rfl zero_num rfl size_num (by rw [List.length_map, HN.out]) (ncells_one n) ?_
       intro w4 hb4 hM4
       have hB4 := below_then hB3 hb4
       have hA4 := hA3.on hb4
       have hZ4 := hZ3.on hb4
       have hg3 := hZ3.lt
       have d4 := hM4.get HX.out
       have hT := hM4.there 0 1 (by rw [List.length_map, HN.out]; omega)
       clear hB3 hA3 hZ3 hb4)
    | (refine vzero_step rfl 41 rfl (nzeros 5) zero_num ?_
       intro w3 hb3 hZ3
       have hB3 := below_then hB1 hb3
       have hA3 := hA1.on hb3
       have hg2 := hA1.lt
       clear hB1 hA1 hb3)
    | (refine vget_step rfl 41 _ rfl w.heap.size 5 (n.map ncell) 39 rfl hA3 Tryd.underlying41 size_num (by rw [List.length_map, HN.out]) ?_)
    | (rw [HE2.out]
       refine store_step rfl 39 _ _ rfl w3.heap.size 0 .u64 _ rfl rfl size_u64 hT ?_
       intro w5 hw5
       have hB5 : Below w.heap.size w w5 := by rw [hw5]; exact hB4.setCell (p := ⟨w3.heap.size, 0, none⟩) (by show w.heap.size ≤ w3.heap.size; omega) _
       have hA5 : Cells w5 w.heap.size (n.map ncell) 41 := by rw [hw5]; exact hA4.other (by show w.heap.size ≠ w3.heap.size; omega) _
       have hZ5 : Cells w5 w1.heap.size (nzeros 5) 41 := by rw [hw5]; exact hZ4.other (by show w1.heap.size ≠ w3.heap.size; omega) _
       have hM5 : Cells w5 w3.heap.size (m.map ncell) 41 := by rw [hw5, HM.out, ← nset_map]; exact hM4.set 0 _
       clear hw5 hB4 hA4 hZ4 hM4 d4 hT HE2)
    | (refine vget_step rfl 41 (.tmp 3) rfl w3.heap.size 5 (m.map ncell) 39 rfl hM5 Tryd.underlying41 size_num (by rw [List.length_map, HML.out]) ?_))
  refine (CC.out w5).mono ?_
  rintro e w6 ⟨rfl, hb6⟩
  clear CC hM5
  have hB6 := below_then hB5 hb6
  have hA6 := hA5.on hb6
  have hZ6 := hZ5.on hb6
  clear hB5 hA5 hZ5 hb6
  generalize hh : w1.heap.size = gz at *
  generalize hh3 : w3.heap.size = g3 at *
  clear hh hh3
  have d6 := hA6.get HX.out
  go_wp2_with (first
    | (refine vput_step rfl rfl 41 (.tmp 4) (.tmp 14) rfl rfl 5 (nzeros 5) (c.map ncell) rfl rfl zero_num rfl size_num (by rw [List.length_map, HCL.out]) (ncells_one c) ?_
       intro w7 hb7 hM7
       have hB7 := below_then hB6 hb7
       have hA7 := hA6.on hb7
       have hZ7 := hZ6.on hb7
       have d7 := hA7.get HX.out
       have hT := hA7.there 0 1 (by rw [List.length_map, HN.out]; omega)
       clear hB6 hA6 hZ6 hb7 hM7 d6)
    | (rw [mul5, HE1.out]
       refine store_step rfl 39 _ _ rfl w.heap.size 0 .u64 _ rfl rfl size_u64 hT ?_
       intro w8 hw8
       have hB8 : Below w.heap.size w w8 := by rw [hw8]; exact hB7.setCell (p := ⟨w.heap.size, 0, none⟩) (Nat.le_refl _) _
       have hA8 : Cells w8 w.heap.size (l.map ncell) 41 := by rw [hw8, HE.out, ← nset_map]; exact hA7.set 0 _
       have hZ8 : Cells w8 gz (nzeros 5) 41 := by rw [hw8]; exact hZ7.other (by show gz ≠ w.heap.size; omega) _
       clear hw8 hB7 hA7 hZ7 d7 hT)
    | (refine vget_step rfl 41 _ rfl w.heap.size 5 (l.map ncell) 39 rfl hA8 Tryd.underlying41 size_num (by rw [List.length_map, HLL.out]) ?_))
  refine (CD.out w8).mono ?_
  rintro e w9 ⟨rfl, hb9⟩
  clear CD
  have hB9 := below_then hB8 hb9
  have hA9 := hA8.on hb9
  have hZ9 := hZ8.on hb9
  clear hB8 hA8 hZ8 hb9
  generalize w6.heap.size = g6 at *
  go_wp2_with (first
    | (refine vset_step rfl 41 (.tmp 1) (.tmp 25) rfl w.heap.size 5 (l.map ncell) (r.map ncell) rfl rfl hA9 (by rw [List.length_map, HLL.out]) size_num (by rw [List.length_map, HRL.out]) (ncells_one r) ?_
       intro w10 hb10 hA10 _
       have hB10 := hB9.trans (hb10.below (Nat.le_refl _) hB9.size)
       have hZ10 := hZ9.but hb10 (Nat.ne_of_gt hg2)
       clear hB9 hA9 hZ9 hb10)
    | (refine vget_step rfl 41 _ rfl w.heap.size 5 (r.map ncell) 39 rfl hA10 Tryd.underlying41 size_num (by rw [List.length_map, HRL.out]) ?_)
    | (refine vset_step rfl 41 _ _ rfl gz 5 (nzeros 5) (r.map ncell) rfl rfl hZ10 rfl size_num (by rw [List.length_map, HRL.out]) (ncells_one r) ?_
       intro w11 hb11 hC11 _))
  refine vret Tryd.results26 gz (r.map ncell) rfl hC11 Tryd.underlying41 size_num (by rw [List.length_map, HRL.out]) rfl ⟨rfl, hB10.trans (hb11.below (by omega) hB10.size)⟩
theorem least_any (n : List Nat) (w : World) (hn : n.length = 5) :
    Calls Tryd.prog 26 #[numVal n] w fun e w' => e = .returned (numVal (leastN n)) ∧ Below w.heap.size w w' :=
  least_over n (moreN n) (carN (moreN n)) (lessN n) _ (overN (moreN n)) (overN (lessN n)) w hn (by show _ = _; rw [carN_length, moreN, List.length_set, hn]) ((leastN_length n).trans hn) rfl rfl (fun W => carried_any _ W (by rw [moreN, List.length_set, hn])) (fun W => carried_any _ W (by rw [lessN, List.length_set, hn]))
end Go.Proofs.YtiadgningbogmaaDoor
