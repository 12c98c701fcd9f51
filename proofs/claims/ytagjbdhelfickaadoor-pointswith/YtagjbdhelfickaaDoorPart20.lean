/- Part 20 of what the laws of this seat share: BSmall, BTimes. -/
import Derived.Deep.Cut
import Derived.IntWalk
import Derived.Test.YtagjbdhelfickaaDoorPart19
namespace Go.Proofs.YtagjbdhelfickaaDoor
open Go.RowKit
def oneVs1 (g_base : Nat) (o : List Nat) : List Value :=
  (.pointer (some ⟨g_base, 0, none⟩)) :: (numD o) :: []
set_option maxRecDepth 100000 in
set_option maxHeartbeats 1000000 in
theorem one12_over (o : List Nat) (w : World)
    (Ho : Hid (o.length = 8))
    (BO : ∀ w, (Instr.build 38 #[(0, dcell 1)]).run Tryd.prog w = .ok (numD o) w) :
    Calls Tryd.prog 37 #[] w fun e w' => e = .returned (numD o) ∧ Below w.heap.size w w' := by
  go_enter Tryd.func37, Tryd.ntmps37
  go_upto_region 1 with (first
    | (refine vzero_step (o := ⟨some 0, _, _, _, _, _⟩) rfl 38 rfl (dzeros 8) zero_ND ?_
       intro w1 hb1 hvr1
       have hB1 := hb1
       have hger : w.heap.size ≤ w.heap.size := Nat.le_refl _
       clear  hb1
       try simp only [Act.put, List.setIfInBounds_toArray, List.set_cons_zero]
       skip))
  refine wp_region_flat (md := .any) (by kernel_rfl) ?_
  refine wpAny_flatM (L := [0]) (by kernel_rfl) _ _ (oneVs1 w.heap.size o) [] 38 (dzeros 8) [0] (by kernel_rfl) (by kernel_rfl) ?_ zero_ND ?_ (by rfl) ?_ 1 (by kernel_rfl) ?_
  · intro p hp
    exact absurd hp List.not_mem_nil
  · exact all_cons rfl (all_nil)
  · refine all_cons (.inr (mStep _ 1 rfl rfl rfl rfl (by kernel_rfl) (fun a hv => wanted_all rfl _) (fun a w K hb hv hK => mPure (numD o) (exec_build _ _ _ [(0, .const (.int .u32 1))] rfl [(0, dcell 1)] rfl _ w (BO w)) hK))) ?_
    exact all_nil
  intro w2 g hb2 hN2 hap2
  clear hN2 hap2
  have hB2 := below_then hB1 hb2
  have hvr2 := hvr1.on hb2
  clear hB1 hvr1 hb2
  refine wpAny_rest 1 rfl (by kernel_rfl) ?_
  refine vset_step rfl 38 (.tmp 0) (.tmp 1) rfl w.heap.size 8 (dzeros 8) (o.map dcell) rfl rfl hvr2 rfl size_ND (by rw [List.length_map, Ho.out]) (dcells_one _) ?_
  intro w3 hb3 hvr3 hz3
  have hB3 : Below w.heap.size w w3 := hB2.trans (hb3.below hger hB2.size)
  clear hB2 hvr2 hb3 hz3
  rename_i K hKK
  show Exit.then K _ Exit.normal (⟨(oneVs1 w.heap.size o).toArray, []⟩ : Act) w3
  simp only [Exit.then]
  refine hKK _ _ ?_
  clear hKK K g
  simp only [oneVs1]
  go_wp2
  exact sret Tryd.results37 (w.heap.size) (o.map dcell) rfl hvr3 Tryd.underlying38 rfl size_ND (by rw [List.length_map, Ho.out]) rfl ⟨rfl, hB3⟩
def zero12Vs1 (g_base : Nat) (o : List Nat) (r : List Nat) : List Value :=
  (.pointer (some ⟨g_base, 0, none⟩)) :: (numD o) :: (numD o) :: (numD r) :: []
set_option maxRecDepth 100000 in
set_option maxHeartbeats 1000000 in
theorem zero12_over (o r : List Nat) (w : World)
    (Hr : Hid (r.length = 24))
    (C1 : Hid (∀ W, Calls Tryd.prog 37 #[] W fun e w' => e = .returned (numD o) ∧ Below W.heap.size W w'))
    (BR : ∀ w, (Instr.build 40 #[(1, numD o), (2, numD o)]).run Tryd.prog w = .ok (numD r) w) :
    Calls Tryd.prog 58 #[] w fun e w' => e = .returned (numD r) ∧ Below w.heap.size w w' := by
  go_enter Tryd.func58, Tryd.ntmps58
  go_upto_region 1 with (first
    | (refine vzero_step (o := ⟨some 0, _, _, _, _, _⟩) rfl 40 rfl (dzeros 24) zero_tri ?_
       intro w1 hb1 hvr1
       have hB1 := hb1
       have hger : w.heap.size ≤ w.heap.size := Nat.le_refl _
       clear  hb1
       try simp only [Act.put, List.setIfInBounds_toArray, List.set_cons_zero]
       skip))
  refine wp_region_flat (md := .any) (by kernel_rfl) ?_
  refine wpAny_flatM (L := [0, 1, 2]) (by kernel_rfl) _ _ (zero12Vs1 w.heap.size o r) [] 40 (dzeros 24) [0] (by kernel_rfl) (by kernel_rfl) ?_ zero_tri ?_ (by rfl) ?_ 1 (by kernel_rfl) ?_
  · intro p hp
    exact absurd hp List.not_mem_nil
  · exact all_cons rfl (all_nil)
  · refine all_cons (.inr (mStep _ 1 rfl rfl rfl rfl (by kernel_rfl) (fun a hv => wanted_all rfl _) (fun a w K hb hv hK => mCall (numD o) 37 _ _ rfl [] (rfl) (enters Tryd.func37 rfl rfl) (C1.out w) hK))) ?_
    refine all_cons (.inr (mStep _ 2 rfl rfl rfl rfl (by kernel_rfl) (fun a hv => wanted_all rfl _) (fun a w K hb hv hK => mCall (numD o) 37 _ _ rfl [] (rfl) (enters Tryd.func37 rfl rfl) (C1.out w) hK))) ?_
    refine all_cons (.inr (mStep _ 3 rfl rfl rfl rfl (by kernel_rfl) (fun a hv => wanted_all rfl _) (fun a w K hb hv hK => mPure (numD r) (exec_build _ _ _ [(1, .tmp 1), (2, .tmp 2)] rfl [(1, numD o), (2, numD o)] (cons_eq (congrArg (Prod.mk 1) (hv 1 (by kernel_rfl) rfl)) (cons_eq (congrArg (Prod.mk 2) (hv 2 (by kernel_rfl) rfl)) (rfl))) _ w (BR w)) hK))) ?_
    exact all_nil
  intro w2 g hb2 hN2 hap2
  clear hN2 hap2
  have hB2 := below_then hB1 hb2
  have hvr2 := hvr1.on hb2
  clear hB1 hvr1 hb2
  refine wpAny_rest 3 rfl (by kernel_rfl) ?_
  refine vset_step rfl 40 (.tmp 0) (.tmp 3) rfl w.heap.size 24 (dzeros 24) (r.map dcell) rfl rfl hvr2 rfl size_tri (by rw [List.length_map, Hr.out]) (dcells_one _) ?_
  intro w3 hb3 hvr3 hz3
  have hB3 : Below w.heap.size w w3 := hB2.trans (hb3.below hger hB2.size)
  clear hB2 hvr2 hb3 hz3
  rename_i K hKK
  show Exit.then K _ Exit.normal (⟨(zero12Vs1 w.heap.size o r).toArray, []⟩ : Act) w3
  simp only [Exit.then]
  refine hKK _ _ ?_
  clear hKK K g
  simp only [zero12Vs1]
  go_wp2
  exact sret Tryd.results58 (w.heap.size) (r.map dcell) rfl hvr3 Tryd.underlying40 rfl size_tri (by rw [List.length_map, Hr.out]) rfl ⟨rfl, hB3⟩
def base12Vs1 (g_base : Nat) (x : List Nat) (y : List Nat) (o : List Nat) (r : List Nat) : List Value :=
  (.pointer (some ⟨g_base, 0, none⟩)) :: (numD x) :: (numD y) :: (numD o) :: (numD r) :: []
set_option maxRecDepth 100000 in
set_option maxHeartbeats 1000000 in
theorem base12_over (x y o r : List Nat) (w : World)
    (Hr : Hid (r.length = 24))
    (C1 : Hid (∀ W, Calls Tryd.prog 77 #[] W fun e w' => e = .returned (numD x) ∧ Below W.heap.size W w'))
    (C2 : Hid (∀ W, Calls Tryd.prog 78 #[] W fun e w' => e = .returned (numD y) ∧ Below W.heap.size W w'))
    (C3 : Hid (∀ W, Calls Tryd.prog 37 #[] W fun e w' => e = .returned (numD o) ∧ Below W.heap.size W w'))
    (BR : ∀ w, (Instr.build 40 #[(0, numD x), (1, numD y), (2, numD o)]).run Tryd.prog w = .ok (numD r) w) :
    Calls Tryd.prog 49 #[] w fun e w' => e = .returned (numD r) ∧ Below w.heap.size w w' := by
  go_enter Tryd.func49, Tryd.ntmps49
  go_upto_region 1 with (first
    | (refine vzero_step (o := ⟨some 0, _, _, _, _, _⟩) rfl 40 rfl (dzeros 24) zero_tri ?_
       intro w1 hb1 hvr1
       have hB1 := hb1
       have hger : w.heap.size ≤ w.heap.size := Nat.le_refl _
       clear  hb1
       try simp only [Act.put, List.setIfInBounds_toArray, List.set_cons_zero]
       skip))
  refine wp_region_flat (md := .any) (by kernel_rfl) ?_
  refine wpAny_flatM (L := [0, 1, 2, 3]) (by kernel_rfl) _ _ (base12Vs1 w.heap.size x y o r) [] 40 (dzeros 24) [0] (by kernel_rfl) (by kernel_rfl) ?_ zero_tri ?_ (by rfl) ?_ 1 (by kernel_rfl) ?_
  · intro p hp
    exact absurd hp List.not_mem_nil
  · exact all_cons rfl (all_nil)
  · refine all_cons (.inr (mStep _ 1 rfl rfl rfl rfl (by kernel_rfl) (fun a hv => wanted_all rfl _) (fun a w K hb hv hK => mCall (numD x) 77 _ _ rfl [] (rfl) (enters Tryd.func77 rfl rfl) (C1.out w) hK))) ?_
    refine all_cons (.inr (mStep _ 2 rfl rfl rfl rfl (by kernel_rfl) (fun a hv => wanted_all rfl _) (fun a w K hb hv hK => mCall (numD y) 78 _ _ rfl [] (rfl) (enters Tryd.func78 rfl rfl) (C2.out w) hK))) ?_
    refine all_cons (.inr (mStep _ 3 rfl rfl rfl rfl (by kernel_rfl) (fun a hv => wanted_all rfl _) (fun a w K hb hv hK => mCall (numD o) 37 _ _ rfl [] (rfl) (enters Tryd.func37 rfl rfl) (C3.out w) hK))) ?_
    refine all_cons (.inr (mStep _ 4 rfl rfl rfl rfl (by kernel_rfl) (fun a hv => wanted_all rfl _) (fun a w K hb hv hK => mPure (numD r) (exec_build _ _ _ [(0, .tmp 1), (1, .tmp 2), (2, .tmp 3)] rfl [(0, numD x), (1, numD y), (2, numD o)] (cons_eq (congrArg (Prod.mk 0) (hv 1 (by kernel_rfl) rfl)) (cons_eq (congrArg (Prod.mk 1) (hv 2 (by kernel_rfl) rfl)) (cons_eq (congrArg (Prod.mk 2) (hv 3 (by kernel_rfl) rfl)) (rfl)))) _ w (BR w)) hK))) ?_
    exact all_nil
  intro w2 g hb2 hN2 hap2
  clear hN2 hap2
  have hB2 := below_then hB1 hb2
  have hvr2 := hvr1.on hb2
  clear hB1 hvr1 hb2
  refine wpAny_rest 4 rfl (by kernel_rfl) ?_
  refine vset_step rfl 40 (.tmp 0) (.tmp 4) rfl w.heap.size 24 (dzeros 24) (r.map dcell) rfl rfl hvr2 rfl size_tri (by rw [List.length_map, Hr.out]) (dcells_one _) ?_
  intro w3 hb3 hvr3 hz3
  have hB3 : Below w.heap.size w w3 := hB2.trans (hb3.below hger hB2.size)
  clear hB2 hvr2 hb3 hz3
  rename_i K hKK
  show Exit.then K _ Exit.normal (⟨(base12Vs1 w.heap.size x y o r).toArray, []⟩ : Act) w3
  simp only [Exit.then]
  refine hKK _ _ ?_
  clear hKK K g
  simp only [base12Vs1]
  go_wp2
  exact sret Tryd.results49 (w.heap.size) (r.map dcell) rfl hvr3 Tryd.underlying40 rfl size_tri (by rw [List.length_map, Hr.out]) rfl ⟨rfl, hB3⟩
def neg12Vs1 (p : List Nat) (g_base : Nat) (gr : Nat) (o : List Nat) (x : List Nat) (n : List Nat) (y : List Nat) (z : List Nat) (r : List Nat) : List Value :=
  (numD p) :: (.pointer (some ⟨g_base, 0, none⟩)) :: (.pointer (some ⟨gr, 0, none⟩)) :: (numD o) :: (.pointer (some ⟨g_base, 0, none⟩)) :: (numD x) :: (numD n) :: (.pointer (some ⟨g_base, 8, none⟩)) :: (numD y) :: (.pointer (some ⟨g_base, 16, none⟩)) :: (numD z) :: (numD r) :: []
set_option maxRecDepth 100000 in
set_option maxHeartbeats 1000000 in
theorem neg12_over (p x y z o n r : List Nat) (w : World)
    (Hx : Hid (x.length = 8))
    (Hy : Hid (y.length = 8))
    (Hz : Hid (z.length = 8))
    (Hr : Hid (r.length = 24))
    (Fp : Hid (p = x ++ y ++ z))
    (C1 : Hid (∀ W, Calls Tryd.prog 36 #[numD o, numD x] W fun e w' => e = .returned (numD n) ∧ Below W.heap.size W w'))
    (BO : ∀ w, (Instr.build 38 #[]).run Tryd.prog w = .ok (numD o) w)
    (BR : ∀ w, (Instr.build 40 #[(0, numD n), (1, numD y), (2, numD z)]).run Tryd.prog w = .ok (numD r) w) :
    Calls Tryd.prog 19 #[numD p] w fun e w' => e = .returned (numD r) ∧ Below w.heap.size w w' := by
  go_enter Tryd.func19, Tryd.ntmps19
  go_wp2_with (first
    | (refine vtake_step rfl 40 (.tmp 0) rfl (p.map dcell) rfl ?_
       intro w1 hb1 hvp1
       have hB1 := hb1
       have hgep : w.heap.size ≤ w.heap.size := Nat.le_refl _
       clear  hb1
       try simp only [Act.put, List.setIfInBounds_toArray, List.set_cons_zero, List.set_cons_succ]
       skip)
    | (refine vzero_step (o := ⟨some 2, _, _, _, _, _⟩) rfl 40 rfl (dzeros 24) zero_tri ?_
       intro w2 hb2 hvr2
       have hB2 := below_then hB1 hb2
       have hger : w.heap.size ≤ w1.heap.size := hB1.size
       have hvp2 := hvp1.on hb2
       have hnepr := Nat.ne_of_lt hvp1.lt
       clear hB1 hvp1 hb2
       try simp only [Act.put, List.setIfInBounds_toArray, List.set_cons_zero, List.set_cons_succ]
       skip))
  generalize hqr : w1.heap.size = gr at *
  clear hqr
  replace hvp2 := hvp2.drew
  replace hvr2 := hvr2.drew
  refine wp_region_any (by kernel_rfl) ?_
  refine wpAny_flatM (L := [0, 1, 2, 3, 4, 5, 6, 7, 8]) (by kernel_rfl) _ _ (neg12Vs1 p w.heap.size gr o x n y z r) [] 40 (dzeros 24) [0, 1, 2] (by kernel_rfl) (by kernel_rfl) ?_ zero_tri ?_ (by rfl) ?_ 1 (by kernel_rfl) ?_
  · intro p hp
    exact absurd hp List.not_mem_nil
  · exact all_cons rfl (all_cons rfl (all_cons rfl (all_nil)))
  · refine all_cons (.inr (mStep _ 3 rfl rfl rfl rfl (by kernel_rfl) (fun a hv => wanted_all rfl _) (fun a w K hb hv hK => mPure (numD o) (exec_build _ _ _ [] rfl [] rfl _ w (BO w)) hK))) ?_
    refine all_cons (.inr (mStep _ 4 rfl rfl rfl rfl (by kernel_rfl) (fun a hv => wanted_all rfl _) (fun a w K hb hv hK => mPure _ (exec_field _ _ _ _ 0 rfl _ _ (hv 1 (by kernel_rfl) rfl) w (field_t0 _ w)) hK))) ?_
    refine all_cons (.inr (mStep _ 5 rfl rfl rfl rfl (by kernel_rfl) (fun a hv => wanted_all rfl _) (fun a w K hb hv hK => mPure (numD x) (exec_load _ _ _ _ rfl _ _ (hv 4 (by kernel_rfl) rfl) w (load_t0 (hvp2.on hb) Fp.out Hx.out)) hK))) ?_
    refine all_cons (.inr (mStep _ 6 rfl rfl rfl rfl (by kernel_rfl) (fun a hv => wanted_all rfl _) (fun a w K hb hv hK => mCall (numD n) 36 _ _ rfl [numD o, numD x] (cons_eq (hv 3 (by kernel_rfl) rfl) (cons_eq (hv 5 (by kernel_rfl) rfl) (rfl))) (enters Tryd.func36 rfl rfl) (C1.out w) hK))) ?_
    refine all_cons (.inr (mStep _ 7 rfl rfl rfl rfl (by kernel_rfl) (fun a hv => wanted_all rfl _) (fun a w K hb hv hK => mPure _ (exec_field _ _ _ _ 1 rfl _ _ (hv 1 (by kernel_rfl) rfl) w (field_t1 _ w)) hK))) ?_
    refine all_cons (.inr (mStep _ 8 rfl rfl rfl rfl (by kernel_rfl) (fun a hv => wanted_all rfl _) (fun a w K hb hv hK => mPure (numD y) (exec_load _ _ _ _ rfl _ _ (hv 7 (by kernel_rfl) rfl) w (load_t1 (hvp2.on hb) Fp.out Hx.out Hy.out)) hK))) ?_
    refine all_cons (.inr (mStep _ 9 rfl rfl rfl rfl (by kernel_rfl) (fun a hv => wanted_all rfl _) (fun a w K hb hv hK => mPure _ (exec_field _ _ _ _ 2 rfl _ _ (hv 1 (by kernel_rfl) rfl) w (field_t2 _ w)) hK))) ?_
    refine all_cons (.inr (mStep _ 10 rfl rfl rfl rfl (by kernel_rfl) (fun a hv => wanted_all rfl _) (fun a w K hb hv hK => mPure (numD z) (exec_load _ _ _ _ rfl _ _ (hv 9 (by kernel_rfl) rfl) w (load_t2 (hvp2.on hb) Fp.out Hx.out Hy.out Hz.out)) hK))) ?_
    refine all_cons (.inr (mStep _ 11 rfl rfl rfl rfl (by kernel_rfl) (fun a hv => wanted_all rfl _) (fun a w K hb hv hK => mPure (numD r) (exec_build _ _ _ [(0, .tmp 6), (1, .tmp 8), (2, .tmp 10)] rfl [(0, numD n), (1, numD y), (2, numD z)] (cons_eq (congrArg (Prod.mk 0) (hv 6 (by kernel_rfl) rfl)) (cons_eq (congrArg (Prod.mk 1) (hv 8 (by kernel_rfl) rfl)) (cons_eq (congrArg (Prod.mk 2) (hv 10 (by kernel_rfl) rfl)) (rfl)))) _ w (BR w)) hK))) ?_
    exact all_nil
  intro w3 g hb3 hN3 hap3
  clear hN3 hap3
  have hB3 := below_then (show Below w.heap.size w w2.drew from hB2.drew) hb3
  have hvp3 := hvp2.on hb3
  have hvr3 := hvr2.on hb3
  clear hB2 hvp2 hvr2 hb3
  refine wpAny_rest 9 rfl (by kernel_rfl) ?_
  refine vset_step rfl 40 (.tmp 2) (.tmp 11) rfl gr 24 (dzeros 24) (r.map dcell) rfl rfl hvr3 rfl size_tri (by rw [List.length_map, Hr.out]) (dcells_one _) ?_
  intro w4 hb4 hvr4 hz4
  have hB4 : Below w.heap.size w w4 := hB3.trans (hb4.below hger hB3.size)
  have hvp4 := hvp3.but hb4 hnepr
  clear hB3 hvr3 hb4 hz4 hvp3
  rename_i K hKK
  show Exit.then K _ Exit.normal (⟨(neg12Vs1 p w.heap.size gr o x n y z r).toArray, []⟩ : Act) w4
  simp only [Exit.then]
  refine hKK _ _ ?_
  clear hKK K g
  simp only [neg12Vs1]
  go_wp2
  exact sret Tryd.results19 gr (r.map dcell) rfl hvr4 Tryd.underlying40 rfl size_tri (by rw [List.length_map, Hr.out]) rfl ⟨rfl, hB4⟩
def add12Vs1 (p : List Nat) (q : List Nat) (g_base : Nat) (gq : Nat) (gr : Nat) (dd : List Nat) (r : List Nat) : List Value :=
  (numD p) :: (numD q) :: (.pointer (some ⟨g_base, 0, none⟩)) :: (.pointer (some ⟨gq, 0, none⟩)) :: (.pointer (some ⟨gr, 0, none⟩)) :: (numD p) :: (numD q) :: (numD dd) :: (numD r) :: []
set_option maxRecDepth 100000 in
set_option maxHeartbeats 1000000 in
theorem add12_over (p q dd r : List Nat) (w : World)
    (Hp : Hid (p.length = 24))
    (Hq : Hid (q.length = 24))
    (Hr : Hid (r.length = 24))
    (C1 : Hid (∀ W, Calls Tryd.prog 40 #[] W fun e w' => e = .returned (numD dd) ∧ Below W.heap.size W w'))
    (C2 : Hid (∀ W, Calls Tryd.prog 54 #[numD p, numD q, numD dd] W fun e w' => e = .returned (numD r) ∧ Below W.heap.size W w')) :
    Calls Tryd.prog 18 #[numD p, numD q] w fun e w' => e = .returned (numD r) ∧ Below w.heap.size w w' := by
  go_enter Tryd.func18, Tryd.ntmps18
  go_wp2_with (first
    | (refine vtake_step rfl 40 (.tmp 0) rfl (p.map dcell) rfl ?_
       intro w1 hb1 hvp1
       have hB1 := hb1
       have hgep : w.heap.size ≤ w.heap.size := Nat.le_refl _
       clear  hb1
       try simp only [Act.put, List.setIfInBounds_toArray, List.set_cons_zero, List.set_cons_succ]
       skip)
    | (refine vtake_step rfl 40 (.tmp 1) rfl (q.map dcell) rfl ?_
       intro w2 hb2 hvq2
       have hB2 := below_then hB1 hb2
       have hgeq : w.heap.size ≤ w1.heap.size := hB1.size
       have hvp2 := hvp1.on hb2
       have hnepq := Nat.ne_of_lt hvp1.lt
       clear hB1 hvp1 hb2
       try simp only [Act.put, List.setIfInBounds_toArray, List.set_cons_zero, List.set_cons_succ]
       skip)
    | (refine vzero_step (o := ⟨some 4, _, _, _, _, _⟩) rfl 40 rfl (dzeros 24) zero_tri ?_
       intro w3 hb3 hvr3
       have hB3 := below_then hB2 hb3
       have hger : w.heap.size ≤ w2.heap.size := hB2.size
       have hvp3 := hvp2.on hb3
       have hnepr := Nat.ne_of_lt hvp2.lt
       have hvq3 := hvq2.on hb3
       have hneqr := Nat.ne_of_lt hvq2.lt
       clear hB2 hvp2 hvq2 hb3
       try simp only [Act.put, List.setIfInBounds_toArray, List.set_cons_zero, List.set_cons_succ]
       skip))
  generalize hqq : w1.heap.size = gq at *
  clear hqq
  generalize hqr : w2.heap.size = gr at *
  clear hqr
  replace hvp3 := hvp3.drew
  replace hvq3 := hvq3.drew
  replace hvr3 := hvr3.drew
  refine wp_region_any (by kernel_rfl) ?_
  refine wpAny_flatM (L := [0, 1, 2, 3]) (by kernel_rfl) _ _ (add12Vs1 p q w.heap.size gq gr dd r) [] 40 (dzeros 24) [0, 1, 2, 3, 4] (by kernel_rfl) (by kernel_rfl) ?_ zero_tri ?_ (by rfl) ?_ 1 (by kernel_rfl) ?_
  · intro p hp
    exact absurd hp List.not_mem_nil
  · repeat refine all_cons rfl ?_
    exact all_nil
  · refine all_cons (.inr (mStep _ 5 rfl rfl rfl rfl (by kernel_rfl) (fun a hv => wanted_all rfl _) (fun a w K hb hv hK => mPure (numD p) (exec_load _ _ _ _ rfl _ _ (hv 2 (by kernel_rfl) rfl) w (tri_run (hvp3.on hb) Hp.out)) hK))) ?_
    refine all_cons (.inr (mStep _ 6 rfl rfl rfl rfl (by kernel_rfl) (fun a hv => wanted_all rfl _) (fun a w K hb hv hK => mPure (numD q) (exec_load _ _ _ _ rfl _ _ (hv 3 (by kernel_rfl) rfl) w (tri_run (hvq3.on hb) Hq.out)) hK))) ?_
    refine all_cons (.inr (mStep _ 7 rfl rfl rfl rfl (by kernel_rfl) (fun a hv => wanted_all rfl _) (fun a w K hb hv hK => mCall (numD dd) 40 _ _ rfl [] (rfl) (enters Tryd.func40 rfl rfl) (C1.out w) hK))) ?_
    refine all_cons (.inr (mStep _ 8 rfl rfl rfl rfl (by kernel_rfl) (fun a hv => wanted_all rfl _) (fun a w K hb hv hK => mCall (numD r) 54 _ _ rfl [numD p, numD q, numD dd] (cons_eq (hv 5 (by kernel_rfl) rfl) (cons_eq (hv 6 (by kernel_rfl) rfl) (cons_eq (hv 7 (by kernel_rfl) rfl) (rfl)))) (enters Tryd.func54 rfl rfl) (C2.out w) hK))) ?_
    exact all_nil
  intro w4 g hb4 hN4 hap4
  clear hN4 hap4
  have hB4 := below_then (show Below w.heap.size w w3.drew from hB3.drew) hb4
  have hvp4 := hvp3.on hb4
  have hvq4 := hvq3.on hb4
  have hvr4 := hvr3.on hb4
  clear hB3 hvp3 hvq3 hvr3 hb4
  refine wpAny_rest 4 rfl (by kernel_rfl) ?_
  refine vset_step rfl 40 (.tmp 4) (.tmp 8) rfl gr 24 (dzeros 24) (r.map dcell) rfl rfl hvr4 rfl size_tri (by rw [List.length_map, Hr.out]) (dcells_one _) ?_
  intro w5 hb5 hvr5 hz5
  have hB5 : Below w.heap.size w w5 := hB4.trans (hb5.below hger hB4.size)
  have hvp5 := hvp4.but hb5 hnepr
  have hvq5 := hvq4.but hb5 hneqr
  clear hB4 hvr4 hb5 hz5 hvp4 hvq4
  rename_i K hKK
  show Exit.then K _ Exit.normal (⟨(add12Vs1 p q w.heap.size gq gr dd r).toArray, []⟩ : Act) w5
  simp only [Exit.then]
  refine hKK _ _ ?_
  clear hKK K g
  simp only [add12Vs1]
  go_wp2
  exact sret Tryd.results18 gr (r.map dcell) rfl hvr5 Tryd.underlying40 rfl size_tri (by rw [List.length_map, Hr.out]) rfl ⟨rfl, hB5⟩
theorem lt_mm {n : Nat} (h : n < pp) : n < mm := Nat.lt_trans h (by decide)
theorem tM_any (n m : Nat) (W : World) (hn : n < pp) (hm : m < pp) : Calls Tryd.prog 34 #[numD (nD n), numD (nD m)] W fun e w' => e = .returned (numD (nD (fM n m))) ∧ Below W.heap.size W w' := refTimes_any n m W (lt_mm hn) (lt_mm hm)
theorem tA_any (n m : Nat) (W : World) (hn : n < pp) (hm : m < pp) : Calls Tryd.prog 39 #[numD (nD n), numD (nD m)] W fun e w' => e = .returned (numD (nD (fA n m))) ∧ Below W.heap.size W w' := refAdd_any n m W (lt_mm hn) (lt_mm hm)
theorem tS_any (n m : Nat) (W : World) (hn : n < pp) (hm : m < pp) : Calls Tryd.prog 36 #[numD (nD n), numD (nD m)] W fun e w' => e = .returned (numD (nD (fS n m))) ∧ Below W.heap.size W w' := by
  have h := refSub_any n m W (lt_mm hn) (lt_mm hm)
  rw [Nat.mod_eq_of_lt hm] at h
  exact h
theorem one12_any (w : World) : Calls Tryd.prog 37 #[] w fun e w' => e = .returned (numD (nD 1)) ∧ Below w.heap.size w w' :=
  one12_over (nD 1) w rfl (fun w => by kernel_rfl)
theorem zero12_any (w : World) : Calls Tryd.prog 58 #[] w fun e w' => e = .returned (numD (triL (0, 1, 1))) ∧ Below w.heap.size w w' :=
  zero12_over (nD 1) (triL (0, 1, 1)) w rfl one12_any (build_tri12 (nD 1) (nD 1) rfl rfl)
def baseT : Tri := (15112221349535400772501151409588531511454012693041857206046113283949847762202, 46316835694926478169428394003475163141307993866256225615783033603165251855960, 1)
theorem base12_any (w : World) : Calls Tryd.prog 49 #[] w fun e w' => e = .returned (numD (triL baseT)) ∧ Below w.heap.size w w' :=
  base12_over (nD baseXN) (nD baseYN) (nD 1) (triL baseT) w rfl refBaseX_any refBaseY_any one12_any (build_tri (nD baseXN) (nD baseYN) (nD 1) rfl rfl rfl)
def negT (t : Tri) : Tri := (fS 0 t.1, t.2.1, t.2.2)
theorem neg12_any (t : Tri) (w : World) (h : TriLt t) : Calls Tryd.prog 19 #[numD (triL t)] w fun e w' => e = .returned (numD (triL (negT t))) ∧ Below w.heap.size w w' :=
  neg12_over (triL t) (nD t.1) (nD t.2.1) (nD t.2.2) (nD 0) (nD (fS 0 t.1)) (triL (negT t)) w rfl rfl rfl rfl rfl (fun W => tS_any 0 t.1 W (by decide) h.1) (fun w => by kernel_rfl) (build_tri (nD (fS 0 t.1)) (nD t.2.1) (nD t.2.2) rfl rfl rfl)
theorem sum12_any (s t : Tri) (w : World) (h1 : TriLt s) (h2 : TriLt t) : Calls Tryd.prog 54 #[numD (triL s), numD (triL t), numD (nD dNat)] w fun e w' => e = .returned (numD (triL (sumT s t))) ∧ Below w.heap.size w w' :=
  triSum_over (triL s) (nD s.1) (nD s.2.1) (nD s.2.2) (triL t) (nD t.1) (nD t.2.1) (nD t.2.2) (nD dNat) (nD (triZ s t)) (nD (triZZ s t)) (nD (triXX s t)) (nD (triYY s t)) (nD (fM (triXX s t) (triYY s t))) (nD (triE s t)) (nD (triMore s t)) (nD (triLess s t)) (nD (fM s.1 t.2.1)) (nD (fM t.1 s.2.1)) (nD (triCross s t)) (nD (fM (triZ s t) (triCross s t)))
    (nD (sumT s t).1) (nD (fA (triYY s t) (triXX s t))) (nD (fM (triZ s t) (fA (triYY s t) (triXX s t)))) (nD (sumT s t).2.1) (nD (sumT s t).2.2) (triL (sumT s t)) w rfl rfl rfl rfl rfl rfl rfl rfl rfl rfl rfl rfl rfl rfl rfl rfl rfl rfl rfl rfl
    (fun W => tM_any _ _ W h1.2.2 h2.2.2) (fun W => tM_any _ _ W (fM_lt _ _) (fM_lt _ _)) (fun W => tM_any _ _ W h1.1 h2.1) (fun W => tM_any _ _ W h1.2.1 h2.2.1) (fun W => tM_any _ _ W (fM_lt _ _) (fM_lt _ _)) (fun W => tM_any _ _ W (by decide) (fM_lt _ _))
    (fun W => tA_any _ _ W (fM_lt _ _) (fM_lt _ _)) (fun W => tS_any _ _ W (fM_lt _ _) (fM_lt _ _)) (fun W => tM_any _ _ W h1.1 h2.2.1) (fun W => tM_any _ _ W h2.1 h1.2.1) (fun W => tA_any _ _ W (fM_lt _ _) (fM_lt _ _)) (fun W => tM_any _ _ W (fM_lt _ _) (fA_lt _ _)) (fun W => tM_any _ _ W (fM_lt _ _) (fS_lt _ _))
    (fun W => tA_any _ _ W (fM_lt _ _) (fM_lt _ _)) (fun W => tM_any _ _ W (fM_lt _ _) (fA_lt _ _)) (fun W => tM_any _ _ W (fM_lt _ _) (fA_lt _ _)) (fun W => tM_any _ _ W (fA_lt _ _) (fS_lt _ _)) (build_tri _ _ _ rfl rfl rfl)
theorem add12_any (s t : Tri) (w : World) (h1 : TriLt s) (h2 : TriLt t) : Calls Tryd.prog 18 #[numD (triL s), numD (triL t)] w fun e w' => e = .returned (numD (triL (sumT s t))) ∧ Below w.heap.size w w' :=
  add12_over (triL s) (triL t) (nD dNat) (triL (sumT s t)) w rfl rfl rfl refCurve_any (fun W => sum12_any s t W h1 h2)
end Go.Proofs.YtagjbdhelfickaaDoor
namespace Go.Proofs.YtagjbdhelfickaaDoor
open Go.RowKit
set_option maxRecDepth 100000 in
set_option maxHeartbeats 4000000 in
theorem times12_over (key : List UInt8) (p dd z : List Nat) (X : Nat → List Nat) (w : World)
    (Hp : Hid (p.length = 24))
    (Hz : Hid (z.length = 24))
    (Hdd : Hid (dd.length = 8))
    (HZ : Hid (X 256 = z))
    (HL : Hid (∀ j, (X j).length = 24))
    (HR : Hid (∀ k : Nat, k < 256 → ∃ (m : List Nat) (c : Bool) (q : UInt8), (∀ W, Calls Tryd.prog 54 #[numD (X (k + 1)), numD (X (k + 1)), numD dd] W fun e w' => e = .returned (numD m) ∧ Below W.heap.size W w') ∧ m.length = 24 ∧ (c = false → X k = m) ∧ (c = true → ∀ W, Calls Tryd.prog 54 #[numD m, numD p, numD dd] W fun e w' => e = .returned (numD (X k)) ∧ Below W.heap.size W w') ∧ (key.map cellOf)[k / 8]? = some (cellOf q) ∧ bits .and .u8 ((q.toNat : Int) / 2 ^ (k % 8)) 1 = if c then 1 else 0))
    (CC : Hid (∀ W, Calls Tryd.prog 40 #[] W fun e w' => e = .returned (numD dd) ∧ Below W.heap.size W w'))
    (CZ : Hid (∀ W, Calls Tryd.prog 58 #[] W fun e w' => e = .returned (numD z) ∧ Below W.heap.size W w')) :
    Calls Tryd.prog 22 #[numD p, hashVal key] w fun e w' => e = .returned (numD (X 0)) ∧ Below w.heap.size w w' := by
  go_enter Tryd.func22, Tryd.ntmps22
  go_wp2_with (first
    | (refine vtake_step rfl 40 (.tmp 0) rfl (p.map dcell) rfl ?_
       intro w1 hb1 hvp1
       have hB1 := hb1
       have hgep : w.heap.size ≤ w.heap.size := Nat.le_refl _
       clear  hb1
       try simp only [Act.put, List.setIfInBounds_toArray, List.set_cons_zero, List.set_cons_succ]
       skip)
    | (refine vtake_step rfl 22 (.tmp 1) rfl (key.map cellOf) rfl ?_
       intro w2 hb2 hvk2
       have hB2 := below_then hB1 hb2
       have hgek : w.heap.size ≤ w1.heap.size := hB1.size
       have hvp2 := hvp1.on hb2
       have hnepk := Nat.ne_of_lt hvp1.lt
       clear hB1 hvp1 hb2
       try simp only [Act.put, List.setIfInBounds_toArray, List.set_cons_zero, List.set_cons_succ]
       skip)
    | (refine vzero_step (o := ⟨some 4, _, _, _, _, _⟩) rfl 40 rfl (dzeros 24) zero_tri ?_
       intro w3 hb3 hvr3
       have hB3 := below_then hB2 hb3
       have hger : w.heap.size ≤ w2.heap.size := hB2.size
       have hvp3 := hvp2.on hb3
       have hnepr := Nat.ne_of_lt hvp2.lt
       have hvk3 := hvk2.on hb3
       have hnekr := Nat.ne_of_lt hvk2.lt
       clear hB2 hvp2 hvk2 hb3
       try simp only [Act.put, List.setIfInBounds_toArray, List.set_cons_zero, List.set_cons_succ]
       skip))
  generalize hqk : w1.heap.size = gk at *
  clear hqk
  generalize hqr : w2.heap.size = gr at *
  clear hqr
  refine (CC.out w3).mono ?_
  rintro e w4 ⟨rfl, hb4⟩
  have hB4 := below_then hB3 hb4
  have hvp4 := hvp3.on hb4
  have hvk4 := hvk3.on hb4
  have hvr4 := hvr3.on hb4
  clear hB3 hvp3 hvk3 hvr3 hb4
  go_wp2_with (first
    | (refine vput_step rfl rfl 38 (.tmp 5) (.tmp 8) rfl rfl 8 (dzeros 8) (dd.map dcell) rfl rfl zero_ND rfl size_ND (by rw [List.length_map, Hdd.out]) (dcells_one _) ?_
       intro w5 hb5 hvd5
       have hB5 := below_then hB4 hb5
       have hged : w.heap.size ≤ w4.heap.size := hB4.size
       have hvp5 := hvp4.on hb5
       have hnepd := Nat.ne_of_lt hvp4.lt
       have hvk5 := hvk4.on hb5
       have hnekd := Nat.ne_of_lt hvk4.lt
       have hvr5 := hvr4.on hb5
       have hnerd := Nat.ne_of_lt hvr4.lt
       clear hB4 hvp4 hvk4 hvr4 hb5
       try simp only [Act.put, List.setIfInBounds_toArray, List.set_cons_zero, List.set_cons_succ]
       skip))
  generalize hqd : w4.heap.size = gd at *
  clear hqd
  refine (CZ.out w5).mono ?_
  rintro e w6 ⟨rfl, hb6⟩
  have hB6 := below_then hB5 hb6
  have hvp6 := hvp5.on hb6
  have hvk6 := hvk5.on hb6
  have hvr6 := hvr5.on hb6
  have hvd6 := hvd5.on hb6
  clear hB5 hvp5 hvk5 hvr5 hvd5 hb6
  go_wp2_with (first
    | (refine vput_step rfl rfl 40 (.tmp 6) (.tmp 9) rfl rfl 24 (dzeros 24) (z.map dcell) rfl rfl zero_tri rfl size_tri (by rw [List.length_map, Hz.out]) (dcells_one _) ?_
       intro w7 hb7 hvo7
       have hB7 := below_then hB6 hb7
       have hgeo : w.heap.size ≤ w6.heap.size := hB6.size
       have hvp7 := hvp6.on hb7
       have hnepo := Nat.ne_of_lt hvp6.lt
       have hvk7 := hvk6.on hb7
       have hneko := Nat.ne_of_lt hvk6.lt
       have hvr7 := hvr6.on hb7
       have hnero := Nat.ne_of_lt hvr6.lt
       have hvd7 := hvd6.on hb7
       have hnedo := Nat.ne_of_lt hvd6.lt
       clear hB6 hvp6 hvk6 hvr6 hvd6 hb7
       try simp only [Act.put, List.setIfInBounds_toArray, List.set_cons_zero, List.set_cons_succ]
       skip))
  generalize hqo : w6.heap.size = go at *
  clear hqo
  replace hnepk := Lib.hid hnepk
  replace hnepr := Lib.hid hnepr
  replace hnekr := Lib.hid hnekr
  replace hnepd := Lib.hid hnepd
  replace hnekd := Lib.hid hnekd
  replace hnerd := Lib.hid hnerd
  replace hnepo := Lib.hid hnepo
  replace hneko := Lib.hid hneko
  replace hnero := Lib.hid hnero
  replace hnedo := Lib.hid hnedo
  go_loopw [7] (fun t wr => ∃ j : Nat, j ≤ 256 ∧ t = .int .i64 ((j : Int) - 1) ∧ Below w.heap.size w wr ∧ Cells wr (w.heap.size) (p.map dcell) 40 ∧ Cells wr gk (key.map cellOf) 22 ∧ Cells wr gr (dzeros 24) 40 ∧ Cells wr gd (dd.map dcell) 38 ∧ Cells wr go ((X j).map dcell) 40) (fun t _ => ((intOf t) + 1).toNat)
  case atStart => exact ⟨256, Nat.le_refl _, rfl, hB7, hvp7, hvk7, hvr7, hvd7, by rw [HZ.out]; exact hvo7⟩
  case round =>
    clear hB7 hvp7 hvk7 hvr7 hvd7 hvo7
    obtain ⟨j, hj, rfl, hBl, hvpl, hvkl, hvrl, hvdl, hvol⟩ := hrel
    by_cases h0 : 0 < j
    · obtain ⟨k, rfl⟩ : ∃ k, j = k + 1 := ⟨j - 1, by omega⟩
      have hk : k < 256 := by omega
      have e1' : (((k + 1 : Nat) : Int) - 1) = (k : Int) := by omega
      have i1 : (0 : Int) ≤ (k : Int) := by omega
      have i2 : (k : Int) < 256 := by omega
      have i3 : IntKind.i64.wrap ((k : Int) - 1) = (k : Int) - 1 := IntWalk.i64_in _ (by omega)
      have i4 : IntKind.u64.wrap ((k : Int) % 8) = (k : Int) % 8 := by rw [IntKind.wrap_u64]; omega
      rw [e1']
      obtain ⟨m, c, q, C1, Hm, hc0, hc1, hq, hbv⟩ := HR.out k hk
      replace C1 := Lib.hid C1
      have dq0 := Lib.hid hq
      replace Hm := Lib.hid Hm
      have Hx := Lib.hid (HL.out (k + 1))
      have Hy := Lib.hid (HL.out k)
      clear HR HL HZ CZ hq
      obtain ⟨x, HXx⟩ := namedF (X (k + 1))
      obtain ⟨y, HXy⟩ := namedF (X k)
      rw [HXx.out] at C1 Hx hvol
      rw [HXy.out] at hc0 hc1 Hy
      cases c
      · have C2 := Lib.hid (hc0 rfl)
        clear hc0 hc1
        go_wp2_with (first
          | (refine sget_step rfl 40 (.tmp 6) rfl go 24 (x.map dcell) rfl hvol Tryd.underlying40 rfl size_tri (by rw [List.length_map, Hx.out]) ?_
             try simp only [Act.put, List.setIfInBounds_toArray, List.set_cons_zero, List.set_cons_succ]
             skip)
          | (refine sget_step rfl 40 (.tmp 6) rfl go 24 (x.map dcell) rfl hvol Tryd.underlying40 rfl size_tri (by rw [List.length_map, Hx.out]) ?_
             try simp only [Act.put, List.setIfInBounds_toArray, List.set_cons_zero, List.set_cons_succ]
             skip)
          | (refine sget_step rfl 38 (.tmp 5) rfl gd 8 (dd.map dcell) rfl hvdl Tryd.underlying38 rfl size_ND (by rw [List.length_map, Hdd.out]) ?_
             try simp only [Act.put, List.setIfInBounds_toArray, List.set_cons_zero, List.set_cons_succ]
             skip))
        refine (C1.out wr).mono ?_
        rintro e w8 ⟨rfl, hb8⟩
        have hB8 := below_then hBl hb8
        have hvp8 := hvpl.on hb8
        have hvk8 := hvkl.on hb8
        have hvr8 := hvrl.on hb8
        have hvd8 := hvdl.on hb8
        have hvo8 := hvol.on hb8
        clear hBl hvpl hvkl hvrl hvdl hvol hb8
        go_upto_region 7 with (first
          | (refine vset_step rfl 40 (.tmp 6) (.tmp 17) rfl go 24 (x.map dcell) (m.map dcell) rfl rfl hvo8 (by rw [List.length_map, Hx.out]) size_tri (by rw [List.length_map, Hm.out]) (dcells_one _) ?_
             intro w9 hb9 hvo9 hz9
             have hB9 : Below w.heap.size w w9 := hB8.trans (hb9.below hgeo hB8.size)
             have hvp9 := hvp8.but hb9 hnepo.out
             have hvk9 := hvk8.but hb9 hneko.out
             have hvr9 := hvr8.but hb9 hnero.out
             have hvd9 := hvd8.but hb9 hnedo.out
             clear hB8 hvo8 hb9 hz9 hvp8 hvk8 hvr8 hvd8
             skip))
        have dq1 := hvk9.get dq0.out
        go_wp2_with fail
        go_roundw
        case rel => exact ⟨k, by omega, by go_num, hB9, hvp9, hvk9, hvr9, hvd9, by rw [HXy.out, C2.out]; exact hvo9⟩
        case measure => simp [intOf] <;> omega
      · have C2 := Lib.hid (hc1 rfl)
        clear hc0 hc1
        go_wp2_with (first
          | (refine sget_step rfl 40 (.tmp 6) rfl go 24 (x.map dcell) rfl hvol Tryd.underlying40 rfl size_tri (by rw [List.length_map, Hx.out]) ?_
             try simp only [Act.put, List.setIfInBounds_toArray, List.set_cons_zero, List.set_cons_succ]
             skip)
          | (refine sget_step rfl 40 (.tmp 6) rfl go 24 (x.map dcell) rfl hvol Tryd.underlying40 rfl size_tri (by rw [List.length_map, Hx.out]) ?_
             try simp only [Act.put, List.setIfInBounds_toArray, List.set_cons_zero, List.set_cons_succ]
             skip)
          | (refine sget_step rfl 38 (.tmp 5) rfl gd 8 (dd.map dcell) rfl hvdl Tryd.underlying38 rfl size_ND (by rw [List.length_map, Hdd.out]) ?_
             try simp only [Act.put, List.setIfInBounds_toArray, List.set_cons_zero, List.set_cons_succ]
             skip))
        refine (C1.out wr).mono ?_
        rintro e w10 ⟨rfl, hb10⟩
        have hB10 := below_then hBl hb10
        have hvp10 := hvpl.on hb10
        have hvk10 := hvkl.on hb10
        have hvr10 := hvrl.on hb10
        have hvd10 := hvdl.on hb10
        have hvo10 := hvol.on hb10
        clear hBl hvpl hvkl hvrl hvdl hvol hb10
        go_upto_region 7 with (first
          | (refine vset_step rfl 40 (.tmp 6) (.tmp 17) rfl go 24 (x.map dcell) (m.map dcell) rfl rfl hvo10 (by rw [List.length_map, Hx.out]) size_tri (by rw [List.length_map, Hm.out]) (dcells_one _) ?_
             intro w11 hb11 hvo11 hz11
             have hB11 : Below w.heap.size w w11 := hB10.trans (hb11.below hgeo hB10.size)
             have hvp11 := hvp10.but hb11 hnepo.out
             have hvk11 := hvk10.but hb11 hneko.out
             have hvr11 := hvr10.but hb11 hnero.out
             have hvd11 := hvd10.but hb11 hnedo.out
             clear hB10 hvo10 hb11 hz11 hvp10 hvk10 hvr10 hvd10
             skip))
        have dq1 := hvk11.get dq0.out
        go_wp2_with (first
          | (refine sget_step rfl 40 (.tmp 6) rfl go 24 (m.map dcell) rfl hvo11 Tryd.underlying40 rfl size_tri (by rw [List.length_map, Hm.out]) ?_
             try simp only [Act.put, List.setIfInBounds_toArray, List.set_cons_zero, List.set_cons_succ]
             skip)
          | (refine sget_step rfl 40 (.tmp 2) rfl w.heap.size 24 (p.map dcell) rfl hvp11 Tryd.underlying40 rfl size_tri (by rw [List.length_map, Hp.out]) ?_
             try simp only [Act.put, List.setIfInBounds_toArray, List.set_cons_zero, List.set_cons_succ]
             skip)
          | (refine sget_step rfl 38 (.tmp 5) rfl gd 8 (dd.map dcell) rfl hvd11 Tryd.underlying38 rfl size_ND (by rw [List.length_map, Hdd.out]) ?_
             try simp only [Act.put, List.setIfInBounds_toArray, List.set_cons_zero, List.set_cons_succ]
             skip))
        refine (C2.out w11).mono ?_
        rintro e w12 ⟨rfl, hb12⟩
        have hB12 := below_then hB11 hb12
        have hvp12 := hvp11.on hb12
        have hvk12 := hvk11.on hb12
        have hvr12 := hvr11.on hb12
        have hvd12 := hvd11.on hb12
        have hvo12 := hvo11.on hb12
        clear hB11 hvp11 hvk11 hvr11 hvd11 hvo11 hb12
        go_wp2_with (first
          | (refine vset_step rfl 40 (.tmp 6) (.tmp 31) rfl go 24 (m.map dcell) (y.map dcell) rfl rfl hvo12 (by rw [List.length_map, Hm.out]) size_tri (by rw [List.length_map, Hy.out]) (dcells_one _) ?_
             intro w13 hb13 hvo13 hz13
             have hB13 : Below w.heap.size w w13 := hB12.trans (hb13.below hgeo hB12.size)
             have hvp13 := hvp12.but hb13 hnepo.out
             have hvk13 := hvk12.but hb13 hneko.out
             have hvr13 := hvr12.but hb13 hnero.out
             have hvd13 := hvd12.but hb13 hnedo.out
             clear hB12 hvo12 hb13 hz13 hvp12 hvk12 hvr12 hvd12
             skip))
        go_roundw
        case rel => exact ⟨k, by omega, by go_num, hB13, hvp13, hvk13, hvr13, hvd13, by rw [HXy.out]; exact hvo13⟩
        case measure => simp [intOf] <;> omega
    · obtain rfl : j = 0 := by omega
      rw [show (((0 : Nat) : Int) - 1) = -1 from rfl]
      have Hx := Lib.hid (HL.out 0)
      clear HR HL HZ CZ
      go_wp2_with (first
        | (refine sget_step rfl 40 (.tmp 6) rfl go 24 ((X 0).map dcell) rfl hvol Tryd.underlying40 rfl size_tri (by rw [List.length_map, Hx.out]) ?_
           try simp only [Act.put, List.setIfInBounds_toArray, List.set_cons_zero, List.set_cons_succ]
           skip)
        | (refine vset_step rfl 40 (.tmp 4) (.tmp 32) rfl gr 24 (dzeros 24) ((X 0).map dcell) rfl rfl hvrl rfl size_tri (by rw [List.length_map, Hx.out]) (dcells_one _) ?_
           intro w14 hb14 hvr14 hz14
           have hB14 : Below w.heap.size w w14 := hBl.trans (hb14.below hger hBl.size)
           have hvp14 := hvpl.but hb14 hnepr.out
           have hvk14 := hvkl.but hb14 hnekr.out
           have hvd14 := hvdl.but hb14 (Ne.symm hnerd.out)
           have hvo14 := hvol.but hb14 (Ne.symm hnero.out)
           clear hBl hvrl hb14 hz14 hvpl hvkl hvdl hvol
           skip))
      exact sret Tryd.results22 gr ((X 0).map dcell) rfl hvr14 Tryd.underlying40 rfl size_tri (by rw [List.length_map, Hx.out]) rfl ⟨rfl, hB14⟩
end Go.Proofs.YtagjbdhelfickaaDoor
