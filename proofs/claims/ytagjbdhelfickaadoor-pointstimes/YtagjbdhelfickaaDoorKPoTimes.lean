/- The walk of the law PointsTimes. (Made by tools/mkpts.py.) -/
import Derived.Test.YtagjbdhelfickaaDoorPart13
import Derived.Test.YtagjbdhelfickaaDoorPart14
import Derived.Deep.Cut
import Derived.IntWalk
import Derived.Test.YtagjbdhelfickaaDoorPart18
import Derived.Test.YtagjbdhelfickaaDoorPart10
import Derived.Test.YtagjbdhelfickaaDoorPart1
namespace Go.Proofs.YtagjbdhelfickaaDoor
open Go.RowKit
def ltimesVs4 (ka : List UInt8) (kb : List UInt8) (g_base : Nat) (gb : Nat) (gp : Nat) (gv : Nat) (p : List Nat) (v : List Nat) (s : List Nat) (ks : List UInt8) (t : List Nat) : List Value :=
  (hashVal ka) :: (hashVal kb) :: (.pointer (some ⟨g_base, 0, none⟩)) :: (.pointer (some ⟨gb, 0, none⟩)) :: (.bool true) :: (.pointer (some ⟨gp, 0, none⟩)) :: (.pointer (some ⟨gv, 0, none⟩)) :: (.bool true) :: (.bool false) :: (.tuple #[numVal p, numD v]) :: (hashVal ka) :: (.tuple #[numVal p, numD v]) :: (numVal p) :: (numD v) :: (numVal p) :: (hashVal kb) :: (numVal s) :: (hashVal ks) :: (numD v) :: (hashVal kb) :: (numD t) :: (hashVal ks) :: (.bool true) :: []
set_option maxRecDepth 100000 in
set_option maxHeartbeats 4000000 in
theorem ptTimes_over (p v s t : List Nat) (ka kb ks : List UInt8) (E : Value) (w : World)
    (Hp : Hid (p.length = 15))
    (Hka : Hid (ka.length = 32))
    (Hkb : Hid (kb.length = 32))
    (Hv : Hid (v.length = 24))
    (CAL : Hid (∀ W, TabsU E W → Calls Tryd.prog 8 #[] W fun e w' => e = .returned (.bool true) ∧ Below W.heap.size W w'))
    (CSA : Hid (∀ W, TabsU E W → Calls Tryd.prog 16 #[hashVal ka] W fun e w' => e = .returned (.tuple #[numVal p, numD v]) ∧ Below W.heap.size W w'))
    (CT : Hid (∀ W, TabsU E W → Calls Tryd.prog 21 #[numVal p, hashVal kb] W fun e w' => e = .returned (numVal s) ∧ Below W.heap.size W w'))
    (CBS : Hid (∀ W, Calls Tryd.prog 12 #[numVal s] W fun e w' => e = .returned (hashVal ks) ∧ Below W.heap.size W w'))
    (CRT : Hid (∀ W, Calls Tryd.prog 22 #[numD v, hashVal kb] W fun e w' => e = .returned (numD t) ∧ Below W.heap.size W w'))
    (CDT : Hid (∀ W, Calls Tryd.prog 13 #[numD t] W fun e w' => e = .returned (hashVal ks) ∧ Below W.heap.size W w'))
    (EQS : ∀ w, (binOp .eql 23 (hashVal ks) (hashVal ks)).run Tryd.prog w = .ok (.bool true) w)
    (hS : TabsU E w) :
    Calls Tryd.prog 5 #[hashVal ka, hashVal kb] w fun e w' => e = .returned (.bool true) ∧ Below w.heap.size w w' := by
  go_enter Tryd.func5, Tryd.ntmps5
  go_wp2_with (first
    | (refine take_step rfl 23 (.tmp 0) rfl ka rfl ?_
       intro w1 hb1 hva1 hz
       clear hz
       have hB1 := hb1
       have hgea : w.heap.size ≤ w.heap.size := Nat.le_refl _
       clear  hb1
       try simp only [Act.put, List.setIfInBounds_toArray, List.set_cons_zero, List.set_cons_succ]
       skip)
    | (refine take_step rfl 23 (.tmp 1) rfl kb rfl ?_
       intro w2 hb2 hvb2 hz
       clear hz
       have hB2 := below_then hB1 hb2
       have hgeb : w.heap.size ≤ w1.heap.size := hB1.size
       have hva2 := hva1.on hb2
       have hneab := Nat.ne_of_lt hva1.lt
       clear hB1 hva1 hb2
       try simp only [Act.put, List.setIfInBounds_toArray, List.set_cons_zero, List.set_cons_succ]
       skip))
  generalize hqb : w1.heap.size = gb at *
  clear hqb
  refine (CAL.out w2 (hS.below hB2)).mono ?_
  rintro e w3 ⟨rfl, hb3⟩
  have hB3 := below_then hB2 hb3
  have hva3 := hva2.on hb3
  have hvb3 := hvb2.on hb3
  clear hB2 hva2 hvb2 hb3
  go_wp2_with (first
    | (refine get_step rfl 23 (.tmp 2) rfl w.heap.size 32 ka 5 rfl hva3 Tryd.underlying23 size_k32 Hka.out ?_
       try simp only [Act.put, List.setIfInBounds_toArray, List.set_cons_zero, List.set_cons_succ]
       skip))
  refine (CSA.out w3 (hS.below hB3)).mono ?_
  rintro e w4 ⟨rfl, hb4⟩
  have hB4 := below_then hB3 hb4
  have hva4 := hva3.on hb4
  have hvb4 := hvb3.on hb4
  clear hB3 hva3 hvb3 hb4
  go_wp2_with (first
    | (refine vzero_step (o := ⟨some 5, _, _, _, _, _⟩) rfl 31 rfl (nzeros 15) zero_up ?_
       intro w5 hb5 hvp5
       have hB5 := below_then hB4 hb5
       have hgep : w.heap.size ≤ w4.heap.size := hB4.size
       have hva5 := hva4.on hb5
       have hneap := Nat.ne_of_lt hva4.lt
       have hvb5 := hvb4.on hb5
       have hnebp := Nat.ne_of_lt hvb4.lt
       clear hB4 hva4 hvb4 hb5
       try simp only [Act.put, List.setIfInBounds_toArray, List.set_cons_zero, List.set_cons_succ]
       skip)
    | (refine vzero_step (o := ⟨some 6, _, _, _, _, _⟩) rfl 40 rfl (dzeros 24) zero_tri ?_
       intro w6 hb6 hvv6
       have hB6 := below_then hB5 hb6
       have hgev : w.heap.size ≤ w5.heap.size := hB5.size
       have hva6 := hva5.on hb6
       have hneav := Nat.ne_of_lt hva5.lt
       have hvb6 := hvb5.on hb6
       have hnebv := Nat.ne_of_lt hvb5.lt
       have hvp6 := hvp5.on hb6
       have hnepv := Nat.ne_of_lt hvp5.lt
       clear hB5 hva5 hvb5 hvp5 hb6
       try simp only [Act.put, List.setIfInBounds_toArray, List.set_cons_zero, List.set_cons_succ]
       skip)
    | (refine vset_step rfl 31 (.tmp 5) (.tmp 12) rfl w4.heap.size 15 (nzeros 15) (p.map ncell) rfl rfl hvp6 rfl size_up (by rw [List.length_map, Hp.out]) (ncells_one _) ?_
       intro w7 hb7 hvp7 hz7
       have hB7 : Below w.heap.size w w7 := hB6.trans (hb7.below hgep hB6.size)
       have hva7 := hva6.but hb7 hneap
       have hvb7 := hvb6.but hb7 hnebp
       have hvv7 := hvv6.but hb7 (Ne.symm hnepv)
       clear hB6 hvp6 hb7 hz7 hva6 hvb6 hvv6
       skip)
    | (refine vset_step rfl 40 (.tmp 6) (.tmp 13) rfl w5.heap.size 24 (dzeros 24) (v.map dcell) rfl rfl hvv7 rfl size_tri (by rw [List.length_map, Hv.out]) (dcells_one _) ?_
       intro w8 hb8 hvv8 hz8
       have hB8 : Below w.heap.size w w8 := hB7.trans (hb8.below hgev hB7.size)
       have hva8 := hva7.but hb8 hneav
       have hvb8 := hvb7.but hb8 hnebv
       have hvp8 := hvp7.but hb8 hnepv
       clear hB7 hvv7 hb8 hz8 hva7 hvb7 hvp7
       skip))
  generalize hqp : w4.heap.size = gp at *
  clear hqp
  generalize hqv : w5.heap.size = gv at *
  clear hqv
  replace hva8 := hva8.drew
  replace hvb8 := hvb8.drew
  replace hvp8 := hvp8.drew
  replace hvv8 := hvv8.drew
  have hBq := (show Below w.heap.size w w8.drew from hB8.drew)
  refine wp_region_any (by kernel_rfl) ?_
  refine wpAny_flatM (L := [0, 1, 2, 3, 4, 5, 6, 7, 8, 9]) (by kernel_rfl) _ _ (ltimesVs4 ka kb w.heap.size gb gp gv p v s ks t) [] 23 kzeros [0, 1, 2, 3, 5, 6, 7, 8, 9, 10, 11, 12, 13] (by kernel_rfl) (by kernel_rfl) ?_ zero_k32 ?_ (by rfl) ?_ 0 (by kernel_rfl) ?_
  · intro p hp
    exact absurd hp List.not_mem_nil
  · exact all_cons rfl (all_cons rfl (all_cons rfl (all_cons rfl (all_cons rfl (all_cons rfl (all_cons rfl (all_cons rfl (all_cons rfl (all_cons rfl (all_cons rfl (all_cons rfl (all_cons rfl (all_nil)))))))))))))
  · refine all_cons (.inr (mStep _ 14 rfl rfl rfl rfl (by kernel_rfl) (fun a hv => wanted_all rfl _) (fun a w K hb hv hK => mPure (numVal p) (exec_load _ _ _ _ rfl _ _ (hv 5 (by kernel_rfl) rfl) w (up_run (hvp8.on hb) Hp.out)) hK))) ?_
    refine all_cons (.inr (mStep _ 15 rfl rfl rfl rfl (by kernel_rfl) (fun a hv => wanted_all rfl _) (fun a w K hb hv hK => mPure (hashVal kb) (exec_load _ _ _ _ rfl _ _ (hv 3 (by kernel_rfl) rfl) w (key_run (hvb8.on hb) Hkb.out)) hK))) ?_
    refine all_cons (.inr (mStep _ 16 rfl rfl rfl rfl (by kernel_rfl) (fun a hv => wanted_all rfl _) (fun a w K hb hv hK => mCall (numVal s) 21 _ _ rfl [numVal p, hashVal kb] (cons_eq (hv 14 (by kernel_rfl) rfl) (cons_eq (hv 15 (by kernel_rfl) rfl) (rfl))) (enters Tryd.func21 rfl rfl) (CT.out w (hS.below (below_then hBq hb))) hK))) ?_
    refine all_cons (.inr (mStep _ 17 rfl rfl rfl rfl (by kernel_rfl) (fun a hv => wanted_all rfl _) (fun a w K hb hv hK => mCall (hashVal ks) 12 _ _ rfl [numVal s] (cons_eq (hv 16 (by kernel_rfl) rfl) (rfl)) (enters Tryd.func12 rfl rfl) (CBS.out w) hK))) ?_
    refine all_cons (.inr (mStep _ 18 rfl rfl rfl rfl (by kernel_rfl) (fun a hv => wanted_all rfl _) (fun a w K hb hv hK => mPure (numD v) (exec_load _ _ _ _ rfl _ _ (hv 6 (by kernel_rfl) rfl) w (tri_run (hvv8.on hb) Hv.out)) hK))) ?_
    refine all_cons (.inr (mStep _ 19 rfl rfl rfl rfl (by kernel_rfl) (fun a hv => wanted_all rfl _) (fun a w K hb hv hK => mPure (hashVal kb) (exec_load _ _ _ _ rfl _ _ (hv 3 (by kernel_rfl) rfl) w (key_run (hvb8.on hb) Hkb.out)) hK))) ?_
    refine all_cons (.inr (mStep _ 20 rfl rfl rfl rfl (by kernel_rfl) (fun a hv => wanted_all rfl _) (fun a w K hb hv hK => mCall (numD t) 22 _ _ rfl [numD v, hashVal kb] (cons_eq (hv 18 (by kernel_rfl) rfl) (cons_eq (hv 19 (by kernel_rfl) rfl) (rfl))) (enters Tryd.func22 rfl rfl) (CRT.out w) hK))) ?_
    refine all_cons (.inr (mStep _ 21 rfl rfl rfl rfl (by kernel_rfl) (fun a hv => wanted_all rfl _) (fun a w K hb hv hK => mCall (hashVal ks) 13 _ _ rfl [numD t] (cons_eq (hv 20 (by kernel_rfl) rfl) (rfl)) (enters Tryd.func13 rfl rfl) (CDT.out w) hK))) ?_
    refine all_cons (.inr (mStep _ 22 rfl rfl rfl rfl (by kernel_rfl) (fun a hv => wanted_all rfl _) (fun a w K hb hv hK => mPure (.bool true) (exec_bin _ _ _ _ _ _ _ rfl (hashVal ks) (hashVal ks) _ (hv 17 (by kernel_rfl) rfl) (hv 21 (by kernel_rfl) rfl) w ((fun w => key_guard _ _ _ _ _ w) w) ((EQS) w)) hK))) ?_
    refine all_cons (.inr (mStep _ 4 rfl rfl rfl rfl (by kernel_rfl) (fun a hv => wanted_all rfl _) (fun a w K hb hv hK => mPure (.bool true) (exec_move _ _ _ (.inr rfl) _ (hv 22 (by kernel_rfl) rfl) w) hK))) ?_
    exact all_nil
  intro w9 g hb9 hN9 hap9
  clear hN9 hap9
  have hB9 := below_then (show Below w.heap.size w w8.drew from hB8.drew) hb9
  have hva9 := hva8.on hb9
  have hvb9 := hvb8.on hb9
  have hvp9 := hvp8.on hb9
  have hvv9 := hvv8.on hb9
  clear hB8 hva8 hvb8 hvp8 hvv8 hb9 hBq
  refine ⟨by kernel_rfl, ?_⟩
  rename_i K hKK
  show Exit.then K _ Exit.normal (⟨(ltimesVs4 ka kb w.heap.size gb gp gv p v s ks t).toArray, []⟩ : Act) w9
  simp only [Exit.then]
  refine hKK _ _ ?_
  clear hKK K g
  simp only [ltimesVs4]
  go_wp2
  go_ret
  exact ⟨rfl, hB9⟩
end Go.Proofs.YtagjbdhelfickaaDoor
