/- The walk of the law PointsSums. (Made by tools/mkpts.py.) -/
import Derived.Test.YtagjbdhelfickaaDoorPart13
import Derived.Test.YtagjbdhelfickaaDoorPart14
import Derived.Deep.Cut
import Derived.IntWalk
import Derived.Test.YtagjbdhelfickaaDoorPart18
import Derived.Test.YtagjbdhelfickaaDoorPart10
import Derived.Test.YtagjbdhelfickaaDoorPart1
namespace Go.Proofs.YtagjbdhelfickaaDoor
open Go.RowKit
theorem bool_self12 (z : Bool) (w : World) : (binOp .eql 4 (.bool z) (.bool z)).run Tryd.prog w = .ok (.bool true) w := by cases z <;> kernel_rfl
def sumsVs5 (ka : List UInt8) (kb : List UInt8) (g_base : Nat) (gb : Nat) (gp : Nat) (gv : Nat) (gq : Nat) (gu : Nat) (p : List Nat) (v : List Nat) (q : List Nat) (u : List Nat) (s : List Nat) (ks : List UInt8) (t : List Nat) (n : List Nat) (kn : List UInt8) (m : List Nat) (c : Bool) (kp : List UInt8) (kq : List UInt8) (z1 : List Nat) (z : List Nat) : List Value :=
  (hashVal ka) :: (hashVal kb) :: (.pointer (some ⟨g_base, 0, none⟩)) :: (.pointer (some ⟨gb, 0, none⟩)) :: (.bool true) :: (.pointer (some ⟨gp, 0, none⟩)) :: (.pointer (some ⟨gv, 0, none⟩)) :: (.pointer (some ⟨gq, 0, none⟩)) :: (.pointer (some ⟨gu, 0, none⟩)) :: (.bool true) :: (.bool false) :: (.tuple #[numVal p, numD v]) :: (hashVal ka) :: (.tuple #[numVal p, numD v]) :: (numVal p) :: (numD v) :: (.tuple #[numVal q, numD u]) :: (hashVal kb) :: (.tuple #[numVal q, numD u]) :: (numVal q) :: (numD u) :: (numVal p) :: (numVal q) :: (numVal s) :: (hashVal ks) :: (numD v) :: (numD u) :: (numD t) :: (hashVal ks) :: (.bool true) :: (.bool true) :: (numVal p) :: (numVal n) :: (hashVal kn) :: (numD v) :: (numD m) :: (hashVal kn) :: (.bool true) :: (.bool true) :: (.bool true) :: (numVal p) :: (numVal q) :: (.bool c) :: (numVal p) :: (hashVal kp) :: (numVal q) :: (hashVal kq) :: (.bool c) :: (.bool true) :: (.bool true) :: (.bool true) :: (numVal p) :: (numVal p) :: (numVal n) :: (numVal z1) :: (numVal z) :: (.bool true) :: (.bool true) :: []
set_option maxRecDepth 100000 in
set_option maxHeartbeats 4000000 in
theorem ptSums_over (p v q u s t n m z1 z : List Nat) (ka kb ks kn kp kq : List UInt8) (c : Bool) (E : Value) (w : World)
    (Hp : Hid (p.length = 15))
    (Hq : Hid (q.length = 15))
    (Hka : Hid (ka.length = 32))
    (Hkb : Hid (kb.length = 32))
    (Hv : Hid (v.length = 24))
    (Hu : Hid (u.length = 24))
    (CAL : Hid (∀ W, TabsU E W → Calls Tryd.prog 8 #[] W fun e w' => e = .returned (.bool true) ∧ Below W.heap.size W w'))
    (CSA : Hid (∀ W, TabsU E W → Calls Tryd.prog 16 #[hashVal ka] W fun e w' => e = .returned (.tuple #[numVal p, numD v]) ∧ Below W.heap.size W w'))
    (CSB : Hid (∀ W, TabsU E W → Calls Tryd.prog 16 #[hashVal kb] W fun e w' => e = .returned (.tuple #[numVal q, numD u]) ∧ Below W.heap.size W w'))
    (CA : Hid (∀ W, TabsU E W → Calls Tryd.prog 17 #[numVal p, numVal q] W fun e w' => e = .returned (numVal s) ∧ Below W.heap.size W w'))
    (CBS : Hid (∀ W, Calls Tryd.prog 12 #[numVal s] W fun e w' => e = .returned (hashVal ks) ∧ Below W.heap.size W w'))
    (CT : Hid (∀ W, Calls Tryd.prog 18 #[numD v, numD u] W fun e w' => e = .returned (numD t) ∧ Below W.heap.size W w'))
    (CDT : Hid (∀ W, Calls Tryd.prog 13 #[numD t] W fun e w' => e = .returned (hashVal ks) ∧ Below W.heap.size W w'))
    (CN : Hid (∀ W, Calls Tryd.prog 14 #[numVal p] W fun e w' => e = .returned (numVal n) ∧ Below W.heap.size W w'))
    (CBN : Hid (∀ W, Calls Tryd.prog 12 #[numVal n] W fun e w' => e = .returned (hashVal kn) ∧ Below W.heap.size W w'))
    (CM : Hid (∀ W, Calls Tryd.prog 19 #[numD v] W fun e w' => e = .returned (numD m) ∧ Below W.heap.size W w'))
    (CDM : Hid (∀ W, Calls Tryd.prog 13 #[numD m] W fun e w' => e = .returned (hashVal kn) ∧ Below W.heap.size W w'))
    (CSM : Hid (∀ W, Calls Tryd.prog 15 #[numVal p, numVal q] W fun e w' => e = .returned (.bool c) ∧ Below W.heap.size W w'))
    (CBP : Hid (∀ W, Calls Tryd.prog 12 #[numVal p] W fun e w' => e = .returned (hashVal kp) ∧ Below W.heap.size W w'))
    (CBQ : Hid (∀ W, Calls Tryd.prog 12 #[numVal q] W fun e w' => e = .returned (hashVal kq) ∧ Below W.heap.size W w'))
    (CA2 : Hid (∀ W, TabsU E W → Calls Tryd.prog 17 #[numVal p, numVal n] W fun e w' => e = .returned (numVal z1) ∧ Below W.heap.size W w'))
    (CZ : Hid (∀ W, Calls Tryd.prog 20 #[] W fun e w' => e = .returned (numVal z) ∧ Below W.heap.size W w'))
    (CSZ : Hid (∀ W, Calls Tryd.prog 15 #[numVal z1, numVal z] W fun e w' => e = .returned (.bool true) ∧ Below W.heap.size W w'))
    (EQS : ∀ w, (binOp .eql 23 (hashVal ks) (hashVal ks)).run Tryd.prog w = .ok (.bool true) w)
    (EQN : ∀ w, (binOp .eql 23 (hashVal kn) (hashVal kn)).run Tryd.prog w = .ok (.bool true) w)
    (EPQ : ∀ w, (binOp .eql 23 (hashVal kp) (hashVal kq)).run Tryd.prog w = .ok (.bool c) w)
    (hS : TabsU E w) :
    Calls Tryd.prog 4 #[hashVal ka, hashVal kb] w fun e w' => e = .returned (.bool true) ∧ Below w.heap.size w w' := by
  go_enter Tryd.func4, Tryd.ntmps4
  go_wp2_with (first
    | (refine take_step rfl 23 (.tmp 0) rfl ka rfl ?_
       intro w1 hb1 hva1 hz
       clear hz
       have hB1 := hb1
       have hgea : w.heap.size ≤ w.heap.size := Nat.le_refl _
       clear  hb1
       try simp only [Act.put, List.setIfInBounds_toArray, List.set_cons_zero, List.set_cons_succ]
       skip)
    | (refine take_step rfl 23 (.tmp 1) rfl kb rfl ?_
       intro w2 hb2 hvb2 hz
       clear hz
       have hB2 := below_then hB1 hb2
       have hgeb : w.heap.size ≤ w1.heap.size := hB1.size
       have hva2 := hva1.on hb2
       have hneab := Nat.ne_of_lt hva1.lt
       clear hB1 hva1 hb2
       try simp only [Act.put, List.setIfInBounds_toArray, List.set_cons_zero, List.set_cons_succ]
       skip))
  generalize hqb : w1.heap.size = gb at *
  clear hqb
  refine (CAL.out w2 (hS.below hB2)).mono ?_
  rintro e w3 ⟨rfl, hb3⟩
  have hB3 := below_then hB2 hb3
  have hva3 := hva2.on hb3
  have hvb3 := hvb2.on hb3
  clear hB2 hva2 hvb2 hb3
  go_wp2_with (first
    | (refine get_step rfl 23 (.tmp 2) rfl w.heap.size 32 ka 5 rfl hva3 Tryd.underlying23 size_k32 Hka.out ?_
       try simp only [Act.put, List.setIfInBounds_toArray, List.set_cons_zero, List.set_cons_succ]
       skip))
  refine (CSA.out w3 (hS.below hB3)).mono ?_
  rintro e w4 ⟨rfl, hb4⟩
  have hB4 := below_then hB3 hb4
  have hva4 := hva3.on hb4
  have hvb4 := hvb3.on hb4
  clear hB3 hva3 hvb3 hb4
  go_wp2_with (first
    | (refine vzero_step (o := ⟨some 5, _, _, _, _, _⟩) rfl 31 rfl (nzeros 15) zero_up ?_
       intro w5 hb5 hvp5
       have hB5 := below_then hB4 hb5
       have hgep : w.heap.size ≤ w4.heap.size := hB4.size
       have hva5 := hva4.on hb5
       have hneap := Nat.ne_of_lt hva4.lt
       have hvb5 := hvb4.on hb5
       have hnebp := Nat.ne_of_lt hvb4.lt
       clear hB4 hva4 hvb4 hb5
       try simp only [Act.put, List.setIfInBounds_toArray, List.set_cons_zero, List.set_cons_succ]
       skip)
    | (refine vzero_step (o := ⟨some 6, _, _, _, _, _⟩) rfl 40 rfl (dzeros 24) zero_tri ?_
       intro w6 hb6 hvv6
       have hB6 := below_then hB5 hb6
       have hgev : w.heap.size ≤ w5.heap.size := hB5.size
       have hva6 := hva5.on hb6
       have hneav := Nat.ne_of_lt hva5.lt
       have hvb6 := hvb5.on hb6
       have hnebv := Nat.ne_of_lt hvb5.lt
       have hvp6 := hvp5.on hb6
       have hnepv := Nat.ne_of_lt hvp5.lt
       clear hB5 hva5 hvb5 hvp5 hb6
       try simp only [Act.put, List.setIfInBounds_toArray, List.set_cons_zero, List.set_cons_succ]
       skip)
    | (refine vset_step rfl 31 (.tmp 5) (.tmp 14) rfl w4.heap.size 15 (nzeros 15) (p.map ncell) rfl rfl hvp6 rfl size_up (by rw [List.length_map, Hp.out]) (ncells_one _) ?_
       intro w7 hb7 hvp7 hz7
       have hB7 : Below w.heap.size w w7 := hB6.trans (hb7.below hgep hB6.size)
       have hva7 := hva6.but hb7 hneap
       have hvb7 := hvb6.but hb7 hnebp
       have hvv7 := hvv6.but hb7 (Ne.symm hnepv)
       clear hB6 hvp6 hb7 hz7 hva6 hvb6 hvv6
       skip)
    | (refine vset_step rfl 40 (.tmp 6) (.tmp 15) rfl w5.heap.size 24 (dzeros 24) (v.map dcell) rfl rfl hvv7 rfl size_tri (by rw [List.length_map, Hv.out]) (dcells_one _) ?_
       intro w8 hb8 hvv8 hz8
       have hB8 : Below w.heap.size w w8 := hB7.trans (hb8.below hgev hB7.size)
       have hva8 := hva7.but hb8 hneav
       have hvb8 := hvb7.but hb8 hnebv
       have hvp8 := hvp7.but hb8 hnepv
       clear hB7 hvv7 hb8 hz8 hva7 hvb7 hvp7
       skip)
    | (refine get_step rfl 23 (.tmp 3) rfl gb 32 kb 5 rfl hvb8 Tryd.underlying23 size_k32 Hkb.out ?_
       try simp only [Act.put, List.setIfInBounds_toArray, List.set_cons_zero, List.set_cons_succ]
       skip))
  generalize hqp : w4.heap.size = gp at *
  clear hqp
  generalize hqv : w5.heap.size = gv at *
  clear hqv
  refine (CSB.out w8 (hS.below hB8)).mono ?_
  rintro e w9 ⟨rfl, hb9⟩
  have hB9 := below_then hB8 hb9
  have hva9 := hva8.on hb9
  have hvb9 := hvb8.on hb9
  have hvp9 := hvp8.on hb9
  have hvv9 := hvv8.on hb9
  clear hB8 hva8 hvb8 hvp8 hvv8 hb9
  go_wp2_with (first
    | (refine vzero_step (o := ⟨some 7, _, _, _, _, _⟩) rfl 31 rfl (nzeros 15) zero_up ?_
       intro w10 hb10 hvq10
       have hB10 := below_then hB9 hb10
       have hgeq : w.heap.size ≤ w9.heap.size := hB9.size
       have hva10 := hva9.on hb10
       have hneaq := Nat.ne_of_lt hva9.lt
       have hvb10 := hvb9.on hb10
       have hnebq := Nat.ne_of_lt hvb9.lt
       have hvp10 := hvp9.on hb10
       have hnepq := Nat.ne_of_lt hvp9.lt
       have hvv10 := hvv9.on hb10
       have hnevq := Nat.ne_of_lt hvv9.lt
       clear hB9 hva9 hvb9 hvp9 hvv9 hb10
       try simp only [Act.put, List.setIfInBounds_toArray, List.set_cons_zero, List.set_cons_succ]
       skip)
    | (refine vzero_step (o := ⟨some 8, _, _, _, _, _⟩) rfl 40 rfl (dzeros 24) zero_tri ?_
       intro w11 hb11 hvu11
       have hB11 := below_then hB10 hb11
       have hgeu : w.heap.size ≤ w10.heap.size := hB10.size
       have hva11 := hva10.on hb11
       have hneau := Nat.ne_of_lt hva10.lt
       have hvb11 := hvb10.on hb11
       have hnebu := Nat.ne_of_lt hvb10.lt
       have hvp11 := hvp10.on hb11
       have hnepu := Nat.ne_of_lt hvp10.lt
       have hvv11 := hvv10.on hb11
       have hnevu := Nat.ne_of_lt hvv10.lt
       have hvq11 := hvq10.on hb11
       have hnequ := Nat.ne_of_lt hvq10.lt
       clear hB10 hva10 hvb10 hvp10 hvv10 hvq10 hb11
       try simp only [Act.put, List.setIfInBounds_toArray, List.set_cons_zero, List.set_cons_succ]
       skip)
    | (refine vset_step rfl 31 (.tmp 7) (.tmp 19) rfl w9.heap.size 15 (nzeros 15) (q.map ncell) rfl rfl hvq11 rfl size_up (by rw [List.length_map, Hq.out]) (ncells_one _) ?_
       intro w12 hb12 hvq12 hz12
       have hB12 : Below w.heap.size w w12 := hB11.trans (hb12.below hgeq hB11.size)
       have hva12 := hva11.but hb12 hneaq
       have hvb12 := hvb11.but hb12 hnebq
       have hvp12 := hvp11.but hb12 hnepq
       have hvv12 := hvv11.but hb12 hnevq
       have hvu12 := hvu11.but hb12 (Ne.symm hnequ)
       clear hB11 hvq11 hb12 hz12 hva11 hvb11 hvp11 hvv11 hvu11
       skip)
    | (refine vset_step rfl 40 (.tmp 8) (.tmp 20) rfl w10.heap.size 24 (dzeros 24) (u.map dcell) rfl rfl hvu12 rfl size_tri (by rw [List.length_map, Hu.out]) (dcells_one _) ?_
       intro w13 hb13 hvu13 hz13
       have hB13 : Below w.heap.size w w13 := hB12.trans (hb13.below hgeu hB12.size)
       have hva13 := hva12.but hb13 hneau
       have hvb13 := hvb12.but hb13 hnebu
       have hvp13 := hvp12.but hb13 hnepu
       have hvv13 := hvv12.but hb13 hnevu
       have hvq13 := hvq12.but hb13 hnequ
       clear hB12 hvu12 hb13 hz13 hva12 hvb12 hvp12 hvv12 hvq12
       skip))
  generalize hqq : w9.heap.size = gq at *
  clear hqq
  generalize hqu : w10.heap.size = gu at *
  clear hqu
  replace hva13 := hva13.drew
  replace hvb13 := hvb13.drew
  replace hvp13 := hvp13.drew
  replace hvv13 := hvv13.drew
  replace hvq13 := hvq13.drew
  replace hvu13 := hvu13.drew
  have hBq := (show Below w.heap.size w w13.drew from hB13.drew)
  refine wp_region_any (by kernel_rfl) ?_
  refine wpAny_flatM (L := [0, 1, 2, 3, 4, 5, 6, 7, 8, 9, 10, 11, 12, 13, 14, 15, 16, 17, 18, 19, 20, 21, 22, 23, 24, 25, 26, 27, 28, 29, 30, 31, 32, 33, 34, 35, 36, 37]) (by kernel_rfl) _ _ (sumsVs5 ka kb w.heap.size gb gp gv gq gu p v q u s ks t n kn m c kp kq z1 z) [] 23 kzeros [0, 1, 2, 3, 5, 6, 7, 8, 9, 10, 11, 12, 13, 14, 15, 16, 17, 18, 19, 20] (by kernel_rfl) (by kernel_rfl) ?_ zero_k32 ?_ (by rfl) ?_ 0 (by kernel_rfl) ?_
  · intro p hp
    exact absurd hp List.not_mem_nil
  · exact all_cons rfl (all_cons rfl (all_cons rfl (all_cons rfl (all_cons rfl (all_cons rfl (all_cons rfl (all_cons rfl (all_cons rfl (all_cons rfl (all_cons rfl (all_cons rfl (all_cons rfl (all_cons rfl (all_cons rfl (all_cons rfl (all_cons rfl (all_cons rfl (all_cons rfl (all_cons rfl (all_nil))))))))))))))))))))
  · refine all_cons (.inr (mStep _ 21 rfl rfl rfl rfl (by kernel_rfl) (fun a hv => wanted_all rfl _) (fun a w K hb hv hK => mPure (numVal p) (exec_load _ _ _ _ rfl _ _ (hv 5 (by kernel_rfl) rfl) w (up_run (hvp13.on hb) Hp.out)) hK))) ?_
    refine all_cons (.inr (mStep _ 22 rfl rfl rfl rfl (by kernel_rfl) (fun a hv => wanted_all rfl _) (fun a w K hb hv hK => mPure (numVal q) (exec_load _ _ _ _ rfl _ _ (hv 7 (by kernel_rfl) rfl) w (up_run (hvq13.on hb) Hq.out)) hK))) ?_
    refine all_cons (.inr (mStep _ 23 rfl rfl rfl rfl (by kernel_rfl) (fun a hv => wanted_all rfl _) (fun a w K hb hv hK => mCall (numVal s) 17 _ _ rfl [numVal p, numVal q] (cons_eq (hv 21 (by kernel_rfl) rfl) (cons_eq (hv 22 (by kernel_rfl) rfl) (rfl))) (enters Tryd.func17 rfl rfl) (CA.out w (hS.below (below_then hBq hb))) hK))) ?_
    refine all_cons (.inr (mStep _ 24 rfl rfl rfl rfl (by kernel_rfl) (fun a hv => wanted_all rfl _) (fun a w K hb hv hK => mCall (hashVal ks) 12 _ _ rfl [numVal s] (cons_eq (hv 23 (by kernel_rfl) rfl) (rfl)) (enters Tryd.func12 rfl rfl) (CBS.out w) hK))) ?_
    refine all_cons (.inr (mStep _ 25 rfl rfl rfl rfl (by kernel_rfl) (fun a hv => wanted_all rfl _) (fun a w K hb hv hK => mPure (numD v) (exec_load _ _ _ _ rfl _ _ (hv 6 (by kernel_rfl) rfl) w (tri_run (hvv13.on hb) Hv.out)) hK))) ?_
    refine all_cons (.inr (mStep _ 26 rfl rfl rfl rfl (by kernel_rfl) (fun a hv => wanted_all rfl _) (fun a w K hb hv hK => mPure (numD u) (exec_load _ _ _ _ rfl _ _ (hv 8 (by kernel_rfl) rfl) w (tri_run (hvu13.on hb) Hu.out)) hK))) ?_
    refine all_cons (.inr (mStep _ 27 rfl rfl rfl rfl (by kernel_rfl) (fun a hv => wanted_all rfl _) (fun a w K hb hv hK => mCall (numD t) 18 _ _ rfl [numD v, numD u] (cons_eq (hv 25 (by kernel_rfl) rfl) (cons_eq (hv 26 (by kernel_rfl) rfl) (rfl))) (enters Tryd.func18 rfl rfl) (CT.out w) hK))) ?_
    refine all_cons (.inr (mStep _ 28 rfl rfl rfl rfl (by kernel_rfl) (fun a hv => wanted_all rfl _) (fun a w K hb hv hK => mCall (hashVal ks) 13 _ _ rfl [numD t] (cons_eq (hv 27 (by kernel_rfl) rfl) (rfl)) (enters Tryd.func13 rfl rfl) (CDT.out w) hK))) ?_
    refine all_cons (.inr (mStep _ 29 rfl rfl rfl rfl (by kernel_rfl) (fun a hv => wanted_all rfl _) (fun a w K hb hv hK => mPure (.bool true) (exec_bin _ _ _ _ _ _ _ rfl (hashVal ks) (hashVal ks) _ (hv 24 (by kernel_rfl) rfl) (hv 28 (by kernel_rfl) rfl) w ((fun w => key_guard _ _ _ _ _ w) w) ((EQS) w)) hK))) ?_
    refine all_cons (.inr (mStep _ 30 rfl rfl rfl rfl (by kernel_rfl) (fun a hv => wanted_all rfl _) (fun a w K hb hv hK => mPure (.bool true) (exec_move _ _ _ (.inl rfl) _ (hv 29 (by kernel_rfl) rfl) w) hK))) ?_
    refine all_cons (.inr (mStep _ 31 rfl rfl rfl rfl (by kernel_rfl) (fun a hv => (wanted_is (j := 9) (b := true) (c := true) rfl rfl rfl (hv 30 (by kernel_rfl) rfl)).trans rfl) (fun a w K hb hv hK => mPure (numVal p) (exec_load _ _ _ _ rfl _ _ (hv 5 (by kernel_rfl) rfl) w (up_run (hvp13.on hb) Hp.out)) hK))) ?_
    refine all_cons (.inr (mStep _ 32 rfl rfl rfl rfl (by kernel_rfl) (fun a hv => (wanted_is (j := 9) (b := true) (c := true) rfl rfl rfl (hv 30 (by kernel_rfl) rfl)).trans rfl) (fun a w K hb hv hK => mCall (numVal n) 14 _ _ rfl [numVal p] (cons_eq (hv 31 (by kernel_rfl) rfl) (rfl)) (enters Tryd.func14 rfl rfl) (CN.out w) hK))) ?_
    refine all_cons (.inr (mStep _ 33 rfl rfl rfl rfl (by kernel_rfl) (fun a hv => (wanted_is (j := 9) (b := true) (c := true) rfl rfl rfl (hv 30 (by kernel_rfl) rfl)).trans rfl) (fun a w K hb hv hK => mCall (hashVal kn) 12 _ _ rfl [numVal n] (cons_eq (hv 32 (by kernel_rfl) rfl) (rfl)) (enters Tryd.func12 rfl rfl) (CBN.out w) hK))) ?_
    refine all_cons (.inr (mStep _ 34 rfl rfl rfl rfl (by kernel_rfl) (fun a hv => (wanted_is (j := 9) (b := true) (c := true) rfl rfl rfl (hv 30 (by kernel_rfl) rfl)).trans rfl) (fun a w K hb hv hK => mPure (numD v) (exec_load _ _ _ _ rfl _ _ (hv 6 (by kernel_rfl) rfl) w (tri_run (hvv13.on hb) Hv.out)) hK))) ?_
    refine all_cons (.inr (mStep _ 35 rfl rfl rfl rfl (by kernel_rfl) (fun a hv => (wanted_is (j := 9) (b := true) (c := true) rfl rfl rfl (hv 30 (by kernel_rfl) rfl)).trans rfl) (fun a w K hb hv hK => mCall (numD m) 19 _ _ rfl [numD v] (cons_eq (hv 34 (by kernel_rfl) rfl) (rfl)) (enters Tryd.func19 rfl rfl) (CM.out w) hK))) ?_
    refine all_cons (.inr (mStep _ 36 rfl rfl rfl rfl (by kernel_rfl) (fun a hv => (wanted_is (j := 9) (b := true) (c := true) rfl rfl rfl (hv 30 (by kernel_rfl) rfl)).trans rfl) (fun a w K hb hv hK => mCall (hashVal kn) 13 _ _ rfl [numD m] (cons_eq (hv 35 (by kernel_rfl) rfl) (rfl)) (enters Tryd.func13 rfl rfl) (CDM.out w) hK))) ?_
    refine all_cons (.inr (mStep _ 37 rfl rfl rfl rfl (by kernel_rfl) (fun a hv => (wanted_is (j := 9) (b := true) (c := true) rfl rfl rfl (hv 30 (by kernel_rfl) rfl)).trans rfl) (fun a w K hb hv hK => mPure (.bool true) (exec_bin _ _ _ _ _ _ _ rfl (hashVal kn) (hashVal kn) _ (hv 33 (by kernel_rfl) rfl) (hv 36 (by kernel_rfl) rfl) w ((fun w => key_guard _ _ _ _ _ w) w) ((EQN) w)) hK))) ?_
    refine all_cons (.inr (mStep _ 38 rfl rfl rfl rfl (by kernel_rfl) (fun a hv => wanted_all rfl _) (fun a w K hb hv hK => mPure (.bool true) (pick_true _ _ _ _ _ rfl (hv 30 (by kernel_rfl) rfl) (.bool true) (hv 37 (by kernel_rfl) rfl) w) hK))) ?_
    refine all_cons (.inr (mStep _ 39 rfl rfl rfl rfl (by kernel_rfl) (fun a hv => wanted_all rfl _) (fun a w K hb hv hK => mPure (.bool true) (exec_move _ _ _ (.inl rfl) _ (hv 38 (by kernel_rfl) rfl) w) hK))) ?_
    refine all_cons (.inr (mStep _ 40 rfl rfl rfl rfl (by kernel_rfl) (fun a hv => (wanted_is (j := 18) (b := true) (c := true) rfl rfl rfl (hv 39 (by kernel_rfl) rfl)).trans rfl) (fun a w K hb hv hK => mPure (numVal p) (exec_load _ _ _ _ rfl _ _ (hv 5 (by kernel_rfl) rfl) w (up_run (hvp13.on hb) Hp.out)) hK))) ?_
    refine all_cons (.inr (mStep _ 41 rfl rfl rfl rfl (by kernel_rfl) (fun a hv => (wanted_is (j := 18) (b := true) (c := true) rfl rfl rfl (hv 39 (by kernel_rfl) rfl)).trans rfl) (fun a w K hb hv hK => mPure (numVal q) (exec_load _ _ _ _ rfl _ _ (hv 7 (by kernel_rfl) rfl) w (up_run (hvq13.on hb) Hq.out)) hK))) ?_
    refine all_cons (.inr (mStep _ 42 rfl rfl rfl rfl (by kernel_rfl) (fun a hv => (wanted_is (j := 18) (b := true) (c := true) rfl rfl rfl (hv 39 (by kernel_rfl) rfl)).trans rfl) (fun a w K hb hv hK => mCall (.bool c) 15 _ _ rfl [numVal p, numVal q] (cons_eq (hv 40 (by kernel_rfl) rfl) (cons_eq (hv 41 (by kernel_rfl) rfl) (rfl))) (enters Tryd.func15 rfl rfl) (CSM.out w) hK))) ?_
    refine all_cons (.inr (mStep _ 43 rfl rfl rfl rfl (by kernel_rfl) (fun a hv => (wanted_is (j := 18) (b := true) (c := true) rfl rfl rfl (hv 39 (by kernel_rfl) rfl)).trans rfl) (fun a w K hb hv hK => mPure (numVal p) (exec_load _ _ _ _ rfl _ _ (hv 5 (by kernel_rfl) rfl) w (up_run (hvp13.on hb) Hp.out)) hK))) ?_
    refine all_cons (.inr (mStep _ 44 rfl rfl rfl rfl (by kernel_rfl) (fun a hv => (wanted_is (j := 18) (b := true) (c := true) rfl rfl rfl (hv 39 (by kernel_rfl) rfl)).trans rfl) (fun a w K hb hv hK => mCall (hashVal kp) 12 _ _ rfl [numVal p] (cons_eq (hv 43 (by kernel_rfl) rfl) (rfl)) (enters Tryd.func12 rfl rfl) (CBP.out w) hK))) ?_
    refine all_cons (.inr (mStep _ 45 rfl rfl rfl rfl (by kernel_rfl) (fun a hv => (wanted_is (j := 18) (b := true) (c := true) rfl rfl rfl (hv 39 (by kernel_rfl) rfl)).trans rfl) (fun a w K hb hv hK => mPure (numVal q) (exec_load _ _ _ _ rfl _ _ (hv 7 (by kernel_rfl) rfl) w (up_run (hvq13.on hb) Hq.out)) hK))) ?_
    refine all_cons (.inr (mStep _ 46 rfl rfl rfl rfl (by kernel_rfl) (fun a hv => (wanted_is (j := 18) (b := true) (c := true) rfl rfl rfl (hv 39 (by kernel_rfl) rfl)).trans rfl) (fun a w K hb hv hK => mCall (hashVal kq) 12 _ _ rfl [numVal q] (cons_eq (hv 45 (by kernel_rfl) rfl) (rfl)) (enters Tryd.func12 rfl rfl) (CBQ.out w) hK))) ?_
    refine all_cons (.inr (mStep _ 47 rfl rfl rfl rfl (by kernel_rfl) (fun a hv => (wanted_is (j := 18) (b := true) (c := true) rfl rfl rfl (hv 39 (by kernel_rfl) rfl)).trans rfl) (fun a w K hb hv hK => mPure (.bool c) (exec_bin _ _ _ _ _ _ _ rfl (hashVal kp) (hashVal kq) _ (hv 44 (by kernel_rfl) rfl) (hv 46 (by kernel_rfl) rfl) w ((fun w => key_guard _ _ _ _ _ w) w) ((EPQ) w)) hK))) ?_
    refine all_cons (.inr (mStep _ 48 rfl rfl rfl rfl (by kernel_rfl) (fun a hv => (wanted_is (j := 18) (b := true) (c := true) rfl rfl rfl (hv 39 (by kernel_rfl) rfl)).trans rfl) (fun a w K hb hv hK => mPure (.bool true) (exec_bin _ _ _ _ _ _ _ rfl (.bool c) (.bool c) _ (hv 42 (by kernel_rfl) rfl) (hv 47 (by kernel_rfl) rfl) w ((fun w => by kernel_rfl) w) ((fun w => bool_self12 c w) w)) hK))) ?_
    refine all_cons (.inr (mStep _ 49 rfl rfl rfl rfl (by kernel_rfl) (fun a hv => wanted_all rfl _) (fun a w K hb hv hK => mPure (.bool true) (pick_true _ _ _ _ _ rfl (hv 39 (by kernel_rfl) rfl) (.bool true) (hv 48 (by kernel_rfl) rfl) w) hK))) ?_
    refine all_cons (.inr (mStep _ 50 rfl rfl rfl rfl (by kernel_rfl) (fun a hv => wanted_all rfl _) (fun a w K hb hv hK => mPure (.bool true) (exec_move _ _ _ (.inl rfl) _ (hv 49 (by kernel_rfl) rfl) w) hK))) ?_
    refine all_cons (.inr (mStep _ 51 rfl rfl rfl rfl (by kernel_rfl) (fun a hv => (wanted_is (j := 29) (b := true) (c := true) rfl rfl rfl (hv 50 (by kernel_rfl) rfl)).trans rfl) (fun a w K hb hv hK => mPure (numVal p) (exec_load _ _ _ _ rfl _ _ (hv 5 (by kernel_rfl) rfl) w (up_run (hvp13.on hb) Hp.out)) hK))) ?_
    refine all_cons (.inr (mStep _ 52 rfl rfl rfl rfl (by kernel_rfl) (fun a hv => (wanted_is (j := 29) (b := true) (c := true) rfl rfl rfl (hv 50 (by kernel_rfl) rfl)).trans rfl) (fun a w K hb hv hK => mPure (numVal p) (exec_load _ _ _ _ rfl _ _ (hv 5 (by kernel_rfl) rfl) w (up_run (hvp13.on hb) Hp.out)) hK))) ?_
    refine all_cons (.inr (mStep _ 53 rfl rfl rfl rfl (by kernel_rfl) (fun a hv => (wanted_is (j := 29) (b := true) (c := true) rfl rfl rfl (hv 50 (by kernel_rfl) rfl)).trans rfl) (fun a w K hb hv hK => mCall (numVal n) 14 _ _ rfl [numVal p] (cons_eq (hv 52 (by kernel_rfl) rfl) (rfl)) (enters Tryd.func14 rfl rfl) (CN.out w) hK))) ?_
    refine all_cons (.inr (mStep _ 54 rfl rfl rfl rfl (by kernel_rfl) (fun a hv => (wanted_is (j := 29) (b := true) (c := true) rfl rfl rfl (hv 50 (by kernel_rfl) rfl)).trans rfl) (fun a w K hb hv hK => mCall (numVal z1) 17 _ _ rfl [numVal p, numVal n] (cons_eq (hv 51 (by kernel_rfl) rfl) (cons_eq (hv 53 (by kernel_rfl) rfl) (rfl))) (enters Tryd.func17 rfl rfl) (CA2.out w (hS.below (below_then hBq hb))) hK))) ?_
    refine all_cons (.inr (mStep _ 55 rfl rfl rfl rfl (by kernel_rfl) (fun a hv => (wanted_is (j := 29) (b := true) (c := true) rfl rfl rfl (hv 50 (by kernel_rfl) rfl)).trans rfl) (fun a w K hb hv hK => mCall (numVal z) 20 _ _ rfl [] (rfl) (enters Tryd.func20 rfl rfl) (CZ.out w) hK))) ?_
    refine all_cons (.inr (mStep _ 56 rfl rfl rfl rfl (by kernel_rfl) (fun a hv => (wanted_is (j := 29) (b := true) (c := true) rfl rfl rfl (hv 50 (by kernel_rfl) rfl)).trans rfl) (fun a w K hb hv hK => mCall (.bool true) 15 _ _ rfl [numVal z1, numVal z] (cons_eq (hv 54 (by kernel_rfl) rfl) (cons_eq (hv 55 (by kernel_rfl) rfl) (rfl))) (enters Tryd.func15 rfl rfl) (CSZ.out w) hK))) ?_
    refine all_cons (.inr (mStep _ 57 rfl rfl rfl rfl (by kernel_rfl) (fun a hv => wanted_all rfl _) (fun a w K hb hv hK => mPure (.bool true) (pick_true _ _ _ _ _ rfl (hv 50 (by kernel_rfl) rfl) (.bool true) (hv 56 (by kernel_rfl) rfl) w) hK))) ?_
    refine all_cons (.inr (mStep _ 4 rfl rfl rfl rfl (by kernel_rfl) (fun a hv => wanted_all rfl _) (fun a w K hb hv hK => mPure (.bool true) (exec_move _ _ _ (.inr rfl) _ (hv 57 (by kernel_rfl) rfl) w) hK))) ?_
    exact all_nil
  intro w14 g hb14 hN14 hap14
  clear hN14 hap14
  have hB14 := below_then (show Below w.heap.size w w13.drew from hB13.drew) hb14
  have hva14 := hva13.on hb14
  have hvb14 := hvb13.on hb14
  have hvp14 := hvp13.on hb14
  have hvv14 := hvv13.on hb14
  have hvq14 := hvq13.on hb14
  have hvu14 := hvu13.on hb14
  clear hB13 hva13 hvb13 hvp13 hvv13 hvq13 hvu13 hb14 hBq
  refine ⟨by kernel_rfl, ?_⟩
  rename_i K hKK
  show Exit.then K _ Exit.normal (⟨(sumsVs5 ka kb w.heap.size gb gp gv gq gu p v q u s ks t n kn m c kp kq z1 z).toArray, []⟩ : Act) w14
  simp only [Exit.then]
  refine hKK _ _ ?_
  clear hKK K g
  simp only [sumsVs5]
  go_wp2
  go_ret
  exact ⟨rfl, hB14⟩
end Go.Proofs.YtagjbdhelfickaaDoor
