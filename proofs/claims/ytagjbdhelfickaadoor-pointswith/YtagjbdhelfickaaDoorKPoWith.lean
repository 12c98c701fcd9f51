/- The walk of the law PointsWith. (Made by tools/mkpts.py.) -/
import Derived.Test.YtagjbdhelfickaaDoorPart13
import Derived.Test.YtagjbdhelfickaaDoorPart14
import Derived.Deep.Cut
import Derived.IntWalk
import Derived.Test.YtagjbdhelfickaaDoorPart18
import Derived.Test.YtagjbdhelfickaaDoorPart10
import Derived.Test.YtagjbdhelfickaaDoorPart1
namespace Go.Proofs.YtagjbdhelfickaaDoor
open Go.RowKit
def lwithVs5 (ka : List UInt8) (kh : List UInt8) (ks : List UInt8) (g_base : Nat) (gb : Nat) (gc : Nat) (gp : Nat) (gv : Nat) (gs : Nat) (p : List Nat) (v : List Nat) (s : List Nat) (kk : List UInt8) (t : List Nat) (m1 : List Nat) (bs : List Nat) (m2 : List Nat) (ad : List Nat) : List Value :=
  (hashVal ka) :: (hashVal kh) :: (hashVal ks) :: (.pointer (some ⟨g_base, 0, none⟩)) :: (.pointer (some ⟨gb, 0, none⟩)) :: (.pointer (some ⟨gc, 0, none⟩)) :: (.bool true) :: (.pointer (some ⟨gp, 0, none⟩)) :: (.pointer (some ⟨gv, 0, none⟩)) :: (.pointer (some ⟨gs, 0, none⟩)) :: (.bool true) :: (.bool false) :: (.tuple #[numVal p, numD v]) :: (hashVal ka) :: (.tuple #[numVal p, numD v]) :: (numVal p) :: (numD v) :: (numVal p) :: (hashVal kh) :: (hashVal ks) :: (numVal s) :: (numVal s) :: (hashVal kk) :: (numD v) :: (hashVal kh) :: (hashVal ks) :: (numD t) :: (hashVal kk) :: (.bool true) :: (.bool true) :: (numVal s) :: (numVal p) :: (hashVal kh) :: (numVal m1) :: (numVal bs) :: (hashVal ks) :: (numVal m2) :: (numVal ad) :: (.bool true) :: (.bool true) :: []
set_option maxRecDepth 100000 in
set_option maxHeartbeats 4000000 in
theorem ptWith_over (p v s t m1 bs m2 ad : List Nat) (ka kh ks kk : List UInt8) (E : Value) (w : World)
    (Hp : Hid (p.length = 15))
    (Hs : Hid (s.length = 15))
    (Hka : Hid (ka.length = 32))
    (Hkh : Hid (kh.length = 32))
    (Hks : Hid (ks.length = 32))
    (Hv : Hid (v.length = 24))
    (CAL : Hid (∀ W, TabsU E W → Calls Tryd.prog 8 #[] W fun e w' => e = .returned (.bool true) ∧ Below W.heap.size W w'))
    (CSA : Hid (∀ W, TabsU E W → Calls Tryd.prog 16 #[hashVal ka] W fun e w' => e = .returned (.tuple #[numVal p, numD v]) ∧ Below W.heap.size W w'))
    (CW : Hid (∀ W, TabsU E W → Calls Tryd.prog 23 #[numVal p, hashVal kh, hashVal ks] W fun e w' => e = .returned (numVal s) ∧ Below W.heap.size W w'))
    (CBS : Hid (∀ W, Calls Tryd.prog 12 #[numVal s] W fun e w' => e = .returned (hashVal kk) ∧ Below W.heap.size W w'))
    (CRW : Hid (∀ W, Calls Tryd.prog 24 #[numD v, hashVal kh, hashVal ks] W fun e w' => e = .returned (numD t) ∧ Below W.heap.size W w'))
    (CDT : Hid (∀ W, Calls Tryd.prog 13 #[numD t] W fun e w' => e = .returned (hashVal kk) ∧ Below W.heap.size W w'))
    (CT1 : Hid (∀ W, TabsU E W → Calls Tryd.prog 21 #[numVal p, hashVal kh] W fun e w' => e = .returned (numVal m1) ∧ Below W.heap.size W w'))
    (CB : Hid (∀ W, TabsU E W → Calls Tryd.prog 25 #[] W fun e w' => e = .returned (numVal bs) ∧ Below W.heap.size W w'))
    (CT2 : Hid (∀ W, TabsU E W → Calls Tryd.prog 21 #[numVal bs, hashVal ks] W fun e w' => e = .returned (numVal m2) ∧ Below W.heap.size W w'))
    (CA : Hid (∀ W, TabsU E W → Calls Tryd.prog 17 #[numVal m1, numVal m2] W fun e w' => e = .returned (numVal ad) ∧ Below W.heap.size W w'))
    (CS : Hid (∀ W, Calls Tryd.prog 15 #[numVal s, numVal ad] W fun e w' => e = .returned (.bool true) ∧ Below W.heap.size W w'))
    (EQS : ∀ w, (binOp .eql 23 (hashVal kk) (hashVal kk)).run Tryd.prog w = .ok (.bool true) w)
    (hS : TabsU E w) :
    Calls Tryd.prog 6 #[hashVal ka, hashVal kh, hashVal ks] w fun e w' => e = .returned (.bool true) ∧ Below w.heap.size w w' := by
  go_enter Tryd.func6, Tryd.ntmps6
  go_wp2_with (first
    | (refine take_step rfl 23 (.tmp 0) rfl ka rfl ?_
       intro w1 hb1 hva1 hz
       clear hz
       have hB1 := hb1
       have hgea : w.heap.size ≤ w.heap.size := Nat.le_refl _
       clear  hb1
       try simp only [Act.put, List.setIfInBounds_toArray, List.set_cons_zero, List.set_cons_succ]
       skip)
    | (refine take_step rfl 23 (.tmp 1) rfl kh rfl ?_
       intro w2 hb2 hvb2 hz
       clear hz
       have hB2 := below_then hB1 hb2
       have hgeb : w.heap.size ≤ w1.heap.size := hB1.size
       have hva2 := hva1.on hb2
       have hneab := Nat.ne_of_lt hva1.lt
       clear hB1 hva1 hb2
       try simp only [Act.put, List.setIfInBounds_toArray, List.set_cons_zero, List.set_cons_succ]
       skip)
    | (refine take_step rfl 23 (.tmp 2) rfl ks rfl ?_
       intro w3 hb3 hvc3 hz
       clear hz
       have hB3 := below_then hB2 hb3
       have hgec : w.heap.size ≤ w2.heap.size := hB2.size
       have hva3 := hva2.on hb3
       have hneac := Nat.ne_of_lt hva2.lt
       have hvb3 := hvb2.on hb3
       have hnebc := Nat.ne_of_lt hvb2.lt
       clear hB2 hva2 hvb2 hb3
       try simp only [Act.put, List.setIfInBounds_toArray, List.set_cons_zero, List.set_cons_succ]
       skip))
  generalize hqb : w1.heap.size = gb at *
  clear hqb
  generalize hqc : w2.heap.size = gc at *
  clear hqc
  refine (CAL.out w3 (hS.below hB3)).mono ?_
  rintro e w4 ⟨rfl, hb4⟩
  have hB4 := below_then hB3 hb4
  have hva4 := hva3.on hb4
  have hvb4 := hvb3.on hb4
  have hvc4 := hvc3.on hb4
  clear hB3 hva3 hvb3 hvc3 hb4
  go_wp2_with (first
    | (refine get_step rfl 23 (.tmp 3) rfl w.heap.size 32 ka 5 rfl hva4 Tryd.underlying23 size_k32 Hka.out ?_
       try simp only [Act.put, List.setIfInBounds_toArray, List.set_cons_zero, List.set_cons_succ]
       skip))
  refine (CSA.out w4 (hS.below hB4)).mono ?_
  rintro e w5 ⟨rfl, hb5⟩
  have hB5 := below_then hB4 hb5
  have hva5 := hva4.on hb5
  have hvb5 := hvb4.on hb5
  have hvc5 := hvc4.on hb5
  clear hB4 hva4 hvb4 hvc4 hb5
  go_wp2_with (first
    | (refine vzero_step (o := ⟨some 7, _, _, _, _, _⟩) rfl 31 rfl (nzeros 15) zero_up ?_
       intro w6 hb6 hvp6
       have hB6 := below_then hB5 hb6
       have hgep : w.heap.size ≤ w5.heap.size := hB5.size
       have hva6 := hva5.on hb6
       have hneap := Nat.ne_of_lt hva5.lt
       have hvb6 := hvb5.on hb6
       have hnebp := Nat.ne_of_lt hvb5.lt
       have hvc6 := hvc5.on hb6
       have hnecp := Nat.ne_of_lt hvc5.lt
       clear hB5 hva5 hvb5 hvc5 hb6
       try simp only [Act.put, List.setIfInBounds_toArray, List.set_cons_zero, List.set_cons_succ]
       skip)
    | (refine vzero_step (o := ⟨some 8, _, _, _, _, _⟩) rfl 40 rfl (dzeros 24) zero_tri ?_
       intro w7 hb7 hvv7
       have hB7 := below_then hB6 hb7
       have hgev : w.heap.size ≤ w6.heap.size := hB6.size
       have hva7 := hva6.on hb7
       have hneav := Nat.ne_of_lt hva6.lt
       have hvb7 := hvb6.on hb7
       have hnebv := Nat.ne_of_lt hvb6.lt
       have hvc7 := hvc6.on hb7
       have hnecv := Nat.ne_of_lt hvc6.lt
       have hvp7 := hvp6.on hb7
       have hnepv := Nat.ne_of_lt hvp6.lt
       clear hB6 hva6 hvb6 hvc6 hvp6 hb7
       try simp only [Act.put, List.setIfInBounds_toArray, List.set_cons_zero, List.set_cons_succ]
       skip)
    | (refine vset_step rfl 31 (.tmp 7) (.tmp 15) rfl w5.heap.size 15 (nzeros 15) (p.map ncell) rfl rfl hvp7 rfl size_up (by rw [List.length_map, Hp.out]) (ncells_one _) ?_
       intro w8 hb8 hvp8 hz8
       have hB8 : Below w.heap.size w w8 := hB7.trans (hb8.below hgep hB7.size)
       have hva8 := hva7.but hb8 hneap
       have hvb8 := hvb7.but hb8 hnebp
       have hvc8 := hvc7.but hb8 hnecp
       have hvv8 := hvv7.but hb8 (Ne.symm hnepv)
       clear hB7 hvp7 hb8 hz8 hva7 hvb7 hvc7 hvv7
       skip)
    | (refine vset_step rfl 40 (.tmp 8) (.tmp 16) rfl w6.heap.size 24 (dzeros 24) (v.map dcell) rfl rfl hvv8 rfl size_tri (by rw [List.length_map, Hv.out]) (dcells_one _) ?_
       intro w9 hb9 hvv9 hz9
       have hB9 : Below w.heap.size w w9 := hB8.trans (hb9.below hgev hB8.size)
       have hva9 := hva8.but hb9 hneav
       have hvb9 := hvb8.but hb9 hnebv
       have hvc9 := hvc8.but hb9 hnecv
       have hvp9 := hvp8.but hb9 hnepv
       clear hB8 hvv8 hb9 hz9 hva8 hvb8 hvc8 hvp8
       skip)
    | (refine sget_step rfl 31 (.tmp 7) rfl w5.heap.size 15 (p.map ncell) rfl hvp9 Tryd.underlying31 rfl size_up (by rw [List.length_map, Hp.out]) ?_
       try simp only [Act.put, List.setIfInBounds_toArray, List.set_cons_zero, List.set_cons_succ]
       skip)
    | (refine get_step rfl 23 (.tmp 4) rfl gb 32 kh 5 rfl hvb9 Tryd.underlying23 size_k32 Hkh.out ?_
       try simp only [Act.put, List.setIfInBounds_toArray, List.set_cons_zero, List.set_cons_succ]
       skip)
    | (refine get_step rfl 23 (.tmp 5) rfl gc 32 ks 5 rfl hvc9 Tryd.underlying23 size_k32 Hks.out ?_
       try simp only [Act.put, List.setIfInBounds_toArray, List.set_cons_zero, List.set_cons_succ]
       skip))
  generalize hqp : w5.heap.size = gp at *
  clear hqp
  generalize hqv : w6.heap.size = gv at *
  clear hqv
  refine (CW.out w9 (hS.below hB9)).mono ?_
  rintro e w10 ⟨rfl, hb10⟩
  have hB10 := below_then hB9 hb10
  have hva10 := hva9.on hb10
  have hvb10 := hvb9.on hb10
  have hvc10 := hvc9.on hb10
  have hvp10 := hvp9.on hb10
  have hvv10 := hvv9.on hb10
  clear hB9 hva9 hvb9 hvc9 hvp9 hvv9 hb10
  go_wp2_with (first
    | (refine vput_step rfl rfl 31 (.tmp 9) (.tmp 20) rfl rfl 15 (nzeros 15) (s.map ncell) rfl rfl zero_up rfl size_up (by rw [List.length_map, Hs.out]) (ncells_one _) ?_
       intro w11 hb11 hvs11
       have hB11 := below_then hB10 hb11
       have hges : w.heap.size ≤ w10.heap.size := hB10.size
       have hva11 := hva10.on hb11
       have hneas := Nat.ne_of_lt hva10.lt
       have hvb11 := hvb10.on hb11
       have hnebs := Nat.ne_of_lt hvb10.lt
       have hvc11 := hvc10.on hb11
       have hnecs := Nat.ne_of_lt hvc10.lt
       have hvp11 := hvp10.on hb11
       have hneps := Nat.ne_of_lt hvp10.lt
       have hvv11 := hvv10.on hb11
       have hnevs := Nat.ne_of_lt hvv10.lt
       clear hB10 hva10 hvb10 hvc10 hvp10 hvv10 hb11
       try simp only [Act.put, List.setIfInBounds_toArray, List.set_cons_zero, List.set_cons_succ]
       skip))
  generalize hqs : w10.heap.size = gs at *
  clear hqs
  replace hva11 := hva11.drew
  replace hvb11 := hvb11.drew
  replace hvc11 := hvc11.drew
  replace hvp11 := hvp11.drew
  replace hvv11 := hvv11.drew
  replace hvs11 := hvs11.drew
  have hBq := (show Below w.heap.size w w11.drew from hB11.drew)
  refine wp_region_any (by kernel_rfl) ?_
  refine wpAny_flatM (L := [0, 1, 2, 3, 4, 5, 6, 7, 8, 9, 10, 11, 12, 13, 14, 15, 16, 17, 18, 19]) (by kernel_rfl) _ _ (lwithVs5 ka kh ks w.heap.size gb gc gp gv gs p v s kk t m1 bs m2 ad) [] 23 kzeros [0, 1, 2, 3, 4, 5, 7, 8, 9, 10, 11, 12, 13, 14, 15, 16, 17, 18, 19, 20] (by kernel_rfl) (by kernel_rfl) ?_ zero_k32 ?_ (by rfl) ?_ 0 (by kernel_rfl) ?_
  · intro p hp
    exact absurd hp List.not_mem_nil
  · exact all_cons rfl (all_cons rfl (all_cons rfl (all_cons rfl (all_cons rfl (all_cons rfl (all_cons rfl (all_cons rfl (all_cons rfl (all_cons rfl (all_cons rfl (all_cons rfl (all_cons rfl (all_cons rfl (all_cons rfl (all_cons rfl (all_cons rfl (all_cons rfl (all_cons rfl (all_cons rfl (all_nil))))))))))))))))))))
  · refine all_cons (.inr (mStep _ 21 rfl rfl rfl rfl (by kernel_rfl) (fun a hv => wanted_all rfl _) (fun a w K hb hv hK => mPure (numVal s) (exec_load _ _ _ _ rfl _ _ (hv 9 (by kernel_rfl) rfl) w (up_run (hvs11.on hb) Hs.out)) hK))) ?_
    refine all_cons (.inr (mStep _ 22 rfl rfl rfl rfl (by kernel_rfl) (fun a hv => wanted_all rfl _) (fun a w K hb hv hK => mCall (hashVal kk) 12 _ _ rfl [numVal s] (cons_eq (hv 21 (by kernel_rfl) rfl) (rfl)) (enters Tryd.func12 rfl rfl) (CBS.out w) hK))) ?_
    refine all_cons (.inr (mStep _ 23 rfl rfl rfl rfl (by kernel_rfl) (fun a hv => wanted_all rfl _) (fun a w K hb hv hK => mPure (numD v) (exec_load _ _ _ _ rfl _ _ (hv 8 (by kernel_rfl) rfl) w (tri_run (hvv11.on hb) Hv.out)) hK))) ?_
    refine all_cons (.inr (mStep _ 24 rfl rfl rfl rfl (by kernel_rfl) (fun a hv => wanted_all rfl _) (fun a w K hb hv hK => mPure (hashVal kh) (exec_load _ _ _ _ rfl _ _ (hv 4 (by kernel_rfl) rfl) w (key_run (hvb11.on hb) Hkh.out)) hK))) ?_
    refine all_cons (.inr (mStep _ 25 rfl rfl rfl rfl (by kernel_rfl) (fun a hv => wanted_all rfl _) (fun a w K hb hv hK => mPure (hashVal ks) (exec_load _ _ _ _ rfl _ _ (hv 5 (by kernel_rfl) rfl) w (key_run (hvc11.on hb) Hks.out)) hK))) ?_
    refine all_cons (.inr (mStep _ 26 rfl rfl rfl rfl (by kernel_rfl) (fun a hv => wanted_all rfl _) (fun a w K hb hv hK => mCall (numD t) 24 _ _ rfl [numD v, hashVal kh, hashVal ks] (cons_eq (hv 23 (by kernel_rfl) rfl) (cons_eq (hv 24 (by kernel_rfl) rfl) (cons_eq (hv 25 (by kernel_rfl) rfl) (rfl)))) (enters Tryd.func24 rfl rfl) (CRW.out w) hK))) ?_
    refine all_cons (.inr (mStep _ 27 rfl rfl rfl rfl (by kernel_rfl) (fun a hv => wanted_all rfl _) (fun a w K hb hv hK => mCall (hashVal kk) 13 _ _ rfl [numD t] (cons_eq (hv 26 (by kernel_rfl) rfl) (rfl)) (enters Tryd.func13 rfl rfl) (CDT.out w) hK))) ?_
    refine all_cons (.inr (mStep _ 28 rfl rfl rfl rfl (by kernel_rfl) (fun a hv => wanted_all rfl _) (fun a w K hb hv hK => mPure (.bool true) (exec_bin _ _ _ _ _ _ _ rfl (hashVal kk) (hashVal kk) _ (hv 22 (by kernel_rfl) rfl) (hv 27 (by kernel_rfl) rfl) w ((fun w => key_guard _ _ _ _ _ w) w) ((EQS) w)) hK))) ?_
    refine all_cons (.inr (mStep _ 29 rfl rfl rfl rfl (by kernel_rfl) (fun a hv => wanted_all rfl _) (fun a w K hb hv hK => mPure (.bool true) (exec_move _ _ _ (.inl rfl) _ (hv 28 (by kernel_rfl) rfl) w) hK))) ?_
    refine all_cons (.inr (mStep _ 30 rfl rfl rfl rfl (by kernel_rfl) (fun a hv => (wanted_is (j := 8) (b := true) (c := true) rfl rfl rfl (hv 29 (by kernel_rfl) rfl)).trans rfl) (fun a w K hb hv hK => mPure (numVal s) (exec_load _ _ _ _ rfl _ _ (hv 9 (by kernel_rfl) rfl) w (up_run (hvs11.on hb) Hs.out)) hK))) ?_
    refine all_cons (.inr (mStep _ 31 rfl rfl rfl rfl (by kernel_rfl) (fun a hv => (wanted_is (j := 8) (b := true) (c := true) rfl rfl rfl (hv 29 (by kernel_rfl) rfl)).trans rfl) (fun a w K hb hv hK => mPure (numVal p) (exec_load _ _ _ _ rfl _ _ (hv 7 (by kernel_rfl) rfl) w (up_run (hvp11.on hb) Hp.out)) hK))) ?_
    refine all_cons (.inr (mStep _ 32 rfl rfl rfl rfl (by kernel_rfl) (fun a hv => (wanted_is (j := 8) (b := true) (c := true) rfl rfl rfl (hv 29 (by kernel_rfl) rfl)).trans rfl) (fun a w K hb hv hK => mPure (hashVal kh) (exec_load _ _ _ _ rfl _ _ (hv 4 (by kernel_rfl) rfl) w (key_run (hvb11.on hb) Hkh.out)) hK))) ?_
    refine all_cons (.inr (mStep _ 33 rfl rfl rfl rfl (by kernel_rfl) (fun a hv => (wanted_is (j := 8) (b := true) (c := true) rfl rfl rfl (hv 29 (by kernel_rfl) rfl)).trans rfl) (fun a w K hb hv hK => mCall (numVal m1) 21 _ _ rfl [numVal p, hashVal kh] (cons_eq (hv 31 (by kernel_rfl) rfl) (cons_eq (hv 32 (by kernel_rfl) rfl) (rfl))) (enters Tryd.func21 rfl rfl) (CT1.out w (hS.below (below_then hBq hb))) hK))) ?_
    refine all_cons (.inr (mStep _ 34 rfl rfl rfl rfl (by kernel_rfl) (fun a hv => (wanted_is (j := 8) (b := true) (c := true) rfl rfl rfl (hv 29 (by kernel_rfl) rfl)).trans rfl) (fun a w K hb hv hK => mCall (numVal bs) 25 _ _ rfl [] (rfl) (enters Tryd.func25 rfl rfl) (CB.out w (hS.below (below_then hBq hb))) hK))) ?_
    refine all_cons (.inr (mStep _ 35 rfl rfl rfl rfl (by kernel_rfl) (fun a hv => (wanted_is (j := 8) (b := true) (c := true) rfl rfl rfl (hv 29 (by kernel_rfl) rfl)).trans rfl) (fun a w K hb hv hK => mPure (hashVal ks) (exec_load _ _ _ _ rfl _ _ (hv 5 (by kernel_rfl) rfl) w (key_run (hvc11.on hb) Hks.out)) hK))) ?_
    refine all_cons (.inr (mStep _ 36 rfl rfl rfl rfl (by kernel_rfl) (fun a hv => (wanted_is (j := 8) (b := true) (c := true) rfl rfl rfl (hv 29 (by kernel_rfl) rfl)).trans rfl) (fun a w K hb hv hK => mCall (numVal m2) 21 _ _ rfl [numVal bs, hashVal ks] (cons_eq (hv 34 (by kernel_rfl) rfl) (cons_eq (hv 35 (by kernel_rfl) rfl) (rfl))) (enters Tryd.func21 rfl rfl) (CT2.out w (hS.below (below_then hBq hb))) hK))) ?_
    refine all_cons (.inr (mStep _ 37 rfl rfl rfl rfl (by kernel_rfl) (fun a hv => (wanted_is (j := 8) (b := true) (c := true) rfl rfl rfl (hv 29 (by kernel_rfl) rfl)).trans rfl) (fun a w K hb hv hK => mCall (numVal ad) 17 _ _ rfl [numVal m1, numVal m2] (cons_eq (hv 33 (by kernel_rfl) rfl) (cons_eq (hv 36 (by kernel_rfl) rfl) (rfl))) (enters Tryd.func17 rfl rfl) (CA.out w (hS.below (below_then hBq hb))) hK))) ?_
    refine all_cons (.inr (mStep _ 38 rfl rfl rfl rfl (by kernel_rfl) (fun a hv => (wanted_is (j := 8) (b := true) (c := true) rfl rfl rfl (hv 29 (by kernel_rfl) rfl)).trans rfl) (fun a w K hb hv hK => mCall (.bool true) 15 _ _ rfl [numVal s, numVal ad] (cons_eq (hv 30 (by kernel_rfl) rfl) (cons_eq (hv 37 (by kernel_rfl) rfl) (rfl))) (enters Tryd.func15 rfl rfl) (CS.out w) hK))) ?_
    refine all_cons (.inr (mStep _ 39 rfl rfl rfl rfl (by kernel_rfl) (fun a hv => wanted_all rfl _) (fun a w K hb hv hK => mPure (.bool true) (pick_true _ _ _ _ _ rfl (hv 29 (by kernel_rfl) rfl) (.bool true) (hv 38 (by kernel_rfl) rfl) w) hK))) ?_
    refine all_cons (.inr (mStep _ 6 rfl rfl rfl rfl (by kernel_rfl) (fun a hv => wanted_all rfl _) (fun a w K hb hv hK => mPure (.bool true) (exec_move _ _ _ (.inr rfl) _ (hv 39 (by kernel_rfl) rfl) w) hK))) ?_
    exact all_nil
  intro w12 g hb12 hN12 hap12
  clear hN12 hap12
  have hB12 := below_then (show Below w.heap.size w w11.drew from hB11.drew) hb12
  have hva12 := hva11.on hb12
  have hvb12 := hvb11.on hb12
  have hvc12 := hvc11.on hb12
  have hvp12 := hvp11.on hb12
  have hvv12 := hvv11.on hb12
  have hvs12 := hvs11.on hb12
  clear hB11 hva11 hvb11 hvc11 hvp11 hvv11 hvs11 hb12 hBq
  refine ⟨by kernel_rfl, ?_⟩
  rename_i K hKK
  show Exit.then K _ Exit.normal (⟨(lwithVs5 ka kh ks w.heap.size gb gc gp gv gs p v s kk t m1 bs m2 ad).toArray, []⟩ : Act) w12
  simp only [Exit.then]
  refine hKK _ _ ?_
  clear hKK K g
  simp only [lwithVs5]
  go_wp2
  go_ret
  exact ⟨rfl, hB12⟩
end Go.Proofs.YtagjbdhelfickaaDoor
