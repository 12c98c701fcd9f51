/- The walk of the law ScalarSums. (Made by tools/mkscalar.py.) -/
import Derived.Test.YticgkabamelddaaDoorPart10
import Derived.Test.YticgkabamelddaaDoorPart8
import Derived.Test.YticgkabamelddaaDoorPart9
import Derived.Deep.Cut
namespace Go.Proofs.YticgkabamelddaaDoor
open Go.RowKit
def ssVs3 (ka : List UInt8) (kb : List UInt8) (g_base : Nat) (gb : Nat) (sa : List UInt8) (ta : List UInt8) (na : List UInt8) : List Value :=
  (hashVal ka) :: (hashVal kb) :: (.pointer (some ⟨g_base, 0, none⟩)) :: (.pointer (some ⟨gb, 0, none⟩)) :: (.bool true) :: (.bool true) :: (.bool false) :: (hashVal ka) :: (hashVal kb) :: (hashVal sa) :: (hashVal ka) :: (hashVal kb) :: (hashVal sa) :: (.bool true) :: (.bool true) :: (hashVal ka) :: (hashVal kb) :: (hashVal ta) :: (hashVal ka) :: (hashVal kb) :: (hashVal ta) :: (.bool true) :: (.bool true) :: (.bool true) :: (hashVal ka) :: (hashVal na) :: (hashVal ka) :: (hashVal na) :: (.bool true) :: (.bool true) :: []
set_option maxRecDepth 100000 in
set_option maxHeartbeats 4000000 in
theorem scSums_over (ka kb sa ta na : List UInt8) (w : World)
    (Hka : Hid (ka.length = 32))
    (Hkb : Hid (kb.length = 32))
    (CAL : Hid (∀ W, TabsS W → Calls Tryd.prog 6 #[] W fun e w' => e = .returned (.bool true) ∧ Below W.heap.size W w'))
    (CA : Hid (∀ W, TabsS W → Calls Tryd.prog 11 #[hashVal ka, hashVal kb] W fun e w' => e = .returned (hashVal sa) ∧ Below W.heap.size W w'))
    (CRA : Hid (∀ W, Calls Tryd.prog 12 #[hashVal ka, hashVal kb] W fun e w' => e = .returned (hashVal sa) ∧ Below W.heap.size W w'))
    (CT : Hid (∀ W, TabsS W → Calls Tryd.prog 13 #[hashVal ka, hashVal kb] W fun e w' => e = .returned (hashVal ta) ∧ Below W.heap.size W w'))
    (CRT : Hid (∀ W, Calls Tryd.prog 14 #[hashVal ka, hashVal kb] W fun e w' => e = .returned (hashVal ta) ∧ Below W.heap.size W w'))
    (CN : Hid (∀ W, TabsS W → Calls Tryd.prog 15 #[hashVal ka] W fun e w' => e = .returned (hashVal na) ∧ Below W.heap.size W w'))
    (CRN : Hid (∀ W, Calls Tryd.prog 16 #[hashVal ka] W fun e w' => e = .returned (hashVal na) ∧ Below W.heap.size W w'))
    (ES : ∀ w, (binOp .eql 25 (hashVal sa) (hashVal sa)).run Tryd.prog w = .ok (.bool true) w)
    (ET : ∀ w, (binOp .eql 25 (hashVal ta) (hashVal ta)).run Tryd.prog w = .ok (.bool true) w)
    (EN : ∀ w, (binOp .eql 25 (hashVal na) (hashVal na)).run Tryd.prog w = .ok (.bool true) w)
    (hS : TabsS w) :
    Calls Tryd.prog 4 #[hashVal ka, hashVal kb] w fun e w' => e = .returned (.bool true) ∧ Below w.heap.size w w' := by
  go_enter Tryd.func4, Tryd.ntmps4
  go_wp2_with (first
    | (refine take_step rfl 25 (.tmp 0) rfl ka rfl ?_
       intro w1 hb1 hva1 hz
       clear hz
       have hB1 := hb1
       have hgea : w.heap.size ≤ w.heap.size := Nat.le_refl _
       clear  hb1
       try simp only [Act.put, List.setIfInBounds_toArray, List.set_cons_zero, List.set_cons_succ]
       skip)
    | (refine take_step rfl 25 (.tmp 1) rfl kb rfl ?_
       intro w2 hb2 hvb2 hz
       clear hz
       have hB2 := below_then hB1 hb2
       have hgeb : w.heap.size ≤ w1.heap.size := hB1.size
       have hva2 := hva1.on hb2
       have hneab := Nat.ne_of_lt hva1.lt
       clear hB1 hva1 hb2
       try simp only [Act.put, List.setIfInBounds_toArray, List.set_cons_zero, List.set_cons_succ]
       skip))
  generalize hqb : w1.heap.size = gb at *
  clear hqb
  refine (CAL.out w2 (hS.below hB2)).mono ?_
  rintro e w3 ⟨rfl, hb3⟩
  have hB3 := below_then hB2 hb3
  have hva3 := hva2.on hb3
  have hvb3 := hvb2.on hb3
  clear hB2 hva2 hvb2 hb3
  go_wp2_with fail
  replace hva3 := hva3.drew
  replace hvb3 := hvb3.drew
  have hBq := (show Below w.heap.size w w3.drew from hB3.drew)
  refine wp_region_any (by kernel_rfl) ?_
  refine wpAny_flatM (L := [0, 1, 2, 3, 4, 5, 6, 7, 8, 9, 10, 11, 12, 13, 14, 15, 16, 17, 18, 19, 20, 21, 22, 23]) (by kernel_rfl) _ _ (ssVs3 ka kb w.heap.size gb sa ta na) [] 25 kzeros [0, 1, 2, 3, 5, 6] (by kernel_rfl) (by kernel_rfl) ?_ zero_k32 ?_ (by rfl) ?_ 0 (by kernel_rfl) ?_
  · intro p hp
    exact absurd hp List.not_mem_nil
  · exact all_cons rfl (all_cons rfl (all_cons rfl (all_cons rfl (all_cons rfl (all_cons rfl (all_nil))))))
  · refine all_cons (.inr (mStep _ 7 rfl rfl rfl rfl (by kernel_rfl) (fun a hv => wanted_all rfl _) (fun a w K hb hv hK => mPure (hashVal ka) (exec_load _ _ _ _ rfl _ _ (hv 2 (by kernel_rfl) rfl) w (key_run (hva3.on hb) Hka.out)) hK))) ?_
    refine all_cons (.inr (mStep _ 8 rfl rfl rfl rfl (by kernel_rfl) (fun a hv => wanted_all rfl _) (fun a w K hb hv hK => mPure (hashVal kb) (exec_load _ _ _ _ rfl _ _ (hv 3 (by kernel_rfl) rfl) w (key_run (hvb3.on hb) Hkb.out)) hK))) ?_
    refine all_cons (.inr (mStep _ 9 rfl rfl rfl rfl (by kernel_rfl) (fun a hv => wanted_all rfl _) (fun a w K hb hv hK => mCall (hashVal sa) 11 _ _ rfl [hashVal ka, hashVal kb] (cons_eq (hv 7 (by kernel_rfl) rfl) (cons_eq (hv 8 (by kernel_rfl) rfl) (rfl))) (enters Tryd.func11 rfl rfl) (CA.out w (hS.below (below_then hBq hb))) hK))) ?_
    refine all_cons (.inr (mStep _ 10 rfl rfl rfl rfl (by kernel_rfl) (fun a hv => wanted_all rfl _) (fun a w K hb hv hK => mPure (hashVal ka) (exec_load _ _ _ _ rfl _ _ (hv 2 (by kernel_rfl) rfl) w (key_run (hva3.on hb) Hka.out)) hK))) ?_
    refine all_cons (.inr (mStep _ 11 rfl rfl rfl rfl (by kernel_rfl) (fun a hv => wanted_all rfl _) (fun a w K hb hv hK => mPure (hashVal kb) (exec_load _ _ _ _ rfl _ _ (hv 3 (by kernel_rfl) rfl) w (key_run (hvb3.on hb) Hkb.out)) hK))) ?_
    refine all_cons (.inr (mStep _ 12 rfl rfl rfl rfl (by kernel_rfl) (fun a hv => wanted_all rfl _) (fun a w K hb hv hK => mCall (hashVal sa) 12 _ _ rfl [hashVal ka, hashVal kb] (cons_eq (hv 10 (by kernel_rfl) rfl) (cons_eq (hv 11 (by kernel_rfl) rfl) (rfl))) (enters Tryd.func12 rfl rfl) (CRA.out w) hK))) ?_
    refine all_cons (.inr (mStep _ 13 rfl rfl rfl rfl (by kernel_rfl) (fun a hv => wanted_all rfl _) (fun a w K hb hv hK => mPure (.bool true) (exec_bin _ _ _ _ _ _ _ rfl (hashVal sa) (hashVal sa) _ (hv 9 (by kernel_rfl) rfl) (hv 12 (by kernel_rfl) rfl) w ((fun w => key_guard _ _ _ _ _ w) w) ((ES) w)) hK))) ?_
    refine all_cons (.inr (mStep _ 14 rfl rfl rfl rfl (by kernel_rfl) (fun a hv => wanted_all rfl _) (fun a w K hb hv hK => mPure (.bool true) (exec_move _ _ _ (.inl rfl) _ (hv 13 (by kernel_rfl) rfl) w) hK))) ?_
    refine all_cons (.inr (mStep _ 15 rfl rfl rfl rfl (by kernel_rfl) (fun a hv => (wanted_is (j := 7) (b := true) (c := true) rfl rfl rfl (hv 14 (by kernel_rfl) rfl)).trans rfl) (fun a w K hb hv hK => mPure (hashVal ka) (exec_load _ _ _ _ rfl _ _ (hv 2 (by kernel_rfl) rfl) w (key_run (hva3.on hb) Hka.out)) hK))) ?_
    refine all_cons (.inr (mStep _ 16 rfl rfl rfl rfl (by kernel_rfl) (fun a hv => (wanted_is (j := 7) (b := true) (c := true) rfl rfl rfl (hv 14 (by kernel_rfl) rfl)).trans rfl) (fun a w K hb hv hK => mPure (hashVal kb) (exec_load _ _ _ _ rfl _ _ (hv 3 (by kernel_rfl) rfl) w (key_run (hvb3.on hb) Hkb.out)) hK))) ?_
    refine all_cons (.inr (mStep _ 17 rfl rfl rfl rfl (by kernel_rfl) (fun a hv => (wanted_is (j := 7) (b := true) (c := true) rfl rfl rfl (hv 14 (by kernel_rfl) rfl)).trans rfl) (fun a w K hb hv hK => mCall (hashVal ta) 13 _ _ rfl [hashVal ka, hashVal kb] (cons_eq (hv 15 (by kernel_rfl) rfl) (cons_eq (hv 16 (by kernel_rfl) rfl) (rfl))) (enters Tryd.func13 rfl rfl) (CT.out w (hS.below (below_then hBq hb))) hK))) ?_
    refine all_cons (.inr (mStep _ 18 rfl rfl rfl rfl (by kernel_rfl) (fun a hv => (wanted_is (j := 7) (b := true) (c := true) rfl rfl rfl (hv 14 (by kernel_rfl) rfl)).trans rfl) (fun a w K hb hv hK => mPure (hashVal ka) (exec_load _ _ _ _ rfl _ _ (hv 2 (by kernel_rfl) rfl) w (key_run (hva3.on hb) Hka.out)) hK))) ?_
    refine all_cons (.inr (mStep _ 19 rfl rfl rfl rfl (by kernel_rfl) (fun a hv => (wanted_is (j := 7) (b := true) (c := true) rfl rfl rfl (hv 14 (by kernel_rfl) rfl)).trans rfl) (fun a w K hb hv hK => mPure (hashVal kb) (exec_load _ _ _ _ rfl _ _ (hv 3 (by kernel_rfl) rfl) w (key_run (hvb3.on hb) Hkb.out)) hK))) ?_
    refine all_cons (.inr (mStep _ 20 rfl rfl rfl rfl (by kernel_rfl) (fun a hv => (wanted_is (j := 7) (b := true) (c := true) rfl rfl rfl (hv 14 (by kernel_rfl) rfl)).trans rfl) (fun a w K hb hv hK => mCall (hashVal ta) 14 _ _ rfl [hashVal ka, hashVal kb] (cons_eq (hv 18 (by kernel_rfl) rfl) (cons_eq (hv 19 (by kernel_rfl) rfl) (rfl))) (enters Tryd.func14 rfl rfl) (CRT.out w) hK))) ?_
    refine all_cons (.inr (mStep _ 21 rfl rfl rfl rfl (by kernel_rfl) (fun a hv => (wanted_is (j := 7) (b := true) (c := true) rfl rfl rfl (hv 14 (by kernel_rfl) rfl)).trans rfl) (fun a w K hb hv hK => mPure (.bool true) (exec_bin _ _ _ _ _ _ _ rfl (hashVal ta) (hashVal ta) _ (hv 17 (by kernel_rfl) rfl) (hv 20 (by kernel_rfl) rfl) w ((fun w => key_guard _ _ _ _ _ w) w) ((ET) w)) hK))) ?_
    refine all_cons (.inr (mStep _ 22 rfl rfl rfl rfl (by kernel_rfl) (fun a hv => wanted_all rfl _) (fun a w K hb hv hK => mPure (.bool true) (pick_true _ _ _ _ _ rfl (hv 14 (by kernel_rfl) rfl) (.bool true) (hv 21 (by kernel_rfl) rfl) w) hK))) ?_
    refine all_cons (.inr (mStep _ 23 rfl rfl rfl rfl (by kernel_rfl) (fun a hv => wanted_all rfl _) (fun a w K hb hv hK => mPure (.bool true) (exec_move _ _ _ (.inl rfl) _ (hv 22 (by kernel_rfl) rfl) w) hK))) ?_
    refine all_cons (.inr (mStep _ 24 rfl rfl rfl rfl (by kernel_rfl) (fun a hv => (wanted_is (j := 16) (b := true) (c := true) rfl rfl rfl (hv 23 (by kernel_rfl) rfl)).trans rfl) (fun a w K hb hv hK => mPure (hashVal ka) (exec_load _ _ _ _ rfl _ _ (hv 2 (by kernel_rfl) rfl) w (key_run (hva3.on hb) Hka.out)) hK))) ?_
    refine all_cons (.inr (mStep _ 25 rfl rfl rfl rfl (by kernel_rfl) (fun a hv => (wanted_is (j := 16) (b := true) (c := true) rfl rfl rfl (hv 23 (by kernel_rfl) rfl)).trans rfl) (fun a w K hb hv hK => mCall (hashVal na) 15 _ _ rfl [hashVal ka] (cons_eq (hv 24 (by kernel_rfl) rfl) (rfl)) (enters Tryd.func15 rfl rfl) (CN.out w (hS.below (below_then hBq hb))) hK))) ?_
    refine all_cons (.inr (mStep _ 26 rfl rfl rfl rfl (by kernel_rfl) (fun a hv => (wanted_is (j := 16) (b := true) (c := true) rfl rfl rfl (hv 23 (by kernel_rfl) rfl)).trans rfl) (fun a w K hb hv hK => mPure (hashVal ka) (exec_load _ _ _ _ rfl _ _ (hv 2 (by kernel_rfl) rfl) w (key_run (hva3.on hb) Hka.out)) hK))) ?_
    refine all_cons (.inr (mStep _ 27 rfl rfl rfl rfl (by kernel_rfl) (fun a hv => (wanted_is (j := 16) (b := true) (c := true) rfl rfl rfl (hv 23 (by kernel_rfl) rfl)).trans rfl) (fun a w K hb hv hK => mCall (hashVal na) 16 _ _ rfl [hashVal ka] (cons_eq (hv 26 (by kernel_rfl) rfl) (rfl)) (enters Tryd.func16 rfl rfl) (CRN.out w) hK))) ?_
    refine all_cons (.inr (mStep _ 28 rfl rfl rfl rfl (by kernel_rfl) (fun a hv => (wanted_is (j := 16) (b := true) (c := true) rfl rfl rfl (hv 23 (by kernel_rfl) rfl)).trans rfl) (fun a w K hb hv hK => mPure (.bool true) (exec_bin _ _ _ _ _ _ _ rfl (hashVal na) (hashVal na) _ (hv 25 (by kernel_rfl) rfl) (hv 27 (by kernel_rfl) rfl) w ((fun w => key_guard _ _ _ _ _ w) w) ((EN) w)) hK))) ?_
    refine all_cons (.inr (mStep _ 29 rfl rfl rfl rfl (by kernel_rfl) (fun a hv => wanted_all rfl _) (fun a w K hb hv hK => mPure (.bool true) (pick_true _ _ _ _ _ rfl (hv 23 (by kernel_rfl) rfl) (.bool true) (hv 28 (by kernel_rfl) rfl) w) hK))) ?_
    refine all_cons (.inr (mStep _ 4 rfl rfl rfl rfl (by kernel_rfl) (fun a hv => wanted_all rfl _) (fun a w K hb hv hK => mPure (.bool true) (exec_move _ _ _ (.inr rfl) _ (hv 29 (by kernel_rfl) rfl) w) hK))) ?_
    exact all_nil
  intro w4 g hb4 hN4 hap4
  clear hN4 hap4
  have hB4 := below_then (show Below w.heap.size w w3.drew from hB3.drew) hb4
  have hva4 := hva3.on hb4
  have hvb4 := hvb3.on hb4
  clear hB3 hva3 hvb3 hb4 hBq
  refine ⟨by kernel_rfl, ?_⟩
  rename_i K hKK
  show Exit.then K _ Exit.normal (⟨(ssVs3 ka kb w.heap.size gb sa ta na).toArray, []⟩ : Act) w4
  simp only [Exit.then]
  refine hKK _ _ ?_
  clear hKK K g
  simp only [ssVs3]
  go_wp2
  go_ret
  exact ⟨rfl, hB4⟩
end Go.Proofs.YticgkabamelddaaDoor
