/- The walk of the law LadderBases. (Made by tools/mkladder.py.) -/
import Derived.Test.YtlhgabhjbnckkaaDoorPart12
import Derived.Test.YtlhgabhjbnckkaaDoorPart2
import Derived.Deep.Cut
namespace Go.Proofs.YtlhgabhjbnckkaaDoor
open Go.RowKit
def lbVs3 (ka : List UInt8) (g_base : Nat) (kb : List UInt8) (kc : List UInt8) : List Value :=
  (hashVal ka) :: (.pointer (some ⟨g_base, 0, none⟩)) :: (.bool true) :: (.bool true) :: (.bool false) :: (hashVal ka) :: (hashVal kb) :: (hashVal ka) :: (hashVal kb) :: (.bool true) :: (.bool true) :: (hashVal ka) :: (hashVal kc) :: (hashVal kb) :: (hashVal ka) :: (hashVal kb) :: (.bool true) :: (.bool true) :: []
set_option maxRecDepth 100000 in
set_option maxHeartbeats 1000000 in
theorem bases_over (ka kb kc : List UInt8) (es : List Addr) (w : World)
    (Hka : Hid (ka.length = 32))
    (CAL : Hid (∀ W, Errs W es → Calls Tryd.prog 6 #[] W fun e w' => e = .returned (.bool true) ∧ Below W.heap.size W w'))
    (CB : Hid (∀ W, Calls Tryd.prog 13 #[hashVal ka] W fun e w' => e = .returned (hashVal kb) ∧ Below W.heap.size W w'))
    (CRB : Hid (∀ W, Calls Tryd.prog 14 #[hashVal ka] W fun e w' => e = .returned (hashVal kb) ∧ Below W.heap.size W w'))
    (CC : Hid (∀ W, Calls Tryd.prog 10 #[hashVal ka] W fun e w' => e = .returned (hashVal kc) ∧ Below W.heap.size W w'))
    (CBC : Hid (∀ W, Calls Tryd.prog 13 #[hashVal kc] W fun e w' => e = .returned (hashVal kb) ∧ Below W.heap.size W w'))
    (EQ : ∀ w, (binOp .eql 23 (hashVal kb) (hashVal kb)).run Tryd.prog w = .ok (.bool true) w)
    (hE : Errs w es) :
    Calls Tryd.prog 4 #[hashVal ka] w fun e w' => e = .returned (.bool true) ∧ Below w.heap.size w w' := by
  go_enter Tryd.func4, Tryd.ntmps4
  go_wp2_with (first
    | (refine take_step rfl 23 (.tmp 0) rfl ka rfl ?_
       intro w1 hb1 hvk1 hz
       clear hz
       have hB1 := hb1
       have hgek : w.heap.size ≤ w.heap.size := Nat.le_refl _
       clear  hb1
       try simp only [Act.put, List.setIfInBounds_toArray, List.set_cons_zero, List.set_cons_succ]
       skip))
  refine (CAL.out w1 (hE.below hB1)).mono ?_
  rintro e w2 ⟨rfl, hb2⟩
  have hB2 := below_then hB1 hb2
  have hvk2 := hvk1.on hb2
  clear hB1 hvk1 hb2
  go_wp2_with fail
  replace hvk2 := hvk2.drew
  refine wp_region_any (by kernel_rfl) ?_
  refine wpAny_flatM (L := [0, 1, 2, 3, 4, 5, 6, 7, 8, 9, 10, 11, 12, 13]) (by kernel_rfl) _ _ (lbVs3 ka w.heap.size kb kc) [] 48 (nzeros 5) [0, 1, 3, 4] (by kernel_rfl) (by kernel_rfl) ?_ zero_elem ?_ (by rfl) ?_ 0 (by kernel_rfl) ?_
  · intro p hp
    exact absurd hp List.not_mem_nil
  · exact all_cons rfl (all_cons rfl (all_cons rfl (all_cons rfl (all_nil))))
  · refine all_cons (.inr (mStep _ 5 rfl rfl rfl rfl (by kernel_rfl) (fun a hv => wanted_all rfl _) (fun a w K hb hv hK => mPure (hashVal ka) (exec_load _ _ _ _ rfl _ _ (hv 1 (by kernel_rfl) rfl) w (key_run (hvk2.on hb) Hka.out)) hK))) ?_
    refine all_cons (.inr (mStep _ 6 rfl rfl rfl rfl (by kernel_rfl) (fun a hv => wanted_all rfl _) (fun a w K hb hv hK => mCall (hashVal kb) 13 _ _ rfl [hashVal ka] (cons_eq (hv 5 (by kernel_rfl) rfl) (rfl)) (enters Tryd.func13 rfl rfl) (CB.out w) hK))) ?_
    refine all_cons (.inr (mStep _ 7 rfl rfl rfl rfl (by kernel_rfl) (fun a hv => wanted_all rfl _) (fun a w K hb hv hK => mPure (hashVal ka) (exec_load _ _ _ _ rfl _ _ (hv 1 (by kernel_rfl) rfl) w (key_run (hvk2.on hb) Hka.out)) hK))) ?_
    refine all_cons (.inr (mStep _ 8 rfl rfl rfl rfl (by kernel_rfl) (fun a hv => wanted_all rfl _) (fun a w K hb hv hK => mCall (hashVal kb) 14 _ _ rfl [hashVal ka] (cons_eq (hv 7 (by kernel_rfl) rfl) (rfl)) (enters Tryd.func14 rfl rfl) (CRB.out w) hK))) ?_
    refine all_cons (.inr (mStep _ 9 rfl rfl rfl rfl (by kernel_rfl) (fun a hv => wanted_all rfl _) (fun a w K hb hv hK => mPure (.bool true) (exec_bin _ _ _ _ _ _ _ rfl (hashVal kb) (hashVal kb) _ (hv 6 (by kernel_rfl) rfl) (hv 8 (by kernel_rfl) rfl) w ((fun w => key_guard _ _ _ _ _ w) w) ((EQ) w)) hK))) ?_
    refine all_cons (.inr (mStep _ 10 rfl rfl rfl rfl (by kernel_rfl) (fun a hv => wanted_all rfl _) (fun a w K hb hv hK => mPure (.bool true) (exec_move _ _ _ (.inl rfl) _ (hv 9 (by kernel_rfl) rfl) w) hK))) ?_
    refine all_cons (.inr (mStep _ 11 rfl rfl rfl rfl (by kernel_rfl) (fun a hv => (wanted_is (j := 5) (b := true) (c := true) rfl rfl rfl (hv 10 (by kernel_rfl) rfl)).trans rfl) (fun a w K hb hv hK => mPure (hashVal ka) (exec_load _ _ _ _ rfl _ _ (hv 1 (by kernel_rfl) rfl) w (key_run (hvk2.on hb) Hka.out)) hK))) ?_
    refine all_cons (.inr (mStep _ 12 rfl rfl rfl rfl (by kernel_rfl) (fun a hv => (wanted_is (j := 5) (b := true) (c := true) rfl rfl rfl (hv 10 (by kernel_rfl) rfl)).trans rfl) (fun a w K hb hv hK => mCall (hashVal kc) 10 _ _ rfl [hashVal ka] (cons_eq (hv 11 (by kernel_rfl) rfl) (rfl)) (enters Tryd.func10 rfl rfl) (CC.out w) hK))) ?_
    refine all_cons (.inr (mStep _ 13 rfl rfl rfl rfl (by kernel_rfl) (fun a hv => (wanted_is (j := 5) (b := true) (c := true) rfl rfl rfl (hv 10 (by kernel_rfl) rfl)).trans rfl) (fun a w K hb hv hK => mCall (hashVal kb) 13 _ _ rfl [hashVal kc] (cons_eq (hv 12 (by kernel_rfl) rfl) (rfl)) (enters Tryd.func13 rfl rfl) (CBC.out w) hK))) ?_
    refine all_cons (.inr (mStep _ 14 rfl rfl rfl rfl (by kernel_rfl) (fun a hv => (wanted_is (j := 5) (b := true) (c := true) rfl rfl rfl (hv 10 (by kernel_rfl) rfl)).trans rfl) (fun a w K hb hv hK => mPure (hashVal ka) (exec_load _ _ _ _ rfl _ _ (hv 1 (by kernel_rfl) rfl) w (key_run (hvk2.on hb) Hka.out)) hK))) ?_
    refine all_cons (.inr (mStep _ 15 rfl rfl rfl rfl (by kernel_rfl) (fun a hv => (wanted_is (j := 5) (b := true) (c := true) rfl rfl rfl (hv 10 (by kernel_rfl) rfl)).trans rfl) (fun a w K hb hv hK => mCall (hashVal kb) 13 _ _ rfl [hashVal ka] (cons_eq (hv 14 (by kernel_rfl) rfl) (rfl)) (enters Tryd.func13 rfl rfl) (CB.out w) hK))) ?_
    refine all_cons (.inr (mStep _ 16 rfl rfl rfl rfl (by kernel_rfl) (fun a hv => (wanted_is (j := 5) (b := true) (c := true) rfl rfl rfl (hv 10 (by kernel_rfl) rfl)).trans rfl) (fun a w K hb hv hK => mPure (.bool true) (exec_bin _ _ _ _ _ _ _ rfl (hashVal kb) (hashVal kb) _ (hv 13 (by kernel_rfl) rfl) (hv 15 (by kernel_rfl) rfl) w ((fun w => key_guard _ _ _ _ _ w) w) ((EQ) w)) hK))) ?_
    refine all_cons (.inr (mStep _ 17 rfl rfl rfl rfl (by kernel_rfl) (fun a hv => wanted_all rfl _) (fun a w K hb hv hK => mPure (.bool true) (pick_true _ _ _ _ _ rfl (hv 10 (by kernel_rfl) rfl) (.bool true) (hv 16 (by kernel_rfl) rfl) w) hK))) ?_
    refine all_cons (.inr (mStep _ 2 rfl rfl rfl rfl (by kernel_rfl) (fun a hv => wanted_all rfl _) (fun a w K hb hv hK => mPure (.bool true) (exec_move _ _ _ (.inr rfl) _ (hv 17 (by kernel_rfl) rfl) w) hK))) ?_
    exact all_nil
  intro w3 g hb3 hN3 hap3
  clear hN3 hap3
  have hB3 := below_then (show Below w.heap.size w w2.drew from hB2.drew) hb3
  have hvk3 := hvk2.on hb3
  clear hB2 hvk2 hb3
  refine ⟨by kernel_rfl, ?_⟩
  rename_i K hKK
  show Exit.then K _ Exit.normal (⟨(lbVs3 ka w.heap.size kb kc).toArray, []⟩ : Act) w3
  simp only [Exit.then]
  refine hKK _ _ ?_
  clear hKK K g
  simp only [lbVs3]
  go_wp2
  go_ret
  exact ⟨rfl, hB3⟩
end Go.Proofs.YtlhgabhjbnckkaaDoor
