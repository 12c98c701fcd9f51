/- The walk of the law PointsReads. (Made by tools/mkpts.py.) -/
import Derived.Test.YtagjbdhelfickaaDoorPart13
import Derived.Test.YtagjbdhelfickaaDoorPart14
import Derived.Deep.Cut
import Derived.IntWalk
import Derived.Test.YtagjbdhelfickaaDoorPart18
import Derived.Test.YtagjbdhelfickaaDoorPart10
import Derived.Test.YtagjbdhelfickaaDoorPart1
namespace Go.Proofs.YtagjbdhelfickaaDoor
open Go.RowKit
def reads1Vs7 (kb : List UInt8) (g_base : Nat) (gp : Nat) (gv : Nat) (p : List Nat) (v : List Nat) (n1 : List Nat) (n2 : List Nat) : List Value :=
  (hashVal kb) :: (.pointer (some ⟨g_base, 0, none⟩)) :: (.bool true) :: (.pointer (some ⟨gp, 0, none⟩)) :: (.nilIface) :: (.pointer (some ⟨gv, 0, none⟩)) :: (.int .i64 0) :: (.bool true) :: (.bool false) :: (.tuple #[numVal p, .nilIface]) :: (hashVal kb) :: (.tuple #[numVal p, .nilIface]) :: (numVal p) :: (.nilIface) :: (.tuple #[numD v, .int .i64 0]) :: (hashVal kb) :: (.tuple #[numD v, .int .i64 0]) :: (numD v) :: (.int .i64 0) :: (.nilIface) :: (.int .i64 0) :: (.int .i64 0) :: (.bool false) :: (.int .i64 0) :: (.bool false) :: (.bool false) :: (numVal p) :: (hashVal kb) :: (hashVal kb) :: (.bool true) :: (.bool true) :: (numD v) :: (hashVal kb) :: (hashVal kb) :: (.bool true) :: (.bool true) :: (.bool true) :: (numVal p) :: (numVal n1) :: (numVal n2) :: (numVal p) :: (.bool true) :: (.bool true) :: (.bool true) :: []
set_option maxRecDepth 100000 in
set_option maxHeartbeats 4000000 in
theorem ptReads_over (p v n1 n2 : List Nat) (kb : List UInt8) (ae : Addr) (es : List Addr) (w : World)
    (Hp : Hid (p.length = 15))
    (Hkb : Hid (kb.length = 32))
    (Hv : Hid (v.length = 24))
    (CAL : Hid (∀ W, TabsU (errAt ae) W → Calls Tryd.prog 8 #[] W fun e w' => e = .returned (.bool true) ∧ Below W.heap.size W w'))
    (CR : Hid (∀ W, TabsU (errAt ae) W → Calls Tryd.prog 9 #[hashVal kb] W fun e w' => e = .returned (.tuple #[numVal p, .nilIface]) ∧ Below W.heap.size W w'))
    (CV : Hid (∀ W, Calls Tryd.prog 10 #[hashVal kb] W fun e w' => e = .returned (.tuple #[numD v, .int .i64 0]) ∧ Below W.heap.size W w'))
    (CN : Hid (∀ W, Errs W es → Calls Tryd.prog 11 #[.nilIface] W fun e w' => e = .returned (.int .i64 0) ∧ Below W.heap.size W w'))
    (CB : Hid (∀ W, Calls Tryd.prog 12 #[numVal p] W fun e w' => e = .returned (hashVal kb) ∧ Below W.heap.size W w'))
    (CD : Hid (∀ W, Calls Tryd.prog 13 #[numD v] W fun e w' => e = .returned (hashVal kb) ∧ Below W.heap.size W w'))
    (CN1 : Hid (∀ W, Calls Tryd.prog 14 #[numVal p] W fun e w' => e = .returned (numVal n1) ∧ Below W.heap.size W w'))
    (CN2 : Hid (∀ W, Calls Tryd.prog 14 #[numVal n1] W fun e w' => e = .returned (numVal n2) ∧ Below W.heap.size W w'))
    (CS : Hid (∀ W, Calls Tryd.prog 15 #[numVal n2, numVal p] W fun e w' => e = .returned (.bool true) ∧ Below W.heap.size W w'))
    (EQ : ∀ w, (binOp .eql 23 (hashVal kb) (hashVal kb)).run Tryd.prog w = .ok (.bool true) w)
    (hS : TabsU (errAt ae) w)
    (hE : Errs w es) :
    Calls Tryd.prog 3 #[hashVal kb] w fun e w' => e = .returned (.bool true) ∧ Below w.heap.size w w' := by
  go_enter Tryd.func3, Tryd.ntmps3
  go_wp2_with (first
    | (refine take_step rfl 23 (.tmp 0) rfl kb rfl ?_
       intro w1 hb1 hvb1 hz
       clear hz
       have hB1 := hb1
       have hgeb : w.heap.size ≤ w.heap.size := Nat.le_refl _
       clear  hb1
       try simp only [Act.put, List.setIfInBounds_toArray, List.set_cons_zero, List.set_cons_succ]
       skip))
  refine (CAL.out w1 (hS.below hB1)).mono ?_
  rintro e w2 ⟨rfl, hb2⟩
  have hB2 := below_then hB1 hb2
  have hvb2 := hvb1.on hb2
  clear hB1 hvb1 hb2
  go_wp2_with (first
    | (refine get_step rfl 23 (.tmp 1) rfl w.heap.size 32 kb 5 rfl hvb2 Tryd.underlying23 size_k32 Hkb.out ?_
       try simp only [Act.put, List.setIfInBounds_toArray, List.set_cons_zero, List.set_cons_succ]
       skip))
  refine (CR.out w2 (hS.below hB2)).mono ?_
  rintro e w3 ⟨rfl, hb3⟩
  have hB3 := below_then hB2 hb3
  have hvb3 := hvb2.on hb3
  clear hB2 hvb2 hb3
  go_wp2_with (first
    | (refine vput_step rfl rfl 31 (.tmp 3) (.tmp 12) rfl rfl 15 (nzeros 15) (p.map ncell) rfl rfl zero_up rfl size_up (by rw [List.length_map, Hp.out]) (ncells_one _) ?_
       intro w4 hb4 hvp4
       have hB4 := below_then hB3 hb4
       have hgep : w.heap.size ≤ w3.heap.size := hB3.size
       have hvb4 := hvb3.on hb4
       have hnebp := Nat.ne_of_lt hvb3.lt
       clear hB3 hvb3 hb4
       try simp only [Act.put, List.setIfInBounds_toArray, List.set_cons_zero, List.set_cons_succ]
       skip)
    | (refine get_step rfl 23 (.tmp 1) rfl w.heap.size 32 kb 5 rfl hvb4 Tryd.underlying23 size_k32 Hkb.out ?_
       try simp only [Act.put, List.setIfInBounds_toArray, List.set_cons_zero, List.set_cons_succ]
       skip))
  generalize hqp : w3.heap.size = gp at *
  clear hqp
  refine (CV.out w4).mono ?_
  rintro e w5 ⟨rfl, hb5⟩
  have hB5 := below_then hB4 hb5
  have hvb5 := hvb4.on hb5
  have hvp5 := hvp4.on hb5
  clear hB4 hvb4 hvp4 hb5
  go_wp2_with (first
    | (refine vput_step rfl rfl 40 (.tmp 5) (.tmp 17) rfl rfl 24 (dzeros 24) (v.map dcell) rfl rfl zero_tri rfl size_tri (by rw [List.length_map, Hv.out]) (dcells_one _) ?_
       intro w6 hb6 hvv6
       have hB6 := below_then hB5 hb6
       have hgev : w.heap.size ≤ w5.heap.size := hB5.size
       have hvb6 := hvb5.on hb6
       have hnebv := Nat.ne_of_lt hvb5.lt
       have hvp6 := hvp5.on hb6
       have hnepv := Nat.ne_of_lt hvp5.lt
       clear hB5 hvb5 hvp5 hb6
       try simp only [Act.put, List.setIfInBounds_toArray, List.set_cons_zero, List.set_cons_succ]
       skip))
  generalize hqv : w5.heap.size = gv at *
  clear hqv
  refine (CN.out w6 (hE.below hB6)).mono ?_
  rintro e w7 ⟨rfl, hb7⟩
  have hB7 := below_then hB6 hb7
  have hvb7 := hvb6.on hb7
  have hvp7 := hvp6.on hb7
  have hvv7 := hvv6.on hb7
  clear hB6 hvb6 hvp6 hvv6 hb7
  have hG22 : ∀ w, (eqGuard .neq 3 (.tmp 20) (.tmp 21) (.int .i64 0) (.int .i64 0)).run Tryd.prog w = .ok () w := fun w => by kernel_rfl
  have hQ22 : ∀ w, (binOp .neq 3 (.int .i64 0) (.int .i64 0)).run Tryd.prog w = .ok (.bool false) w := fun w => by kernel_rfl
  go_wp2_with fail
  replace hvb7 := hvb7.drew
  replace hvp7 := hvp7.drew
  replace hvv7 := hvv7.drew
  refine wp_region_any (by kernel_rfl) ?_
  refine wpAny_flatM (L := [0, 1, 2, 3, 4, 5, 6, 7, 8, 9, 10, 11, 12, 13, 14, 15, 16, 17, 18, 19, 20, 21]) (by kernel_rfl) _ _ (reads1Vs7 kb w.heap.size gp gv p v n1 n2) [] 23 kzeros [0, 1, 3, 4, 5, 6, 7, 8, 9, 10, 11, 12, 13, 14, 15, 16, 17, 18, 19, 20, 21, 22] (by kernel_rfl) (by kernel_rfl) ?_ zero_k32 ?_ (by rfl) ?_ 0 (by kernel_rfl) ?_
  · intro p hp
    exact absurd hp List.not_mem_nil
  · exact all_cons rfl (all_cons rfl (all_cons rfl (all_cons rfl (all_cons rfl (all_cons rfl (all_cons rfl (all_cons rfl (all_cons rfl (all_cons rfl (all_cons rfl (all_cons rfl (all_cons rfl (all_cons rfl (all_cons rfl (all_cons rfl (all_cons rfl (all_cons rfl (all_cons rfl (all_cons rfl (all_cons rfl (all_cons rfl (all_nil))))))))))))))))))))))
  · refine all_cons (.inr (mStep _ 23 rfl rfl rfl rfl (by kernel_rfl) (fun a hv => wanted_all rfl _) (fun a w K hb hv hK => mPure (.int .i64 0) (exec_move _ _ _ (.inl rfl) _ (hv 6 (by kernel_rfl) rfl) w) hK))) ?_
    refine all_cons (.inr (mStep _ 24 rfl rfl rfl rfl (by kernel_rfl) (fun a hv => wanted_all rfl _) (fun a w K hb hv hK => mPure (.bool false) (exec_bin _ _ _ _ _ _ _ rfl (.int .i64 0) (.int .i64 0) _ (hv 23 (by kernel_rfl) rfl) (by rfl) w ((fun w => by kernel_rfl) w) ((fun w => by kernel_rfl) w)) hK))) ?_
    refine all_cons (.inr (mStep _ 25 rfl rfl rfl rfl (by kernel_rfl) (fun a hv => wanted_all rfl _) (fun a w K hb hv hK => mPure (.bool false) (exec_move _ _ _ (.inl rfl) _ (hv 24 (by kernel_rfl) rfl) w) hK))) ?_
    refine all_cons (.inr (mStep _ 26 rfl rfl rfl rfl (by kernel_rfl) (fun a hv => (wanted_is (j := 2) (b := false) (c := false) rfl rfl rfl (hv 25 (by kernel_rfl) rfl)).trans rfl) (fun a w K hb hv hK => mPure (numVal p) (exec_load _ _ _ _ rfl _ _ (hv 3 (by kernel_rfl) rfl) w (up_run (hvp7.on hb) Hp.out)) hK))) ?_
    refine all_cons (.inr (mStep _ 27 rfl rfl rfl rfl (by kernel_rfl) (fun a hv => (wanted_is (j := 2) (b := false) (c := false) rfl rfl rfl (hv 25 (by kernel_rfl) rfl)).trans rfl) (fun a w K hb hv hK => mCall (hashVal kb) 12 _ _ rfl [numVal p] (cons_eq (hv 26 (by kernel_rfl) rfl) (rfl)) (enters Tryd.func12 rfl rfl) (CB.out w) hK))) ?_
    refine all_cons (.inr (mStep _ 28 rfl rfl rfl rfl (by kernel_rfl) (fun a hv => (wanted_is (j := 2) (b := false) (c := false) rfl rfl rfl (hv 25 (by kernel_rfl) rfl)).trans rfl) (fun a w K hb hv hK => mPure (hashVal kb) (exec_load _ _ _ _ rfl _ _ (hv 1 (by kernel_rfl) rfl) w (key_run (hvb7.on hb) Hkb.out)) hK))) ?_
    refine all_cons (.inr (mStep _ 29 rfl rfl rfl rfl (by kernel_rfl) (fun a hv => (wanted_is (j := 2) (b := false) (c := false) rfl rfl rfl (hv 25 (by kernel_rfl) rfl)).trans rfl) (fun a w K hb hv hK => mPure (.bool true) (exec_bin _ _ _ _ _ _ _ rfl (hashVal kb) (hashVal kb) _ (hv 27 (by kernel_rfl) rfl) (hv 28 (by kernel_rfl) rfl) w ((fun w => key_guard _ _ _ _ _ w) w) ((EQ) w)) hK))) ?_
    refine all_cons (.inr (mStep _ 30 rfl rfl rfl rfl (by kernel_rfl) (fun a hv => (wanted_is (j := 2) (b := false) (c := false) rfl rfl rfl (hv 25 (by kernel_rfl) rfl)).trans rfl) (fun a w K hb hv hK => mPure (.bool true) (exec_move _ _ _ (.inl rfl) _ (hv 29 (by kernel_rfl) rfl) w) hK))) ?_
    refine all_cons (.inr (mStep _ 31 rfl rfl rfl rfl (by kernel_rfl) (fun a hv => (wanted_is (j := 7) (b := true) (c := true) rfl rfl rfl (hv 30 (by kernel_rfl) rfl)).trans rfl) (fun a w K hb hv hK => mPure (numD v) (exec_load _ _ _ _ rfl _ _ (hv 5 (by kernel_rfl) rfl) w (tri_run (hvv7.on hb) Hv.out)) hK))) ?_
    refine all_cons (.inr (mStep _ 32 rfl rfl rfl rfl (by kernel_rfl) (fun a hv => (wanted_is (j := 7) (b := true) (c := true) rfl rfl rfl (hv 30 (by kernel_rfl) rfl)).trans rfl) (fun a w K hb hv hK => mCall (hashVal kb) 13 _ _ rfl [numD v] (cons_eq (hv 31 (by kernel_rfl) rfl) (rfl)) (enters Tryd.func13 rfl rfl) (CD.out w) hK))) ?_
    refine all_cons (.inr (mStep _ 33 rfl rfl rfl rfl (by kernel_rfl) (fun a hv => (wanted_is (j := 7) (b := true) (c := true) rfl rfl rfl (hv 30 (by kernel_rfl) rfl)).trans rfl) (fun a w K hb hv hK => mPure (hashVal kb) (exec_load _ _ _ _ rfl _ _ (hv 1 (by kernel_rfl) rfl) w (key_run (hvb7.on hb) Hkb.out)) hK))) ?_
    refine all_cons (.inr (mStep _ 34 rfl rfl rfl rfl (by kernel_rfl) (fun a hv => (wanted_is (j := 7) (b := true) (c := true) rfl rfl rfl (hv 30 (by kernel_rfl) rfl)).trans rfl) (fun a w K hb hv hK => mPure (.bool true) (exec_bin _ _ _ _ _ _ _ rfl (hashVal kb) (hashVal kb) _ (hv 32 (by kernel_rfl) rfl) (hv 33 (by kernel_rfl) rfl) w ((fun w => key_guard _ _ _ _ _ w) w) ((EQ) w)) hK))) ?_
    refine all_cons (.inr (mStep _ 35 rfl rfl rfl rfl (by kernel_rfl) (fun a hv => (wanted_is (j := 2) (b := false) (c := false) rfl rfl rfl (hv 25 (by kernel_rfl) rfl)).trans rfl) (fun a w K hb hv hK => mPure (.bool true) (pick_true _ _ _ _ _ rfl (hv 30 (by kernel_rfl) rfl) (.bool true) (hv 34 (by kernel_rfl) rfl) w) hK))) ?_
    refine all_cons (.inr (mStep _ 36 rfl rfl rfl rfl (by kernel_rfl) (fun a hv => (wanted_is (j := 2) (b := false) (c := false) rfl rfl rfl (hv 25 (by kernel_rfl) rfl)).trans rfl) (fun a w K hb hv hK => mPure (.bool true) (exec_move _ _ _ (.inl rfl) _ (hv 35 (by kernel_rfl) rfl) w) hK))) ?_
    refine all_cons (.inr (mStep _ 37 rfl rfl rfl rfl (by kernel_rfl) (fun a hv => (wanted_is (j := 13) (b := true) (c := true) rfl rfl rfl (hv 36 (by kernel_rfl) rfl)).trans rfl) (fun a w K hb hv hK => mPure (numVal p) (exec_load _ _ _ _ rfl _ _ (hv 3 (by kernel_rfl) rfl) w (up_run (hvp7.on hb) Hp.out)) hK))) ?_
    refine all_cons (.inr (mStep _ 38 rfl rfl rfl rfl (by kernel_rfl) (fun a hv => (wanted_is (j := 13) (b := true) (c := true) rfl rfl rfl (hv 36 (by kernel_rfl) rfl)).trans rfl) (fun a w K hb hv hK => mCall (numVal n1) 14 _ _ rfl [numVal p] (cons_eq (hv 37 (by kernel_rfl) rfl) (rfl)) (enters Tryd.func14 rfl rfl) (CN1.out w) hK))) ?_
    refine all_cons (.inr (mStep _ 39 rfl rfl rfl rfl (by kernel_rfl) (fun a hv => (wanted_is (j := 13) (b := true) (c := true) rfl rfl rfl (hv 36 (by kernel_rfl) rfl)).trans rfl) (fun a w K hb hv hK => mCall (numVal n2) 14 _ _ rfl [numVal n1] (cons_eq (hv 38 (by kernel_rfl) rfl) (rfl)) (enters Tryd.func14 rfl rfl) (CN2.out w) hK))) ?_
    refine all_cons (.inr (mStep _ 40 rfl rfl rfl rfl (by kernel_rfl) (fun a hv => (wanted_is (j := 13) (b := true) (c := true) rfl rfl rfl (hv 36 (by kernel_rfl) rfl)).trans rfl) (fun a w K hb hv hK => mPure (numVal p) (exec_load _ _ _ _ rfl _ _ (hv 3 (by kernel_rfl) rfl) w (up_run (hvp7.on hb) Hp.out)) hK))) ?_
    refine all_cons (.inr (mStep _ 41 rfl rfl rfl rfl (by kernel_rfl) (fun a hv => (wanted_is (j := 13) (b := true) (c := true) rfl rfl rfl (hv 36 (by kernel_rfl) rfl)).trans rfl) (fun a w K hb hv hK => mCall (.bool true) 15 _ _ rfl [numVal n2, numVal p] (cons_eq (hv 39 (by kernel_rfl) rfl) (cons_eq (hv 40 (by kernel_rfl) rfl) (rfl))) (enters Tryd.func15 rfl rfl) (CS.out w) hK))) ?_
    refine all_cons (.inr (mStep _ 42 rfl rfl rfl rfl (by kernel_rfl) (fun a hv => (wanted_is (j := 2) (b := false) (c := false) rfl rfl rfl (hv 25 (by kernel_rfl) rfl)).trans rfl) (fun a w K hb hv hK => mPure (.bool true) (pick_true _ _ _ _ _ rfl (hv 36 (by kernel_rfl) rfl) (.bool true) (hv 41 (by kernel_rfl) rfl) w) hK))) ?_
    refine all_cons (.inr (mStep _ 43 rfl rfl rfl rfl (by kernel_rfl) (fun a hv => wanted_all rfl _) (fun a w K hb hv hK => mPure (.bool true) (pick_false _ _ _ _ _ rfl (hv 25 (by kernel_rfl) rfl) (.bool true) (hv 42 (by kernel_rfl) rfl) w) hK))) ?_
    refine all_cons (.inr (mStep _ 2 rfl rfl rfl rfl (by kernel_rfl) (fun a hv => wanted_all rfl _) (fun a w K hb hv hK => mPure (.bool true) (exec_move _ _ _ (.inr rfl) _ (hv 43 (by kernel_rfl) rfl) w) hK))) ?_
    exact all_nil
  intro w8 g hb8 hN8 hap8
  clear hN8 hap8
  have hB8 := below_then (show Below w.heap.size w w7.drew from hB7.drew) hb8
  have hvb8 := hvb7.on hb8
  have hvp8 := hvp7.on hb8
  have hvv8 := hvv7.on hb8
  clear hB7 hvb7 hvp7 hvv7 hb8
  refine ⟨by kernel_rfl, ?_⟩
  rename_i K hKK
  show Exit.then K _ Exit.normal (⟨(reads1Vs7 kb w.heap.size gp gv p v n1 n2).toArray, []⟩ : Act) w8
  simp only [Exit.then]
  refine hKK _ _ ?_
  clear hKK K g
  simp only [reads1Vs7]
  go_wp2
  go_ret
  exact ⟨rfl, hB8⟩
def reads0Vs7 (kb : List UInt8) (g_base : Nat) (gp : Nat) (ae : Addr) (gv : Nat) (p : List Nat) (v : List Nat) : List Value :=
  (hashVal kb) :: (.pointer (some ⟨g_base, 0, none⟩)) :: (.bool true) :: (.pointer (some ⟨gp, 0, none⟩)) :: (errAt ae) :: (.pointer (some ⟨gv, 0, none⟩)) :: (.int .i64 4) :: (.bool true) :: (.bool false) :: (.tuple #[numVal p, errAt ae]) :: (hashVal kb) :: (.tuple #[numVal p, errAt ae]) :: (numVal p) :: (errAt ae) :: (.tuple #[numD v, .int .i64 4]) :: (hashVal kb) :: (.tuple #[numD v, .int .i64 4]) :: (numD v) :: (.int .i64 4) :: (errAt ae) :: (.int .i64 4) :: (.int .i64 4) :: (.bool false) :: (.int .i64 4) :: (.bool true) :: (.bool true) :: undef :: undef :: undef :: undef :: undef :: undef :: undef :: undef :: undef :: undef :: undef :: undef :: undef :: undef :: undef :: undef :: undef :: (.bool true) :: []
set_option maxRecDepth 100000 in
set_option maxHeartbeats 4000000 in
theorem ptReadsBad_over (p v : List Nat) (kb : List UInt8) (ae : Addr) (es : List Addr) (w : World)
    (Hp : Hid (p.length = 15))
    (Hkb : Hid (kb.length = 32))
    (Hv : Hid (v.length = 24))
    (CAL : Hid (∀ W, TabsU (errAt ae) W → Calls Tryd.prog 8 #[] W fun e w' => e = .returned (.bool true) ∧ Below W.heap.size W w'))
    (CR : Hid (∀ W, TabsU (errAt ae) W → Calls Tryd.prog 9 #[hashVal kb] W fun e w' => e = .returned (.tuple #[numVal p, errAt ae]) ∧ Below W.heap.size W w'))
    (CV : Hid (∀ W, Calls Tryd.prog 10 #[hashVal kb] W fun e w' => e = .returned (.tuple #[numD v, .int .i64 4]) ∧ Below W.heap.size W w'))
    (CN : Hid (∀ W, Errs W es → Calls Tryd.prog 11 #[errAt ae] W fun e w' => e = .returned (.int .i64 4) ∧ Below W.heap.size W w'))
    (hS : TabsU (errAt ae) w)
    (hE : Errs w es) :
    Calls Tryd.prog 3 #[hashVal kb] w fun e w' => e = .returned (.bool true) ∧ Below w.heap.size w w' := by
  go_enter Tryd.func3, Tryd.ntmps3
  go_wp2_with (first
    | (refine take_step rfl 23 (.tmp 0) rfl kb rfl ?_
       intro w1 hb1 hvb1 hz
       clear hz
       have hB1 := hb1
       have hgeb : w.heap.size ≤ w.heap.size := Nat.le_refl _
       clear  hb1
       try simp only [Act.put, List.setIfInBounds_toArray, List.set_cons_zero, List.set_cons_succ]
       skip))
  refine (CAL.out w1 (hS.below hB1)).mono ?_
  rintro e w2 ⟨rfl, hb2⟩
  have hB2 := below_then hB1 hb2
  have hvb2 := hvb1.on hb2
  clear hB1 hvb1 hb2
  go_wp2_with (first
    | (refine get_step rfl 23 (.tmp 1) rfl w.heap.size 32 kb 5 rfl hvb2 Tryd.underlying23 size_k32 Hkb.out ?_
       try simp only [Act.put, List.setIfInBounds_toArray, List.set_cons_zero, List.set_cons_succ]
       skip))
  refine (CR.out w2 (hS.below hB2)).mono ?_
  rintro e w3 ⟨rfl, hb3⟩
  have hB3 := below_then hB2 hb3
  have hvb3 := hvb2.on hb3
  clear hB2 hvb2 hb3
  go_wp2_with (first
    | (refine vput_step rfl rfl 31 (.tmp 3) (.tmp 12) rfl rfl 15 (nzeros 15) (p.map ncell) rfl rfl zero_up rfl size_up (by rw [List.length_map, Hp.out]) (ncells_one _) ?_
       intro w4 hb4 hvp4
       have hB4 := below_then hB3 hb4
       have hgep : w.heap.size ≤ w3.heap.size := hB3.size
       have hvb4 := hvb3.on hb4
       have hnebp := Nat.ne_of_lt hvb3.lt
       clear hB3 hvb3 hb4
       try simp only [Act.put, List.setIfInBounds_toArray, List.set_cons_zero, List.set_cons_succ]
       skip)
    | (refine get_step rfl 23 (.tmp 1) rfl w.heap.size 32 kb 5 rfl hvb4 Tryd.underlying23 size_k32 Hkb.out ?_
       try simp only [Act.put, List.setIfInBounds_toArray, List.set_cons_zero, List.set_cons_succ]
       skip))
  generalize hqp : w3.heap.size = gp at *
  clear hqp
  refine (CV.out w4).mono ?_
  rintro e w5 ⟨rfl, hb5⟩
  have hB5 := below_then hB4 hb5
  have hvb5 := hvb4.on hb5
  have hvp5 := hvp4.on hb5
  clear hB4 hvb4 hvp4 hb5
  go_wp2_with (first
    | (refine vput_step rfl rfl 40 (.tmp 5) (.tmp 17) rfl rfl 24 (dzeros 24) (v.map dcell) rfl rfl zero_tri rfl size_tri (by rw [List.length_map, Hv.out]) (dcells_one _) ?_
       intro w6 hb6 hvv6
       have hB6 := below_then hB5 hb6
       have hgev : w.heap.size ≤ w5.heap.size := hB5.size
       have hvb6 := hvb5.on hb6
       have hnebv := Nat.ne_of_lt hvb5.lt
       have hvp6 := hvp5.on hb6
       have hnepv := Nat.ne_of_lt hvp5.lt
       clear hB5 hvb5 hvp5 hb6
       try simp only [Act.put, List.setIfInBounds_toArray, List.set_cons_zero, List.set_cons_succ]
       skip))
  generalize hqv : w5.heap.size = gv at *
  clear hqv
  refine (CN.out w6 (hE.below hB6)).mono ?_
  rintro e w7 ⟨rfl, hb7⟩
  have hB7 := below_then hB6 hb7
  have hvb7 := hvb6.on hb7
  have hvp7 := hvp6.on hb7
  have hvv7 := hvv6.on hb7
  clear hB6 hvb6 hvp6 hvv6 hb7
  have hG22 : ∀ w, (eqGuard .neq 3 (.tmp 20) (.tmp 21) (.int .i64 4) (.int .i64 4)).run Tryd.prog w = .ok () w := fun w => by kernel_rfl
  have hQ22 : ∀ w, (binOp .neq 3 (.int .i64 4) (.int .i64 4)).run Tryd.prog w = .ok (.bool false) w := fun w => by kernel_rfl
  go_wp2_with fail
  replace hvb7 := hvb7.drew
  replace hvp7 := hvp7.drew
  replace hvv7 := hvv7.drew
  refine wp_region_any (by kernel_rfl) ?_
  refine wpAny_flatM (L := [0, 1, 2, 3, 4, 5, 6, 7, 8, 9, 10, 11, 12, 13, 14, 15, 16, 17, 18, 19, 20, 21]) (by kernel_rfl) _ _ (reads0Vs7 kb w.heap.size gp ae gv p v) [] 23 kzeros [0, 1, 3, 4, 5, 6, 7, 8, 9, 10, 11, 12, 13, 14, 15, 16, 17, 18, 19, 20, 21, 22] (by kernel_rfl) (by kernel_rfl) ?_ zero_k32 ?_ (by rfl) ?_ 0 (by kernel_rfl) ?_
  · intro p hp
    exact absurd hp List.not_mem_nil
  · exact all_cons rfl (all_cons rfl (all_cons rfl (all_cons rfl (all_cons rfl (all_cons rfl (all_cons rfl (all_cons rfl (all_cons rfl (all_cons rfl (all_cons rfl (all_cons rfl (all_cons rfl (all_cons rfl (all_cons rfl (all_cons rfl (all_cons rfl (all_cons rfl (all_cons rfl (all_cons rfl (all_cons rfl (all_cons rfl (all_nil))))))))))))))))))))))
  · refine all_cons (.inr (mStep _ 23 rfl rfl rfl rfl (by kernel_rfl) (fun a hv => wanted_all rfl _) (fun a w K hb hv hK => mPure (.int .i64 4) (exec_move _ _ _ (.inl rfl) _ (hv 6 (by kernel_rfl) rfl) w) hK))) ?_
    refine all_cons (.inr (mStep _ 24 rfl rfl rfl rfl (by kernel_rfl) (fun a hv => wanted_all rfl _) (fun a w K hb hv hK => mPure (.bool true) (exec_bin _ _ _ _ _ _ _ rfl (.int .i64 4) (.int .i64 0) _ (hv 23 (by kernel_rfl) rfl) (by rfl) w ((fun w => by kernel_rfl) w) ((fun w => by kernel_rfl) w)) hK))) ?_
    refine all_cons (.inr (mStep _ 25 rfl rfl rfl rfl (by kernel_rfl) (fun a hv => wanted_all rfl _) (fun a w K hb hv hK => mPure (.bool true) (exec_move _ _ _ (.inl rfl) _ (hv 24 (by kernel_rfl) rfl) w) hK))) ?_
    refine all_cons (.inr (mSkip _ 26 rfl rfl rfl rfl (by kernel_rfl) (fun a hv => (wanted_is (j := 2) (b := false) (c := true) rfl rfl rfl (hv 25 (by kernel_rfl) rfl)).trans rfl) rfl)) ?_
    refine all_cons (.inr (mSkip _ 27 rfl rfl rfl rfl (by kernel_rfl) (fun a hv => (wanted_is (j := 2) (b := false) (c := true) rfl rfl rfl (hv 25 (by kernel_rfl) rfl)).trans rfl) rfl)) ?_
    refine all_cons (.inr (mSkip _ 28 rfl rfl rfl rfl (by kernel_rfl) (fun a hv => (wanted_is (j := 2) (b := false) (c := true) rfl rfl rfl (hv 25 (by kernel_rfl) rfl)).trans rfl) rfl)) ?_
    refine all_cons (.inr (mSkip _ 29 rfl rfl rfl rfl (by kernel_rfl) (fun a hv => (wanted_is (j := 2) (b := false) (c := true) rfl rfl rfl (hv 25 (by kernel_rfl) rfl)).trans rfl) rfl)) ?_
    refine all_cons (.inr (mSkip _ 30 rfl rfl rfl rfl (by kernel_rfl) (fun a hv => (wanted_is (j := 2) (b := false) (c := true) rfl rfl rfl (hv 25 (by kernel_rfl) rfl)).trans rfl) rfl)) ?_
    refine all_cons (.inr (mSkip _ 31 rfl rfl rfl rfl (by kernel_rfl) (fun a hv => wanted_none (j := 7) rfl rfl rfl (hv 30 (by kernel_rfl) rfl)) rfl)) ?_
    refine all_cons (.inr (mSkip _ 32 rfl rfl rfl rfl (by kernel_rfl) (fun a hv => wanted_none (j := 7) rfl rfl rfl (hv 30 (by kernel_rfl) rfl)) rfl)) ?_
    refine all_cons (.inr (mSkip _ 33 rfl rfl rfl rfl (by kernel_rfl) (fun a hv => wanted_none (j := 7) rfl rfl rfl (hv 30 (by kernel_rfl) rfl)) rfl)) ?_
    refine all_cons (.inr (mSkip _ 34 rfl rfl rfl rfl (by kernel_rfl) (fun a hv => wanted_none (j := 7) rfl rfl rfl (hv 30 (by kernel_rfl) rfl)) rfl)) ?_
    refine all_cons (.inr (mSkip _ 35 rfl rfl rfl rfl (by kernel_rfl) (fun a hv => (wanted_is (j := 2) (b := false) (c := true) rfl rfl rfl (hv 25 (by kernel_rfl) rfl)).trans rfl) rfl)) ?_
    refine all_cons (.inr (mSkip _ 36 rfl rfl rfl rfl (by kernel_rfl) (fun a hv => (wanted_is (j := 2) (b := false) (c := true) rfl rfl rfl (hv 25 (by kernel_rfl) rfl)).trans rfl) rfl)) ?_
    refine all_cons (.inr (mSkip _ 37 rfl rfl rfl rfl (by kernel_rfl) (fun a hv => wanted_none (j := 13) rfl rfl rfl (hv 36 (by kernel_rfl) rfl)) rfl)) ?_
    refine all_cons (.inr (mSkip _ 38 rfl rfl rfl rfl (by kernel_rfl) (fun a hv => wanted_none (j := 13) rfl rfl rfl (hv 36 (by kernel_rfl) rfl)) rfl)) ?_
    refine all_cons (.inr (mSkip _ 39 rfl rfl rfl rfl (by kernel_rfl) (fun a hv => wanted_none (j := 13) rfl rfl rfl (hv 36 (by kernel_rfl) rfl)) rfl)) ?_
    refine all_cons (.inr (mSkip _ 40 rfl rfl rfl rfl (by kernel_rfl) (fun a hv => wanted_none (j := 13) rfl rfl rfl (hv 36 (by kernel_rfl) rfl)) rfl)) ?_
    refine all_cons (.inr (mSkip _ 41 rfl rfl rfl rfl (by kernel_rfl) (fun a hv => wanted_none (j := 13) rfl rfl rfl (hv 36 (by kernel_rfl) rfl)) rfl)) ?_
    refine all_cons (.inr (mSkip _ 42 rfl rfl rfl rfl (by kernel_rfl) (fun a hv => (wanted_is (j := 2) (b := false) (c := true) rfl rfl rfl (hv 25 (by kernel_rfl) rfl)).trans rfl) rfl)) ?_
    refine all_cons (.inr (mStep _ 43 rfl rfl rfl rfl (by kernel_rfl) (fun a hv => wanted_all rfl _) (fun a w K hb hv hK => mPure (.bool true) (pick_true _ _ _ _ _ rfl (hv 25 (by kernel_rfl) rfl) (.bool true) (by rfl) w) hK))) ?_
    refine all_cons (.inr (mStep _ 2 rfl rfl rfl rfl (by kernel_rfl) (fun a hv => wanted_all rfl _) (fun a w K hb hv hK => mPure (.bool true) (exec_move _ _ _ (.inr rfl) _ (hv 43 (by kernel_rfl) rfl) w) hK))) ?_
    exact all_nil
  intro w8 g hb8 hN8 hap8
  clear hN8 hap8
  have hB8 := below_then (show Below w.heap.size w w7.drew from hB7.drew) hb8
  have hvb8 := hvb7.on hb8
  have hvp8 := hvp7.on hb8
  have hvv8 := hvv7.on hb8
  clear hB7 hvb7 hvp7 hvv7 hb8
  refine ⟨by kernel_rfl, ?_⟩
  rename_i K hKK
  show Exit.then K _ Exit.normal (⟨(reads0Vs7 kb w.heap.size gp ae gv p v).toArray, []⟩ : Act) w8
  simp only [Exit.then]
  refine hKK _ _ ?_
  clear hKK K g
  simp only [reads0Vs7]
  go_wp2
  go_ret
  exact ⟨rfl, hB8⟩
end Go.Proofs.YtagjbdhelfickaaDoor
