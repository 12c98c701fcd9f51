/- The walk of the law LadderMults. (Made by tools/mkladder.py.) -/
import Derived.Test.YtlhgabhjbnckkaaDoorPart12
import Derived.Test.YtlhgabhjbnckkaaDoorPart2
import Derived.Deep.Cut
namespace Go.Proofs.YtlhgabhjbnckkaaDoor
open Go.RowKit
def lmVs5 (ka : List UInt8) (ub : List UInt8) (g_base : Nat) (gu : Nat) (gv : Nat) (gs : Nat) (err : Value) (wl : List UInt8) (kc : List UInt8) : List Value :=
  (hashVal ka) :: (hashVal ub) :: (.pointer (some ⟨g_base, 0, none⟩)) :: (.pointer (some ⟨gu, 0, none⟩)) :: (.bool false) :: (.pointer (some ⟨gv, 0, none⟩)) :: (.pointer (some ⟨gs, 0, none⟩)) :: (err) :: (.bool true) :: (.bool false) :: (hashVal ka) :: (hashVal ub) :: (hashVal wl) :: (.tuple #[hashVal wl, err]) :: (hashVal ka) :: (hashVal ub) :: (.tuple #[hashVal wl, err]) :: (hashVal wl) :: (err) :: (hashVal ka) :: (hashVal ub) :: (hashVal wl) :: (hashVal wl) :: (.bool false) :: (.bool false) :: (hashVal ka) :: (hashVal kc) :: (hashVal ka) :: (hashVal kc) :: (.bool false) :: (.bool false) :: undef :: undef :: undef :: undef :: undef :: undef :: undef :: undef :: undef :: undef :: undef :: undef :: undef :: undef :: undef :: undef :: undef :: undef :: []
def lmVs9_1 (ka : List UInt8) (ub : List UInt8) (g_base : Nat) (gu : Nat) (gv : Nat) (gs : Nat) (err : Value) (wl : List UInt8) (kc : List UInt8) (zr : List UInt8) : List Value :=
  (hashVal ka) :: (hashVal ub) :: (.pointer (some ⟨g_base, 0, none⟩)) :: (.pointer (some ⟨gu, 0, none⟩)) :: (.bool true) :: (.pointer (some ⟨gv, 0, none⟩)) :: (.pointer (some ⟨gs, 0, none⟩)) :: (err) :: (.bool true) :: (.bool false) :: (hashVal ka) :: (hashVal ub) :: (hashVal wl) :: (.tuple #[hashVal wl, err]) :: (hashVal ka) :: (hashVal ub) :: (.tuple #[hashVal wl, err]) :: (hashVal wl) :: (err) :: (hashVal ka) :: (hashVal ub) :: (hashVal wl) :: (hashVal wl) :: (.bool false) :: (.bool false) :: (hashVal ka) :: (hashVal kc) :: (hashVal ka) :: (hashVal kc) :: (.bool false) :: (.bool false) :: (hashVal wl) :: (hashVal zr) :: (.bool false) :: undef :: undef :: undef :: undef :: undef :: undef :: undef :: undef :: (err) :: (.bool true) :: (.bool true) :: (hashVal wl) :: (hashVal wl) :: (.bool true) :: (.bool true) :: []
def lmVs8_2 (ka : List UInt8) (ub : List UInt8) (g_base : Nat) (gu : Nat) (gv : Nat) (gs : Nat) (err : Value) (wl : List UInt8) (kc : List UInt8) (zr : List UInt8) : List Value :=
  (hashVal ka) :: (hashVal ub) :: (.pointer (some ⟨g_base, 0, none⟩)) :: (.pointer (some ⟨gu, 0, none⟩)) :: (.bool true) :: (.pointer (some ⟨gv, 0, none⟩)) :: (.pointer (some ⟨gs, 0, none⟩)) :: (err) :: (.bool true) :: (.bool false) :: (hashVal ka) :: (hashVal ub) :: (hashVal wl) :: (.tuple #[hashVal wl, err]) :: (hashVal ka) :: (hashVal ub) :: (.tuple #[hashVal wl, err]) :: (hashVal wl) :: (err) :: (hashVal ka) :: (hashVal ub) :: (hashVal wl) :: (hashVal wl) :: (.bool false) :: (.bool false) :: (hashVal ka) :: (hashVal kc) :: (hashVal ka) :: (hashVal kc) :: (.bool false) :: (.bool false) :: (hashVal wl) :: (hashVal zr) :: (.bool true) :: (hashVal wl) :: (hashVal wl) :: (.bool true) :: (.bool true) :: (err) :: (.int .i64 5) :: (.bool true) :: (.bool true) :: undef :: undef :: undef :: undef :: undef :: undef :: undef :: []
set_option maxRecDepth 100000 in
set_option maxHeartbeats 4000000 in
theorem mults_over (ka ub wl kc zr : List UInt8) (err : Value) (es : List Addr) (z : Bool) (w : World)
    (Hka : Hid (ka.length = 32))
    (Hub : Hid (ub.length = 32))
    (Hwl : Hid (wl.length = 32))
    (CAL : Hid (∀ W, Errs W es → Calls Tryd.prog 6 #[] W fun e w' => e = .returned (.bool true) ∧ Below W.heap.size W w'))
    (CRM : Hid (∀ W, Calls Tryd.prog 7 #[hashVal ka, hashVal ub] W fun e w' => e = .returned (hashVal wl) ∧ Below W.heap.size W w'))
    (CSH : Hid (∀ W, Errs W es → Calls Tryd.prog 8 #[hashVal ka, hashVal ub] W fun e w' => e = .returned (.tuple #[hashVal wl, err]) ∧ Below W.heap.size W w'))
    (CMU : Hid (∀ W, Calls Tryd.prog 9 #[hashVal ka, hashVal ub] W fun e w' => e = .returned (hashVal wl) ∧ Below W.heap.size W w'))
    (CC : Hid (∀ W, Calls Tryd.prog 10 #[hashVal ka] W fun e w' => e = .returned (hashVal kc) ∧ Below W.heap.size W w'))
    (CRC : Hid (∀ W, Calls Tryd.prog 11 #[hashVal ka] W fun e w' => e = .returned (hashVal kc) ∧ Below W.heap.size W w'))
    (CN : Hid (z = true → ∀ W, Errs W es → Calls Tryd.prog 12 #[err] W fun e w' => e = .returned (.int .i64 5) ∧ Below W.heap.size W w'))
    (BZ : ∀ w, (Instr.build 23 #[]).run Tryd.prog w = .ok (hashVal zr) w)
    (EW : ∀ w, (binOp .neq 23 (hashVal wl) (hashVal wl)).run Tryd.prog w = .ok (.bool false) w)
    (EC : ∀ w, (binOp .neq 23 (hashVal kc) (hashVal kc)).run Tryd.prog w = .ok (.bool false) w)
    (EZ : ∀ w, (binOp .eql 23 (hashVal wl) (hashVal zr)).run Tryd.prog w = .ok (.bool z) w)
    (EQ : ∀ w, (binOp .eql 23 (hashVal wl) (hashVal wl)).run Tryd.prog w = .ok (.bool true) w)
    (EG : ∀ w, (eqGuard .eql 27 (.tmp 42) (.const .nilIface) err .nilIface).run Tryd.prog w = .ok () w)
    (EE : z = false → ∀ w, (binOp .eql 27 (err) (.nilIface)).run Tryd.prog w = .ok (.bool true) w)
    (hE : Errs w es) :
    Calls Tryd.prog 3 #[hashVal ka, hashVal ub] w fun e w' => e = .returned (.bool true) ∧ Below w.heap.size w w' := by
  go_enter Tryd.func3, Tryd.ntmps3
  go_wp2_with (first
    | (refine take_step rfl 23 (.tmp 0) rfl ka rfl ?_
       intro w1 hb1 hvk1 hz
       clear hz
       have hB1 := hb1
       have hgek : w.heap.size ≤ w.heap.size := Nat.le_refl _
       clear  hb1
       try simp only [Act.put, List.setIfInBounds_toArray, List.set_cons_zero, List.set_cons_succ]
       skip)
    | (refine take_step rfl 23 (.tmp 1) rfl ub rfl ?_
       intro w2 hb2 hvu2 hz
       clear hz
       have hB2 := below_then hB1 hb2
       have hgeu : w.heap.size ≤ w1.heap.size := hB1.size
       have hvk2 := hvk1.on hb2
       have hneku := Nat.ne_of_lt hvk1.lt
       clear hB1 hvk1 hb2
       try simp only [Act.put, List.setIfInBounds_toArray, List.set_cons_zero, List.set_cons_succ]
       skip))
  generalize hqu : w1.heap.size = gu at *
  clear hqu
  refine (CAL.out w2 (hE.below hB2)).mono ?_
  rintro e w3 ⟨rfl, hb3⟩
  have hB3 := below_then hB2 hb3
  have hvk3 := hvk2.on hb3
  have hvu3 := hvu2.on hb3
  clear hB2 hvk2 hvu2 hb3
  go_wp2_with (first
    | (refine get_step rfl 23 (.tmp 2) rfl w.heap.size 32 ka 5 rfl hvk3 Tryd.underlying23 size_k32 Hka.out ?_
       try simp only [Act.put, List.setIfInBounds_toArray, List.set_cons_zero, List.set_cons_succ]
       skip)
    | (refine get_step rfl 23 (.tmp 3) rfl gu 32 ub 5 rfl hvu3 Tryd.underlying23 size_k32 Hub.out ?_
       try simp only [Act.put, List.setIfInBounds_toArray, List.set_cons_zero, List.set_cons_succ]
       skip))
  refine (CRM.out w3).mono ?_
  rintro e w4 ⟨rfl, hb4⟩
  have hB4 := below_then hB3 hb4
  have hvk4 := hvk3.on hb4
  have hvu4 := hvu3.on hb4
  clear hB3 hvk3 hvu3 hb4
  go_wp2_with (first
    | (refine vput_step rfl rfl 23 (.tmp 5) (.tmp 12) rfl rfl 32 kzeros (wl.map cellOf) rfl rfl zero_k32 rfl size_k32 (by rw [List.length_map, Hwl.out]) (kcells_one _) ?_
       intro w5 hb5 hvv5
       have hB5 := below_then hB4 hb5
       have hgev : w.heap.size ≤ w4.heap.size := hB4.size
       have hvk5 := hvk4.on hb5
       have hnekv := Nat.ne_of_lt hvk4.lt
       have hvu5 := hvu4.on hb5
       have hneuv := Nat.ne_of_lt hvu4.lt
       clear hB4 hvk4 hvu4 hb5
       try simp only [Act.put, List.setIfInBounds_toArray, List.set_cons_zero, List.set_cons_succ]
       skip)
    | (refine get_step rfl 23 (.tmp 2) rfl w.heap.size 32 ka 5 rfl hvk5 Tryd.underlying23 size_k32 Hka.out ?_
       try simp only [Act.put, List.setIfInBounds_toArray, List.set_cons_zero, List.set_cons_succ]
       skip)
    | (refine get_step rfl 23 (.tmp 3) rfl gu 32 ub 5 rfl hvu5 Tryd.underlying23 size_k32 Hub.out ?_
       try simp only [Act.put, List.setIfInBounds_toArray, List.set_cons_zero, List.set_cons_succ]
       skip))
  generalize hqv : w4.heap.size = gv at *
  clear hqv
  refine (CSH.out w5 (hE.below hB5)).mono ?_
  rintro e w6 ⟨rfl, hb6⟩
  have hB6 := below_then hB5 hb6
  have hvk6 := hvk5.on hb6
  have hvu6 := hvu5.on hb6
  have hvv6 := hvv5.on hb6
  clear hB5 hvk5 hvu5 hvv5 hb6
  go_wp2_with (first
    | (refine vput_step rfl rfl 23 (.tmp 6) (.tmp 17) rfl rfl 32 kzeros (wl.map cellOf) rfl rfl zero_k32 rfl size_k32 (by rw [List.length_map, Hwl.out]) (kcells_one _) ?_
       intro w7 hb7 hvs7
       have hB7 := below_then hB6 hb7
       have hges : w.heap.size ≤ w6.heap.size := hB6.size
       have hvk7 := hvk6.on hb7
       have hneks := Nat.ne_of_lt hvk6.lt
       have hvu7 := hvu6.on hb7
       have hneus := Nat.ne_of_lt hvu6.lt
       have hvv7 := hvv6.on hb7
       have hnevs := Nat.ne_of_lt hvv6.lt
       clear hB6 hvk6 hvu6 hvv6 hb7
       try simp only [Act.put, List.setIfInBounds_toArray, List.set_cons_zero, List.set_cons_succ]
       skip))
  generalize hqs : w6.heap.size = gs at *
  clear hqs
  replace hvk7 := hvk7.drew
  replace hvu7 := hvu7.drew
  replace hvv7 := hvv7.drew
  replace hvs7 := hvs7.drew
  refine wp_region_any (by kernel_rfl) ?_
  refine wpAny_flatM (L := [0, 1, 2, 3, 4, 5, 6, 7, 8, 9, 10, 11]) (by kernel_rfl) _ _ (lmVs5 ka ub w.heap.size gu gv gs err wl kc) [] 48 (nzeros 5) [0, 1, 2, 3, 4, 5, 6, 7, 8, 9, 10, 11, 12, 13, 14, 15, 16, 17, 18, 31, 32, 33, 34, 35, 36, 37, 38, 39, 40, 41, 42, 43, 44, 45, 46, 47, 48] (by kernel_rfl) (by kernel_rfl) ?_ zero_elem ?_ (by rfl) ?_ 0 (by kernel_rfl) ?_
  · intro p hp
    exact absurd hp List.not_mem_nil
  · exact all_cons rfl (all_cons rfl (all_cons rfl (all_cons rfl (all_cons rfl (all_cons rfl (all_cons rfl (all_cons rfl (all_cons rfl (all_cons rfl (all_cons rfl (all_cons rfl (all_cons rfl (all_cons rfl (all_cons rfl (all_cons rfl (all_cons rfl (all_cons rfl (all_cons rfl (all_cons rfl (all_cons rfl (all_cons rfl (all_cons rfl (all_cons rfl (all_cons rfl (all_cons rfl (all_cons rfl (all_cons rfl (all_cons rfl (all_cons rfl (all_cons rfl (all_cons rfl (all_cons rfl (all_cons rfl (all_cons rfl (all_cons rfl (all_cons rfl (all_nil)))))))))))))))))))))))))))))))))))))
  · refine all_cons (.inr (mStep _ 19 rfl rfl rfl rfl (by kernel_rfl) (fun a hv => wanted_all rfl _) (fun a w K hb hv hK => mPure (hashVal ka) (exec_load _ _ _ _ rfl _ _ (hv 2 (by kernel_rfl) rfl) w (key_run (hvk7.on hb) Hka.out)) hK))) ?_
    refine all_cons (.inr (mStep _ 20 rfl rfl rfl rfl (by kernel_rfl) (fun a hv => wanted_all rfl _) (fun a w K hb hv hK => mPure (hashVal ub) (exec_load _ _ _ _ rfl _ _ (hv 3 (by kernel_rfl) rfl) w (key_run (hvu7.on hb) Hub.out)) hK))) ?_
    refine all_cons (.inr (mStep _ 21 rfl rfl rfl rfl (by kernel_rfl) (fun a hv => wanted_all rfl _) (fun a w K hb hv hK => mCall (hashVal wl) 9 _ _ rfl [hashVal ka, hashVal ub] (cons_eq (hv 19 (by kernel_rfl) rfl) (cons_eq (hv 20 (by kernel_rfl) rfl) (rfl))) (enters Tryd.func9 rfl rfl) (CMU.out w) hK))) ?_
    refine all_cons (.inr (mStep _ 22 rfl rfl rfl rfl (by kernel_rfl) (fun a hv => wanted_all rfl _) (fun a w K hb hv hK => mPure (hashVal wl) (exec_load _ _ _ _ rfl _ _ (hv 5 (by kernel_rfl) rfl) w (key_run (hvv7.on hb) Hwl.out)) hK))) ?_
    refine all_cons (.inr (mStep _ 23 rfl rfl rfl rfl (by kernel_rfl) (fun a hv => wanted_all rfl _) (fun a w K hb hv hK => mPure (.bool false) (exec_bin _ _ _ _ _ _ _ rfl (hashVal wl) (hashVal wl) _ (hv 21 (by kernel_rfl) rfl) (hv 22 (by kernel_rfl) rfl) w ((fun w => key_guard _ _ _ _ _ w) w) ((EW) w)) hK))) ?_
    refine all_cons (.inr (mStep _ 24 rfl rfl rfl rfl (by kernel_rfl) (fun a hv => wanted_all rfl _) (fun a w K hb hv hK => mPure (.bool false) (exec_move _ _ _ (.inl rfl) _ (hv 23 (by kernel_rfl) rfl) w) hK))) ?_
    refine all_cons (.inr (mStep _ 25 rfl rfl rfl rfl (by kernel_rfl) (fun a hv => (wanted_is (j := 5) (b := false) (c := false) rfl rfl rfl (hv 24 (by kernel_rfl) rfl)).trans rfl) (fun a w K hb hv hK => mPure (hashVal ka) (exec_load _ _ _ _ rfl _ _ (hv 2 (by kernel_rfl) rfl) w (key_run (hvk7.on hb) Hka.out)) hK))) ?_
    refine all_cons (.inr (mStep _ 26 rfl rfl rfl rfl (by kernel_rfl) (fun a hv => (wanted_is (j := 5) (b := false) (c := false) rfl rfl rfl (hv 24 (by kernel_rfl) rfl)).trans rfl) (fun a w K hb hv hK => mCall (hashVal kc) 10 _ _ rfl [hashVal ka] (cons_eq (hv 25 (by kernel_rfl) rfl) (rfl)) (enters Tryd.func10 rfl rfl) (CC.out w) hK))) ?_
    refine all_cons (.inr (mStep _ 27 rfl rfl rfl rfl (by kernel_rfl) (fun a hv => (wanted_is (j := 5) (b := false) (c := false) rfl rfl rfl (hv 24 (by kernel_rfl) rfl)).trans rfl) (fun a w K hb hv hK => mPure (hashVal ka) (exec_load _ _ _ _ rfl _ _ (hv 2 (by kernel_rfl) rfl) w (key_run (hvk7.on hb) Hka.out)) hK))) ?_
    refine all_cons (.inr (mStep _ 28 rfl rfl rfl rfl (by kernel_rfl) (fun a hv => (wanted_is (j := 5) (b := false) (c := false) rfl rfl rfl (hv 24 (by kernel_rfl) rfl)).trans rfl) (fun a w K hb hv hK => mCall (hashVal kc) 11 _ _ rfl [hashVal ka] (cons_eq (hv 27 (by kernel_rfl) rfl) (rfl)) (enters Tryd.func11 rfl rfl) (CRC.out w) hK))) ?_
    refine all_cons (.inr (mStep _ 29 rfl rfl rfl rfl (by kernel_rfl) (fun a hv => (wanted_is (j := 5) (b := false) (c := false) rfl rfl rfl (hv 24 (by kernel_rfl) rfl)).trans rfl) (fun a w K hb hv hK => mPure (.bool false) (exec_bin _ _ _ _ _ _ _ rfl (hashVal kc) (hashVal kc) _ (hv 26 (by kernel_rfl) rfl) (hv 28 (by kernel_rfl) rfl) w ((fun w => key_guard _ _ _ _ _ w) w) ((EC) w)) hK))) ?_
    refine all_cons (.inr (mStep _ 30 rfl rfl rfl rfl (by kernel_rfl) (fun a hv => wanted_all rfl _) (fun a w K hb hv hK => mPure (.bool false) (pick_false _ _ _ _ _ rfl (hv 24 (by kernel_rfl) rfl) (.bool false) (hv 29 (by kernel_rfl) rfl) w) hK))) ?_
    exact all_nil
  intro w8 g hb8 hN8 hap8
  clear hN8 hap8
  have hB8 := below_then (show Below w.heap.size w w7.drew from hB7.drew) hb8
  have hvk8 := hvk7.on hb8
  have hvu8 := hvu7.on hb8
  have hvv8 := hvv7.on hb8
  have hvs8 := hvs7.on hb8
  clear hB7 hvk7 hvu7 hvv7 hvs7 hb8
  refine ⟨by kernel_rfl, ?_⟩
  rename_i K hKK
  show Exit.then K _ Exit.normal (⟨(lmVs5 ka ub w.heap.size gu gv gs err wl kc).toArray, []⟩ : Act) w8
  simp only [Exit.then]
  refine hKK _ _ ?_
  clear hKK K g
  simp only [lmVs5]
  cases z
  · have hG33 : ∀ w, (eqGuard .eql 23 (.tmp 31) (.tmp 32) (hashVal wl) (hashVal zr)).run Tryd.prog w = .ok () w := fun w => key_guard _ _ _ _ _ w
    have hQ33 : ∀ w, (binOp .eql 23 (hashVal wl) (hashVal zr)).run Tryd.prog w = .ok (.bool false) w := EZ
    go_upto_region 9 with (first
      | (refine get_step rfl 23 (.tmp 5) rfl gv 32 wl 5 rfl hvv8 Tryd.underlying23 size_k32 Hwl.out ?_
         try simp only [Act.put, List.setIfInBounds_toArray, List.set_cons_zero, List.set_cons_succ]
         skip)
      | (refine build_step rfl 23 [] rfl [] rfl _ BZ ?_
         try simp only [Act.put, List.setIfInBounds_toArray, List.set_cons_zero, List.set_cons_succ]
         skip))
    refine wp_region_flat (md := .any) (by kernel_rfl) ?_
    refine wpAny_flatM (L := [0, 1, 2, 3, 4, 5, 6, 7]) (by kernel_rfl) _ _ (lmVs9_1 ka ub w.heap.size gu gv gs err wl kc zr) [] 48 (nzeros 5) [0, 1, 2, 3, 5, 6, 7, 8, 9, 10, 11, 12, 13, 14, 15, 16, 17, 18, 19, 20, 21, 22, 23, 24, 25, 26, 27, 28, 29, 30, 31, 32, 33, 34, 35, 36, 37, 38, 39, 40, 41] (by kernel_rfl) (by kernel_rfl) ?_ zero_elem ?_ (by rfl) ?_ 0 (by kernel_rfl) ?_
    · intro p hp
      exact absurd hp List.not_mem_nil
    · exact all_cons rfl (all_cons rfl (all_cons rfl (all_cons rfl (all_cons rfl (all_cons rfl (all_cons rfl (all_cons rfl (all_cons rfl (all_cons rfl (all_cons rfl (all_cons rfl (all_cons rfl (all_cons rfl (all_cons rfl (all_cons rfl (all_cons rfl (all_cons rfl (all_cons rfl (all_cons rfl (all_cons rfl (all_cons rfl (all_cons rfl (all_cons rfl (all_cons rfl (all_cons rfl (all_cons rfl (all_cons rfl (all_cons rfl (all_cons rfl (all_cons rfl (all_cons rfl (all_cons rfl (all_cons rfl (all_cons rfl (all_cons rfl (all_cons rfl (all_cons rfl (all_cons rfl (all_cons rfl (all_cons rfl (all_nil)))))))))))))))))))))))))))))))))))))))))
    · refine all_cons (.inr (mStep _ 42 rfl rfl rfl rfl (by kernel_rfl) (fun a hv => wanted_all rfl _) (fun a w K hb hv hK => mPure (err) (exec_move _ _ _ (.inl rfl) _ (hv 7 (by kernel_rfl) rfl) w) hK))) ?_
      refine all_cons (.inr (mStep _ 43 rfl rfl rfl rfl (by kernel_rfl) (fun a hv => wanted_all rfl _) (fun a w K hb hv hK => mPure (.bool true) (exec_bin _ _ _ _ _ _ _ rfl (err) (.nilIface) _ (hv 42 (by kernel_rfl) rfl) (by rfl) w ((EG) w) ((EE (by simp)) w)) hK))) ?_
      refine all_cons (.inr (mStep _ 44 rfl rfl rfl rfl (by kernel_rfl) (fun a hv => wanted_all rfl _) (fun a w K hb hv hK => mPure (.bool true) (exec_move _ _ _ (.inl rfl) _ (hv 43 (by kernel_rfl) rfl) w) hK))) ?_
      refine all_cons (.inr (mStep _ 45 rfl rfl rfl rfl (by kernel_rfl) (fun a hv => (wanted_is (j := 2) (b := true) (c := true) rfl rfl rfl (hv 44 (by kernel_rfl) rfl)).trans rfl) (fun a w K hb hv hK => mPure (hashVal wl) (exec_load _ _ _ _ rfl _ _ (hv 6 (by kernel_rfl) rfl) w (key_run (hvs8.on hb) Hwl.out)) hK))) ?_
      refine all_cons (.inr (mStep _ 46 rfl rfl rfl rfl (by kernel_rfl) (fun a hv => (wanted_is (j := 2) (b := true) (c := true) rfl rfl rfl (hv 44 (by kernel_rfl) rfl)).trans rfl) (fun a w K hb hv hK => mPure (hashVal wl) (exec_load _ _ _ _ rfl _ _ (hv 5 (by kernel_rfl) rfl) w (key_run (hvv8.on hb) Hwl.out)) hK))) ?_
      refine all_cons (.inr (mStep _ 47 rfl rfl rfl rfl (by kernel_rfl) (fun a hv => (wanted_is (j := 2) (b := true) (c := true) rfl rfl rfl (hv 44 (by kernel_rfl) rfl)).trans rfl) (fun a w K hb hv hK => mPure (.bool true) (exec_bin _ _ _ _ _ _ _ rfl (hashVal wl) (hashVal wl) _ (hv 45 (by kernel_rfl) rfl) (hv 46 (by kernel_rfl) rfl) w ((fun w => key_guard _ _ _ _ _ w) w) ((EQ) w)) hK))) ?_
      refine all_cons (.inr (mStep _ 48 rfl rfl rfl rfl (by kernel_rfl) (fun a hv => wanted_all rfl _) (fun a w K hb hv hK => mPure (.bool true) (pick_true _ _ _ _ _ rfl (hv 44 (by kernel_rfl) rfl) (.bool true) (hv 47 (by kernel_rfl) rfl) w) hK))) ?_
      refine all_cons (.inr (mStep _ 4 rfl rfl rfl rfl (by kernel_rfl) (fun a hv => wanted_all rfl _) (fun a w K hb hv hK => mPure (.bool true) (exec_move _ _ _ (.inr rfl) _ (hv 48 (by kernel_rfl) rfl) w) hK))) ?_
      exact all_nil
    intro w9 g hb9 hN9 hap9
    clear hN9 hap9
    have hB9 := below_then hB8 hb9
    have hvk9 := hvk8.on hb9
    have hvu9 := hvu8.on hb9
    have hvv9 := hvv8.on hb9
    have hvs9 := hvs8.on hb9
    clear hB8 hvk8 hvu8 hvv8 hvs8 hb9
    refine ⟨by kernel_rfl, ?_⟩
    rename_i K hKK
    show Exit.then K _ Exit.normal (⟨(lmVs9_1 ka ub w.heap.size gu gv gs err wl kc zr).toArray, []⟩ : Act) w9
    simp only [Exit.then]
    refine hKK _ _ ?_
    clear hKK K g
    simp only [lmVs9_1]
    go_wp2
    go_ret
    exact ⟨rfl, hB9⟩
  · have hG33 : ∀ w, (eqGuard .eql 23 (.tmp 31) (.tmp 32) (hashVal wl) (hashVal zr)).run Tryd.prog w = .ok () w := fun w => key_guard _ _ _ _ _ w
    have hQ33 : ∀ w, (binOp .eql 23 (hashVal wl) (hashVal zr)).run Tryd.prog w = .ok (.bool true) w := EZ
    go_upto_region 8 with (first
      | (refine get_step rfl 23 (.tmp 5) rfl gv 32 wl 5 rfl hvv8 Tryd.underlying23 size_k32 Hwl.out ?_
         try simp only [Act.put, List.setIfInBounds_toArray, List.set_cons_zero, List.set_cons_succ]
         skip)
      | (refine build_step rfl 23 [] rfl [] rfl _ BZ ?_
         try simp only [Act.put, List.setIfInBounds_toArray, List.set_cons_zero, List.set_cons_succ]
         skip))
    refine wp_region_flat (md := .any) (by kernel_rfl) ?_
    refine wpAny_flatM (L := [0, 1, 2, 3, 4, 5, 6, 7, 8]) (by kernel_rfl) _ _ (lmVs8_2 ka ub w.heap.size gu gv gs err wl kc zr) [] 48 (nzeros 5) [0, 1, 2, 3, 5, 6, 7, 8, 9, 10, 11, 12, 13, 14, 15, 16, 17, 18, 19, 20, 21, 22, 23, 24, 25, 26, 27, 28, 29, 30, 31, 32, 33, 42, 43, 44, 45, 46, 47, 48] (by kernel_rfl) (by kernel_rfl) ?_ zero_elem ?_ (by rfl) ?_ 0 (by kernel_rfl) ?_
    · intro p hp
      exact absurd hp List.not_mem_nil
    · exact all_cons rfl (all_cons rfl (all_cons rfl (all_cons rfl (all_cons rfl (all_cons rfl (all_cons rfl (all_cons rfl (all_cons rfl (all_cons rfl (all_cons rfl (all_cons rfl (all_cons rfl (all_cons rfl (all_cons rfl (all_cons rfl (all_cons rfl (all_cons rfl (all_cons rfl (all_cons rfl (all_cons rfl (all_cons rfl (all_cons rfl (all_cons rfl (all_cons rfl (all_cons rfl (all_cons rfl (all_cons rfl (all_cons rfl (all_cons rfl (all_cons rfl (all_cons rfl (all_cons rfl (all_cons rfl (all_cons rfl (all_cons rfl (all_cons rfl (all_cons rfl (all_cons rfl (all_cons rfl (all_nil))))))))))))))))))))))))))))))))))))))))
    · refine all_cons (.inr (mStep _ 34 rfl rfl rfl rfl (by kernel_rfl) (fun a hv => wanted_all rfl _) (fun a w K hb hv hK => mPure (hashVal wl) (exec_load _ _ _ _ rfl _ _ (hv 6 (by kernel_rfl) rfl) w (key_run (hvs8.on hb) Hwl.out)) hK))) ?_
      refine all_cons (.inr (mStep _ 35 rfl rfl rfl rfl (by kernel_rfl) (fun a hv => wanted_all rfl _) (fun a w K hb hv hK => mPure (hashVal wl) (exec_load _ _ _ _ rfl _ _ (hv 5 (by kernel_rfl) rfl) w (key_run (hvv8.on hb) Hwl.out)) hK))) ?_
      refine all_cons (.inr (mStep _ 36 rfl rfl rfl rfl (by kernel_rfl) (fun a hv => wanted_all rfl _) (fun a w K hb hv hK => mPure (.bool true) (exec_bin _ _ _ _ _ _ _ rfl (hashVal wl) (hashVal wl) _ (hv 34 (by kernel_rfl) rfl) (hv 35 (by kernel_rfl) rfl) w ((fun w => key_guard _ _ _ _ _ w) w) ((EQ) w)) hK))) ?_
      refine all_cons (.inr (mStep _ 37 rfl rfl rfl rfl (by kernel_rfl) (fun a hv => wanted_all rfl _) (fun a w K hb hv hK => mPure (.bool true) (exec_move _ _ _ (.inl rfl) _ (hv 36 (by kernel_rfl) rfl) w) hK))) ?_
      refine all_cons (.inr (mStep _ 38 rfl rfl rfl rfl (by kernel_rfl) (fun a hv => (wanted_is (j := 3) (b := true) (c := true) rfl rfl rfl (hv 37 (by kernel_rfl) rfl)).trans rfl) (fun a w K hb hv hK => mPure (err) (exec_move _ _ _ (.inl rfl) _ (hv 7 (by kernel_rfl) rfl) w) hK))) ?_
      refine all_cons (.inr (mStep _ 39 rfl rfl rfl rfl (by kernel_rfl) (fun a hv => (wanted_is (j := 3) (b := true) (c := true) rfl rfl rfl (hv 37 (by kernel_rfl) rfl)).trans rfl) (fun a w K hb hv hK => mCall (.int .i64 5) 12 _ _ rfl [err] (cons_eq (hv 38 (by kernel_rfl) rfl) (rfl)) (enters Tryd.func12 rfl rfl) ((CN.out (by simp)) w (hE.below (below_then hB8 hb))) hK))) ?_
      refine all_cons (.inr (mStep _ 40 rfl rfl rfl rfl (by kernel_rfl) (fun a hv => (wanted_is (j := 3) (b := true) (c := true) rfl rfl rfl (hv 37 (by kernel_rfl) rfl)).trans rfl) (fun a w K hb hv hK => mPure (.bool true) (exec_bin _ _ _ _ _ _ _ rfl (.int .i64 5) (.int .i64 5) _ (hv 39 (by kernel_rfl) rfl) (by rfl) w ((fun w => by kernel_rfl) w) ((fun w => by kernel_rfl) w)) hK))) ?_
      refine all_cons (.inr (mStep _ 41 rfl rfl rfl rfl (by kernel_rfl) (fun a hv => wanted_all rfl _) (fun a w K hb hv hK => mPure (.bool true) (pick_true _ _ _ _ _ rfl (hv 37 (by kernel_rfl) rfl) (.bool true) (hv 40 (by kernel_rfl) rfl) w) hK))) ?_
      refine all_cons (.inr (mStep _ 4 rfl rfl rfl rfl (by kernel_rfl) (fun a hv => wanted_all rfl _) (fun a w K hb hv hK => mPure (.bool true) (exec_move _ _ _ (.inr rfl) _ (hv 41 (by kernel_rfl) rfl) w) hK))) ?_
      exact all_nil
    intro w10 g hb10 hN10 hap10
    clear hN10 hap10
    have hB10 := below_then hB8 hb10
    have hvk10 := hvk8.on hb10
    have hvu10 := hvu8.on hb10
    have hvv10 := hvv8.on hb10
    have hvs10 := hvs8.on hb10
    clear hB8 hvk8 hvu8 hvv8 hvs8 hb10
    refine ⟨by kernel_rfl, ?_⟩
    rename_i K hKK
    show Exit.then K _ Exit.normal (⟨(lmVs8_2 ka ub w.heap.size gu gv gs err wl kc zr).toArray, []⟩ : Act) w10
    simp only [Exit.then]
    refine hKK _ _ ?_
    clear hKK K g
    simp only [lmVs8_2]
    go_wp2
    go_ret
    exact ⟨rfl, hB10⟩
end Go.Proofs.YtlhgabhjbnckkaaDoor
