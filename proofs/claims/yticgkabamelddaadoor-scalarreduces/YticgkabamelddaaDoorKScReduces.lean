/- The walk of the law ScalarReduces. (Made by tools/mkscalar.py.) -/
import Derived.Test.YticgkabamelddaaDoorPart10
import Derived.Test.YticgkabamelddaaDoorPart8
import Derived.Test.YticgkabamelddaaDoorPart9
import Derived.Deep.Cut
namespace Go.Proofs.YticgkabamelddaaDoor
open Go.RowKit
theorem bool_neq_self (z : Bool) (w : World) : (binOp .neq 4 (.bool z) (.bool z)).run Tryd.prog w = .ok (.bool false) w := by cases z <;> kernel_rfl
def srVs3 (wb : List UInt8) (sb : List UInt8) (i : Int) (g_base : Nat) (gs : Nat) (rb : List UInt8) (z : Bool) (mb : List UInt8) : List Value :=
  (hashVal wb) :: (hashVal sb) :: (.int .i64 i) :: (.pointer (some ⟨g_base, 0, none⟩)) :: (.pointer (some ⟨gs, 0, none⟩)) :: undef :: (.bool false) :: undef :: (.bool true) :: (.bool false) :: (hashVal wb) :: (hashVal rb) :: (.slice (some ⟨g_base, 0, none⟩) 64 64) :: (hashVal rb) :: (.bool false) :: (.bool false) :: (hashVal sb) :: (.bool z) :: (.slice (some ⟨gs, 0, none⟩) 32 32) :: (hashVal mb) :: (hashVal sb) :: (.bool z) :: (.bool false) :: (.bool false) :: undef :: undef :: undef :: undef :: undef :: undef :: undef :: undef :: undef :: undef :: undef :: undef :: undef :: undef :: undef :: undef :: undef :: undef :: undef :: undef :: undef :: undef :: undef :: []
set_option maxRecDepth 100000 in
set_option maxHeartbeats 4000000 in
theorem scReduces_over (wb sb rb mb : List UInt8) (i : Int) (c z : Bool) (w : World)
    (Hwb : Hid (wb.length = 64))
    (Hsb : Hid (sb.length = 32))
    (CAL : Hid (∀ W, TabsS W → Calls Tryd.prog 6 #[] W fun e w' => e = .returned (.bool true) ∧ Below W.heap.size W w'))
    (CRE : Hid (∀ W, TabsS W → Calls Tryd.prog 7 #[hashVal wb] W fun e w' => e = .returned (hashVal rb) ∧ Below W.heap.size W w'))
    (CM1 : Hid (∀ W, Cells W w.heap.size (wb.map cellOf) 23 → Calls Tryd.prog 8 #[.slice (some ⟨w.heap.size, 0, none⟩) 64 64] W fun e w' => e = .returned (hashVal rb) ∧ Below W.heap.size W w'))
    (CM2 : Hid (∀ g W, Cells W g (sb.map cellOf) 25 → Calls Tryd.prog 8 #[.slice (some ⟨g, 0, none⟩) 32 32] W fun e w' => e = .returned (hashVal mb) ∧ Below W.heap.size W w'))
    (CR : Hid (∀ W, TabsS W → Calls Tryd.prog 9 #[hashVal sb] W fun e w' => e = .returned (.bool z) ∧ Below W.heap.size W w'))
    (CB : Hid (∀ W, Calls Tryd.prog 10 #[hashVal sb, .int .i64 i] W fun e w' => e = .returned (.bool c) ∧ Below W.heap.size W w'))
    (EN : ∀ w, (binOp .neq 25 (hashVal rb) (hashVal rb)).run Tryd.prog w = .ok (.bool false) w)
    (EZ : ∀ w, (binOp .eql 25 (hashVal mb) (hashVal sb)).run Tryd.prog w = .ok (.bool z) w)
    (hS : TabsS w)
    (hi : (i < 0 ∧ c = false) ∨ (256 ≤ i ∧ c = false) ∨ ∃ (n : Nat) (q : UInt8), i = (n : Int) ∧ n < 256 ∧ Hid ((sb.map cellOf)[n / 8]? = some (cellOf q)) ∧ bits .and .u8 ((q.toNat : Int) / 2 ^ (n % 8)) 1 = if c then 1 else 0) :
    Calls Tryd.prog 3 #[hashVal wb, hashVal sb, .int .i64 i] w fun e w' => e = .returned (.bool true) ∧ Below w.heap.size w w' := by
  go_enter Tryd.func3, Tryd.ntmps3
  go_wp2_with (first
    | (refine vtake_step rfl 23 (.tmp 0) rfl (wb.map cellOf) rfl ?_
       intro w1 hb1 hvx1
       have hB1 := hb1
       have hgex : w.heap.size ≤ w.heap.size := Nat.le_refl _
       clear  hb1
       try simp only [Act.put, List.setIfInBounds_toArray, List.set_cons_zero, List.set_cons_succ]
       skip)
    | (refine take_step rfl 25 (.tmp 1) rfl sb rfl ?_
       intro w2 hb2 hvs2 hz
       clear hz
       have hB2 := below_then hB1 hb2
       have hges : w.heap.size ≤ w1.heap.size := hB1.size
       have hvx2 := hvx1.on hb2
       have hnexs := Nat.ne_of_lt hvx1.lt
       clear hB1 hvx1 hb2
       try simp only [Act.put, List.setIfInBounds_toArray, List.set_cons_zero, List.set_cons_succ]
       skip))
  generalize hqs : w1.heap.size = gs at *
  clear hqs
  refine (CAL.out w2 (hS.below hB2)).mono ?_
  rintro e w3 ⟨rfl, hb3⟩
  have hB3 := below_then hB2 hb3
  have hvx3 := hvx2.on hb3
  have hvs3 := hvs2.on hb3
  clear hB2 hvx2 hvs2 hb3
  go_wp2_with fail
  replace hvx3 := hvx3.drew
  replace hvs3 := hvs3.drew
  have hBq := (show Below w.heap.size w w3.drew from hB3.drew)
  refine wp_region_any (by kernel_rfl) ?_
  refine wpAny_flatM (L := [0, 1, 2, 3, 4, 5, 6, 7, 8, 9, 10, 11, 12, 13]) (by kernel_rfl) _ _ (srVs3 wb sb i w.heap.size gs rb z mb) [] 23 (List.replicate 64 (cellOf 0)) [0, 1, 2, 3, 4, 5, 6, 7, 8, 9, 24, 25, 26, 27, 28, 29, 30, 31, 32, 33, 34, 35, 36, 37, 38, 39, 40, 41, 42, 43, 44, 45, 46] (by kernel_rfl) (by kernel_rfl) ?_ zero_wd ?_ (by rfl) ?_ 0 (by kernel_rfl) ?_
  · intro p hp
    exact absurd hp List.not_mem_nil
  · exact all_cons rfl (all_cons rfl (all_cons rfl (all_cons rfl (all_cons rfl (all_cons rfl (all_cons rfl (all_cons rfl (all_cons rfl (all_cons rfl (all_cons rfl (all_cons rfl (all_cons rfl (all_cons rfl (all_cons rfl (all_cons rfl (all_cons rfl (all_cons rfl (all_cons rfl (all_cons rfl (all_cons rfl (all_cons rfl (all_cons rfl (all_cons rfl (all_cons rfl (all_cons rfl (all_cons rfl (all_cons rfl (all_cons rfl (all_cons rfl (all_cons rfl (all_cons rfl (all_cons rfl (all_nil)))))))))))))))))))))))))))))))))
  · refine all_cons (.inr (mStep _ 10 rfl rfl rfl rfl (by kernel_rfl) (fun a hv => wanted_all rfl _) (fun a w K hb hv hK => mPure (hashVal wb) (exec_load _ _ _ _ rfl _ _ (hv 3 (by kernel_rfl) rfl) w (wd_run (hvx3.on hb) Hwb.out)) hK))) ?_
    refine all_cons (.inr (mStep _ 11 rfl rfl rfl rfl (by kernel_rfl) (fun a hv => wanted_all rfl _) (fun a w K hb hv hK => mCall (hashVal rb) 7 _ _ rfl [hashVal wb] (cons_eq (hv 10 (by kernel_rfl) rfl) (rfl)) (enters Tryd.func7 rfl rfl) (CRE.out w (hS.below (below_then hBq hb))) hK))) ?_
    refine all_cons (.inr (mStep _ 12 rfl rfl rfl rfl (by kernel_rfl) (fun a hv => wanted_all rfl _) (fun a w K hb hv hK => mPure (_) (exec_sl _ _ _ _ _ _ _ rfl _ (hv 3 (by kernel_rfl) rfl) _ w (wd_all _ w)) hK))) ?_
    refine all_cons (.inr (mStep _ 13 rfl rfl rfl rfl (by kernel_rfl) (fun a hv => wanted_all rfl _) (fun a w K hb hv hK => mCall (hashVal rb) 8 _ _ rfl [_] (cons_eq (hv 12 (by kernel_rfl) rfl) (rfl)) (enters Tryd.func8 rfl rfl) (CM1.out w (hvx3.on hb)) hK))) ?_
    refine all_cons (.inr (mStep _ 14 rfl rfl rfl rfl (by kernel_rfl) (fun a hv => wanted_all rfl _) (fun a w K hb hv hK => mPure (.bool false) (exec_bin _ _ _ _ _ _ _ rfl (hashVal rb) (hashVal rb) _ (hv 11 (by kernel_rfl) rfl) (hv 13 (by kernel_rfl) rfl) w ((fun w => key_guard _ _ _ _ _ w) w) ((EN) w)) hK))) ?_
    refine all_cons (.inr (mStep _ 15 rfl rfl rfl rfl (by kernel_rfl) (fun a hv => wanted_all rfl _) (fun a w K hb hv hK => mPure (.bool false) (exec_move _ _ _ (.inl rfl) _ (hv 14 (by kernel_rfl) rfl) w) hK))) ?_
    refine all_cons (.inr (mStep _ 16 rfl rfl rfl rfl (by kernel_rfl) (fun a hv => (wanted_is (j := 5) (b := false) (c := false) rfl rfl rfl (hv 15 (by kernel_rfl) rfl)).trans rfl) (fun a w K hb hv hK => mPure (hashVal sb) (exec_load _ _ _ _ rfl _ _ (hv 4 (by kernel_rfl) rfl) w (key_run (hvs3.on hb) Hsb.out)) hK))) ?_
    refine all_cons (.inr (mStep _ 17 rfl rfl rfl rfl (by kernel_rfl) (fun a hv => (wanted_is (j := 5) (b := false) (c := false) rfl rfl rfl (hv 15 (by kernel_rfl) rfl)).trans rfl) (fun a w K hb hv hK => mCall (.bool z) 9 _ _ rfl [hashVal sb] (cons_eq (hv 16 (by kernel_rfl) rfl) (rfl)) (enters Tryd.func9 rfl rfl) (CR.out w (hS.below (below_then hBq hb))) hK))) ?_
    refine all_cons (.inr (mStep _ 18 rfl rfl rfl rfl (by kernel_rfl) (fun a hv => (wanted_is (j := 5) (b := false) (c := false) rfl rfl rfl (hv 15 (by kernel_rfl) rfl)).trans rfl) (fun a w K hb hv hK => mPure (.slice (some ⟨gs, 0, none⟩) 32 32) (exec_sl _ _ _ _ _ _ _ rfl _ (hv 4 (by kernel_rfl) rfl) _ w (key_all _ w)) hK))) ?_
    refine all_cons (.inr (mStep _ 19 rfl rfl rfl rfl (by kernel_rfl) (fun a hv => (wanted_is (j := 5) (b := false) (c := false) rfl rfl rfl (hv 15 (by kernel_rfl) rfl)).trans rfl) (fun a w K hb hv hK => mCall (hashVal mb) 8 _ _ rfl [.slice (some ⟨gs, 0, none⟩) 32 32] (cons_eq (hv 18 (by kernel_rfl) rfl) (rfl)) (enters Tryd.func8 rfl rfl) ((CM2.out gs) w (hvs3.on hb)) hK))) ?_
    refine all_cons (.inr (mStep _ 20 rfl rfl rfl rfl (by kernel_rfl) (fun a hv => (wanted_is (j := 5) (b := false) (c := false) rfl rfl rfl (hv 15 (by kernel_rfl) rfl)).trans rfl) (fun a w K hb hv hK => mPure (hashVal sb) (exec_load _ _ _ _ rfl _ _ (hv 4 (by kernel_rfl) rfl) w (key_run (hvs3.on hb) Hsb.out)) hK))) ?_
    refine all_cons (.inr (mStep _ 21 rfl rfl rfl rfl (by kernel_rfl) (fun a hv => (wanted_is (j := 5) (b := false) (c := false) rfl rfl rfl (hv 15 (by kernel_rfl) rfl)).trans rfl) (fun a w K hb hv hK => mPure (.bool z) (exec_bin _ _ _ _ _ _ _ rfl (hashVal mb) (hashVal sb) _ (hv 19 (by kernel_rfl) rfl) (hv 20 (by kernel_rfl) rfl) w ((fun w => key_guard _ _ _ _ _ w) w) ((EZ) w)) hK))) ?_
    refine all_cons (.inr (mStep _ 22 rfl rfl rfl rfl (by kernel_rfl) (fun a hv => (wanted_is (j := 5) (b := false) (c := false) rfl rfl rfl (hv 15 (by kernel_rfl) rfl)).trans rfl) (fun a w K hb hv hK => mPure (.bool false) (exec_bin _ _ _ _ _ _ _ rfl (.bool z) (.bool z) _ (hv 17 (by kernel_rfl) rfl) (hv 21 (by kernel_rfl) rfl) w ((fun w => by kernel_rfl) w) ((fun w => bool_neq_self z w) w)) hK))) ?_
    refine all_cons (.inr (mStep _ 23 rfl rfl rfl rfl (by kernel_rfl) (fun a hv => wanted_all rfl _) (fun a w K hb hv hK => mPure (.bool false) (pick_false _ _ _ _ _ rfl (hv 15 (by kernel_rfl) rfl) (.bool false) (hv 22 (by kernel_rfl) rfl) w) hK))) ?_
    exact all_nil
  intro w4 g hb4 hN4 hap4
  clear hN4 hap4
  have hB4 := below_then (show Below w.heap.size w w3.drew from hB3.drew) hb4
  have hvx4 := hvx3.on hb4
  have hvs4 := hvs3.on hb4
  clear hB3 hvx3 hvs3 hb4 hBq
  refine ⟨by kernel_rfl, ?_⟩
  rename_i K hKK
  show Exit.then K _ Exit.normal (⟨(srVs3 wb sb i w.heap.size gs rb z mb).toArray, []⟩ : Act) w4
  simp only [Exit.then]
  refine hKK _ _ ?_
  clear hKK K g
  simp only [srVs3]
  go_upto_region 5 with fail
  rcases hi with ⟨i1, rfl⟩ | ⟨i1, rfl⟩ | ⟨n, q, rfl, hn, D, hbit⟩
  · have i2 : ¬ (0 : Int) ≤ i := by omega
    go_wp2_with (first
      | (refine get_step rfl 25 (.tmp 4) rfl gs 32 sb 5 rfl hvs4 Tryd.underlying25 size_k32 Hsb.out ?_
         try simp only [Act.put, List.setIfInBounds_toArray, List.set_cons_zero, List.set_cons_succ]
         skip))
    refine (CB.out w4).mono ?_
    rintro e w90 ⟨rfl, hb90⟩
    have hB90 := below_then hB4 hb90
    clear hb90
    go_wp2
    go_ret
    exact ⟨rfl, hB90⟩
  · have i2 : (0 : Int) ≤ i := by omega
    have i3 : ¬ i < 256 := by omega
    go_wp2_with (first
      | (refine get_step rfl 25 (.tmp 4) rfl gs 32 sb 5 rfl hvs4 Tryd.underlying25 size_k32 Hsb.out ?_
         try simp only [Act.put, List.setIfInBounds_toArray, List.set_cons_zero, List.set_cons_succ]
         skip))
    refine (CB.out w4).mono ?_
    rintro e w90 ⟨rfl, hb90⟩
    have hB90 := below_then hB4 hb90
    clear hb90
    go_wp2
    go_ret
    exact ⟨rfl, hB90⟩
  · have d1 := hvs4.get D.out
    have i1 : (0 : Int) ≤ (n : Int) := by omega
    have i2 : (n : Int) < 256 := by omega
    have i4 : IntKind.u64.wrap ((n : Int) % 8) = (n : Int) % 8 := by rw [IntKind.wrap_u64]; omega
    cases c
    · go_wp2_with (first
        | (refine get_step rfl 25 (.tmp 4) rfl gs 32 sb 5 rfl hvs4 Tryd.underlying25 size_k32 Hsb.out ?_
           try simp only [Act.put, List.setIfInBounds_toArray, List.set_cons_zero, List.set_cons_succ]
           skip))
      refine (CB.out w4).mono ?_
      rintro e w90 ⟨rfl, hb90⟩
      have hB90 := below_then hB4 hb90
      clear hb90
      go_wp2
      go_ret
      exact ⟨rfl, hB90⟩
    · go_wp2_with (first
        | (refine get_step rfl 25 (.tmp 4) rfl gs 32 sb 5 rfl hvs4 Tryd.underlying25 size_k32 Hsb.out ?_
           try simp only [Act.put, List.setIfInBounds_toArray, List.set_cons_zero, List.set_cons_succ]
           skip))
      refine (CB.out w4).mono ?_
      rintro e w90 ⟨rfl, hb90⟩
      have hB90 := below_then hB4 hb90
      clear hb90
      go_wp2
      go_ret
      exact ⟨rfl, hB90⟩
end Go.Proofs.YticgkabamelddaaDoor
