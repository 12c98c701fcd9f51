/- Part 17 of what the laws of this seat share: USame, UNegate, UBytes. -/
import Derived.Deep.Cut
import Derived.IntWalk
import Derived.Test.YtagjbdhelfickaaDoorPart16
namespace Go.Proofs.YtagjbdhelfickaaDoor
open Go.RowKit
def usameVs1 (p : List Nat) (q : List Nat) (g_base : Nat) (gq : Nat) (px : List Nat) (qz : List Nat) (m1 : List Nat) (qx : List Nat) (pz : List Nat) (m2 : List Nat) : List Value :=
  (numVal p) :: (numVal q) :: (.pointer (some ⟨g_base, 0, none⟩)) :: (.pointer (some ⟨gq, 0, none⟩)) :: (.bool false) :: (.pointer (some ⟨g_base, 0, none⟩)) :: (numVal px) :: (.pointer (some ⟨gq, 10, none⟩)) :: (numVal qz) :: (numVal m1) :: (.pointer (some ⟨gq, 0, none⟩)) :: (numVal qx) :: (.pointer (some ⟨g_base, 10, none⟩)) :: (numVal pz) :: (numVal m2) :: (.bool false) :: (.bool false) :: undef :: undef :: undef :: undef :: undef :: undef :: undef :: undef :: undef :: undef :: undef :: (.bool false) :: []
def usameVs1_1 (p : List Nat) (q : List Nat) (g_base : Nat) (gq : Nat) (s2 : Bool) (px : List Nat) (qz : List Nat) (m1 : List Nat) (qx : List Nat) (pz : List Nat) (m2 : List Nat) (py : List Nat) (m3 : List Nat) (qy : List Nat) (m4 : List Nat) : List Value :=
  (numVal p) :: (numVal q) :: (.pointer (some ⟨g_base, 0, none⟩)) :: (.pointer (some ⟨gq, 0, none⟩)) :: (.bool s2) :: (.pointer (some ⟨g_base, 0, none⟩)) :: (numVal px) :: (.pointer (some ⟨gq, 10, none⟩)) :: (numVal qz) :: (numVal m1) :: (.pointer (some ⟨gq, 0, none⟩)) :: (numVal qx) :: (.pointer (some ⟨g_base, 10, none⟩)) :: (numVal pz) :: (numVal m2) :: (.bool true) :: (.bool true) :: (.pointer (some ⟨g_base, 5, none⟩)) :: (numVal py) :: (.pointer (some ⟨gq, 10, none⟩)) :: (numVal qz) :: (numVal m3) :: (.pointer (some ⟨gq, 5, none⟩)) :: (numVal qy) :: (.pointer (some ⟨g_base, 10, none⟩)) :: (numVal pz) :: (numVal m4) :: (.bool s2) :: (.bool s2) :: []
set_option maxRecDepth 100000 in
set_option maxHeartbeats 2000000 in
theorem usame_over (p px py pz q qx qy qz m1 m2 m3 m4 : List Nat) (s1 s2 : Bool) (w : World)
    (Hpx : Hid (px.length = 5))
    (Hpy : Hid (py.length = 5))
    (Hpz : Hid (pz.length = 5))
    (Hqx : Hid (qx.length = 5))
    (Hqy : Hid (qy.length = 5))
    (Hqz : Hid (qz.length = 5))
    (Fp : Hid (p = px ++ py ++ pz))
    (Fq : Hid (q = qx ++ qy ++ qz))
    (C1 : Hid (∀ W, Calls Tryd.prog 43 #[numVal px, numVal qz] W fun e w' => e = .returned (numVal m1) ∧ Below W.heap.size W w'))
    (C2 : Hid (∀ W, Calls Tryd.prog 43 #[numVal qx, numVal pz] W fun e w' => e = .returned (numVal m2) ∧ Below W.heap.size W w'))
    (C3 : Hid (∀ W, Calls Tryd.prog 48 #[numVal m1, numVal m2] W fun e w' => e = .returned (.bool s1) ∧ Below W.heap.size W w'))
    (C4 : Hid (∀ W, Calls Tryd.prog 43 #[numVal py, numVal qz] W fun e w' => e = .returned (numVal m3) ∧ Below W.heap.size W w'))
    (C5 : Hid (∀ W, Calls Tryd.prog 43 #[numVal qy, numVal pz] W fun e w' => e = .returned (numVal m4) ∧ Below W.heap.size W w'))
    (C6 : Hid (∀ W, Calls Tryd.prog 48 #[numVal m3, numVal m4] W fun e w' => e = .returned (.bool s2) ∧ Below W.heap.size W w')) :
    Calls Tryd.prog 15 #[numVal p, numVal q] w fun e w' => e = .returned (.bool (s1 && s2)) ∧ Below w.heap.size w w' := by
  go_enter Tryd.func15, Tryd.ntmps15
  cases s1
  · go_wp2_with (first
      | (refine vtake_step rfl 31 (.tmp 0) rfl (p.map ncell) rfl ?_
         intro w1 hb1 hvp1
         have hB1 := hb1
         have hgep : w.heap.size ≤ w.heap.size := Nat.le_refl _
         clear  hb1
         try simp only [Act.put, List.setIfInBounds_toArray, List.set_cons_zero, List.set_cons_succ]
         skip)
      | (refine vtake_step rfl 31 (.tmp 1) rfl (q.map ncell) rfl ?_
         intro w2 hb2 hvq2
         have hB2 := below_then hB1 hb2
         have hgeq : w.heap.size ≤ w1.heap.size := hB1.size
         have hvp2 := hvp1.on hb2
         have hnepq := Nat.ne_of_lt hvp1.lt
         clear hB1 hvp1 hb2
         try simp only [Act.put, List.setIfInBounds_toArray, List.set_cons_zero, List.set_cons_succ]
         skip))
    generalize hqq : w1.heap.size = gq at *
    clear hqq
    replace hvp2 := hvp2.drew
    replace hvq2 := hvq2.drew
    refine wp_region_any (by kernel_rfl) ?_
    refine wpAny_flatM (L := [0, 1, 2, 3, 4, 5, 6, 7, 8, 9, 10, 11, 12, 13, 14, 15, 16, 17, 18, 19, 20, 21, 22, 23, 24]) (by kernel_rfl) _ _ (usameVs1 p q w.heap.size gq px qz m1 qx pz m2) [] 31 (nzeros 15) [0, 1, 2, 3] (by kernel_rfl) (by kernel_rfl) ?_ zero_up ?_ (by rfl) ?_ 0 (by kernel_rfl) ?_
    · intro p hp
      exact absurd hp List.not_mem_nil
    · repeat refine all_cons rfl ?_
      exact all_nil
    · refine all_cons (.inr (mStep _ 5 rfl rfl rfl rfl (by kernel_rfl) (fun a hv => wanted_all rfl _) (fun a w K hb hv hK => mPure _ (exec_field _ _ _ _ 0 rfl _ _ (hv 2 (by kernel_rfl) rfl) w (field_u0 _ w)) hK))) ?_
      refine all_cons (.inr (mStep _ 6 rfl rfl rfl rfl (by kernel_rfl) (fun a hv => wanted_all rfl _) (fun a w K hb hv hK => mPure (numVal px) (exec_load _ _ _ _ rfl _ _ (hv 5 (by kernel_rfl) rfl) w (load_u0 (hvp2.on hb) Fp.out Hpx.out)) hK))) ?_
      refine all_cons (.inr (mStep _ 7 rfl rfl rfl rfl (by kernel_rfl) (fun a hv => wanted_all rfl _) (fun a w K hb hv hK => mPure _ (exec_field _ _ _ _ 2 rfl _ _ (hv 3 (by kernel_rfl) rfl) w (field_u2 _ w)) hK))) ?_
      refine all_cons (.inr (mStep _ 8 rfl rfl rfl rfl (by kernel_rfl) (fun a hv => wanted_all rfl _) (fun a w K hb hv hK => mPure (numVal qz) (exec_load _ _ _ _ rfl _ _ (hv 7 (by kernel_rfl) rfl) w (load_u2 (hvq2.on hb) Fq.out Hqx.out Hqy.out Hqz.out)) hK))) ?_
      refine all_cons (.inr (mStep _ 9 rfl rfl rfl rfl (by kernel_rfl) (fun a hv => wanted_all rfl _) (fun a w K hb hv hK => mCall (numVal m1) 43 _ _ rfl [numVal px, numVal qz] (cons_eq (hv 6 (by kernel_rfl) rfl) (cons_eq (hv 8 (by kernel_rfl) rfl) (rfl))) (enters Tryd.func43 rfl rfl) (C1.out w) hK))) ?_
      refine all_cons (.inr (mStep _ 10 rfl rfl rfl rfl (by kernel_rfl) (fun a hv => wanted_all rfl _) (fun a w K hb hv hK => mPure _ (exec_field _ _ _ _ 0 rfl _ _ (hv 3 (by kernel_rfl) rfl) w (field_u0 _ w)) hK))) ?_
      refine all_cons (.inr (mStep _ 11 rfl rfl rfl rfl (by kernel_rfl) (fun a hv => wanted_all rfl _) (fun a w K hb hv hK => mPure (numVal qx) (exec_load _ _ _ _ rfl _ _ (hv 10 (by kernel_rfl) rfl) w (load_u0 (hvq2.on hb) Fq.out Hqx.out)) hK))) ?_
      refine all_cons (.inr (mStep _ 12 rfl rfl rfl rfl (by kernel_rfl) (fun a hv => wanted_all rfl _) (fun a w K hb hv hK => mPure _ (exec_field _ _ _ _ 2 rfl _ _ (hv 2 (by kernel_rfl) rfl) w (field_u2 _ w)) hK))) ?_
      refine all_cons (.inr (mStep _ 13 rfl rfl rfl rfl (by kernel_rfl) (fun a hv => wanted_all rfl _) (fun a w K hb hv hK => mPure (numVal pz) (exec_load _ _ _ _ rfl _ _ (hv 12 (by kernel_rfl) rfl) w (load_u2 (hvp2.on hb) Fp.out Hpx.out Hpy.out Hpz.out)) hK))) ?_
      refine all_cons (.inr (mStep _ 14 rfl rfl rfl rfl (by kernel_rfl) (fun a hv => wanted_all rfl _) (fun a w K hb hv hK => mCall (numVal m2) 43 _ _ rfl [numVal qx, numVal pz] (cons_eq (hv 11 (by kernel_rfl) rfl) (cons_eq (hv 13 (by kernel_rfl) rfl) (rfl))) (enters Tryd.func43 rfl rfl) (C2.out w) hK))) ?_
      refine all_cons (.inr (mStep _ 15 rfl rfl rfl rfl (by kernel_rfl) (fun a hv => wanted_all rfl _) (fun a w K hb hv hK => mCall (.bool false) 48 _ _ rfl [numVal m1, numVal m2] (cons_eq (hv 9 (by kernel_rfl) rfl) (cons_eq (hv 14 (by kernel_rfl) rfl) (rfl))) (enters Tryd.func48 rfl rfl) (C3.out w) hK))) ?_
      refine all_cons (.inr (mStep _ 16 rfl rfl rfl rfl (by kernel_rfl) (fun a hv => wanted_all rfl _) (fun a w K hb hv hK => mPure (.bool false) (exec_move _ _ _ (.inl rfl) _ (hv 15 (by kernel_rfl) rfl) w) hK))) ?_
      refine all_cons (.inr (mSkip _ 17 rfl rfl rfl rfl (by kernel_rfl) (fun a hv => (wanted_is (j := 11) (b := true) (c := false) rfl rfl rfl (hv 16 (by kernel_rfl) rfl)).trans rfl) rfl)) ?_
      refine all_cons (.inr (mSkip _ 18 rfl rfl rfl rfl (by kernel_rfl) (fun a hv => (wanted_is (j := 11) (b := true) (c := false) rfl rfl rfl (hv 16 (by kernel_rfl) rfl)).trans rfl) rfl)) ?_
      refine all_cons (.inr (mSkip _ 19 rfl rfl rfl rfl (by kernel_rfl) (fun a hv => (wanted_is (j := 11) (b := true) (c := false) rfl rfl rfl (hv 16 (by kernel_rfl) rfl)).trans rfl) rfl)) ?_
      refine all_cons (.inr (mSkip _ 20 rfl rfl rfl rfl (by kernel_rfl) (fun a hv => (wanted_is (j := 11) (b := true) (c := false) rfl rfl rfl (hv 16 (by kernel_rfl) rfl)).trans rfl) rfl)) ?_
      refine all_cons (.inr (mSkip _ 21 rfl rfl rfl rfl (by kernel_rfl) (fun a hv => (wanted_is (j := 11) (b := true) (c := false) rfl rfl rfl (hv 16 (by kernel_rfl) rfl)).trans rfl) rfl)) ?_
      refine all_cons (.inr (mSkip _ 22 rfl rfl rfl rfl (by kernel_rfl) (fun a hv => (wanted_is (j := 11) (b := true) (c := false) rfl rfl rfl (hv 16 (by kernel_rfl) rfl)).trans rfl) rfl)) ?_
      refine all_cons (.inr (mSkip _ 23 rfl rfl rfl rfl (by kernel_rfl) (fun a hv => (wanted_is (j := 11) (b := true) (c := false) rfl rfl rfl (hv 16 (by kernel_rfl) rfl)).trans rfl) rfl)) ?_
      refine all_cons (.inr (mSkip _ 24 rfl rfl rfl rfl (by kernel_rfl) (fun a hv => (wanted_is (j := 11) (b := true) (c := false) rfl rfl rfl (hv 16 (by kernel_rfl) rfl)).trans rfl) rfl)) ?_
      refine all_cons (.inr (mSkip _ 25 rfl rfl rfl rfl (by kernel_rfl) (fun a hv => (wanted_is (j := 11) (b := true) (c := false) rfl rfl rfl (hv 16 (by kernel_rfl) rfl)).trans rfl) rfl)) ?_
      refine all_cons (.inr (mSkip _ 26 rfl rfl rfl rfl (by kernel_rfl) (fun a hv => (wanted_is (j := 11) (b := true) (c := false) rfl rfl rfl (hv 16 (by kernel_rfl) rfl)).trans rfl) rfl)) ?_
      refine all_cons (.inr (mSkip _ 27 rfl rfl rfl rfl (by kernel_rfl) (fun a hv => (wanted_is (j := 11) (b := true) (c := false) rfl rfl rfl (hv 16 (by kernel_rfl) rfl)).trans rfl) rfl)) ?_
      refine all_cons (.inr (mStep _ 28 rfl rfl rfl rfl (by kernel_rfl) (fun a hv => wanted_all rfl _) (fun a w K hb hv hK => mPure (.bool false) (pick_false _ _ _ _ _ rfl (hv 16 (by kernel_rfl) rfl) (.bool false) (by rfl) w) hK))) ?_
      refine all_cons (.inr (mStep _ 4 rfl rfl rfl rfl (by kernel_rfl) (fun a hv => wanted_all rfl _) (fun a w K hb hv hK => mPure (.bool false) (exec_move _ _ _ (.inr rfl) _ (hv 28 (by kernel_rfl) rfl) w) hK))) ?_
      exact all_nil
    intro w3 g hb3 hN3 hap3
    clear hN3 hap3
    have hB3 := below_then (show Below w.heap.size w w2.drew from hB2.drew) hb3
    have hvp3 := hvp2.on hb3
    have hvq3 := hvq2.on hb3
    clear hB2 hvp2 hvq2 hb3
    refine ⟨by kernel_rfl, ?_⟩
    rename_i K hKK
    show Exit.then K _ Exit.normal (⟨(usameVs1 p q w.heap.size gq px qz m1 qx pz m2).toArray, []⟩ : Act) w3
    simp only [Exit.then]
    refine hKK _ _ ?_
    clear hKK K g
    simp only [usameVs1]
    go_wp2
    go_ret
    exact ⟨rfl, hB3⟩
  · go_wp2_with (first
      | (refine vtake_step rfl 31 (.tmp 0) rfl (p.map ncell) rfl ?_
         intro w1 hb1 hvp1
         have hB1 := hb1
         have hgep : w.heap.size ≤ w.heap.size := Nat.le_refl _
         clear  hb1
         try simp only [Act.put, List.setIfInBounds_toArray, List.set_cons_zero, List.set_cons_succ]
         skip)
      | (refine vtake_step rfl 31 (.tmp 1) rfl (q.map ncell) rfl ?_
         intro w2 hb2 hvq2
         have hB2 := below_then hB1 hb2
         have hgeq : w.heap.size ≤ w1.heap.size := hB1.size
         have hvp2 := hvp1.on hb2
         have hnepq := Nat.ne_of_lt hvp1.lt
         clear hB1 hvp1 hb2
         try simp only [Act.put, List.setIfInBounds_toArray, List.set_cons_zero, List.set_cons_succ]
         skip))
    generalize hqq : w1.heap.size = gq at *
    clear hqq
    replace hvp2 := hvp2.drew
    replace hvq2 := hvq2.drew
    refine wp_region_any (by kernel_rfl) ?_
    refine wpAny_flatM (L := [0, 1, 2, 3, 4, 5, 6, 7, 8, 9, 10, 11, 12, 13, 14, 15, 16, 17, 18, 19, 20, 21, 22, 23, 24]) (by kernel_rfl) _ _ (usameVs1_1 p q w.heap.size gq s2 px qz m1 qx pz m2 py m3 qy m4) [] 31 (nzeros 15) [0, 1, 2, 3] (by kernel_rfl) (by kernel_rfl) ?_ zero_up ?_ (by rfl) ?_ 0 (by kernel_rfl) ?_
    · intro p hp
      exact absurd hp List.not_mem_nil
    · repeat refine all_cons rfl ?_
      exact all_nil
    · refine all_cons (.inr (mStep _ 5 rfl rfl rfl rfl (by kernel_rfl) (fun a hv => wanted_all rfl _) (fun a w K hb hv hK => mPure _ (exec_field _ _ _ _ 0 rfl _ _ (hv 2 (by kernel_rfl) rfl) w (field_u0 _ w)) hK))) ?_
      refine all_cons (.inr (mStep _ 6 rfl rfl rfl rfl (by kernel_rfl) (fun a hv => wanted_all rfl _) (fun a w K hb hv hK => mPure (numVal px) (exec_load _ _ _ _ rfl _ _ (hv 5 (by kernel_rfl) rfl) w (load_u0 (hvp2.on hb) Fp.out Hpx.out)) hK))) ?_
      refine all_cons (.inr (mStep _ 7 rfl rfl rfl rfl (by kernel_rfl) (fun a hv => wanted_all rfl _) (fun a w K hb hv hK => mPure _ (exec_field _ _ _ _ 2 rfl _ _ (hv 3 (by kernel_rfl) rfl) w (field_u2 _ w)) hK))) ?_
      refine all_cons (.inr (mStep _ 8 rfl rfl rfl rfl (by kernel_rfl) (fun a hv => wanted_all rfl _) (fun a w K hb hv hK => mPure (numVal qz) (exec_load _ _ _ _ rfl _ _ (hv 7 (by kernel_rfl) rfl) w (load_u2 (hvq2.on hb) Fq.out Hqx.out Hqy.out Hqz.out)) hK))) ?_
      refine all_cons (.inr (mStep _ 9 rfl rfl rfl rfl (by kernel_rfl) (fun a hv => wanted_all rfl _) (fun a w K hb hv hK => mCall (numVal m1) 43 _ _ rfl [numVal px, numVal qz] (cons_eq (hv 6 (by kernel_rfl) rfl) (cons_eq (hv 8 (by kernel_rfl) rfl) (rfl))) (enters Tryd.func43 rfl rfl) (C1.out w) hK))) ?_
      refine all_cons (.inr (mStep _ 10 rfl rfl rfl rfl (by kernel_rfl) (fun a hv => wanted_all rfl _) (fun a w K hb hv hK => mPure _ (exec_field _ _ _ _ 0 rfl _ _ (hv 3 (by kernel_rfl) rfl) w (field_u0 _ w)) hK))) ?_
      refine all_cons (.inr (mStep _ 11 rfl rfl rfl rfl (by kernel_rfl) (fun a hv => wanted_all rfl _) (fun a w K hb hv hK => mPure (numVal qx) (exec_load _ _ _ _ rfl _ _ (hv 10 (by kernel_rfl) rfl) w (load_u0 (hvq2.on hb) Fq.out Hqx.out)) hK))) ?_
      refine all_cons (.inr (mStep _ 12 rfl rfl rfl rfl (by kernel_rfl) (fun a hv => wanted_all rfl _) (fun a w K hb hv hK => mPure _ (exec_field _ _ _ _ 2 rfl _ _ (hv 2 (by kernel_rfl) rfl) w (field_u2 _ w)) hK))) ?_
      refine all_cons (.inr (mStep _ 13 rfl rfl rfl rfl (by kernel_rfl) (fun a hv => wanted_all rfl _) (fun a w K hb hv hK => mPure (numVal pz) (exec_load _ _ _ _ rfl _ _ (hv 12 (by kernel_rfl) rfl) w (load_u2 (hvp2.on hb) Fp.out Hpx.out Hpy.out Hpz.out)) hK))) ?_
      refine all_cons (.inr (mStep _ 14 rfl rfl rfl rfl (by kernel_rfl) (fun a hv => wanted_all rfl _) (fun a w K hb hv hK => mCall (numVal m2) 43 _ _ rfl [numVal qx, numVal pz] (cons_eq (hv 11 (by kernel_rfl) rfl) (cons_eq (hv 13 (by kernel_rfl) rfl) (rfl))) (enters Tryd.func43 rfl rfl) (C2.out w) hK))) ?_
      refine all_cons (.inr (mStep _ 15 rfl rfl rfl rfl (by kernel_rfl) (fun a hv => wanted_all rfl _) (fun a w K hb hv hK => mCall (.bool true) 48 _ _ rfl [numVal m1, numVal m2] (cons_eq (hv 9 (by kernel_rfl) rfl) (cons_eq (hv 14 (by kernel_rfl) rfl) (rfl))) (enters Tryd.func48 rfl rfl) (C3.out w) hK))) ?_
      refine all_cons (.inr (mStep _ 16 rfl rfl rfl rfl (by kernel_rfl) (fun a hv => wanted_all rfl _) (fun a w K hb hv hK => mPure (.bool true) (exec_move _ _ _ (.inl rfl) _ (hv 15 (by kernel_rfl) rfl) w) hK))) ?_
      refine all_cons (.inr (mStep _ 17 rfl rfl rfl rfl (by kernel_rfl) (fun a hv => (wanted_is (j := 11) (b := true) (c := true) rfl rfl rfl (hv 16 (by kernel_rfl) rfl)).trans rfl) (fun a w K hb hv hK => mPure _ (exec_field _ _ _ _ 1 rfl _ _ (hv 2 (by kernel_rfl) rfl) w (field_u1 _ w)) hK))) ?_
      refine all_cons (.inr (mStep _ 18 rfl rfl rfl rfl (by kernel_rfl) (fun a hv => (wanted_is (j := 11) (b := true) (c := true) rfl rfl rfl (hv 16 (by kernel_rfl) rfl)).trans rfl) (fun a w K hb hv hK => mPure (numVal py) (exec_load _ _ _ _ rfl _ _ (hv 17 (by kernel_rfl) rfl) w (load_u1 (hvp2.on hb) Fp.out Hpx.out Hpy.out)) hK))) ?_
      refine all_cons (.inr (mStep _ 19 rfl rfl rfl rfl (by kernel_rfl) (fun a hv => (wanted_is (j := 11) (b := true) (c := true) rfl rfl rfl (hv 16 (by kernel_rfl) rfl)).trans rfl) (fun a w K hb hv hK => mPure _ (exec_field _ _ _ _ 2 rfl _ _ (hv 3 (by kernel_rfl) rfl) w (field_u2 _ w)) hK))) ?_
      refine all_cons (.inr (mStep _ 20 rfl rfl rfl rfl (by kernel_rfl) (fun a hv => (wanted_is (j := 11) (b := true) (c := true) rfl rfl rfl (hv 16 (by kernel_rfl) rfl)).trans rfl) (fun a w K hb hv hK => mPure (numVal qz) (exec_load _ _ _ _ rfl _ _ (hv 19 (by kernel_rfl) rfl) w (load_u2 (hvq2.on hb) Fq.out Hqx.out Hqy.out Hqz.out)) hK))) ?_
      refine all_cons (.inr (mStep _ 21 rfl rfl rfl rfl (by kernel_rfl) (fun a hv => (wanted_is (j := 11) (b := true) (c := true) rfl rfl rfl (hv 16 (by kernel_rfl) rfl)).trans rfl) (fun a w K hb hv hK => mCall (numVal m3) 43 _ _ rfl [numVal py, numVal qz] (cons_eq (hv 18 (by kernel_rfl) rfl) (cons_eq (hv 20 (by kernel_rfl) rfl) (rfl))) (enters Tryd.func43 rfl rfl) (C4.out w) hK))) ?_
      refine all_cons (.inr (mStep _ 22 rfl rfl rfl rfl (by kernel_rfl) (fun a hv => (wanted_is (j := 11) (b := true) (c := true) rfl rfl rfl (hv 16 (by kernel_rfl) rfl)).trans rfl) (fun a w K hb hv hK => mPure _ (exec_field _ _ _ _ 1 rfl _ _ (hv 3 (by kernel_rfl) rfl) w (field_u1 _ w)) hK))) ?_
      refine all_cons (.inr (mStep _ 23 rfl rfl rfl rfl (by kernel_rfl) (fun a hv => (wanted_is (j := 11) (b := true) (c := true) rfl rfl rfl (hv 16 (by kernel_rfl) rfl)).trans rfl) (fun a w K hb hv hK => mPure (numVal qy) (exec_load _ _ _ _ rfl _ _ (hv 22 (by kernel_rfl) rfl) w (load_u1 (hvq2.on hb) Fq.out Hqx.out Hqy.out)) hK))) ?_
      refine all_cons (.inr (mStep _ 24 rfl rfl rfl rfl (by kernel_rfl) (fun a hv => (wanted_is (j := 11) (b := true) (c := true) rfl rfl rfl (hv 16 (by kernel_rfl) rfl)).trans rfl) (fun a w K hb hv hK => mPure _ (exec_field _ _ _ _ 2 rfl _ _ (hv 2 (by kernel_rfl) rfl) w (field_u2 _ w)) hK))) ?_
      refine all_cons (.inr (mStep _ 25 rfl rfl rfl rfl (by kernel_rfl) (fun a hv => (wanted_is (j := 11) (b := true) (c := true) rfl rfl rfl (hv 16 (by kernel_rfl) rfl)).trans rfl) (fun a w K hb hv hK => mPure (numVal pz) (exec_load _ _ _ _ rfl _ _ (hv 24 (by kernel_rfl) rfl) w (load_u2 (hvp2.on hb) Fp.out Hpx.out Hpy.out Hpz.out)) hK))) ?_
      refine all_cons (.inr (mStep _ 26 rfl rfl rfl rfl (by kernel_rfl) (fun a hv => (wanted_is (j := 11) (b := true) (c := true) rfl rfl rfl (hv 16 (by kernel_rfl) rfl)).trans rfl) (fun a w K hb hv hK => mCall (numVal m4) 43 _ _ rfl [numVal qy, numVal pz] (cons_eq (hv 23 (by kernel_rfl) rfl) (cons_eq (hv 25 (by kernel_rfl) rfl) (rfl))) (enters Tryd.func43 rfl rfl) (C5.out w) hK))) ?_
      refine all_cons (.inr (mStep _ 27 rfl rfl rfl rfl (by kernel_rfl) (fun a hv => (wanted_is (j := 11) (b := true) (c := true) rfl rfl rfl (hv 16 (by kernel_rfl) rfl)).trans rfl) (fun a w K hb hv hK => mCall (.bool s2) 48 _ _ rfl [numVal m3, numVal m4] (cons_eq (hv 21 (by kernel_rfl) rfl) (cons_eq (hv 26 (by kernel_rfl) rfl) (rfl))) (enters Tryd.func48 rfl rfl) (C6.out w) hK))) ?_
      refine all_cons (.inr (mStep _ 28 rfl rfl rfl rfl (by kernel_rfl) (fun a hv => wanted_all rfl _) (fun a w K hb hv hK => mPure (.bool s2) (pick_true _ _ _ _ _ rfl (hv 16 (by kernel_rfl) rfl) (.bool s2) (hv 27 (by kernel_rfl) rfl) w) hK))) ?_
      refine all_cons (.inr (mStep _ 4 rfl rfl rfl rfl (by kernel_rfl) (fun a hv => wanted_all rfl _) (fun a w K hb hv hK => mPure (.bool s2) (exec_move _ _ _ (.inr rfl) _ (hv 28 (by kernel_rfl) rfl) w) hK))) ?_
      exact all_nil
    intro w4 g hb4 hN4 hap4
    clear hN4 hap4
    have hB4 := below_then (show Below w.heap.size w w2.drew from hB2.drew) hb4
    have hvp4 := hvp2.on hb4
    have hvq4 := hvq2.on hb4
    clear hB2 hvp2 hvq2 hb4
    refine ⟨by kernel_rfl, ?_⟩
    rename_i K hKK
    show Exit.then K _ Exit.normal (⟨(usameVs1_1 p q w.heap.size gq s2 px qz m1 qx pz m2 py m3 qy m4).toArray, []⟩ : Act) w4
    simp only [Exit.then]
    refine hKK _ _ ?_
    clear hKK K g
    simp only [usameVs1_1]
    go_wp2
    go_ret
    exact ⟨rfl, hB4⟩
end Go.Proofs.YtagjbdhelfickaaDoor
namespace Go.Proofs.YtagjbdhelfickaaDoor
open Go.RowKit
def unegVs1 (p : List Nat) (g_base : Nat) (gr : Nat) (z : List Nat) (px : List Nat) (nx : List Nat) : List Value :=
  (numVal p) :: (.pointer (some ⟨g_base, 0, none⟩)) :: (.pointer (some ⟨gr, 0, none⟩)) :: (numVal z) :: (.pointer (some ⟨g_base, 0, none⟩)) :: (numVal px) :: (numVal nx) :: (.pointer (some ⟨g_base, 0, none⟩)) :: undef :: []
set_option maxRecDepth 100000 in
set_option maxHeartbeats 1000000 in
theorem uneg_over (p px py pz z nx n : List Nat) (w : World)
    (Hpx : Hid (px.length = 5))
    (Hnx : Hid (nx.length = 5))
    (Hp : Hid (p.length = 15))
    (Hn : Hid (n.length = 15))
    (Fp : Hid (p = px ++ py ++ pz))
    (HN : Hid (splice (p.map ncell) 0 (nx.map ncell) = n.map ncell))
    (BZ : ∀ w, (Instr.build 29 #[]).run Tryd.prog w = .ok (numVal z) w)
    (CS : Hid (∀ W, Calls Tryd.prog 47 #[numVal z, numVal px] W fun e w' => e = .returned (numVal nx) ∧ Below W.heap.size W w')) :
    Calls Tryd.prog 14 #[numVal p] w fun e w' => e = .returned (numVal n) ∧ Below w.heap.size w w' := by
  go_enter Tryd.func14, Tryd.ntmps14
  go_upto_region 1 with (first
    | (refine vtake_step rfl 31 (.tmp 0) rfl (p.map ncell) rfl ?_
       intro w1 hb1 hvp1
       have hB1 := hb1
       have hgep : w.heap.size ≤ w.heap.size := Nat.le_refl _
       clear  hb1
       try simp only [Act.put, List.setIfInBounds_toArray, List.set_cons_zero, List.set_cons_succ]
       skip)
    | (refine vzero_step (o := ⟨some 2, _, _, _, _, _⟩) rfl 31 rfl (nzeros 15) zero_up ?_
       intro w2 hb2 hvr2
       have hB2 := below_then hB1 hb2
       have hger : w.heap.size ≤ w1.heap.size := hB1.size
       have hvp2 := hvp1.on hb2
       have hnepr := Nat.ne_of_lt hvp1.lt
       clear hB1 hvp1 hb2
       try simp only [Act.put, List.setIfInBounds_toArray, List.set_cons_zero, List.set_cons_succ]
       skip))
  generalize hqr : w1.heap.size = gr at *
  clear hqr
  refine wp_region_flat (md := .any) (by kernel_rfl) ?_
  refine wpAny_flatM (L := [0, 1, 2, 3, 4]) (by kernel_rfl) _ _ (unegVs1 p w.heap.size gr z px nx) [] 31 (nzeros 15) [0, 1, 2, 8] (by kernel_rfl) (by kernel_rfl) ?_ zero_up ?_ (by rfl) ?_ 1 (by kernel_rfl) ?_
  · intro p hp
    exact absurd hp List.not_mem_nil
  · repeat refine all_cons rfl ?_
    exact all_nil
  · refine all_cons (.inr (mStep _ 3 rfl rfl rfl rfl (by kernel_rfl) (fun a hv => wanted_all rfl _) (fun a w K hb hv hK => mPure (numVal z) (exec_build _ _ _ [] rfl [] rfl _ w (BZ w)) hK))) ?_
    refine all_cons (.inr (mStep _ 4 rfl rfl rfl rfl (by kernel_rfl) (fun a hv => wanted_all rfl _) (fun a w K hb hv hK => mPure _ (exec_field _ _ _ _ 0 rfl _ _ (hv 1 (by kernel_rfl) rfl) w (field_u0 _ w)) hK))) ?_
    refine all_cons (.inr (mStep _ 5 rfl rfl rfl rfl (by kernel_rfl) (fun a hv => wanted_all rfl _) (fun a w K hb hv hK => mPure (numVal px) (exec_load _ _ _ _ rfl _ _ (hv 4 (by kernel_rfl) rfl) w (load_u0 (hvp2.on hb) Fp.out Hpx.out)) hK))) ?_
    refine all_cons (.inr (mStep _ 6 rfl rfl rfl rfl (by kernel_rfl) (fun a hv => wanted_all rfl _) (fun a w K hb hv hK => mCall (numVal nx) 47 _ _ rfl [numVal z, numVal px] (cons_eq (hv 3 (by kernel_rfl) rfl) (cons_eq (hv 5 (by kernel_rfl) rfl) (rfl))) (enters Tryd.func47 rfl rfl) (CS.out w) hK))) ?_
    refine all_cons (.inr (mStep _ 7 rfl rfl rfl rfl (by kernel_rfl) (fun a hv => wanted_all rfl _) (fun a w K hb hv hK => mPure _ (exec_field _ _ _ _ 0 rfl _ _ (hv 1 (by kernel_rfl) rfl) w (field_u0 _ w)) hK))) ?_
    exact all_nil
  intro w3 g hb3 hN3 hap3
  clear hN3 hap3
  have hB3 := below_then hB2 hb3
  have hvp3 := hvp2.on hb3
  have hvr3 := hvr2.on hb3
  clear hB2 hvp2 hvr2 hb3
  refine wpAny_rest 5 rfl (by kernel_rfl) ?_
  refine smid_step rfl 29 (.tmp 7) (.tmp 6) rfl (w.heap.size) (0) 5 (p.map ncell) (nx.map ncell) (n.map ncell) rfl rfl hvp3 (by rw [List.length_map, Hp.out]; decide) size_elem (by rw [List.length_map, Hnx.out]) (ncells_one _) HN.out ?_
  intro w4 hb4 hvp4 hz4
  have hB4 : Below w.heap.size w w4 := hB3.trans (hb4.below hgep hB3.size)
  have hvr4 := hvr3.but hb4 (Ne.symm hnepr)
  clear hB3 hvp3 hb4 hz4 hvr3
  rename_i K hKK
  show Exit.then K _ Exit.normal (⟨(unegVs1 p w.heap.size gr z px nx).toArray, []⟩ : Act) w4
  simp only [Exit.then]
  refine hKK _ _ ?_
  clear hKK K g
  simp only [unegVs1]
  go_wp2_with (first
    | (refine sget_step rfl 31 (.tmp 1) rfl w.heap.size 15 (n.map ncell) rfl hvp4 Tryd.underlying31 rfl size_up (by rw [List.length_map, Hn.out]) ?_
       try simp only [Act.put, List.setIfInBounds_toArray, List.set_cons_zero, List.set_cons_succ]
       skip)
    | (refine vset_step rfl 31 (.tmp 2) (.tmp 8) rfl gr 15 (nzeros 15) (n.map ncell) rfl rfl hvr4 rfl size_up (by rw [List.length_map, Hn.out]) (ncells_one _) ?_
       intro w5 hb5 hvr5 hz5
       have hB5 : Below w.heap.size w w5 := hB4.trans (hb5.below hger hB4.size)
       have hvp5 := hvp4.but hb5 hnepr
       clear hB4 hvr4 hb5 hz5 hvp4
       skip))
  exact sret Tryd.results14 gr (n.map ncell) rfl hvr5 Tryd.underlying31 rfl size_up (by rw [List.length_map, Hn.out]) rfl ⟨rfl, hB5⟩
end Go.Proofs.YtagjbdhelfickaaDoor
namespace Go.Proofs.YtagjbdhelfickaaDoor
open Go.RowKit
def ubytesVs1 (p : List Nat) (g_base : Nat) (gr : Nat) (pz : List Nat) (iv : List Nat) : List Value :=
  (numVal p) :: (.pointer (some ⟨g_base, 0, none⟩)) :: (.pointer (some ⟨gr, 0, none⟩)) :: undef :: undef :: (.pointer (some ⟨g_base, 10, none⟩)) :: (numVal pz) :: (numVal iv) :: undef :: undef :: undef :: undef :: undef :: undef :: undef :: undef :: undef :: undef :: undef :: undef :: undef :: undef :: undef :: []
def ubytesVs1N (p : List Nat) (g_base : Nat) (gr : Nat) (pz : List Nat) (iv : List Nat) (n3 : Nat) : List Value :=
  (numVal p) :: (.pointer (some ⟨g_base, 0, none⟩)) :: (.pointer (some ⟨gr, 0, none⟩)) :: (.pointer (some ⟨n3, 0, none⟩)) :: undef :: (.pointer (some ⟨g_base, 10, none⟩)) :: (numVal pz) :: (numVal iv) :: undef :: undef :: undef :: undef :: undef :: undef :: undef :: undef :: undef :: undef :: undef :: undef :: undef :: undef :: undef :: []
def ubytesVs2_1 (p : List Nat) (g_base : Nat) (gr : Nat) (gv : Nat) (pz : List Nat) (iv : List Nat) (py : List Nat) (yy : List Nat) (kb : List UInt8) : List Value :=
  (numVal p) :: (.pointer (some ⟨g_base, 0, none⟩)) :: (.pointer (some ⟨gr, 0, none⟩)) :: (.pointer (some ⟨gv, 0, none⟩)) :: undef :: (.pointer (some ⟨g_base, 10, none⟩)) :: (numVal pz) :: (numVal iv) :: (.pointer (some ⟨g_base, 5, none⟩)) :: (numVal py) :: (numVal iv) :: (numVal yy) :: (hashVal kb) :: undef :: undef :: undef :: undef :: undef :: undef :: undef :: undef :: undef :: undef :: []
def ubytesVs2_1N (p : List Nat) (g_base : Nat) (gr : Nat) (gv : Nat) (pz : List Nat) (iv : List Nat) (py : List Nat) (yy : List Nat) (kb : List UInt8) (n4 : Nat) : List Value :=
  (numVal p) :: (.pointer (some ⟨g_base, 0, none⟩)) :: (.pointer (some ⟨gr, 0, none⟩)) :: (.pointer (some ⟨gv, 0, none⟩)) :: (.pointer (some ⟨n4, 0, none⟩)) :: (.pointer (some ⟨g_base, 10, none⟩)) :: (numVal pz) :: (numVal iv) :: (.pointer (some ⟨g_base, 5, none⟩)) :: (numVal py) :: (numVal iv) :: (numVal yy) :: (hashVal kb) :: undef :: undef :: undef :: undef :: undef :: undef :: undef :: undef :: undef :: undef :: []
def ubytesVs3_2 (p : List Nat) (g_base : Nat) (gr : Nat) (gv : Nat) (go : Nat) (pz : List Nat) (iv : List Nat) (py : List Nat) (yy : List Nat) (kb : List UInt8) (px : List Nat) (xx : List Nat) (c : Bool) : List Value :=
  (numVal p) :: (.pointer (some ⟨g_base, 0, none⟩)) :: (.pointer (some ⟨gr, 0, none⟩)) :: (.pointer (some ⟨gv, 0, none⟩)) :: (.pointer (some ⟨go, 0, none⟩)) :: (.pointer (some ⟨g_base, 10, none⟩)) :: (numVal pz) :: (numVal iv) :: (.pointer (some ⟨g_base, 5, none⟩)) :: (numVal py) :: (numVal iv) :: (numVal yy) :: (hashVal kb) :: (.pointer (some ⟨g_base, 0, none⟩)) :: (numVal px) :: (numVal iv) :: (numVal xx) :: (.bool c) :: undef :: undef :: undef :: undef :: undef :: []
set_option maxRecDepth 100000 in
set_option maxHeartbeats 2000000 in
theorem ubytes_over (p px py pz iv yy xx : List Nat) (kb kc : List UInt8) (q v : UInt8) (c : Bool) (w : World)
    (Hpx : Hid (px.length = 5))
    (Hpy : Hid (py.length = 5))
    (Hpz : Hid (pz.length = 5))
    (Hiv : Hid (iv.length = 5))
    (Hkb : Hid (kb.length = 32))
    (Hkc : Hid (kc.length = 32))
    (Fp : Hid (p = px ++ py ++ pz))
    (D1 : Hid ((kb.map cellOf)[31]? = some (cellOf q)))
    (HV : Hid (bits .or .u8 (q.toNat : Int) 128 = (v.toNat : Int)))
    (HC : Hid (kc = kb.set 31 v))
    (CI : Hid (∀ W, Calls Tryd.prog 42 #[numVal pz] W fun e w' => e = .returned (numVal iv) ∧ Below W.heap.size W w'))
    (CX : Hid (∀ W, Calls Tryd.prog 43 #[numVal px, numVal iv] W fun e w' => e = .returned (numVal xx) ∧ Below W.heap.size W w'))
    (CY : Hid (∀ W, Calls Tryd.prog 43 #[numVal py, numVal iv] W fun e w' => e = .returned (numVal yy) ∧ Below W.heap.size W w'))
    (CB : Hid (∀ W, Calls Tryd.prog 44 #[numVal yy] W fun e w' => e = .returned (hashVal kb) ∧ Below W.heap.size W w'))
    (CO : Hid (∀ W, Calls Tryd.prog 45 #[numVal xx] W fun e w' => e = .returned (.bool c) ∧ Below W.heap.size W w')) :
    Calls Tryd.prog 12 #[numVal p] w fun e w' => e = .returned (hashVal (bif c then kc else kb)) ∧ Below w.heap.size w w' := by
  go_enter Tryd.func12, Tryd.ntmps12
  go_upto_region 1 with (first
    | (refine vtake_step rfl 31 (.tmp 0) rfl (p.map ncell) rfl ?_
       intro w1 hb1 hvp1
       have hB1 := hb1
       have hgep : w.heap.size ≤ w.heap.size := Nat.le_refl _
       clear  hb1
       try simp only [Act.put, List.setIfInBounds_toArray, List.set_cons_zero, List.set_cons_succ]
       skip)
    | (refine vzero_step (o := ⟨some 2, _, _, _, _, _⟩) rfl 23 rfl kzeros zero_k32 ?_
       intro w2 hb2 hvr2
       have hB2 := below_then hB1 hb2
       have hger : w.heap.size ≤ w1.heap.size := hB1.size
       have hvp2 := hvp1.on hb2
       have hnepr := Nat.ne_of_lt hvp1.lt
       clear hB1 hvp1 hb2
       try simp only [Act.put, List.setIfInBounds_toArray, List.set_cons_zero, List.set_cons_succ]
       skip))
  generalize hqr : w1.heap.size = gr at *
  clear hqr
  refine wp_region_flat (md := .any) (by kernel_rfl) ?_
  refine wpAny_flatM (L := [0, 1, 2, 3]) (by kernel_rfl) _ _ (ubytesVs1 p w.heap.size gr pz iv) [(3, 3)] 29 (nzeros 5) [0, 1, 2, 4, 8, 9, 10, 11, 12, 13, 14, 15, 16, 17, 18, 19, 20, 21, 22] (by kernel_rfl) (by kernel_rfl) ?_ zero_elem ?_ (by rfl) ?_ 1 (by kernel_rfl) ?_
  · intro p hp
    rcases List.mem_cons.1 hp with rfl | hp
    · exact ⟨⟨_, rfl, rfl, rfl, rfl, by kernel_rfl, by kernel_rfl⟩⟩
    exact absurd hp List.not_mem_nil
  · repeat refine all_cons rfl ?_
    exact all_nil
  · refine all_cons (.inr (mStep _ 5 rfl rfl rfl rfl (by kernel_rfl) (fun a hv => wanted_all rfl _) (fun a w K hb hv hK => mPure _ (exec_field _ _ _ _ 2 rfl _ _ (hv 1 (by kernel_rfl) rfl) w (field_u2 _ w)) hK))) ?_
    refine all_cons (.inr (mStep _ 6 rfl rfl rfl rfl (by kernel_rfl) (fun a hv => wanted_all rfl _) (fun a w K hb hv hK => mPure (numVal pz) (exec_load _ _ _ _ rfl _ _ (hv 5 (by kernel_rfl) rfl) w (load_u2 (hvp2.on hb) Fp.out Hpx.out Hpy.out Hpz.out)) hK))) ?_
    refine all_cons (.inr (mStep _ 7 rfl rfl rfl rfl (by kernel_rfl) (fun a hv => wanted_all rfl _) (fun a w K hb hv hK => mCall (numVal iv) 42 _ _ rfl [numVal pz] (cons_eq (hv 6 (by kernel_rfl) rfl) (rfl)) (enters Tryd.func42 rfl rfl) (CI.out w) hK))) ?_
    refine all_cons (.inl ⟨(3, 3), by simp, rfl⟩) ?_
    exact all_nil
  intro w3 g hb3 hN3 hap3
  obtain ⟨hgev, hvv3⟩ := hN3 (3, 3) (by simp)
  clear hN3 hap3
  have hB3 := below_then hB2 hb3
  have hltp : w.heap.size < w2.heap.size := hvp2.lt
  have hltr : gr < w2.heap.size := hvr2.lt
  have hvp3 := hvp2.on hb3
  have hvr3 := hvr2.on hb3
  rw [show withNew g [(3, 3)] (ubytesVs1 p w.heap.size gr pz iv) = ubytesVs1N p w.heap.size gr pz iv (g 3) from rfl]
  replace hgev : w2.heap.size ≤ g 3 := hgev
  replace hvv3 : Cells w3 (g 3) (nzeros 5) 29 := hvv3
  have hnepv : w.heap.size ≠ g 3 := Nat.ne_of_lt (Nat.lt_of_lt_of_le hltp hgev)
  have hnerv : gr ≠ g 3 := Nat.ne_of_lt (Nat.lt_of_lt_of_le hltr hgev)
  replace hgev : w.heap.size ≤ g 3 := Nat.le_trans (show w.heap.size ≤ w2.heap.size from hB2.size) hgev
  clear hltp hltr
  generalize g 3 = gv at *
  clear hB2 hvp2 hvr2 hb3
  refine wpAny_rest 4 rfl (by kernel_rfl) ?_
  refine vset_step rfl 29 (.tmp 3) (.tmp 7) rfl gv 5 (nzeros 5) (iv.map ncell) rfl rfl hvv3 rfl size_elem (by rw [List.length_map, Hiv.out]) (ncells_one _) ?_
  intro w4 hb4 hvv4 hz4
  have hB4 : Below w.heap.size w w4 := hB3.trans (hb4.below hgev hB3.size)
  have hvp4 := hvp3.but hb4 hnepv
  have hvr4 := hvr3.but hb4 hnerv
  clear hB3 hvv3 hb4 hz4 hvp3 hvr3
  rename_i K hKK
  show Exit.then K _ Exit.normal (⟨(ubytesVs1N p w.heap.size gr pz iv gv).toArray, []⟩ : Act) w4
  simp only [Exit.then]
  refine hKK _ _ ?_
  clear hKK K g
  simp only [ubytesVs1N]
  go_upto_region 2 with fail
  refine wp_region_flat (md := .any) (by kernel_rfl) ?_
  refine wpAny_flatM (L := [0, 1, 2, 3, 4, 5]) (by kernel_rfl) _ _ (ubytesVs2_1 p w.heap.size gr gv pz iv py yy kb) [(5, 4)] 23 kzeros [0, 1, 2, 3, 5, 6, 7, 13, 14, 15, 16, 17, 18, 19, 20, 21, 22] (by kernel_rfl) (by kernel_rfl) ?_ zero_k32 ?_ (by rfl) ?_ 1 (by kernel_rfl) ?_
  · intro p hp
    rcases List.mem_cons.1 hp with rfl | hp
    · exact ⟨⟨_, rfl, rfl, rfl, rfl, by kernel_rfl, by kernel_rfl⟩⟩
    exact absurd hp List.not_mem_nil
  · repeat refine all_cons rfl ?_
    exact all_nil
  · refine all_cons (.inr (mStep _ 8 rfl rfl rfl rfl (by kernel_rfl) (fun a hv => wanted_all rfl _) (fun a w K hb hv hK => mPure _ (exec_field _ _ _ _ 1 rfl _ _ (hv 1 (by kernel_rfl) rfl) w (field_u1 _ w)) hK))) ?_
    refine all_cons (.inr (mStep _ 9 rfl rfl rfl rfl (by kernel_rfl) (fun a hv => wanted_all rfl _) (fun a w K hb hv hK => mPure (numVal py) (exec_load _ _ _ _ rfl _ _ (hv 8 (by kernel_rfl) rfl) w (load_u1 (hvp4.on hb) Fp.out Hpx.out Hpy.out)) hK))) ?_
    refine all_cons (.inr (mStep _ 10 rfl rfl rfl rfl (by kernel_rfl) (fun a hv => wanted_all rfl _) (fun a w K hb hv hK => mPure (numVal iv) (exec_load _ _ _ _ rfl _ _ (hv 3 (by kernel_rfl) rfl) w (elem_run (hvv4.on hb) Hiv.out)) hK))) ?_
    refine all_cons (.inr (mStep _ 11 rfl rfl rfl rfl (by kernel_rfl) (fun a hv => wanted_all rfl _) (fun a w K hb hv hK => mCall (numVal yy) 43 _ _ rfl [numVal py, numVal iv] (cons_eq (hv 9 (by kernel_rfl) rfl) (cons_eq (hv 10 (by kernel_rfl) rfl) (rfl))) (enters Tryd.func43 rfl rfl) (CY.out w) hK))) ?_
    refine all_cons (.inr (mStep _ 12 rfl rfl rfl rfl (by kernel_rfl) (fun a hv => wanted_all rfl _) (fun a w K hb hv hK => mCall (hashVal kb) 44 _ _ rfl [numVal yy] (cons_eq (hv 11 (by kernel_rfl) rfl) (rfl)) (enters Tryd.func44 rfl rfl) (CB.out w) hK))) ?_
    refine all_cons (.inl ⟨(5, 4), by simp, rfl⟩) ?_
    exact all_nil
  intro w5 g hb5 hN5 hap5
  obtain ⟨hgeo, hvo5⟩ := hN5 (5, 4) (by simp)
  clear hN5 hap5
  have hB5 := below_then hB4 hb5
  have hltp : w.heap.size < w4.heap.size := hvp4.lt
  have hltr : gr < w4.heap.size := hvr4.lt
  have hltv : gv < w4.heap.size := hvv4.lt
  have hvp5 := hvp4.on hb5
  have hvr5 := hvr4.on hb5
  have hvv5 := hvv4.on hb5
  rw [show withNew g [(5, 4)] (ubytesVs2_1 p w.heap.size gr gv pz iv py yy kb) = ubytesVs2_1N p w.heap.size gr gv pz iv py yy kb (g 4) from rfl]
  replace hgeo : w4.heap.size ≤ g 4 := hgeo
  replace hvo5 : Cells w5 (g 4) kzeros 23 := hvo5
  have hnepo : w.heap.size ≠ g 4 := Nat.ne_of_lt (Nat.lt_of_lt_of_le hltp hgeo)
  have hnero : gr ≠ g 4 := Nat.ne_of_lt (Nat.lt_of_lt_of_le hltr hgeo)
  have hnevo : gv ≠ g 4 := Nat.ne_of_lt (Nat.lt_of_lt_of_le hltv hgeo)
  replace hgeo : w.heap.size ≤ g 4 := Nat.le_trans (show w.heap.size ≤ w4.heap.size from hB4.size) hgeo
  clear hltp hltr hltv
  generalize g 4 = go at *
  clear hB4 hvp4 hvr4 hvv4 hb5
  refine wpAny_rest 6 rfl (by kernel_rfl) ?_
  refine vset_step rfl 23 (.tmp 4) (.tmp 12) rfl go 32 kzeros (kb.map cellOf) rfl rfl hvo5 rfl size_k32 (by rw [List.length_map, Hkb.out]) (kcells_one _) ?_
  intro w6 hb6 hvo6 hz6
  have hB6 : Below w.heap.size w w6 := hB5.trans (hb6.below hgeo hB5.size)
  have hvp6 := hvp5.but hb6 hnepo
  have hvr6 := hvr5.but hb6 hnero
  have hvv6 := hvv5.but hb6 hnevo
  clear hB5 hvo5 hb6 hz6 hvp5 hvr5 hvv5
  rename_i K hKK
  show Exit.then K _ Exit.normal (⟨(ubytesVs2_1N p w.heap.size gr gv pz iv py yy kb go).toArray, []⟩ : Act) w6
  simp only [Exit.then]
  refine hKK _ _ ?_
  clear hKK K g
  simp only [ubytesVs2_1N]
  go_upto_region 3 with fail
  refine wp_region_flat (md := .any) (by kernel_rfl) ?_
  refine wpAny_flatM (L := [0, 1, 2, 3, 4]) (by kernel_rfl) _ _ (ubytesVs3_2 p w.heap.size gr gv go pz iv py yy kb px xx c) [] 31 (nzeros 15) [0, 1, 2, 3, 4, 5, 6, 7, 8, 9, 10, 11, 12, 18, 19, 20, 21, 22] (by kernel_rfl) (by kernel_rfl) ?_ zero_up ?_ (by rfl) ?_ 0 (by kernel_rfl) ?_
  · intro p hp
    exact absurd hp List.not_mem_nil
  · repeat refine all_cons rfl ?_
    exact all_nil
  · refine all_cons (.inr (mStep _ 13 rfl rfl rfl rfl (by kernel_rfl) (fun a hv => wanted_all rfl _) (fun a w K hb hv hK => mPure _ (exec_field _ _ _ _ 0 rfl _ _ (hv 1 (by kernel_rfl) rfl) w (field_u0 _ w)) hK))) ?_
    refine all_cons (.inr (mStep _ 14 rfl rfl rfl rfl (by kernel_rfl) (fun a hv => wanted_all rfl _) (fun a w K hb hv hK => mPure (numVal px) (exec_load _ _ _ _ rfl _ _ (hv 13 (by kernel_rfl) rfl) w (load_u0 (hvp6.on hb) Fp.out Hpx.out)) hK))) ?_
    refine all_cons (.inr (mStep _ 15 rfl rfl rfl rfl (by kernel_rfl) (fun a hv => wanted_all rfl _) (fun a w K hb hv hK => mPure (numVal iv) (exec_load _ _ _ _ rfl _ _ (hv 3 (by kernel_rfl) rfl) w (elem_run (hvv6.on hb) Hiv.out)) hK))) ?_
    refine all_cons (.inr (mStep _ 16 rfl rfl rfl rfl (by kernel_rfl) (fun a hv => wanted_all rfl _) (fun a w K hb hv hK => mCall (numVal xx) 43 _ _ rfl [numVal px, numVal iv] (cons_eq (hv 14 (by kernel_rfl) rfl) (cons_eq (hv 15 (by kernel_rfl) rfl) (rfl))) (enters Tryd.func43 rfl rfl) (CX.out w) hK))) ?_
    refine all_cons (.inr (mStep _ 17 rfl rfl rfl rfl (by kernel_rfl) (fun a hv => wanted_all rfl _) (fun a w K hb hv hK => mCall (.bool c) 45 _ _ rfl [numVal xx] (cons_eq (hv 16 (by kernel_rfl) rfl) (rfl)) (enters Tryd.func45 rfl rfl) (CO.out w) hK))) ?_
    exact all_nil
  intro w7 g hb7 hN7 hap7
  clear hN7 hap7
  have hB7 := below_then hB6 hb7
  have hvp7 := hvp6.on hb7
  have hvr7 := hvr6.on hb7
  have hvv7 := hvv6.on hb7
  have hvo7 := hvo6.on hb7
  clear hB6 hvp6 hvr6 hvv6 hvo6 hb7
  refine ⟨by kernel_rfl, ?_⟩
  rename_i K hKK
  show Exit.then K _ Exit.normal (⟨(ubytesVs3_2 p w.heap.size gr gv go pz iv py yy kb px xx c).toArray, []⟩ : Act) w7
  simp only [Exit.then]
  refine hKK _ _ ?_
  clear hKK K g
  simp only [ubytesVs3_2]
  cases c
  · go_wp2_with (first
      | (refine get_step rfl 23 (.tmp 4) rfl go 32 kb 5 rfl hvo7 Tryd.underlying23 size_k32 Hkb.out ?_
         try simp only [Act.put, List.setIfInBounds_toArray, List.set_cons_zero, List.set_cons_succ]
         skip)
      | (refine vset_step rfl 23 (.tmp 2) (.tmp 22) rfl gr 32 kzeros (kb.map cellOf) rfl rfl hvr7 rfl size_k32 (by rw [List.length_map, Hkb.out]) (kcells_one _) ?_
         intro w8 hb8 hvr8 hz8
         have hB8 : Below w.heap.size w w8 := hB7.trans (hb8.below hger hB7.size)
         have hvp8 := hvp7.but hb8 hnepr
         have hvv8 := hvv7.but hb8 (Ne.symm hnerv)
         have hvo8 := hvo7.but hb8 (Ne.symm hnero)
         clear hB7 hvr7 hb8 hz8 hvp7 hvv7 hvo7
         skip))
    exact sret Tryd.results12 gr (kb.map cellOf) rfl hvr8 Tryd.underlying23 rfl size_k32 (by rw [List.length_map, Hkb.out]) rfl ⟨rfl, hB8⟩
  · go_upto_region 4 with fail
    have dq := hvo7.get D1.out
    have hT := hvo7.there 31 1 (by rw [List.length_map, Hkb.out]; decide)
    have hE := Lib.hid (hvo7.set 31 (cellOf v))
    have hq := HV.out
    go_upto_region 5 with (first
      | (refine store_step rfl 5 _ _ rfl go 31 .u8 (v.toNat : Int) rfl rfl size_u8 hT ?_
         intro w9 hw9
         have hB9 : Below w.heap.size w w9 := by rw [hw9]; exact hB7.setCell (p := ⟨go, 31, none⟩) hgeo _
         have hvo9 : Cells w9 go (kc.map cellOf) 23 := by rw [hw9, HC.out, List.map_set]; exact hE.out
         have hvr9 : Cells w9 gr kzeros 23 := by rw [hw9]; exact hvr7.other hnero _
         clear hw9 hT hE dq hB7 hvp7 hvr7 hvv7 hvo7
         skip))
    go_wp2_with (first
      | (refine get_step rfl 23 (.tmp 4) rfl go 32 kc 5 rfl hvo9 Tryd.underlying23 size_k32 Hkc.out ?_
         try simp only [Act.put, List.setIfInBounds_toArray, List.set_cons_zero, List.set_cons_succ]
         skip)
      | (refine vset_step rfl 23 (.tmp 2) (.tmp 22) rfl gr 32 kzeros (kc.map cellOf) rfl rfl hvr9 rfl size_k32 (by rw [List.length_map, Hkc.out]) (kcells_one _) ?_
         intro w10 hb10 hvr10 hz10
         have hB10 : Below w.heap.size w w10 := hB9.trans (hb10.below hger hB9.size)
         have hvo10 := hvo9.but hb10 (Ne.symm hnero)
         clear hB9 hvr9 hb10 hz10 hvo9
         skip))
    exact sret Tryd.results12 gr (kc.map cellOf) rfl hvr10 Tryd.underlying23 rfl size_k32 (by rw [List.length_map, Hkc.out]) rfl ⟨rfl, hB10⟩
end Go.Proofs.YtagjbdhelfickaaDoor
