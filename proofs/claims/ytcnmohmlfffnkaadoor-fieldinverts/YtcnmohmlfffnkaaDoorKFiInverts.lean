/- The walk of the law FieldInverts. (Made by tools/mklaws9.py.) -/
import Derived.Test.YtcnmohmlfffnkaaDoorPart14
namespace Go.Proofs.YtcnmohmlfffnkaaDoor.fieldInverts
open Go.RowKit
def invVs3 (ka : List UInt8) (g_base : Nat) (x : List Nat) (p : List Nat) : List Value :=
  (hashVal ka) :: (.pointer (some ⟨g_base, 0, none⟩)) :: (.bool false) :: undef :: undef :: undef :: undef :: undef :: undef :: (.bool true) :: (.bool false) :: (hashVal ka) :: (numVal x) :: (hashVal ka) :: (numD p) :: undef :: undef :: undef :: undef :: undef :: undef :: undef :: undef :: undef :: undef :: undef :: undef :: undef :: undef :: undef :: undef :: undef :: undef :: undef :: undef :: undef :: undef :: undef :: undef :: []
def invVs3N (ka : List UInt8) (g_base : Nat) (x : List Nat) (p : List Nat) (n3 n4 : Nat) : List Value :=
  (hashVal ka) :: (.pointer (some ⟨g_base, 0, none⟩)) :: (.bool false) :: (.pointer (some ⟨n3, 0, none⟩)) :: (.pointer (some ⟨n4, 0, none⟩)) :: undef :: undef :: undef :: undef :: (.bool true) :: (.bool false) :: (hashVal ka) :: (numVal x) :: (hashVal ka) :: (numD p) :: undef :: undef :: undef :: undef :: undef :: undef :: undef :: undef :: undef :: undef :: undef :: undef :: undef :: undef :: undef :: undef :: undef :: undef :: undef :: undef :: undef :: undef :: undef :: undef :: []
def invVs4_1 (ka : List UInt8) (g_base : Nat) (gx : Nat) (gp : Nat) (x : List Nat) (p : List Nat) (iv : List Nat) (di : List Nat) : List Value :=
  (hashVal ka) :: (.pointer (some ⟨g_base, 0, none⟩)) :: (.bool false) :: (.pointer (some ⟨gx, 0, none⟩)) :: (.pointer (some ⟨gp, 0, none⟩)) :: undef :: undef :: undef :: undef :: (.bool true) :: (.bool false) :: (hashVal ka) :: (numVal x) :: (hashVal ka) :: (numD p) :: (numVal x) :: (numVal iv) :: (numD p) :: (numD di) :: (.bool true) :: (.bool false) :: undef :: undef :: undef :: undef :: undef :: undef :: undef :: undef :: undef :: undef :: undef :: undef :: undef :: undef :: undef :: undef :: undef :: undef :: []
set_option maxRecDepth 100000 in
set_option maxHeartbeats 1000000 in
theorem walk_over (ka : List UInt8) (x p iv di r dr tl : List Nat) (ok : Bool) (w : World)
    (Hka : Hid (ka.length = 32))
    (Hx : Hid (x.length = 5))
    (Hp : Hid (p.length = 8))
    (Hr : Hid (r.length = 5))
    (Hdr : Hid (dr.length = 8))
    (CX : Hid (∀ W, Calls Tryd.prog 10 #[hashVal ka] W fun e w' => e = .returned (numVal x) ∧ Below W.heap.size W w'))
    (CP : Hid (∀ W, Calls Tryd.prog 9 #[hashVal ka] W fun e w' => e = .returned (numD p) ∧ Below W.heap.size W w'))
    (CI : Hid (∀ W, Calls Tryd.prog 27 #[numVal x] W fun e w' => e = .returned (numVal iv) ∧ Below W.heap.size W w'))
    (CD : Hid (∀ W, Calls Tryd.prog 28 #[numD p] W fun e w' => e = .returned (numD di) ∧ Below W.heap.size W w'))
    (S1 : Hid (∀ W, Calls Tryd.prog 13 #[numVal iv, numD di] W fun e w' => e = .returned (.bool true) ∧ Below W.heap.size W w'))
    (CDR : Hid (∀ W, Calls Tryd.prog 30 #[numD p] W fun e w' => e = .returned (.tuple #[numD dr, .bool ok]) ∧ Below W.heap.size W w'))
    (S2 : Hid (∀ W, Calls Tryd.prog 13 #[numVal r, numD dr] W fun e w' => e = .returned (.bool true) ∧ Below W.heap.size W w'))
    (CR : Hid (∀ W, Tab W 19 (tl.map ncell) → Calls Tryd.prog 29 #[numVal x] W fun e w' => e = .returned (.tuple #[numVal r, .bool ok]) ∧ Below W.heap.size W w'))
    (hTB : Tab w 19 (tl.map ncell)) :
    Calls Tryd.prog 5 #[hashVal ka] w fun e w' => e = .returned (.bool true) ∧ Below w.heap.size w w' := by
  go_enter Tryd.func5, Tryd.ntmps5
  go_wp2_with (first
    | (refine take_step rfl 23 (.tmp 0) rfl ka rfl ?_
       intro w1 hb1 hvk1 hz
       clear hz
       have hB1 := hb1
       have hgek : w.heap.size ≤ w.heap.size := Nat.le_refl _
       have hvtb1 := hTB.on hb1
       have hnetbk := Nat.ne_of_lt hTB.lt
       clear hTB hb1
       try simp only [Act.put, List.setIfInBounds_toArray, List.set_cons_zero, List.set_cons_succ]
       skip))
  refine (alive9 w1).mono ?_
  rintro e w2 ⟨rfl, hb2⟩
  have hB2 := below_then hB1 hb2
  have hvtb2 := hvtb1.on hb2
  have hvk2 := hvk1.on hb2
  clear hB1 hvtb1 hvk1 hb2
  go_wp2_with fail
  replace hvtb2 := hvtb2.drew
  replace hvk2 := hvk2.drew
  refine wp_region_any (by kernel_rfl) ?_
  refine wpAny_flatMM (L := [0, 1, 2, 3, 4, 5]) (by kernel_rfl) _ _ (invVs3 ka w.heap.size x p) [(4, 3), (5, 4)] (fun s => bif s == 3 then 33 else 27) (fun s => bif s == 3 then (nzeros 5) else (dzeros 8)) [0, 1, 2, 5, 6, 7, 8, 9, 10, 15, 16, 17, 18, 19, 20, 21, 22, 23, 24, 25, 26, 27, 28, 29, 30, 31, 32, 33, 34, 35, 36, 37, 38] (by kernel_rfl) (by kernel_rfl) ?_ ?_ ?_ (by rfl) ?_ 2 (by kernel_rfl) ?_
  · intro p hp
    rcases List.mem_cons.1 hp with rfl | hp
    · exact ⟨⟨_, rfl, rfl, rfl, rfl, by kernel_rfl, by kernel_rfl⟩⟩
    rcases List.mem_cons.1 hp with rfl | hp
    · exact ⟨⟨_, rfl, rfl, rfl, rfl, by kernel_rfl, by kernel_rfl⟩⟩
    exact absurd hp List.not_mem_nil
  · intro p hp
    rcases List.mem_cons.1 hp with rfl | hp
    · exact zero_elem
    rcases List.mem_cons.1 hp with rfl | hp
    · exact zero_ND
    exact absurd hp List.not_mem_nil
  · exact all_cons rfl (all_cons rfl (all_cons rfl (all_cons rfl (all_cons rfl (all_cons rfl (all_cons rfl (all_cons rfl (all_cons rfl (all_cons rfl (all_cons rfl (all_cons rfl (all_cons rfl (all_cons rfl (all_cons rfl (all_cons rfl (all_cons rfl (all_cons rfl (all_cons rfl (all_cons rfl (all_cons rfl (all_cons rfl (all_cons rfl (all_cons rfl (all_cons rfl (all_cons rfl (all_cons rfl (all_cons rfl (all_cons rfl (all_cons rfl (all_cons rfl (all_cons rfl (all_cons rfl (all_nil)))))))))))))))))))))))))))))))))
  · refine all_cons (.inr (mStep _ 11 rfl rfl rfl rfl (by kernel_rfl) (fun a hv => wanted_all rfl _) (fun a w K hb hv hK => mPure (hashVal ka) (exec_load _ _ _ _ rfl _ _ (hv 1 (by kernel_rfl) rfl) w (key_run (hvk2.on hb) Hka.out)) hK))) ?_
    refine all_cons (.inr (mStep _ 12 rfl rfl rfl rfl (by kernel_rfl) (fun a hv => wanted_all rfl _) (fun a w K hb hv hK => mCall (numVal x) 10 _ _ rfl [hashVal ka] (cons_eq (hv 11 (by kernel_rfl) rfl) (rfl)) (enters Tryd.func10 rfl rfl) (CX.out w) hK))) ?_
    refine all_cons (.inr (mStep _ 13 rfl rfl rfl rfl (by kernel_rfl) (fun a hv => wanted_all rfl _) (fun a w K hb hv hK => mPure (hashVal ka) (exec_load _ _ _ _ rfl _ _ (hv 1 (by kernel_rfl) rfl) w (key_run (hvk2.on hb) Hka.out)) hK))) ?_
    refine all_cons (.inr (mStep _ 14 rfl rfl rfl rfl (by kernel_rfl) (fun a hv => wanted_all rfl _) (fun a w K hb hv hK => mCall (numD p) 9 _ _ rfl [hashVal ka] (cons_eq (hv 13 (by kernel_rfl) rfl) (rfl)) (enters Tryd.func9 rfl rfl) (CP.out w) hK))) ?_
    refine all_cons (.inl ⟨(4, 3), by simp, rfl⟩) ?_
    refine all_cons (.inl ⟨(5, 4), by simp, rfl⟩) ?_
    exact all_nil
  intro w3 g hb3 hN3 hap3
  obtain ⟨hgex, hvx3⟩ := hN3 (4, 3) (by simp)
  obtain ⟨hgep, hvp3⟩ := hN3 (5, 4) (by simp)
  have hnexp := hap3 (4, 3) (by simp) (5, 4) (by simp) (by decide)
  clear hN3 hap3
  have hB3 := below_then (show Below w.heap.size w w2.drew from hB2.drew) hb3
  have hlttb : 19 < w2.heap.size := hvtb2.lt
  have hltk : w.heap.size < w2.heap.size := hvk2.lt
  have hvtb3 := hvtb2.on hb3
  have hvk3 := hvk2.on hb3
  rw [show withNew g [(4, 3), (5, 4)] (invVs3 ka w.heap.size x p) = invVs3N ka w.heap.size x p (g 3) (g 4) from rfl]
  replace hgex : w2.heap.size ≤ g 3 := hgex
  replace hvx3 : Cells w3 (g 3) (nzeros 5) 33 := hvx3
  replace hgep : w2.heap.size ≤ g 4 := hgep
  replace hvp3 : Cells w3 (g 4) (dzeros 8) 27 := hvp3
  replace hnexp : g 3 ≠ g 4 := hnexp
  have hnetbx : 19 ≠ g 3 := Nat.ne_of_lt (Nat.lt_of_lt_of_le hlttb hgex)
  have hnekx : w.heap.size ≠ g 3 := Nat.ne_of_lt (Nat.lt_of_lt_of_le hltk hgex)
  replace hgex : w.heap.size ≤ g 3 := Nat.le_trans (show w.heap.size ≤ w2.heap.size from hB2.size) hgex
  have hnetbp : 19 ≠ g 4 := Nat.ne_of_lt (Nat.lt_of_lt_of_le hlttb hgep)
  have hnekp : w.heap.size ≠ g 4 := Nat.ne_of_lt (Nat.lt_of_lt_of_le hltk hgep)
  replace hgep : w.heap.size ≤ g 4 := Nat.le_trans (show w.heap.size ≤ w2.heap.size from hB2.size) hgep
  clear hlttb hltk
  generalize g 3 = gx at *
  generalize g 4 = gp at *
  clear hB2 hvtb2 hvk2 hb3
  refine wpAny_rest 6 rfl (by kernel_rfl) ?_
  refine vset_step rfl 33 (.tmp 3) (.tmp 12) rfl gx 5 (nzeros 5) (x.map ncell) rfl rfl hvx3 rfl size_elem (by rw [List.length_map, Hx.out]) (ncells_one _) ?_
  intro w4 hb4 hvx4 hz4
  have hB4 : Below w.heap.size w w4 := hB3.trans (hb4.below hgex hB3.size)
  have hvtb4 := hvtb3.but hb4 hnetbx
  have hvk4 := hvk3.but hb4 hnekx
  have hvp4 := hvp3.but hb4 (Ne.symm hnexp)
  clear hB3 hvx3 hb4 hz4 hvtb3 hvk3 hvp3
  refine vset_step rfl 27 (.tmp 4) (.tmp 14) rfl gp 8 (dzeros 8) (p.map dcell) rfl rfl hvp4 rfl size_ND (by rw [List.length_map, Hp.out]) (dcells_one _) ?_
  intro w5 hb5 hvp5 hz5
  have hB5 : Below w.heap.size w w5 := hB4.trans (hb5.below hgep hB4.size)
  have hvtb5 := hvtb4.but hb5 hnetbp
  have hvk5 := hvk4.but hb5 hnekp
  have hvx5 := hvx4.but hb5 hnexp
  clear hB4 hvp4 hb5 hz5 hvtb4 hvk4 hvx4
  rename_i K hKK
  show Exit.then K _ Exit.normal (⟨(invVs3N ka w.heap.size x p gx gp).toArray, []⟩ : Act) w5
  simp only [Exit.then]
  refine hKK _ _ ?_
  clear hKK K g
  simp only [invVs3N]
  go_wp2_with fail
  replace hvtb5 := hvtb5.drew
  replace hvk5 := hvk5.drew
  replace hvx5 := hvx5.drew
  replace hvp5 := hvp5.drew
  refine wp_region_any (by kernel_rfl) ?_
  refine wpAny_flatM (L := [0, 1, 2, 3, 4, 5]) (by kernel_rfl) _ _ (invVs4_1 ka w.heap.size gx gp x p iv di) [] 33 (nzeros 5) [0, 1, 2, 3, 4, 5, 6, 7, 8, 9, 10, 11, 12, 13, 14, 21, 22, 23, 24, 25, 26, 27, 28, 29, 30, 31, 32, 33, 34, 35, 36, 37, 38] (by kernel_rfl) (by kernel_rfl) ?_ zero_elem ?_ (by rfl) ?_ 0 (by kernel_rfl) ?_
  · intro p hp
    exact absurd hp List.not_mem_nil
  · exact all_cons rfl (all_cons rfl (all_cons rfl (all_cons rfl (all_cons rfl (all_cons rfl (all_cons rfl (all_cons rfl (all_cons rfl (all_cons rfl (all_cons rfl (all_cons rfl (all_cons rfl (all_cons rfl (all_cons rfl (all_cons rfl (all_cons rfl (all_cons rfl (all_cons rfl (all_cons rfl (all_cons rfl (all_cons rfl (all_cons rfl (all_cons rfl (all_cons rfl (all_cons rfl (all_cons rfl (all_cons rfl (all_cons rfl (all_cons rfl (all_cons rfl (all_cons rfl (all_cons rfl (all_nil)))))))))))))))))))))))))))))))))
  · refine all_cons (.inr (mStep _ 15 rfl rfl rfl rfl (by kernel_rfl) (fun a hv => wanted_all rfl _) (fun a w K hb hv hK => mPure (numVal x) (exec_load _ _ _ _ rfl _ _ (hv 3 (by kernel_rfl) rfl) w (elem_run (hvx5.on hb) Hx.out)) hK))) ?_
    refine all_cons (.inr (mStep _ 16 rfl rfl rfl rfl (by kernel_rfl) (fun a hv => wanted_all rfl _) (fun a w K hb hv hK => mCall (numVal iv) 27 _ _ rfl [numVal x] (cons_eq (hv 15 (by kernel_rfl) rfl) (rfl)) (enters Tryd.func27 rfl rfl) (CI.out w) hK))) ?_
    refine all_cons (.inr (mStep _ 17 rfl rfl rfl rfl (by kernel_rfl) (fun a hv => wanted_all rfl _) (fun a w K hb hv hK => mPure (numD p) (exec_load _ _ _ _ rfl _ _ (hv 4 (by kernel_rfl) rfl) w (num_run (hvp5.on hb) Hp.out)) hK))) ?_
    refine all_cons (.inr (mStep _ 18 rfl rfl rfl rfl (by kernel_rfl) (fun a hv => wanted_all rfl _) (fun a w K hb hv hK => mCall (numD di) 28 _ _ rfl [numD p] (cons_eq (hv 17 (by kernel_rfl) rfl) (rfl)) (enters Tryd.func28 rfl rfl) (CD.out w) hK))) ?_
    refine all_cons (.inr (mStep _ 19 rfl rfl rfl rfl (by kernel_rfl) (fun a hv => wanted_all rfl _) (fun a w K hb hv hK => mCall (.bool true) 13 _ _ rfl [numVal iv, numD di] (cons_eq (hv 16 (by kernel_rfl) rfl) (cons_eq (hv 18 (by kernel_rfl) rfl) (rfl))) (enters Tryd.func13 rfl rfl) (S1.out w) hK))) ?_
    refine all_cons (.inr (mStep _ 20 rfl rfl rfl rfl (by kernel_rfl) (fun a hv => wanted_all rfl _) (fun a w K hb hv hK => mPure (.bool false) (exec_not _ _ _ _ rfl (true) (hv 19 (by kernel_rfl) rfl) w) hK))) ?_
    exact all_nil
  intro w6 g hb6 hN6 hap6
  clear hN6 hap6
  have hB6 := below_then (show Below w.heap.size w w5.drew from hB5.drew) hb6
  have hvtb6 := hvtb5.on hb6
  have hvk6 := hvk5.on hb6
  have hvx6 := hvx5.on hb6
  have hvp6 := hvp5.on hb6
  clear hB5 hvtb5 hvk5 hvx5 hvp5 hb6
  refine ⟨by kernel_rfl, ?_⟩
  rename_i K hKK
  show Exit.then K _ Exit.normal (⟨(invVs4_1 ka w.heap.size gx gp x p iv di).toArray, []⟩ : Act) w6
  simp only [Exit.then]
  refine hKK _ _ ?_
  clear hKK K g
  simp only [invVs4_1]
  go_wp2_with (first
    | (refine sget_step rfl 33 (.tmp 3) rfl gx 5 (x.map ncell) rfl hvx6 Tryd.underlying33 rfl size_elem (by rw [List.length_map, Hx.out]) ?_
       try simp only [Act.put, List.setIfInBounds_toArray, List.set_cons_zero, List.set_cons_succ]
       skip))
  refine (CR.out w6 hvtb6).mono ?_
  rintro e w7 ⟨rfl, hb7⟩
  have hB7 := below_then hB6 hb7
  have hvtb7 := hvtb6.on hb7
  have hvk7 := hvk6.on hb7
  have hvx7 := hvx6.on hb7
  have hvp7 := hvp6.on hb7
  clear hB6 hvtb6 hvk6 hvx6 hvp6 hb7
  go_wp2_with (first
    | (refine vput_step rfl rfl 33 (.tmp 5) (.tmp 24) rfl rfl 5 (nzeros 5) (r.map ncell) rfl rfl zero_elem rfl size_elem (by rw [List.length_map, Hr.out]) (ncells_one _) ?_
       intro w8 hb8 hvr8
       have hB8 := below_then hB7 hb8
       have hger : w.heap.size ≤ w7.heap.size := hB7.size
       have hvtb8 := hvtb7.on hb8
       have hnetbr := Nat.ne_of_lt hvtb7.lt
       have hvk8 := hvk7.on hb8
       have hnekr := Nat.ne_of_lt hvk7.lt
       have hvx8 := hvx7.on hb8
       have hnexr := Nat.ne_of_lt hvx7.lt
       have hvp8 := hvp7.on hb8
       have hnepr := Nat.ne_of_lt hvp7.lt
       clear hB7 hvtb7 hvk7 hvx7 hvp7 hb8
       try simp only [Act.put, List.setIfInBounds_toArray, List.set_cons_zero, List.set_cons_succ]
       skip)
    | (refine sget_step rfl 27 (.tmp 4) rfl gp 8 (p.map dcell) rfl hvp8 Tryd.underlying27 rfl size_ND (by rw [List.length_map, Hp.out]) ?_
       try simp only [Act.put, List.setIfInBounds_toArray, List.set_cons_zero, List.set_cons_succ]
       skip))
  generalize hqr : w7.heap.size = gr at *
  clear hqr
  refine (CDR.out w8).mono ?_
  rintro e w9 ⟨rfl, hb9⟩
  have hB9 := below_then hB8 hb9
  have hvtb9 := hvtb8.on hb9
  have hvk9 := hvk8.on hb9
  have hvx9 := hvx8.on hb9
  have hvp9 := hvp8.on hb9
  have hvr9 := hvr8.on hb9
  clear hB8 hvtb8 hvk8 hvx8 hvp8 hvr8 hb9
  cases ok
  · go_wp2_with (first
      | (refine vput_step rfl rfl 27 (.tmp 7) (.tmp 29) rfl rfl 8 (dzeros 8) (dr.map dcell) rfl rfl zero_ND rfl size_ND (by rw [List.length_map, Hdr.out]) (dcells_one _) ?_
         intro w10 hb10 hvd10
         have hB10 := below_then hB9 hb10
         have hged : w.heap.size ≤ w9.heap.size := hB9.size
         have hvtb10 := hvtb9.on hb10
         have hnetbd := Nat.ne_of_lt hvtb9.lt
         have hvk10 := hvk9.on hb10
         have hnekd := Nat.ne_of_lt hvk9.lt
         have hvx10 := hvx9.on hb10
         have hnexd := Nat.ne_of_lt hvx9.lt
         have hvp10 := hvp9.on hb10
         have hnepd := Nat.ne_of_lt hvp9.lt
         have hvr10 := hvr9.on hb10
         have hnerd := Nat.ne_of_lt hvr9.lt
         clear hB9 hvtb9 hvk9 hvx9 hvp9 hvr9 hb10
         try simp only [Act.put, List.setIfInBounds_toArray, List.set_cons_zero, List.set_cons_succ]
         skip)
      | (refine unguard rfl ?_
         refine sget_step rfl 33 (.tmp 5) rfl gr 5 (r.map ncell) rfl hvr10 Tryd.underlying33 rfl size_elem (by rw [List.length_map, Hr.out]) ?_
         try simp only [Act.put, List.setIfInBounds_toArray, List.set_cons_zero, List.set_cons_succ]
         skip)
      | (refine unguard rfl ?_
         refine sget_step rfl 27 (.tmp 7) rfl w9.heap.size 8 (dr.map dcell) rfl hvd10 Tryd.underlying27 rfl size_ND (by rw [List.length_map, Hdr.out]) ?_
         try simp only [Act.put, List.setIfInBounds_toArray, List.set_cons_zero, List.set_cons_succ]
         skip))
    generalize hqd : w9.heap.size = gd at *
    clear hqd
    refine (S2.out w10).mono ?_
    rintro e w11 ⟨rfl, hb11⟩
    have hB11 := below_then hB10 hb11
    have hvtb11 := hvtb10.on hb11
    have hvk11 := hvk10.on hb11
    have hvx11 := hvx10.on hb11
    have hvp11 := hvp10.on hb11
    have hvr11 := hvr10.on hb11
    have hvd11 := hvd10.on hb11
    clear hB10 hvtb10 hvk10 hvx10 hvp10 hvr10 hvd10 hb11
    go_wp2
    go_ret
    exact ⟨rfl, hB11⟩
  · go_wp2_with (first
      | (refine vput_step rfl rfl 27 (.tmp 7) (.tmp 29) rfl rfl 8 (dzeros 8) (dr.map dcell) rfl rfl zero_ND rfl size_ND (by rw [List.length_map, Hdr.out]) (dcells_one _) ?_
         intro w10 hb10 hvd10
         have hB10 := below_then hB9 hb10
         have hged : w.heap.size ≤ w9.heap.size := hB9.size
         have hvtb10 := hvtb9.on hb10
         have hnetbd := Nat.ne_of_lt hvtb9.lt
         have hvk10 := hvk9.on hb10
         have hnekd := Nat.ne_of_lt hvk9.lt
         have hvx10 := hvx9.on hb10
         have hnexd := Nat.ne_of_lt hvx9.lt
         have hvp10 := hvp9.on hb10
         have hnepd := Nat.ne_of_lt hvp9.lt
         have hvr10 := hvr9.on hb10
         have hnerd := Nat.ne_of_lt hvr9.lt
         clear hB9 hvtb9 hvk9 hvx9 hvp9 hvr9 hb10
         try simp only [Act.put, List.setIfInBounds_toArray, List.set_cons_zero, List.set_cons_succ]
         skip)
      | (refine unguard rfl ?_
         refine sget_step rfl 33 (.tmp 5) rfl gr 5 (r.map ncell) rfl hvr10 Tryd.underlying33 rfl size_elem (by rw [List.length_map, Hr.out]) ?_
         try simp only [Act.put, List.setIfInBounds_toArray, List.set_cons_zero, List.set_cons_succ]
         skip)
      | (refine unguard rfl ?_
         refine sget_step rfl 27 (.tmp 7) rfl w9.heap.size 8 (dr.map dcell) rfl hvd10 Tryd.underlying27 rfl size_ND (by rw [List.length_map, Hdr.out]) ?_
         try simp only [Act.put, List.setIfInBounds_toArray, List.set_cons_zero, List.set_cons_succ]
         skip))
    generalize hqd : w9.heap.size = gd at *
    clear hqd
    refine (S2.out w10).mono ?_
    rintro e w12 ⟨rfl, hb12⟩
    have hB12 := below_then hB10 hb12
    have hvtb12 := hvtb10.on hb12
    have hvk12 := hvk10.on hb12
    have hvx12 := hvx10.on hb12
    have hvp12 := hvp10.on hb12
    have hvr12 := hvr10.on hb12
    have hvd12 := hvd10.on hb12
    clear hB10 hvtb10 hvk10 hvx10 hvp10 hvr10 hvd10 hb12
    go_wp2
    go_ret
    exact ⟨rfl, hB12⟩
end Go.Proofs.YtcnmohmlfffnkaaDoor.fieldInverts
