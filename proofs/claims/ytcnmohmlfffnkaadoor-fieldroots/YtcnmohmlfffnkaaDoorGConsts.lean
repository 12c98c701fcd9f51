/- The document's Constants: its walk. (Made by tools/mklaws9.py.) -/
import Derived.Test.YtcnmohmlfffnkaaDoorPart14
import Derived.Test.YtcnmohmlfffnkaaDoorPart15
import Derived.Test.YtcnmohmlfffnkaaDoorWFlat4
namespace Go.Proofs.YtcnmohmlfffnkaaDoor
open Go.RowKit
def cstVs2 (gy : Nat) (b : List Nat) (y : List Nat) (bx : List Nat) (one : List Nat) (s : List Nat) (d : List Nat) (dy : List Nat) (e1 : List Nat) (iv : List Nat) (q : List Nat) : List Value :=
  (.bool false) :: (.pointer (some ⟨gy, 0, none⟩)) :: undef :: (.bool true) :: (numD b) :: (numD b) :: (numD y) :: (.tuple #[numD bx, .bool true]) :: (numD y) :: (numD one) :: (numD s) :: (numD d) :: (numD y) :: (numD dy) :: (numD one) :: (numD e1) :: (numD iv) :: (numD q) :: (.tuple #[numD bx, .bool true]) :: (numD bx) :: (.bool true) :: undef :: undef :: undef :: undef :: undef :: undef :: undef :: undef :: undef :: undef :: undef :: undef :: undef :: undef :: undef :: undef :: undef :: undef :: undef :: undef :: undef :: undef :: undef :: undef :: []
def cstVs2N (gy : Nat) (b : List Nat) (y : List Nat) (bx : List Nat) (one : List Nat) (s : List Nat) (d : List Nat) (dy : List Nat) (e1 : List Nat) (iv : List Nat) (q : List Nat) (n2 : Nat) : List Value :=
  (.bool false) :: (.pointer (some ⟨gy, 0, none⟩)) :: (.pointer (some ⟨n2, 0, none⟩)) :: (.bool true) :: (numD b) :: (numD b) :: (numD y) :: (.tuple #[numD bx, .bool true]) :: (numD y) :: (numD one) :: (numD s) :: (numD d) :: (numD y) :: (numD dy) :: (numD one) :: (numD e1) :: (numD iv) :: (numD q) :: (.tuple #[numD bx, .bool true]) :: (numD bx) :: (.bool true) :: undef :: undef :: undef :: undef :: undef :: undef :: undef :: undef :: undef :: undef :: undef :: undef :: undef :: undef :: undef :: undef :: undef :: undef :: undef :: undef :: undef :: undef :: undef :: undef :: []
def cstVs3_1 (gy : Nat) (gx : Nat) (b : List Nat) (y : List Nat) (bx : List Nat) (one : List Nat) (s : List Nat) (d : List Nat) (dy : List Nat) (e1 : List Nat) (iv : List Nat) (q : List Nat) (zz : List Nat) (c1 : List Nat) (m : List Nat) (c2 : List Nat) (i2 : List Nat) (four : List Nat) (five : List Nat) (i5 : List Nat) : List Value :=
  (.bool true) :: (.pointer (some ⟨gy, 0, none⟩)) :: (.pointer (some ⟨gx, 0, none⟩)) :: (.bool true) :: (numD b) :: (numD b) :: (numD y) :: (.tuple #[numD bx, .bool true]) :: (numD y) :: (numD one) :: (numD s) :: (numD d) :: (numD y) :: (numD dy) :: (numD one) :: (numD e1) :: (numD iv) :: (numD q) :: (.tuple #[numD bx, .bool true]) :: (numD bx) :: (.bool true) :: (numD d) :: (numD zz) :: (numD c1) :: (numD m) :: (numD c2) :: (numD i2) :: (numD d) :: (.bool true) :: (.bool true) :: (numD b) :: (numD four) :: (numD five) :: (numD i5) :: (numD b) :: (.bool true) :: (.bool true) :: (.bool true) :: (.bool true) :: (.bool true) :: (.bool true) :: (numD bx) :: (numD bx) :: (.bool true) :: (.bool true) :: []
set_option maxRecDepth 100000 in
set_option maxHeartbeats 1000000 in
theorem refConstants_over (b y one s d dy e1 iv q bx zz c1 m c2 i2 four five i5 : List Nat) (w : World)
    (Hy : Hid (y.length = 8))
    (Hbx : Hid (bx.length = 8))
    (CB : Hid (∀ W, Calls Tryd.prog 38 #[] W fun e w' => e = .returned (numD b) ∧ Below W.heap.size W w'))
    (CY : Hid (∀ W, Calls Tryd.prog 24 #[numD b, numD b] W fun e w' => e = .returned (numD y) ∧ Below W.heap.size W w'))
    (CS : Hid (∀ W, Calls Tryd.prog 22 #[numD y, numD one] W fun e w' => e = .returned (numD s) ∧ Below W.heap.size W w'))
    (CD : Hid (∀ W, Calls Tryd.prog 34 #[] W fun e w' => e = .returned (numD d) ∧ Below W.heap.size W w'))
    (CDY : Hid (∀ W, Calls Tryd.prog 24 #[numD d, numD y] W fun e w' => e = .returned (numD dy) ∧ Below W.heap.size W w'))
    (CE1 : Hid (∀ W, Calls Tryd.prog 20 #[numD dy, numD one] W fun e w' => e = .returned (numD e1) ∧ Below W.heap.size W w'))
    (CIV : Hid (∀ W, Calls Tryd.prog 28 #[numD e1] W fun e w' => e = .returned (numD iv) ∧ Below W.heap.size W w'))
    (CQ : Hid (∀ W, Calls Tryd.prog 24 #[numD s, numD iv] W fun e w' => e = .returned (numD q) ∧ Below W.heap.size W w'))
    (CR : Hid (∀ W, Calls Tryd.prog 30 #[numD q] W fun e w' => e = .returned (.tuple #[numD bx, .bool true]) ∧ Below W.heap.size W w'))
    (CM : Hid (∀ W, Calls Tryd.prog 22 #[numD zz, numD c1] W fun e w' => e = .returned (numD m) ∧ Below W.heap.size W w'))
    (CI2 : Hid (∀ W, Calls Tryd.prog 28 #[numD c2] W fun e w' => e = .returned (numD i2) ∧ Below W.heap.size W w'))
    (CMD : Hid (∀ W, Calls Tryd.prog 24 #[numD m, numD i2] W fun e w' => e = .returned (numD d) ∧ Below W.heap.size W w'))
    (CI5 : Hid (∀ W, Calls Tryd.prog 28 #[numD five] W fun e w' => e = .returned (numD i5) ∧ Below W.heap.size W w'))
    (CMB : Hid (∀ W, Calls Tryd.prog 24 #[numD four, numD i5] W fun e w' => e = .returned (numD b) ∧ Below W.heap.size W w'))
    (CBX : Hid (∀ W, Calls Tryd.prog 36 #[] W fun e w' => e = .returned (numD bx) ∧ Below W.heap.size W w'))
    (B0 : ∀ w, (Instr.build 27 #[]).run Tryd.prog w = .ok (numD zz) w)
    (B1 : ∀ w, (Instr.build 27 #[(0, dcell 1)]).run Tryd.prog w = .ok (numD one) w)
    (BC1 : ∀ w, (Instr.build 27 #[(0, dcell 121665)]).run Tryd.prog w = .ok (numD c1) w)
    (BC2 : ∀ w, (Instr.build 27 #[(0, dcell 121666)]).run Tryd.prog w = .ok (numD c2) w)
    (B4 : ∀ w, (Instr.build 27 #[(0, dcell 4)]).run Tryd.prog w = .ok (numD four) w)
    (B5 : ∀ w, (Instr.build 27 #[(0, dcell 5)]).run Tryd.prog w = .ok (numD five) w)
    (E1 : ∀ w, (binOp .eql 27 (numD d) (numD d)).run Tryd.prog w = .ok (.bool true) w)
    (E2 : ∀ w, (binOp .eql 27 (numD b) (numD b)).run Tryd.prog w = .ok (.bool true) w)
    (E3 : ∀ w, (binOp .eql 27 (numD bx) (numD bx)).run Tryd.prog w = .ok (.bool true) w) :
    Calls Tryd.prog 32 #[] w fun e w' => e = .returned (.bool true) ∧ Below w.heap.size w w' := by
  go_enter Tryd.func32, Tryd.ntmps32
  have hB0 : Below w.heap.size w w := Below.refl _ _
  go_wp2_with fail
  refine (CB.out w).mono ?_
  rintro e w1 ⟨rfl, hb1⟩
  have hB1 := below_then hB0 hb1
  clear hB0 hb1
  go_wp2_with fail
  refine (CB.out w1).mono ?_
  rintro e w2 ⟨rfl, hb2⟩
  have hB2 := below_then hB1 hb2
  clear hB1 hb2
  go_wp2_with fail
  refine (CY.out w2).mono ?_
  rintro e w3 ⟨rfl, hb3⟩
  have hB3 := below_then hB2 hb3
  clear hB2 hb3
  go_wp2_with (first
    | (refine vput_step rfl rfl 27 (.tmp 1) (.tmp 6) rfl rfl 8 (dzeros 8) (y.map dcell) rfl rfl zero_ND rfl size_ND (by rw [List.length_map, Hy.out]) (dcells_one _) ?_
       intro w4 hb4 hvy4
       have hB4 := below_then hB3 hb4
       have hgey : w.heap.size ≤ w3.heap.size := hB3.size
       clear hB3 hb4
       try simp only [Act.put, List.setIfInBounds_toArray, List.set_cons_zero, List.set_cons_succ]
       skip))
  generalize hqy : w3.heap.size = gy at *
  clear hqy
  replace hvy4 := hvy4.drew
  refine wp_region_any (by kernel_rfl) ?_
  refine wpAny_flatS (L := [0, 1, 2, 3, 4, 5, 6, 7, 8, 9, 10, 11, 12, 13, 14, 15, 16]) (by kernel_rfl) _ _ (cstVs2 gy b y bx one s d dy e1 iv q) [(14, 2)] (fun _ => 27) (fun _ => (dzeros 8)) (fun _ => some (15, bx.map dcell)) [0, 1, 4, 5, 6, 21, 22, 23, 24, 25, 26, 27, 28, 29, 30, 31, 32, 33, 34, 35, 36, 37, 38, 39, 40, 41, 42, 43, 44] (by kernel_rfl) (by kernel_rfl) ?_ (fun _ _ => zero_ND) ?_ ?_ ?_ (by rfl) ?_ 0 (by kernel_rfl) ?_
  · intro p hp
    rcases List.mem_cons.1 hp with rfl | hp
    · exact ⟨⟨_, rfl, rfl, rfl, rfl, by kernel_rfl, by kernel_rfl⟩⟩
    exact absurd hp List.not_mem_nil
  · intro p hp j l h
    rcases List.mem_cons.1 hp with rfl | hp
    · cases h
      exact ⟨⟨_, 19, rfl, rfl, rfl, rfl, by kernel_rfl, by kernel_rfl, by kernel_rfl, rfl, by rw [List.length_map, Hbx.out]; exact size_ND, by rw [List.length_map, Hbx.out]; rfl, dcells_one _⟩, by decide⟩
    exact absurd hp List.not_mem_nil
  · intro p hp q hq j l l2 h1 h2
    rcases List.mem_cons.1 hp with rfl | hp
    · rcases List.mem_cons.1 hq with rfl | hq
      · rfl
      exact absurd hq List.not_mem_nil
    exact absurd hp List.not_mem_nil
  · exact all_cons rfl (all_cons rfl (all_cons rfl (all_cons rfl (all_cons rfl (all_cons rfl (all_cons rfl (all_cons rfl (all_cons rfl (all_cons rfl (all_cons rfl (all_cons rfl (all_cons rfl (all_cons rfl (all_cons rfl (all_cons rfl (all_cons rfl (all_cons rfl (all_cons rfl (all_cons rfl (all_cons rfl (all_cons rfl (all_cons rfl (all_cons rfl (all_cons rfl (all_cons rfl (all_cons rfl (all_cons rfl (all_cons rfl (all_nil)))))))))))))))))))))))))))))
  · refine all_cons (.inr (.inl (mStep _ 8 rfl rfl rfl rfl (by kernel_rfl) (fun a hv => wanted_all rfl _) (fun a w K hb hv hK => mPure (numD y) (exec_load _ _ _ _ rfl _ _ (hv 1 (by kernel_rfl) rfl) w (num_run (hvy4.on hb) Hy.out)) hK)))) ?_
    refine all_cons (.inr (.inl (mStep _ 9 rfl rfl rfl rfl (by kernel_rfl) (fun a hv => wanted_all rfl _) (fun a w K hb hv hK => mPure (numD one) (exec_build _ _ _ [(0, .const (.int .u32 1))] rfl [(0, dcell 1)] rfl _ w (B1 w)) hK)))) ?_
    refine all_cons (.inr (.inl (mStep _ 10 rfl rfl rfl rfl (by kernel_rfl) (fun a hv => wanted_all rfl _) (fun a w K hb hv hK => mCall (numD s) 22 _ _ rfl [numD y, numD one] (cons_eq (hv 8 (by kernel_rfl) rfl) (cons_eq (hv 9 (by kernel_rfl) rfl) (rfl))) (enters Tryd.func22 rfl rfl) (CS.out w) hK)))) ?_
    refine all_cons (.inr (.inl (mStep _ 11 rfl rfl rfl rfl (by kernel_rfl) (fun a hv => wanted_all rfl _) (fun a w K hb hv hK => mCall (numD d) 34 _ _ rfl [] (rfl) (enters Tryd.func34 rfl rfl) (CD.out w) hK)))) ?_
    refine all_cons (.inr (.inl (mStep _ 12 rfl rfl rfl rfl (by kernel_rfl) (fun a hv => wanted_all rfl _) (fun a w K hb hv hK => mPure (numD y) (exec_load _ _ _ _ rfl _ _ (hv 1 (by kernel_rfl) rfl) w (num_run (hvy4.on hb) Hy.out)) hK)))) ?_
    refine all_cons (.inr (.inl (mStep _ 13 rfl rfl rfl rfl (by kernel_rfl) (fun a hv => wanted_all rfl _) (fun a w K hb hv hK => mCall (numD dy) 24 _ _ rfl [numD d, numD y] (cons_eq (hv 11 (by kernel_rfl) rfl) (cons_eq (hv 12 (by kernel_rfl) rfl) (rfl))) (enters Tryd.func24 rfl rfl) (CDY.out w) hK)))) ?_
    refine all_cons (.inr (.inl (mStep _ 14 rfl rfl rfl rfl (by kernel_rfl) (fun a hv => wanted_all rfl _) (fun a w K hb hv hK => mPure (numD one) (exec_build _ _ _ [(0, .const (.int .u32 1))] rfl [(0, dcell 1)] rfl _ w (B1 w)) hK)))) ?_
    refine all_cons (.inr (.inl (mStep _ 15 rfl rfl rfl rfl (by kernel_rfl) (fun a hv => wanted_all rfl _) (fun a w K hb hv hK => mCall (numD e1) 20 _ _ rfl [numD dy, numD one] (cons_eq (hv 13 (by kernel_rfl) rfl) (cons_eq (hv 14 (by kernel_rfl) rfl) (rfl))) (enters Tryd.func20 rfl rfl) (CE1.out w) hK)))) ?_
    refine all_cons (.inr (.inl (mStep _ 16 rfl rfl rfl rfl (by kernel_rfl) (fun a hv => wanted_all rfl _) (fun a w K hb hv hK => mCall (numD iv) 28 _ _ rfl [numD e1] (cons_eq (hv 15 (by kernel_rfl) rfl) (rfl)) (enters Tryd.func28 rfl rfl) (CIV.out w) hK)))) ?_
    refine all_cons (.inr (.inl (mStep _ 17 rfl rfl rfl rfl (by kernel_rfl) (fun a hv => wanted_all rfl _) (fun a w K hb hv hK => mCall (numD q) 24 _ _ rfl [numD s, numD iv] (cons_eq (hv 10 (by kernel_rfl) rfl) (cons_eq (hv 16 (by kernel_rfl) rfl) (rfl))) (enters Tryd.func24 rfl rfl) (CQ.out w) hK)))) ?_
    refine all_cons (.inr (.inl (mStep _ 18 rfl rfl rfl rfl (by kernel_rfl) (fun a hv => wanted_all rfl _) (fun a w K hb hv hK => mCall (.tuple #[numD bx, .bool true]) 30 _ _ rfl [numD q] (cons_eq (hv 17 (by kernel_rfl) rfl) (rfl)) (enters Tryd.func30 rfl rfl) (CR.out w) hK)))) ?_
    refine all_cons (.inr (.inl (mStep _ 7 rfl rfl rfl rfl (by kernel_rfl) (fun a hv => wanted_all rfl _) (fun a w K hb hv hK => mPure (.tuple #[numD bx, .bool true]) (exec_move _ _ _ (.inl rfl) _ (hv 18 (by kernel_rfl) rfl) w) hK)))) ?_
    refine all_cons (.inr (.inl (mStep _ 19 rfl rfl rfl rfl (by kernel_rfl) (fun a hv => wanted_all rfl _) (fun a w K hb hv hK => mPure (numD bx) (exec_extract _ _ _ _ rfl _ (hv 7 (by kernel_rfl) rfl) _ rfl w) hK)))) ?_
    refine all_cons (.inr (.inl (mStep _ 20 rfl rfl rfl rfl (by kernel_rfl) (fun a hv => wanted_all rfl _) (fun a w K hb hv hK => mPure (.bool true) (exec_extract _ _ _ _ rfl _ (hv 7 (by kernel_rfl) rfl) _ rfl w) hK)))) ?_
    refine all_cons (.inl ⟨(14, 2), by simp, rfl⟩) ?_
    refine all_cons (.inr (.inr ⟨(14, 2), by simp, _, rfl⟩)) ?_
    refine all_cons (.inr (.inl (mStep _ 3 rfl rfl rfl rfl (by kernel_rfl) (fun a hv => wanted_all rfl _) (fun a w K hb hv hK => mPure (.bool true) (exec_move _ _ _ (.inr rfl) _ (hv 20 (by kernel_rfl) rfl) w) hK)))) ?_
    exact all_nil
  intro w5 g hb5 hN5 hap5
  obtain ⟨hgex, hvx5⟩ := hN5 (14, 2) (by simp)
  clear hN5 hap5
  have hB5 := below_then (show Below w.heap.size w w4.drew from hB4.drew) hb5
  have hlty : gy < w4.heap.size := hvy4.lt
  have hvy5 := hvy4.on hb5
  rw [show withNew g [(14, 2)] (cstVs2 gy b y bx one s d dy e1 iv q) = cstVs2N gy b y bx one s d dy e1 iv q (g 2) from rfl]
  replace hgex : w4.heap.size ≤ g 2 := hgex
  replace hvx5 : Cells w5 (g 2) (bx.map dcell) 27 := hvx5
  have hneyx : gy ≠ g 2 := Nat.ne_of_lt (Nat.lt_of_lt_of_le hlty hgex)
  replace hgex : w.heap.size ≤ g 2 := Nat.le_trans (show w.heap.size ≤ w4.heap.size from hB4.size) hgex
  clear hlty
  generalize g 2 = gx at *
  clear hB4 hvy4 hb5
  refine ⟨by kernel_rfl, ?_⟩
  rename_i K hKK
  show Exit.then K _ Exit.normal (⟨(cstVs2N gy b y bx one s d dy e1 iv q gx).toArray, []⟩ : Act) w5
  simp only [Exit.then]
  refine hKK _ _ ?_
  clear hKK K g
  simp only [cstVs2N]
  go_wp2_with fail
  replace hvy5 := hvy5.drew
  replace hvx5 := hvx5.drew
  refine wp_region_any (by kernel_rfl) ?_
  refine wpAny_flatM (L := [0, 1, 2, 3, 4, 5, 6, 7, 8, 9, 10, 11, 12, 13, 14, 15, 16, 17, 18, 19, 20, 21, 22, 23, 24]) (by kernel_rfl) _ _ (cstVs3_1 gy gx b y bx one s d dy e1 iv q zz c1 m c2 i2 four five i5) [] 33 (nzeros 5) [1, 2, 3, 4, 5, 6, 7, 8, 9, 10, 11, 12, 13, 14, 15, 16, 17, 18, 19, 20] (by kernel_rfl) (by kernel_rfl) ?_ zero_elem ?_ (by rfl) ?_ 0 (by kernel_rfl) ?_
  · intro p hp
    exact absurd hp List.not_mem_nil
  · exact all_cons rfl (all_cons rfl (all_cons rfl (all_cons rfl (all_cons rfl (all_cons rfl (all_cons rfl (all_cons rfl (all_cons rfl (all_cons rfl (all_cons rfl (all_cons rfl (all_cons rfl (all_cons rfl (all_cons rfl (all_cons rfl (all_cons rfl (all_cons rfl (all_cons rfl (all_cons rfl (all_nil))))))))))))))))))))
  · refine all_cons (.inr (mStep _ 21 rfl rfl rfl rfl (by kernel_rfl) (fun a hv => wanted_all rfl _) (fun a w K hb hv hK => mCall (numD d) 34 _ _ rfl [] (rfl) (enters Tryd.func34 rfl rfl) (CD.out w) hK))) ?_
    refine all_cons (.inr (mStep _ 22 rfl rfl rfl rfl (by kernel_rfl) (fun a hv => wanted_all rfl _) (fun a w K hb hv hK => mPure (numD zz) (exec_build _ _ _ [] rfl [] rfl _ w (B0 w)) hK))) ?_
    refine all_cons (.inr (mStep _ 23 rfl rfl rfl rfl (by kernel_rfl) (fun a hv => wanted_all rfl _) (fun a w K hb hv hK => mPure (numD c1) (exec_build _ _ _ [(0, .const (.int .u32 121665))] rfl [(0, dcell 121665)] rfl _ w (BC1 w)) hK))) ?_
    refine all_cons (.inr (mStep _ 24 rfl rfl rfl rfl (by kernel_rfl) (fun a hv => wanted_all rfl _) (fun a w K hb hv hK => mCall (numD m) 22 _ _ rfl [numD zz, numD c1] (cons_eq (hv 22 (by kernel_rfl) rfl) (cons_eq (hv 23 (by kernel_rfl) rfl) (rfl))) (enters Tryd.func22 rfl rfl) (CM.out w) hK))) ?_
    refine all_cons (.inr (mStep _ 25 rfl rfl rfl rfl (by kernel_rfl) (fun a hv => wanted_all rfl _) (fun a w K hb hv hK => mPure (numD c2) (exec_build _ _ _ [(0, .const (.int .u32 121666))] rfl [(0, dcell 121666)] rfl _ w (BC2 w)) hK))) ?_
    refine all_cons (.inr (mStep _ 26 rfl rfl rfl rfl (by kernel_rfl) (fun a hv => wanted_all rfl _) (fun a w K hb hv hK => mCall (numD i2) 28 _ _ rfl [numD c2] (cons_eq (hv 25 (by kernel_rfl) rfl) (rfl)) (enters Tryd.func28 rfl rfl) (CI2.out w) hK))) ?_
    refine all_cons (.inr (mStep _ 27 rfl rfl rfl rfl (by kernel_rfl) (fun a hv => wanted_all rfl _) (fun a w K hb hv hK => mCall (numD d) 24 _ _ rfl [numD m, numD i2] (cons_eq (hv 24 (by kernel_rfl) rfl) (cons_eq (hv 26 (by kernel_rfl) rfl) (rfl))) (enters Tryd.func24 rfl rfl) (CMD.out w) hK))) ?_
    refine all_cons (.inr (mStep _ 28 rfl rfl rfl rfl (by kernel_rfl) (fun a hv => wanted_all rfl _) (fun a w K hb hv hK => mPure (.bool true) (exec_bin _ _ _ _ _ _ _ rfl (numD d) (numD d) _ (hv 21 (by kernel_rfl) rfl) (hv 27 (by kernel_rfl) rfl) w ((fun w => num_guard _ _ _ _ _ w) w) ((E1) w)) hK))) ?_
    refine all_cons (.inr (mStep _ 29 rfl rfl rfl rfl (by kernel_rfl) (fun a hv => wanted_all rfl _) (fun a w K hb hv hK => mPure (.bool true) (exec_move _ _ _ (.inl rfl) _ (hv 28 (by kernel_rfl) rfl) w) hK))) ?_
    refine all_cons (.inr (mStep _ 30 rfl rfl rfl rfl (by kernel_rfl) (fun a hv => (wanted_is (j := 8) (b := true) (c := true) rfl rfl rfl (hv 29 (by kernel_rfl) rfl)).trans rfl) (fun a w K hb hv hK => mCall (numD b) 38 _ _ rfl [] (rfl) (enters Tryd.func38 rfl rfl) (CB.out w) hK))) ?_
    refine all_cons (.inr (mStep _ 31 rfl rfl rfl rfl (by kernel_rfl) (fun a hv => (wanted_is (j := 8) (b := true) (c := true) rfl rfl rfl (hv 29 (by kernel_rfl) rfl)).trans rfl) (fun a w K hb hv hK => mPure (numD four) (exec_build _ _ _ [(0, .const (.int .u32 4))] rfl [(0, dcell 4)] rfl _ w (B4 w)) hK))) ?_
    refine all_cons (.inr (mStep _ 32 rfl rfl rfl rfl (by kernel_rfl) (fun a hv => (wanted_is (j := 8) (b := true) (c := true) rfl rfl rfl (hv 29 (by kernel_rfl) rfl)).trans rfl) (fun a w K hb hv hK => mPure (numD five) (exec_build _ _ _ [(0, .const (.int .u32 5))] rfl [(0, dcell 5)] rfl _ w (B5 w)) hK))) ?_
    refine all_cons (.inr (mStep _ 33 rfl rfl rfl rfl (by kernel_rfl) (fun a hv => (wanted_is (j := 8) (b := true) (c := true) rfl rfl rfl (hv 29 (by kernel_rfl) rfl)).trans rfl) (fun a w K hb hv hK => mCall (numD i5) 28 _ _ rfl [numD five] (cons_eq (hv 32 (by kernel_rfl) rfl) (rfl)) (enters Tryd.func28 rfl rfl) (CI5.out w) hK))) ?_
    refine all_cons (.inr (mStep _ 34 rfl rfl rfl rfl (by kernel_rfl) (fun a hv => (wanted_is (j := 8) (b := true) (c := true) rfl rfl rfl (hv 29 (by kernel_rfl) rfl)).trans rfl) (fun a w K hb hv hK => mCall (numD b) 24 _ _ rfl [numD four, numD i5] (cons_eq (hv 31 (by kernel_rfl) rfl) (cons_eq (hv 33 (by kernel_rfl) rfl) (rfl))) (enters Tryd.func24 rfl rfl) (CMB.out w) hK))) ?_
    refine all_cons (.inr (mStep _ 35 rfl rfl rfl rfl (by kernel_rfl) (fun a hv => (wanted_is (j := 8) (b := true) (c := true) rfl rfl rfl (hv 29 (by kernel_rfl) rfl)).trans rfl) (fun a w K hb hv hK => mPure (.bool true) (exec_bin _ _ _ _ _ _ _ rfl (numD b) (numD b) _ (hv 30 (by kernel_rfl) rfl) (hv 34 (by kernel_rfl) rfl) w ((fun w => num_guard _ _ _ _ _ w) w) ((E2) w)) hK))) ?_
    refine all_cons (.inr (mStep _ 36 rfl rfl rfl rfl (by kernel_rfl) (fun a hv => wanted_all rfl _) (fun a w K hb hv hK => mPure (.bool true) (pick_true _ _ _ _ _ rfl (hv 29 (by kernel_rfl) rfl) (.bool true) (hv 35 (by kernel_rfl) rfl) w) hK))) ?_
    refine all_cons (.inr (mStep _ 37 rfl rfl rfl rfl (by kernel_rfl) (fun a hv => wanted_all rfl _) (fun a w K hb hv hK => mPure (.bool true) (exec_move _ _ _ (.inl rfl) _ (hv 36 (by kernel_rfl) rfl) w) hK))) ?_
    refine all_cons (.inr (mStep _ 38 rfl rfl rfl rfl (by kernel_rfl) (fun a hv => (wanted_is (j := 16) (b := true) (c := true) rfl rfl rfl (hv 37 (by kernel_rfl) rfl)).trans rfl) (fun a w K hb hv hK => mPure (.bool true) (exec_move _ _ _ (.inl rfl) _ (hv 3 (by kernel_rfl) rfl) w) hK))) ?_
    refine all_cons (.inr (mStep _ 39 rfl rfl rfl rfl (by kernel_rfl) (fun a hv => wanted_all rfl _) (fun a w K hb hv hK => mPure (.bool true) (pick_true _ _ _ _ _ rfl (hv 37 (by kernel_rfl) rfl) (.bool true) (hv 38 (by kernel_rfl) rfl) w) hK))) ?_
    refine all_cons (.inr (mStep _ 40 rfl rfl rfl rfl (by kernel_rfl) (fun a hv => wanted_all rfl _) (fun a w K hb hv hK => mPure (.bool true) (exec_move _ _ _ (.inl rfl) _ (hv 39 (by kernel_rfl) rfl) w) hK))) ?_
    refine all_cons (.inr (mStep _ 41 rfl rfl rfl rfl (by kernel_rfl) (fun a hv => (wanted_is (j := 19) (b := true) (c := true) rfl rfl rfl (hv 40 (by kernel_rfl) rfl)).trans rfl) (fun a w K hb hv hK => mPure (numD bx) (exec_load _ _ _ _ rfl _ _ (hv 2 (by kernel_rfl) rfl) w (num_run (hvx5.on hb) Hbx.out)) hK))) ?_
    refine all_cons (.inr (mStep _ 42 rfl rfl rfl rfl (by kernel_rfl) (fun a hv => (wanted_is (j := 19) (b := true) (c := true) rfl rfl rfl (hv 40 (by kernel_rfl) rfl)).trans rfl) (fun a w K hb hv hK => mCall (numD bx) 36 _ _ rfl [] (rfl) (enters Tryd.func36 rfl rfl) (CBX.out w) hK))) ?_
    refine all_cons (.inr (mStep _ 43 rfl rfl rfl rfl (by kernel_rfl) (fun a hv => (wanted_is (j := 19) (b := true) (c := true) rfl rfl rfl (hv 40 (by kernel_rfl) rfl)).trans rfl) (fun a w K hb hv hK => mPure (.bool true) (exec_bin _ _ _ _ _ _ _ rfl (numD bx) (numD bx) _ (hv 41 (by kernel_rfl) rfl) (hv 42 (by kernel_rfl) rfl) w ((fun w => num_guard _ _ _ _ _ w) w) ((E3) w)) hK))) ?_
    refine all_cons (.inr (mStep _ 44 rfl rfl rfl rfl (by kernel_rfl) (fun a hv => wanted_all rfl _) (fun a w K hb hv hK => mPure (.bool true) (pick_true _ _ _ _ _ rfl (hv 40 (by kernel_rfl) rfl) (.bool true) (hv 43 (by kernel_rfl) rfl) w) hK))) ?_
    refine all_cons (.inr (mStep _ 0 rfl rfl rfl rfl (by kernel_rfl) (fun a hv => wanted_all rfl _) (fun a w K hb hv hK => mPure (.bool true) (exec_move _ _ _ (.inr rfl) _ (hv 44 (by kernel_rfl) rfl) w) hK))) ?_
    exact all_nil
  intro w6 g hb6 hN6 hap6
  clear hN6 hap6
  have hB6 := below_then (show Below w.heap.size w w5.drew from hB5.drew) hb6
  have hvy6 := hvy5.on hb6
  have hvx6 := hvx5.on hb6
  clear hB5 hvy5 hvx5 hb6
  refine ⟨by kernel_rfl, ?_⟩
  rename_i K hKK
  show Exit.then K _ Exit.normal (⟨(cstVs3_1 gy gx b y bx one s d dy e1 iv q zz c1 m c2 i2 four five i5).toArray, []⟩ : Act) w6
  simp only [Exit.then]
  refine hKK _ _ ?_
  clear hKK K g
  simp only [cstVs3_1]
  go_wp2
  go_ret
  exact ⟨rfl, hB6⟩
theorem pwN_pw (n e : Nat) (h : e < 2 ^ 256) : pwN n e = NP.pw 256 n e pp := (NP.pw_eq pp 256 n e h).symm
def rtV (n : Nat) : Nat := if NP.pw 256 n 7237005577332262213973186563042994240829374041602535252466099000494570602494 pp * NP.pw 256 n 7237005577332262213973186563042994240829374041602535252466099000494570602494 pp % pp = n then NP.pw 256 n 7237005577332262213973186563042994240829374041602535252466099000494570602494 pp else NP.pw 256 n 7237005577332262213973186563042994240829374041602535252466099000494570602494 pp * ttN % pp
theorem rtN_rtV (n : Nat) : rtN n = rtV n := by
  have e := pwN_pw n 7237005577332262213973186563042994240829374041602535252466099000494570602494 (by decide)
  rw [rtN, e, rtV]
theorem iv_is : pwN 35320460721920060721965471946471712506633951349663716574434581141966314745466 57896044618658097711785492504343953926634992332820282019728792003956564819947 = 36615873626505047815401509688526422966742341385236691817538452001808239043262 := by rw [pwN_pw _ _ (by decide)]; decide +kernel
theorem i2_is : pwN 121666 57896044618658097711785492504343953926634992332820282019728792003956564819947 = 37095705934669439343138083508754565189542113879843219016388785533085940283556 := by rw [pwN_pw _ _ (by decide)]; decide +kernel
theorem i5_is : pwN 5 57896044618658097711785492504343953926634992332820282019728792003956564819947 = 11579208923731619542357098500868790785326998466564056403945758400791312963990 := by rw [pwN_pw _ _ (by decide)]; decide +kernel
theorem rt_at : rtV 26187595835145689230469591415084376402084551887632582719101735842039498021991 = 42783823269122696939284341094755422415180979639778424813682678720006717057747 := by decide +kernel
theorem is_at : isSN 26187595835145689230469591415084376402084551887632582719101735842039498021991 = true := by rw [isSN, rtN_rtV, rt_at]; decide +kernel
theorem root_at : rootN 26187595835145689230469591415084376402084551887632582719101735842039498021991 = baseXN := by rw [rootN, if_pos is_at, rtN_rtV, rt_at]; decide +kernel
theorem build_c1 (w : World) : (Instr.build 27 #[(0, dcell 121665)]).run Tryd.prog w = .ok (numD (nD 121665)) w := by kernel_rfl
theorem build_c2 (w : World) : (Instr.build 27 #[(0, dcell 121666)]).run Tryd.prog w = .ok (numD (nD 121666)) w := by kernel_rfl
theorem build_ND4 (w : World) : (Instr.build 27 #[(0, dcell 4)]).run Tryd.prog w = .ok (numD (nD 4)) w := by kernel_rfl
theorem eql_own (n : Nat) (hn : n < mm) (w : World) : (binOp .eql 27 (numD (nD n)) (numD (nD n))).run Tryd.prog w = .ok (.bool true) w := by
  have h := num_eql n n hn hn w
  rw [decide_eq_true rfl] at h
  exact h
theorem refConstants_any (w : World) : Calls Tryd.prog 32 #[] w fun e w' => e = .returned (.bool true) ∧ Below w.heap.size w w' := by
  have tm : ∀ a b c : Nat, a < mm → b < mm → a * b % pp = c → ∀ W, Calls Tryd.prog 24 #[numD (nD a), numD (nD b)] W fun e w' => e = .returned (numD (nD c)) ∧ Below W.heap.size W w' := fun a b c ha hb h W => by rw [← h]; exact refTimes_any a b W ha hb
  have sb : ∀ a b c : Nat, a < mm → b < mm → (a + (pp - b % pp)) % pp = c → ∀ W, Calls Tryd.prog 22 #[numD (nD a), numD (nD b)] W fun e w' => e = .returned (numD (nD c)) ∧ Below W.heap.size W w' := fun a b c ha hb h W => by rw [← h]; exact refSub_any a b W ha hb
  have ad : ∀ a b c : Nat, a < mm → b < mm → (a + b) % pp = c → ∀ W, Calls Tryd.prog 20 #[numD (nD a), numD (nD b)] W fun e w' => e = .returned (numD (nD c)) ∧ Below W.heap.size W w' := fun a b c ha hb h W => by rw [← h]; exact refAdd_any a b W ha hb
  have inv : ∀ a c : Nat, a < pp → pwN a 57896044618658097711785492504343953926634992332820282019728792003956564819947 = c → ∀ W, Calls Tryd.prog 28 #[numD (nD a)] W fun e w' => e = .returned (numD (nD c)) ∧ Below W.heap.size W w' := fun a c ha h W => by rw [← h]; exact refInvert_at a W ha
  exact refConstants_over (nD baseYN) (nD 37053468555941182535542715202780130513046395093004980492626426882532201484768) (nD 1) (nD 37053468555941182535542715202780130513046395093004980492626426882532201484767) (nD curveN) (nD 35320460721920060721965471946471712506633951349663716574434581141966314745465) (nD 35320460721920060721965471946471712506633951349663716574434581141966314745466) (nD 36615873626505047815401509688526422966742341385236691817538452001808239043262) (nD 26187595835145689230469591415084376402084551887632582719101735842039498021991) (nD baseXN) (nD 0) (nD 121665) (nD 57896044618658097711785492504343953926634992332820282019728792003956564698284) (nD 121666) (nD 37095705934669439343138083508754565189542113879843219016388785533085940283556) (nD 4) (nD 5) (nD 11579208923731619542357098500868790785326998466564056403945758400791312963990) w rfl rfl
    refBaseY_any (tm _ _ _ (by decide) (by decide) (by decide)) (sb _ _ _ (by decide) (by decide) (by decide)) refCurve_any (tm _ _ _ (by decide) (by decide) (by decide)) (ad _ _ _ (by decide) (by decide) (by decide)) (inv _ _ (by decide) iv_is) (tm _ _ _ (by decide) (by decide) (by decide))
    (fun W => by have h := refRoot_any 26187595835145689230469591415084376402084551887632582719101735842039498021991 W (by decide); rw [root_at, is_at] at h; exact h)
    (sb _ _ _ (by decide) (by decide) (by decide)) (inv _ _ (by decide) i2_is) (tm _ _ _ (by decide) (by decide) (by decide)) (inv _ _ (by decide) i5_is) (tm _ _ _ (by decide) (by decide) (by decide)) refBaseX_any
    build_NDz build_ND1 build_c1 build_c2 build_ND4 build_ND5 (eql_own _ (by decide)) (eql_own _ (by decide)) (eql_own _ (by decide))
end Go.Proofs.YtcnmohmlfffnkaaDoor
