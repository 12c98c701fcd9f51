/- Part 18 of what the laws of this seat share: JMult, JMulted, XMulted, JShared. -/
import Derived.IntWalk
import Derived.Deep.Cut
import Derived.Test.YtlhgabhjbnckkaaDoorPart17
namespace Go.Proofs.YtlhgabhjbnckkaaDoor
open Go.RowKit
def multVs3 (key : List UInt8) (ub : List UInt8) (g_base : Nat) (gu : Nat) (gr : Nat) (gd : Nat) (kc : List UInt8) (ap : List Nat) (n0 : List Nat) (a0 : List Nat) : List Value :=
  (hashVal key) :: (hashVal ub) :: (.pointer (some ⟨g_base, 0, none⟩)) :: (.pointer (some ⟨gu, 0, none⟩)) :: (.pointer (some ⟨gr, 0, none⟩)) :: (.pointer (some ⟨gd, 0, none⟩)) :: undef :: undef :: undef :: undef :: (hashVal key) :: (hashVal kc) :: (hashVal ub) :: (numVal ap) :: (numVal n0) :: (numVal ap) :: (numVal a0) :: undef :: undef :: undef :: undef :: undef :: undef :: undef :: undef :: undef :: undef :: undef :: undef :: undef :: undef :: undef :: undef :: undef :: undef :: undef :: []
def multVs3N (key : List UInt8) (ub : List UInt8) (g_base : Nat) (gu : Nat) (gr : Nat) (gd : Nat) (kc : List UInt8) (ap : List Nat) (n0 : List Nat) (a0 : List Nat) (n6 n7 : Nat) : List Value :=
  (hashVal key) :: (hashVal ub) :: (.pointer (some ⟨g_base, 0, none⟩)) :: (.pointer (some ⟨gu, 0, none⟩)) :: (.pointer (some ⟨gr, 0, none⟩)) :: (.pointer (some ⟨gd, 0, none⟩)) :: (.pointer (some ⟨n6, 0, none⟩)) :: (.pointer (some ⟨n7, 0, none⟩)) :: undef :: undef :: (hashVal key) :: (hashVal kc) :: (hashVal ub) :: (numVal ap) :: (numVal n0) :: (numVal ap) :: (numVal a0) :: undef :: undef :: undef :: undef :: undef :: undef :: undef :: undef :: undef :: undef :: undef :: undef :: undef :: undef :: undef :: undef :: undef :: undef :: undef :: []
def multVs8_1 (key : List UInt8) (ub : List UInt8) (g_base : Nat) (gu : Nat) (gr : Nat) (gd : Nat) (gl : Nat) (gh : Nat) (k : Nat) (gm : Nat) (kc : List UInt8) (ap : List Nat) (n0 : List Nat) (a0 : List Nat) (l : List Nat) (rr : List Nat) (mm : List Nat) (rn : List Nat) (u29 : Value) (u30 : Value) (u31 : Value) (u32 : Value) (u33 : Value) : List Value :=
  (hashVal key) :: (hashVal ub) :: (.pointer (some ⟨g_base, 0, none⟩)) :: (.pointer (some ⟨gu, 0, none⟩)) :: (.pointer (some ⟨gr, 0, none⟩)) :: (.pointer (some ⟨gd, 0, none⟩)) :: (.pointer (some ⟨gl, 0, none⟩)) :: (.pointer (some ⟨gh, 0, none⟩)) :: (.int .i64 (k : Int)) :: (.pointer (some ⟨gm, 0, none⟩)) :: (hashVal key) :: (hashVal kc) :: (hashVal ub) :: (numVal ap) :: (numVal n0) :: (numVal ap) :: (numVal a0) :: (.int .i64 (k : Int)) :: (.bool true) :: (numVal l) :: (numVal rr) :: (numVal ap) :: (numVal mm) :: (hashVal kc) :: (.int .i64 (k : Int)) :: (.bool true) :: (numVal mm) :: (numVal rr) :: (numVal rn) :: (u29) :: (u30) :: (u31) :: (u32) :: (u33) :: undef :: undef :: []
set_option maxRecDepth 100000 in
set_option maxHeartbeats 4000000 in
theorem mult_over (key ub kc kb : List UInt8) (ap n0 a0 : List Nat) (L R M : Nat → List Nat) (B : Nat → Bool) (w : World)
    (Hkey : Hid (key.length = 32))
    (Hub : Hid (ub.length = 32))
    (Hkc : Hid (kc.length = 32))
    (Hkb : Hid (kb.length = 32))
    (Hap : Hid (ap.length = 5))
    (Hn0 : Hid (n0.length = 10))
    (Ha0 : Hid (a0.length = 10))
    (HLL : Hid (∀ j, (L j).length = 10 ∧ (R j).length = 10 ∧ (M j).length = 10))
    (HL0 : Hid (L 255 = n0))
    (HR0 : Hid (R 255 = a0))
    (CC : Hid (∀ W, Calls Tryd.prog 10 #[hashVal key] W fun e w' => e = .returned (hashVal kc) ∧ Below W.heap.size W w'))
    (CR : Hid (∀ W, Calls Tryd.prog 21 #[hashVal ub] W fun e w' => e = .returned (numVal ap) ∧ Below W.heap.size W w'))
    (CN : Hid (∀ W, Calls Tryd.prog 22 #[] W fun e w' => e = .returned (numVal n0) ∧ Below W.heap.size W w'))
    (CA : Hid (∀ W, Calls Tryd.prog 23 #[numVal ap] W fun e w' => e = .returned (numVal a0) ∧ Below W.heap.size W w'))
    (CP : Hid (∀ k : Nat, k < 255 → ∀ W, Calls Tryd.prog 24 #[numVal (L (k + 1)), numVal (R (k + 1)), numVal ap] W fun e w' => e = .returned (numVal (M k)) ∧ Below W.heap.size W w'))
    (CB : Hid (∀ k : Nat, k < 255 → ∀ W, Calls Tryd.prog 25 #[hashVal kc, .int .i64 (k : Int)] W fun e w' => e = .returned (.bool (B k)) ∧ Below W.heap.size W w'))
    (CF : Hid (∀ k : Nat, k < 255 → B k = false → ∀ W, Calls Tryd.prog 26 #[numVal (L (k + 1))] W fun e w' => e = .returned (numVal (L k)) ∧ Below W.heap.size W w'))
    (CT : Hid (∀ k : Nat, k < 255 → B k = true → ∀ W, Calls Tryd.prog 26 #[numVal (R (k + 1))] W fun e w' => e = .returned (numVal (R k)) ∧ Below W.heap.size W w'))
    (HF : Hid (∀ k : Nat, k < 255 → B k = false → R k = M k))
    (HT : Hid (∀ k : Nat, k < 255 → B k = true → L k = M k))
    (CE : Hid (∀ W, Calls Tryd.prog 27 #[numVal (L 0)] W fun e w' => e = .returned (hashVal kb) ∧ Below W.heap.size W w')) :
    Calls Tryd.prog 9 #[hashVal key, hashVal ub] w fun e w' => e = .returned (hashVal kb) ∧ Below w.heap.size w w' := by
  go_enter Tryd.func9, Tryd.ntmps9
  go_wp2_with (first
    | (refine take_step rfl 23 (.tmp 0) rfl key rfl ?_
       intro w1 hb1 hvk1 hz
       clear hz
       have hB1 := hb1
       have hgek : w.heap.size ≤ w.heap.size := Nat.le_refl _
       clear  hb1
       try simp only [Act.put, List.setIfInBounds_toArray, List.set_cons_zero, List.set_cons_succ]
       skip)
    | (refine take_step rfl 23 (.tmp 1) rfl ub rfl ?_
       intro w2 hb2 hvu2 hz
       clear hz
       have hB2 := below_then hB1 hb2
       have hgeu : w.heap.size ≤ w1.heap.size := hB1.size
       have hvk2 := hvk1.on hb2
       have hneku := Nat.ne_of_lt hvk1.lt
       clear hB1 hvk1 hb2
       try simp only [Act.put, List.setIfInBounds_toArray, List.set_cons_zero, List.set_cons_succ]
       skip)
    | (refine vzero_step (o := ⟨some 4, _, _, _, _, _⟩) rfl 23 rfl kzeros zero_k32 ?_
       intro w3 hb3 hvr3
       have hB3 := below_then hB2 hb3
       have hger : w.heap.size ≤ w2.heap.size := hB2.size
       have hvk3 := hvk2.on hb3
       have hnekr := Nat.ne_of_lt hvk2.lt
       have hvu3 := hvu2.on hb3
       have hneur := Nat.ne_of_lt hvu2.lt
       clear hB2 hvk2 hvu2 hb3
       try simp only [Act.put, List.setIfInBounds_toArray, List.set_cons_zero, List.set_cons_succ]
       skip))
  generalize hqu : w1.heap.size = gu at *
  clear hqu
  generalize hqr : w2.heap.size = gr at *
  clear hqr
  refine wp_scope_once 0 (fun a' w' => ∃ (j gd gl gh : Nat) (u9 u17 u18 u19 u20 u21 u22 u23 u24 u25 u26 u27 u28 u29 u30 u31 u32 u33 : Value), j ≤ 255 ∧ Below w.heap.size w w' ∧ w.heap.size ≤ gl ∧ w.heap.size ≤ gh ∧ w.heap.size ≠ gl ∧ gr ≠ gl ∧ gd ≠ gl ∧ w.heap.size ≠ gh ∧ gr ≠ gh ∧ gd ≠ gh ∧ gl ≠ gh ∧ Cells w' (w.heap.size) (kc.map cellOf) 23 ∧ Cells w' gr kzeros 23 ∧ Cells w' gd (ap.map ncell) 48 ∧ Cells w' gl ((L j).map ncell) 51 ∧ Cells w' gh ((R j).map ncell) 51 ∧
      a' = { tmps := #[hashVal key, hashVal ub, .pointer (some ⟨w.heap.size, 0, none⟩), .pointer (some ⟨gu, 0, none⟩), .pointer (some ⟨gr, 0, none⟩), .pointer (some ⟨gd, 0, none⟩), .pointer (some ⟨gl, 0, none⟩), .pointer (some ⟨gh, 0, none⟩), .int .i64 ((j : Int) - 1), u9, hashVal key, hashVal kc, hashVal ub, numVal ap, numVal n0, numVal ap, numVal a0, u17, u18, u19, u20, u21, u22, u23, u24, u25, u26, u27, u28, u29, u30, u31, u32, u33, undef, undef], defers := [] })
    (fun a' _ => ((intOf (a'.tmps.getD 8 undef)) + 1).toNat) rfl ?_ ?_
  · intro hp
    go_wp2_with (first
      | (refine get_step rfl 23 (.tmp 2) rfl w.heap.size 32 key 5 rfl hvk3 Tryd.underlying23 size_k32 Hkey.out ?_
         try simp only [Act.put, List.setIfInBounds_toArray, List.set_cons_zero, List.set_cons_succ]
         skip))
    refine (CC.out w3).mono ?_
    rintro e w4 ⟨rfl, hb4⟩
    have hB4 := below_then hB3 hb4
    have hvk4 := hvk3.on hb4
    have hvu4 := hvu3.on hb4
    have hvr4 := hvr3.on hb4
    clear hB3 hvk3 hvu3 hvr3 hb4
    go_wp2_with (first
      | (refine vset_step rfl 23 (.tmp 2) (.tmp 11) rfl w.heap.size 32 (key.map cellOf) (kc.map cellOf) rfl rfl hvk4 (by rw [List.length_map, Hkey.out]) size_k32 (by rw [List.length_map, Hkc.out]) (kcells_one _) ?_
         intro w5 hb5 hvk5 hz5
         have hB5 : Below w.heap.size w w5 := hB4.trans (hb5.below hgek hB4.size)
         have hvu5 := hvu4.but hb5 (Ne.symm hneku)
         have hvr5 := hvr4.but hb5 (Ne.symm hnekr)
         clear hB4 hvk4 hb5 hz5 hvu4 hvr4
         skip)
      | (refine get_step rfl 23 (.tmp 3) rfl gu 32 ub 5 rfl hvu5 Tryd.underlying23 size_k32 Hub.out ?_
         try simp only [Act.put, List.setIfInBounds_toArray, List.set_cons_zero, List.set_cons_succ]
         skip))
    refine (CR.out w5).mono ?_
    rintro e w6 ⟨rfl, hb6⟩
    have hB6 := below_then hB5 hb6
    have hvk6 := hvk5.on hb6
    have hvu6 := hvu5.on hb6
    have hvr6 := hvr5.on hb6
    clear hB5 hvk5 hvu5 hvr5 hb6
    go_wp2_with (first
      | (refine vput_step rfl rfl 48 (.tmp 5) (.tmp 13) rfl rfl 5 (nzeros 5) (ap.map ncell) rfl rfl zero_elem rfl size_elem (by rw [List.length_map, Hap.out]) (ncells_one _) ?_
         intro w7 hb7 hvd7
         have hB7 := below_then hB6 hb7
         have hged : w.heap.size ≤ w6.heap.size := hB6.size
         have hvk7 := hvk6.on hb7
         have hnekd := Nat.ne_of_lt hvk6.lt
         have hvu7 := hvu6.on hb7
         have hneud := Nat.ne_of_lt hvu6.lt
         have hvr7 := hvr6.on hb7
         have hnerd := Nat.ne_of_lt hvr6.lt
         clear hB6 hvk6 hvu6 hvr6 hb7
         try simp only [Act.put, List.setIfInBounds_toArray, List.set_cons_zero, List.set_cons_succ]
         skip))
    generalize hqd : w6.heap.size = gd at *
    clear hqd
    replace hvk7 := hvk7.drew
    replace hvu7 := hvu7.drew
    replace hvr7 := hvr7.drew
    replace hvd7 := hvd7.drew
    refine wp_region_any (by kernel_rfl) ?_
    refine wpAny_flatM (L := [0, 1, 2, 3, 4]) (by kernel_rfl) _ _ (multVs3 key ub w.heap.size gu gr gd kc ap n0 a0) [(3, 6), (4, 7)] 51 (nzeros 10) [0, 1, 2, 3, 4, 5, 8, 9, 10, 11, 12, 13, 17, 18, 19, 20, 21, 22, 23, 24, 25, 26, 27, 28, 29, 30, 31, 32, 33, 34, 35] (by kernel_rfl) (by kernel_rfl) ?_ zero_pt ?_ (by rfl) ?_ 2 (by kernel_rfl) ?_
    · intro p hp
      rcases List.mem_cons.1 hp with rfl | hp
      · exact ⟨⟨_, rfl, rfl, rfl, rfl, by kernel_rfl, by kernel_rfl⟩⟩
      rcases List.mem_cons.1 hp with rfl | hp
      · exact ⟨⟨_, rfl, rfl, rfl, rfl, by kernel_rfl, by kernel_rfl⟩⟩
      exact absurd hp List.not_mem_nil
    · exact all_cons rfl (all_cons rfl (all_cons rfl (all_cons rfl (all_cons rfl (all_cons rfl (all_cons rfl (all_cons rfl (all_cons rfl (all_cons rfl (all_cons rfl (all_cons rfl (all_cons rfl (all_cons rfl (all_cons rfl (all_cons rfl (all_cons rfl (all_cons rfl (all_cons rfl (all_cons rfl (all_cons rfl (all_cons rfl (all_cons rfl (all_cons rfl (all_cons rfl (all_cons rfl (all_cons rfl (all_cons rfl (all_cons rfl (all_cons rfl (all_cons rfl (all_nil)))))))))))))))))))))))))))))))
    · refine all_cons (.inr (mStep _ 14 rfl rfl rfl rfl (by kernel_rfl) (fun a hv => wanted_all rfl _) (fun a w K hb hv hK => mCall (numVal n0) 22 _ _ rfl [] (rfl) (enters Tryd.func22 rfl rfl) (CN.out w) hK))) ?_
      refine all_cons (.inr (mStep _ 15 rfl rfl rfl rfl (by kernel_rfl) (fun a hv => wanted_all rfl _) (fun a w K hb hv hK => mPure (numVal ap) (exec_load _ _ _ _ rfl _ _ (hv 5 (by kernel_rfl) rfl) w (elem_run (hvd7.on hb) Hap.out)) hK))) ?_
      refine all_cons (.inr (mStep _ 16 rfl rfl rfl rfl (by kernel_rfl) (fun a hv => wanted_all rfl _) (fun a w K hb hv hK => mCall (numVal a0) 23 _ _ rfl [numVal ap] (cons_eq (hv 15 (by kernel_rfl) rfl) (rfl)) (enters Tryd.func23 rfl rfl) (CA.out w) hK))) ?_
      refine all_cons (.inl ⟨(3, 6), by simp, rfl⟩) ?_
      refine all_cons (.inl ⟨(4, 7), by simp, rfl⟩) ?_
      exact all_nil
    intro w8 g hb8 hN8 hap8
    obtain ⟨hgel, hvl8⟩ := hN8 (3, 6) (by simp)
    obtain ⟨hgeh, hvh8⟩ := hN8 (4, 7) (by simp)
    have hnelh := hap8 (3, 6) (by simp) (4, 7) (by simp) (by decide)
    clear hN8 hap8
    have hB8 := below_then (show Below w.heap.size w w7.drew from hB7.drew) hb8
    have hltk : w.heap.size < w7.heap.size := hvk7.lt
    have hltu : gu < w7.heap.size := hvu7.lt
    have hltr : gr < w7.heap.size := hvr7.lt
    have hltd : gd < w7.heap.size := hvd7.lt
    have hvk8 := hvk7.on hb8
    have hvu8 := hvu7.on hb8
    have hvr8 := hvr7.on hb8
    have hvd8 := hvd7.on hb8
    rw [show withNew g [(3, 6), (4, 7)] (multVs3 key ub w.heap.size gu gr gd kc ap n0 a0) = multVs3N key ub w.heap.size gu gr gd kc ap n0 a0 (g 6) (g 7) from rfl]
    replace hgel : w7.heap.size ≤ g 6 := hgel
    replace hvl8 : Cells w8 (g 6) (nzeros 10) 51 := hvl8
    replace hgeh : w7.heap.size ≤ g 7 := hgeh
    replace hvh8 : Cells w8 (g 7) (nzeros 10) 51 := hvh8
    replace hnelh : g 6 ≠ g 7 := hnelh
    have hnekl : w.heap.size ≠ g 6 := Nat.ne_of_lt (Nat.lt_of_lt_of_le hltk hgel)
    have hneul : gu ≠ g 6 := Nat.ne_of_lt (Nat.lt_of_lt_of_le hltu hgel)
    have hnerl : gr ≠ g 6 := Nat.ne_of_lt (Nat.lt_of_lt_of_le hltr hgel)
    have hnedl : gd ≠ g 6 := Nat.ne_of_lt (Nat.lt_of_lt_of_le hltd hgel)
    replace hgel : w.heap.size ≤ g 6 := Nat.le_trans (show w.heap.size ≤ w7.heap.size from hB7.size) hgel
    have hnekh : w.heap.size ≠ g 7 := Nat.ne_of_lt (Nat.lt_of_lt_of_le hltk hgeh)
    have hneuh : gu ≠ g 7 := Nat.ne_of_lt (Nat.lt_of_lt_of_le hltu hgeh)
    have hnerh : gr ≠ g 7 := Nat.ne_of_lt (Nat.lt_of_lt_of_le hltr hgeh)
    have hnedh : gd ≠ g 7 := Nat.ne_of_lt (Nat.lt_of_lt_of_le hltd hgeh)
    replace hgeh : w.heap.size ≤ g 7 := Nat.le_trans (show w.heap.size ≤ w7.heap.size from hB7.size) hgeh
    clear hltk hltu hltr hltd
    generalize g 6 = gl at *
    generalize g 7 = gh at *
    clear hB7 hvk7 hvu7 hvr7 hvd7 hb8
    refine wpAny_rest 5 rfl (by kernel_rfl) ?_
    refine vset_step rfl 51 (.tmp 6) (.tmp 14) rfl gl 10 (nzeros 10) (n0.map ncell) rfl rfl hvl8 rfl size_pt (by rw [List.length_map, Hn0.out]) (ncells_one _) ?_
    intro w9 hb9 hvl9 hz9
    have hB9 : Below w.heap.size w w9 := hB8.trans (hb9.below hgel hB8.size)
    have hvk9 := hvk8.but hb9 hnekl
    have hvu9 := hvu8.but hb9 hneul
    have hvr9 := hvr8.but hb9 hnerl
    have hvd9 := hvd8.but hb9 hnedl
    have hvh9 := hvh8.but hb9 (Ne.symm hnelh)
    clear hB8 hvl8 hb9 hz9 hvk8 hvu8 hvr8 hvd8 hvh8
    refine vset_step rfl 51 (.tmp 7) (.tmp 16) rfl gh 10 (nzeros 10) (a0.map ncell) rfl rfl hvh9 rfl size_pt (by rw [List.length_map, Ha0.out]) (ncells_one _) ?_
    intro w10 hb10 hvh10 hz10
    have hB10 : Below w.heap.size w w10 := hB9.trans (hb10.below hgeh hB9.size)
    have hvk10 := hvk9.but hb10 hnekh
    have hvu10 := hvu9.but hb10 hneuh
    have hvr10 := hvr9.but hb10 hnerh
    have hvd10 := hvd9.but hb10 hnedh
    have hvl10 := hvl9.but hb10 hnelh
    clear hB9 hvh9 hb10 hz10 hvk9 hvu9 hvr9 hvd9 hvl9
    rename_i K hKK
    show Exit.then K _ Exit.normal (⟨(multVs3N key ub w.heap.size gu gr gd kc ap n0 a0 gl gh).toArray, []⟩ : Act) w10
    simp only [Exit.then]
    refine hKK _ _ ?_
    clear hKK K g
    simp only [multVs3N]
    go_wp2_with fail
    go_step3
    rename_i K hK
    exact hK _ _ (hp.out _ _ ⟨255, _, _, _, _, _, _, _, _, _, _, _, _, _, _, _, _, _, _, _, _, _, Nat.le_refl _, hB10, hgel, hgeh, hnekl, hnerl, hnedl, hnekh, hnerh, hnedh, hnelh, hvk10, hvr10, hvd10, by rw [HL0.out]; exact hvl10, by rw [HR0.out]; exact hvh10, rfl⟩)
  · clear hB3 hvk3 hvu3 hvr3
    rintro a' wl ⟨j, gd, gl, gh, u9, u17, u18, u19, u20, u21, u22, u23, u24, u25, u26, u27, u28, u29, u30, u31, u32, u33, hj, hBl, hgel, hgeh, hnekl, hnerl, hnedl, hnekh, hnerh, hnedh, hnelh, hvkl, hvrl, hvdl, hvll, hvhl, rfl⟩
    by_cases h0 : 0 < j
    · obtain ⟨k, rfl⟩ : ∃ k, j = k + 1 := ⟨j - 1, by omega⟩
      have hk : k < 255 := by omega
      have e1 : (((k + 1 : Nat) : Int) - 1) = (k : Int) := by omega
      have i1 : (0 : Int) ≤ (k : Int) := by omega
      have i3 : IntKind.i64.wrap ((k : Int) - 1) = (k : Int) - 1 := IntWalk.i64_in _ (by omega)
      rw [e1]
      have HLl := Lib.hid (HLL.out (k + 1)).1
      have HLr := Lib.hid (HLL.out (k + 1)).2.1
      have HLm := Lib.hid (HLL.out k).2.2
      have HLn := Lib.hid (HLL.out k).1
      have HRn := Lib.hid (HLL.out k).2.1
      have CPk := Lib.hid (CP.out k hk)
      have CBk := Lib.hid (CB.out k hk)
      have CFk := Lib.hid (CF.out k hk)
      have CTk := Lib.hid (CT.out k hk)
      have HFk := Lib.hid (HF.out k hk)
      have HTk := Lib.hid (HT.out k hk)
      obtain ⟨l, HXl⟩ := namedF (L (k + 1))
      obtain ⟨rr, HXr⟩ := namedF (R (k + 1))
      obtain ⟨ln, HXln⟩ := namedF (L k)
      obtain ⟨rn, HXrn⟩ := namedF (R k)
      obtain ⟨mm, HXm⟩ := namedF (M k)
      obtain ⟨b, HXb⟩ := namedF (B k)
      rw [HXl.out] at HLl CPk CFk hvll
      rw [HXr.out] at HLr CPk CTk hvhl
      rw [HXm.out] at HLm CPk HFk HTk
      rw [HXln.out] at HLn CFk HTk
      rw [HXrn.out] at HRn CTk HFk
      rw [HXb.out] at CBk CFk CTk HFk HTk
      clear HLL CP CB CF CT HF HT HL0 HR0 HXl HXr HXm HXb
      go_wp2_with (first
        | (refine sget_step rfl 51 (.tmp 6) rfl gl 10 (l.map ncell) rfl hvll Tryd.underlying51 rfl size_pt (by rw [List.length_map, HLl.out]) ?_
           try simp only [Act.put, List.setIfInBounds_toArray, List.set_cons_zero, List.set_cons_succ]
           skip)
        | (refine sget_step rfl 51 (.tmp 7) rfl gh 10 (rr.map ncell) rfl hvhl Tryd.underlying51 rfl size_pt (by rw [List.length_map, HLr.out]) ?_
           try simp only [Act.put, List.setIfInBounds_toArray, List.set_cons_zero, List.set_cons_succ]
           skip)
        | (refine sget_step rfl 48 (.tmp 5) rfl gd 5 (ap.map ncell) rfl hvdl Tryd.underlying48 rfl size_elem (by rw [List.length_map, Hap.out]) ?_
           try simp only [Act.put, List.setIfInBounds_toArray, List.set_cons_zero, List.set_cons_succ]
           skip))
      refine (CPk.out wl).mono ?_
      rintro e w11 ⟨rfl, hb11⟩
      have hB11 := below_then hBl hb11
      have hvk11 := hvkl.on hb11
      have hvr11 := hvrl.on hb11
      have hvd11 := hvdl.on hb11
      have hvl11 := hvll.on hb11
      have hvh11 := hvhl.on hb11
      clear hBl hvkl hvrl hvdl hvll hvhl hb11
      go_wp2_with (first
        | (refine vput_step rfl rfl 51 (.tmp 9) (.tmp 22) rfl rfl 10 (nzeros 10) (mm.map ncell) rfl rfl zero_pt rfl size_pt (by rw [List.length_map, HLm.out]) (ncells_one _) ?_
           intro w12 hb12 hvm12
           have hB12 := below_then hB11 hb12
           have hgem : w.heap.size ≤ w11.heap.size := hB11.size
           have hvk12 := hvk11.on hb12
           have hnekm := Nat.ne_of_lt hvk11.lt
           have hvr12 := hvr11.on hb12
           have hnerm := Nat.ne_of_lt hvr11.lt
           have hvd12 := hvd11.on hb12
           have hnedm := Nat.ne_of_lt hvd11.lt
           have hvl12 := hvl11.on hb12
           have hnelm := Nat.ne_of_lt hvl11.lt
           have hvh12 := hvh11.on hb12
           have hnehm := Nat.ne_of_lt hvh11.lt
           clear hB11 hvk11 hvr11 hvd11 hvl11 hvh11 hb12
           try simp only [Act.put, List.setIfInBounds_toArray, List.set_cons_zero, List.set_cons_succ]
           skip)
        | (refine get_step rfl 23 (.tmp 2) rfl w.heap.size 32 kc 5 rfl hvk12 Tryd.underlying23 size_k32 Hkc.out ?_
           try simp only [Act.put, List.setIfInBounds_toArray, List.set_cons_zero, List.set_cons_succ]
           skip))
      generalize hqm : w11.heap.size = gm at *
      clear hqm
      refine (CBk.out w12).mono ?_
      rintro e w13 ⟨rfl, hb13⟩
      have hB13 := below_then hB12 hb13
      have hvk13 := hvk12.on hb13
      have hvr13 := hvr12.on hb13
      have hvd13 := hvd12.on hb13
      have hvl13 := hvl12.on hb13
      have hvh13 := hvh12.on hb13
      have hvm13 := hvm12.on hb13
      clear hB12 hvk12 hvr12 hvd12 hvl12 hvh12 hvm12 hb13
      cases b
      · go_wp2_with fail
        replace hvk13 := hvk13.drew
        replace hvr13 := hvr13.drew
        replace hvd13 := hvd13.drew
        replace hvl13 := hvl13.drew
        replace hvh13 := hvh13.drew
        replace hvm13 := hvm13.drew
        rename_i K hKK
        have hBd := (show Below w.heap.size w w13.drew from hB13.drew)
        clear hB13
        refine wp_region_any (by kernel_rfl) ?_
        refine wpAny_of_held (S := fun w' => Cells w' gm (mm.map ncell) 51) _ _ _ _ ?_
        show wpAnyH _ _ _ _ _ _ _ _ w13.drew
        simp only [List.size_toArray, List.length_cons, List.length_nil, Nat.reduceAdd, Array.replicate_succ, Array.replicate_zero, List.push_toArray, List.nil_append, List.cons_append]
        generalize w13.drew = wd at *
        refine wpAnyH_take (i := 2) (oi := ⟨some 31, _, _, _, _, _⟩) (v := numVal mm) rfl (by kernel_rfl) (by kernel_rfl) (by kernel_rfl) (fun _ _ _ h => h) (Or.inl ⟨by rfl, ?_⟩) hvm13 ?_
        · intro w8 h8
          exact exec_load _ _ _ _ rfl _ _ rfl _ (pt_run h8 HLm.out)
        refine wpAnyH_all (rs := [0]) (by kernel_rfl) (by decide) fun i hi => ?_
        obtain rfl := List.mem_singleton.1 hi
        clear hi
        refine wpOp_step rfl fun K1 hK1 => ?_
        rw [if_pos (by rfl)]
        refine flat_pure (numVal l) (exec_load _ _ _ _ rfl _ _ rfl _ (pt_run hvl13 HLl.out)) (hK1 _ _ ⟨hvm13, ?_⟩)
        clear hK1 K1
        refine wpAnyH_all (rs := [1]) (by kernel_rfl) (by decide) fun i hi => ?_
        obtain rfl := List.mem_singleton.1 hi
        clear hi
        refine wpOp_step rfl fun K1 hK1 => ?_
        rw [if_pos (by rfl)]
        refine mCall (numVal ln) 26 _ _ rfl [numVal l] rfl (enters Tryd.func26 rfl rfl) ((CFk.out (by simp)) wd) fun we hbe => hK1 _ _ ⟨hvm13.on hbe, ?_⟩
        clear hK1 K1
        have hBe := below_then hBd hbe
        have hvke := hvk13.on hbe
        have hvre := hvr13.on hbe
        have hvde := hvd13.on hbe
        have hvle := hvl13.on hbe
        have hvhe := hvh13.on hbe
        have hvme := hvm13.on hbe
        clear hBd hbe hvk13 hvr13 hvd13 hvl13 hvh13 hvm13
        refine wpAnyH_all (rs := [3]) (by kernel_rfl) (by decide) fun i hi => ?_
        obtain rfl := List.mem_singleton.1 hi
        clear hi
        refine wpOp_step rfl fun K1 hK1 => ?_
        rw [if_pos (by rfl)]
        refine wp_store_mid 51 (.tmp 6) (.tmp 30) rfl gl 0 (ln.map ncell).toArray rfl rfl (by rw [List.size_toArray, List.length_map, HLn.out]; exact hvle.there 0 10 (by rw [List.length_map, HLl.out]; decide)) (by rw [List.size_toArray, List.length_map, HLn.out]; exact size_pt) (ncells_one _) (hK1 _ _ ?_)
        have hC2 := hvle.setCells (cs := ln.map ncell) (o := 0) (by rw [List.length_map, List.length_map, HLn.out, HLl.out]; decide)
        rw [splice_all _ _ (by rw [List.length_map, List.length_map, HLn.out, HLl.out])] at hC2
        have hb9 : But gl we (we.setCells gl 0 (ln.map ncell)) := (But.refl _ _).setCells _ _
        have hBf : Below w.heap.size w (we.setCells gl 0 (ln.map ncell)) := hBe.trans (hb9.below hgel hBe.size)
        change Cells (we.setCells gl 0 (ln.map ncell)) gm (mm.map ncell) 51 ∧ wpAnyH _ _ _ _ _ _ _ _ (we.setCells gl 0 (ln.map ncell))
        have hvkf := hvke.but hb9 hnekl
        have hvrf := hvre.but hb9 hnerl
        have hvdf := hvde.but hb9 hnedl
        have hvhf := hvhe.but hb9 (Ne.symm hnelh)
        have hvmf := hvme.but hb9 (Ne.symm hnelm)
        have hvlf := hC2
        clear hC2 hb9 hK1 K1 hBe hvle hvke hvre hvde hvhe hvme
        generalize we.setCells gl 0 (ln.map ncell) = wf at *
        refine ⟨hvmf, ?_⟩
        refine wpAnyH_all (rs := [4]) (by kernel_rfl) (by decide) fun i hi => ?_
        obtain rfl := List.mem_singleton.1 hi
        clear hi
        refine wpOp_step rfl fun K1 hK1 => ?_
        rw [if_pos (by rfl)]
        refine wp_store_mid 51 (.tmp 7) (.tmp 31) rfl gh 0 (mm.map ncell).toArray rfl rfl (by rw [List.size_toArray, List.length_map, HLm.out]; exact hvhf.there 0 10 (by rw [List.length_map, HLr.out]; decide)) (by rw [List.size_toArray, List.length_map, HLm.out]; exact size_pt) (ncells_one _) (hK1 _ _ ?_)
        have hC2 := hvhf.setCells (cs := mm.map ncell) (o := 0) (by rw [List.length_map, List.length_map, HLm.out, HLr.out]; decide)
        rw [splice_all _ _ (by rw [List.length_map, List.length_map, HLm.out, HLr.out])] at hC2
        have hb9 : But gh wf (wf.setCells gh 0 (mm.map ncell)) := (But.refl _ _).setCells _ _
        have hBg : Below w.heap.size w (wf.setCells gh 0 (mm.map ncell)) := hBf.trans (hb9.below hgeh hBf.size)
        change Cells (wf.setCells gh 0 (mm.map ncell)) gm (mm.map ncell) 51 ∧ wpAnyH _ _ _ _ _ _ _ _ (wf.setCells gh 0 (mm.map ncell))
        have hvkg := hvkf.but hb9 hnekh
        have hvrg := hvrf.but hb9 hnerh
        have hvdg := hvdf.but hb9 hnedh
        have hvlg := hvlf.but hb9 hnelh
        have hvmg := hvmf.but hb9 (Ne.symm hnehm)
        have hvhg := hC2
        clear hC2 hb9 hK1 K1 hBf hvhf hvkf hvrf hvdf hvlf hvmf
        generalize wf.setCells gh 0 (mm.map ncell) = wg at *
        refine ⟨hvmg, ?_⟩
        refine wpAnyH_done (by kernel_rfl) ?_ _
        show Exit.then K _ Exit.normal (⟨((hashVal key) :: (hashVal ub) :: (.pointer (some ⟨w.heap.size, 0, none⟩)) :: (.pointer (some ⟨gu, 0, none⟩)) :: (.pointer (some ⟨gr, 0, none⟩)) :: (.pointer (some ⟨gd, 0, none⟩)) :: (.pointer (some ⟨gl, 0, none⟩)) :: (.pointer (some ⟨gh, 0, none⟩)) :: (.int .i64 (k : Int)) :: (.pointer (some ⟨gm, 0, none⟩)) :: (hashVal key) :: (hashVal kc) :: (hashVal ub) :: (numVal ap) :: (numVal n0) :: (numVal ap) :: (numVal a0) :: (.int .i64 (k : Int)) :: (.bool true) :: (numVal l) :: (numVal rr) :: (numVal ap) :: (numVal mm) :: (hashVal kc) :: (.int .i64 (k : Int)) :: (.bool false) :: (u26) :: (u27) :: (u28) :: (numVal l) :: (numVal ln) :: (numVal mm) :: (u32) :: (u33) :: undef :: undef :: []).toArray, []⟩ : Act) wg
        simp only [Exit.then]
        refine hKK _ _ ?_
        clear hKK K
        go_wp2_with fail
        go_step3
        exact ⟨rfl, ⟨k, _, _, _, _, _, _, _, _, _, _, _, _, _, _, _, _, _, _, _, _, _, by omega, hBg, hgel, hgeh, hnekl, hnerl, hnedl, hnekh, hnerh, hnedh, hnelh, hvkg, hvrg, hvdg, by rw [HXln.out]; exact hvlg, by rw [HXrn.out, HFk.out (by simp)]; exact hvhg, rfl⟩, by simp [intOf] <;> omega⟩
      · go_wp2_with fail
        replace hvk13 := hvk13.drew
        replace hvr13 := hvr13.drew
        replace hvd13 := hvd13.drew
        replace hvl13 := hvl13.drew
        replace hvh13 := hvh13.drew
        replace hvm13 := hvm13.drew
        refine wp_region_any (by kernel_rfl) ?_
        refine wpAny_flatM (L := [0, 1, 2]) (by kernel_rfl) _ _ (multVs8_1 key ub w.heap.size gu gr gd gl gh k gm kc ap n0 a0 l rr mm rn u29 u30 u31 u32 u33) [] 48 (nzeros 5) [0, 1, 2, 3, 4, 5, 6, 7, 8, 9, 10, 11, 12, 13, 14, 15, 16, 17, 18, 19, 20, 21, 22, 23, 24, 25, 29, 30, 31, 32, 33, 34, 35] (by kernel_rfl) (by kernel_rfl) ?_ zero_elem ?_ (by rfl) ?_ 2 (by kernel_rfl) ?_
        · intro p hp
          exact absurd hp List.not_mem_nil
        · exact all_cons rfl (all_cons rfl (all_cons rfl (all_cons rfl (all_cons rfl (all_cons rfl (all_cons rfl (all_cons rfl (all_cons rfl (all_cons rfl (all_cons rfl (all_cons rfl (all_cons rfl (all_cons rfl (all_cons rfl (all_cons rfl (all_cons rfl (all_cons rfl (all_cons rfl (all_cons rfl (all_cons rfl (all_cons rfl (all_cons rfl (all_cons rfl (all_cons rfl (all_cons rfl (all_cons rfl (all_cons rfl (all_cons rfl (all_cons rfl (all_cons rfl (all_cons rfl (all_cons rfl (all_nil)))))))))))))))))))))))))))))))))
        · refine all_cons (.inr (mStep _ 26 rfl rfl rfl rfl (by kernel_rfl) (fun a hv => wanted_all rfl _) (fun a w K hb hv hK => mPure (numVal mm) (exec_load _ _ _ _ rfl _ _ (hv 9 (by kernel_rfl) rfl) w (pt_run (hvm13.on hb) HLm.out)) hK))) ?_
          refine all_cons (.inr (mStep _ 27 rfl rfl rfl rfl (by kernel_rfl) (fun a hv => wanted_all rfl _) (fun a w K hb hv hK => mPure (numVal rr) (exec_load _ _ _ _ rfl _ _ (hv 7 (by kernel_rfl) rfl) w (pt_run (hvh13.on hb) HLr.out)) hK))) ?_
          refine all_cons (.inr (mStep _ 28 rfl rfl rfl rfl (by kernel_rfl) (fun a hv => wanted_all rfl _) (fun a w K hb hv hK => mCall (numVal rn) 26 _ _ rfl [numVal rr] (cons_eq (hv 27 (by kernel_rfl) rfl) (rfl)) (enters Tryd.func26 rfl rfl) ((CTk.out (by simp)) w) hK))) ?_
          exact all_nil
        intro w15 g hb15 hN15 hap15
        clear hN15 hap15
        have hB15 := below_then (show Below w.heap.size w w13.drew from hB13.drew) hb15
        have hvk15 := hvk13.on hb15
        have hvr15 := hvr13.on hb15
        have hvd15 := hvd13.on hb15
        have hvl15 := hvl13.on hb15
        have hvh15 := hvh13.on hb15
        have hvm15 := hvm13.on hb15
        clear hB13 hvk13 hvr13 hvd13 hvl13 hvh13 hvm13 hb15
        refine wpAny_rest 3 rfl (by kernel_rfl) ?_
        refine vset_step rfl 51 (.tmp 6) (.tmp 26) rfl gl 10 (l.map ncell) (mm.map ncell) rfl rfl hvl15 (by rw [List.length_map, HLl.out]) size_pt (by rw [List.length_map, HLm.out]) (ncells_one _) ?_
        intro w16 hb16 hvl16 hz16
        have hB16 : Below w.heap.size w w16 := hB15.trans (hb16.below hgel hB15.size)
        have hvk16 := hvk15.but hb16 hnekl
        have hvr16 := hvr15.but hb16 hnerl
        have hvd16 := hvd15.but hb16 hnedl
        have hvh16 := hvh15.but hb16 (Ne.symm hnelh)
        have hvm16 := hvm15.but hb16 (Ne.symm hnelm)
        clear hB15 hvl15 hb16 hz16 hvk15 hvr15 hvd15 hvh15 hvm15
        refine vset_step rfl 51 (.tmp 7) (.tmp 28) rfl gh 10 (rr.map ncell) (rn.map ncell) rfl rfl hvh16 (by rw [List.length_map, HLr.out]) size_pt (by rw [List.length_map, HRn.out]) (ncells_one _) ?_
        intro w17 hb17 hvh17 hz17
        have hB17 : Below w.heap.size w w17 := hB16.trans (hb17.below hgeh hB16.size)
        have hvk17 := hvk16.but hb17 hnekh
        have hvr17 := hvr16.but hb17 hnerh
        have hvd17 := hvd16.but hb17 hnedh
        have hvl17 := hvl16.but hb17 hnelh
        have hvm17 := hvm16.but hb17 (Ne.symm hnehm)
        clear hB16 hvh16 hb17 hz17 hvk16 hvr16 hvd16 hvl16 hvm16
        rename_i K hKK
        show Exit.then K _ Exit.normal (⟨(multVs8_1 key ub w.heap.size gu gr gd gl gh k gm kc ap n0 a0 l rr mm rn u29 u30 u31 u32 u33).toArray, []⟩ : Act) w17
        simp only [Exit.then]
        refine hKK _ _ ?_
        clear hKK K g
        simp only [multVs8_1]
        go_wp2_with fail
        go_step3
        exact ⟨rfl, ⟨k, _, _, _, _, _, _, _, _, _, _, _, _, _, _, _, _, _, _, _, _, _, by omega, hB17, hgel, hgeh, hnekl, hnerl, hnedl, hnekh, hnerh, hnedh, hnelh, hvk17, hvr17, hvd17, by rw [HXln.out, HTk.out (by simp)]; exact hvl17, by rw [HXrn.out]; exact hvh17, rfl⟩, by simp [intOf] <;> omega⟩
    · obtain rfl : j = 0 := by omega
      rw [show (((0 : Nat) : Int) - 1) = -1 from rfl]
      have HLl := Lib.hid (HLL.out 0).1
      obtain ⟨l, HXl⟩ := namedF (L 0)
      rw [HXl.out] at HLl CE hvll
      clear HLL CP CB CF CT HF HT HL0 HR0 HXl
      go_wp2_with (first
        | (refine sget_step rfl 51 (.tmp 6) rfl gl 10 (l.map ncell) rfl hvll Tryd.underlying51 rfl size_pt (by rw [List.length_map, HLl.out]) ?_
           try simp only [Act.put, List.setIfInBounds_toArray, List.set_cons_zero, List.set_cons_succ]
           skip))
      refine (CE.out wl).mono ?_
      rintro e w18 ⟨rfl, hb18⟩
      have hB18 := below_then hBl hb18
      have hvr18 := hvrl.on hb18
      have hvl18 := hvll.on hb18
      clear hBl hvrl hvll hb18
      go_wp2_with (first
        | (refine vset_step rfl 23 (.tmp 4) (.tmp 35) rfl gr 32 kzeros (kb.map cellOf) rfl rfl hvr18 rfl size_k32 (by rw [List.length_map, Hkb.out]) (kcells_one _) ?_
           intro w19 hb19 hvr19 hz19
           have hB19 : Below w.heap.size w w19 := hB18.trans (hb19.below hger hB18.size)
           have hvl19 := hvl18.but hb19 (Ne.symm hnerl)
           clear hB18 hvr18 hb19 hz19 hvl18
           skip))
      simp only [Exit.jump]
      exact sret Tryd.results9 gr (kb.map cellOf) rfl hvr19 Tryd.underlying23 rfl size_k32 (by rw [List.length_map, Hkb.out]) rfl ⟨rfl, hB19⟩
end Go.Proofs.YtlhgabhjbnckkaaDoor
namespace Go.Proofs.YtlhgabhjbnckkaaDoor
open Go.RowKit
/-- A key times a point. -/
def mulL (k u : List UInt8) : List UInt8 := keyB (multN (kbit (clampL k)) (keyN u))
theorem mulL_length (k u : List UInt8) : (mulL k u).length = 32 := keyB_length _
/-- The ladder's state where the bits from 254 down to j have been taken. -/
def ladS (u : Nat) (b : Nat → Bool) (j : Nat) : (Nat × Nat) × (Nat × Nat) := ladN u b (255 - j)
theorem ladS_step (u : Nat) (b : Nat → Bool) (k : Nat) (hk : k < 255) : ladS u b k = ladStep u (b k) (ladS u b (k + 1)) := by
  have h : ladN u b (254 - k + 1) = ladStep u (b (254 - (254 - k))) (ladN u b (254 - k)) := rfl
  rw [ladS, ladS, show 255 - k = 254 - k + 1 by omega, h, show 254 - (254 - k) = k by omega, show 255 - (k + 1) = 254 - k by omega]
theorem ladS_lt {u : Nat} (hu : u < pp) (b : Nat → Bool) (j : Nat) : LadLt (ladS u b j) := ladN_lt hu b _
theorem mult_any (key ub : List UInt8) (w : World) (hk : key.length = 32) (hu : ub.length = 32) : Calls Tryd.prog 9 #[hashVal key, hashVal ub] w fun e w' => e = .returned (hashVal (mulL key ub)) ∧ Below w.heap.size w w' := by
  have hx := keyN_lt ub
  have hS := ladS_step (keyN ub) (kbit (clampL key))
  have hl := ladS_lt hx (kbit (clampL key))
  have hc : (clampL key).length = 32 := by rw [clampL_length]; exact hk
  refine mult_over key ub (clampL key) (mulL key ub) (limb5 (keyN ub)) (ptL (1, 0)) (ptL (keyN ub, 1)) (fun j => ptL (ladS (keyN ub) (kbit (clampL key)) j).1) (fun j => ptL (ladS (keyN ub) (kbit (clampL key)) j).2)
    (fun k => ptL (addP (keyN ub) (ladS (keyN ub) (kbit (clampL key)) (k + 1)).1 (ladS (keyN ub) (kbit (clampL key)) (k + 1)).2)) (kbit (clampL key)) w hk hu hc (mulL_length _ _) rfl rfl rfl (fun _ => ⟨rfl, rfl, rfl⟩) rfl rfl
    (fun W => clamp_any key W hk) (fun W => readE_any ub W hu) nought_any (at_any (keyN ub)) (fun k _ W => ?_) (fun k hk W => bit_any (clampL key) k W hc (by omega)) (fun k hk hb W => ?_) (fun k hk hb W => ?_) (fun k hk hb => ?_) (fun k hk hb => ?_) (fun W => ?_)
  · obtain ⟨h1, h2, h3, h4⟩ := hl (k + 1)
    exact plusPt_any _ _ _ W hx h1 h2 h3 h4
  · obtain ⟨h1, h2, h3, h4⟩ := hl (k + 1)
    rw [hS k hk, hb]
    exact twice_any _ W h1 h2
  · obtain ⟨h1, h2, h3, h4⟩ := hl (k + 1)
    rw [hS k hk, hb]
    exact twice_any _ W h3 h4
  · show ptL (ladS (keyN ub) (kbit (clampL key)) k).2 = _
    rw [hS k hk, hb]; rfl
  · show ptL (ladS (keyN ub) (kbit (clampL key)) k).1 = _
    rw [hS k hk, hb]; rfl
  · obtain ⟨h1, h2, -, -⟩ := hl 0
    exact ptBytes_any _ W h1 h2
end Go.Proofs.YtlhgabhjbnckkaaDoor
namespace Go.Proofs.YtlhgabhjbnckkaaDoor
open Go.RowKit
theorem addP_swap (u : Nat) (p q : Nat × Nat) : addP u p q = addP u q p := by
  have h1 : oneP q p = othP p q := fM_comm _ _
  have h2 : othP q p = oneP p q := fM_comm _ _
  have h3 := fS_sq (n := oneP p q) (m := othP p q) (fM_lt _ _) (fM_lt _ _)
  unfold addP
  rw [h1, h2, fA_comm (othP p q), h3]
theorem adR (n m : Nat) (W : World) (hn : n < pp) (hm : m < pp) : Calls Tryd.prog 16 #[numD (nD n), numD (nD m)] W fun e w' => e = .returned (numD (nD (fA n m))) ∧ Below W.heap.size W w' :=
  refAdd_any n m W (Nat.lt_trans hn (by decide)) (Nat.lt_trans hm (by decide))
theorem suR (n m : Nat) (W : World) (hn : n < pp) (hm : m < pp) : Calls Tryd.prog 18 #[numD (nD n), numD (nD m)] W fun e w' => e = .returned (numD (nD (fS n m))) ∧ Below W.heap.size W w' := by
  have h := refSub_any n m W (Nat.lt_trans hn (by decide)) (Nat.lt_trans hm (by decide))
  rw [Nat.mod_eq_of_lt hm] at h
  exact h
theorem tmR (n m : Nat) (W : World) (hn : n < pp) (hm : m < pp) : Calls Tryd.prog 17 #[numD (nD n), numD (nD m)] W fun e w' => e = .returned (numD (nD (fM n m))) ∧ Below W.heap.size W w' :=
  refTimes_any n m W (Nat.lt_trans hn (by decide)) (Nat.lt_trans hm (by decide))
theorem tmR' (n m r : Nat) (W : World) (hn : n < pp) (hm : m < pp) (hr : fM n m = r) : Calls Tryd.prog 17 #[numD (nD n), numD (nD m)] W fun e w' => e = .returned (numD (nD r)) ∧ Below W.heap.size W w' := by
  rw [← hr]; exact tmR n m W hn hm
theorem buildX1 (w : World) : (Instr.build 38 #[(0, dcell 1)]).run Tryd.prog w = .ok (numD (nD 1)) w := by kernel_rfl
theorem buildX0 (w : World) : (Instr.build 38 #[]).run Tryd.prog w = .ok (numD (nD 0)) w := by kernel_rfl
theorem buildXq (w : World) : (Instr.build 38 #[(0, dcell 121665)]).run Tryd.prog w = .ok (numD (nD 121665)) w := by kernel_rfl
/-- Whether the two are swapped behind the bits from 254 down to j. -/
def swN (b : Nat → Bool) (j : Nat) : Bool := decide (j < 255) && b j
theorem refMult_any (key ub : List UInt8) (w : World) (hk : key.length = 32) (hu : ub.length = 32) : Calls Tryd.prog 7 #[hashVal key, hashVal ub] w fun e w' => e = .returned (hashVal (mulL key ub)) ∧ Below w.heap.size w w' := by
  have hx := keyN_lt ub
  have hS := ladS_step (keyN ub) (kbit (clampL key))
  have hl := ladS_lt hx (kbit (clampL key))
  have hc : (clampL key).length = 32 := by rw [clampL_length]; exact hk
  have hbit := fun k (h : k < 256) => bit8_at ((clampL key).getD (k / 8) 0).toNat (k % 8) (kbit (clampL key) k) ((clampL key).getD (k / 8) 0).toNat_lt (Nat.mod_lt _ (by decide)) rfl
  have hcell := fun k (h : k < 256) => cell_at (clampL key) (k / 8) (by omega)
  have hend : mulL key ub = putL (fM (ladS (keyN ub) (kbit (clampL key)) 0).1.1 (ivN (ladS (keyN ub) (kbit (clampL key)) 0).1.2)) 32 := rfl
  have h255 : ladS (keyN ub) (kbit (clampL key)) 255 = ((1, 0), (keyN ub, 1)) := rfl
  generalize kbit (clampL key) = b at *
  generalize hst : ladS (keyN ub) b = st at *
  have hsw : ∀ k, k < 255 → swN b k = b k := fun k h => by rw [swN, decide_eq_true h, Bool.true_and]
  have h2 : swN b 255 = false := rfl
  refine refMult_over key ub (clampL key) (mulL key ub) (nD (keyN ub)) (nD 1) (nD 0) (nD 121665) (nD (st 0).1.1) (nD (st 0).1.2) (nD (st 0).2.1) (nD (st 0).2.2) (nD (ivN (st 0).1.2)) (nD (fM (st 0).1.1 (ivN (st 0).1.2)))
    (fun j => nD (bif swN b j then (st j).2 else (st j).1).1) (fun j => nD (bif swN b j then (st j).2 else (st j).1).2) (fun j => nD (bif swN b j then (st j).1 else (st j).2).1) (fun j => nD (bif swN b j then (st j).1 else (st j).2).2) (fun j => bif swN b j then 1 else 0)
    w hk hu hc (mulL_length _ _) rfl rfl rfl (by show _ = _; rw [h2]; rfl) (by show _ = _; rw [h2, h255]; rfl) (by show _ = _; rw [h2, h255]; rfl) (by show _ = _; rw [h2, h255]; rfl) (by show _ = _; rw [h2, h255]; rfl) (fun k hk => ?_) ?_
    (fun W => refClamp_any key W hk) (fun W => refMasked_any ub W hu) buildX1 buildX0 buildXq ?_ ?_ (fun W => by rw [hend]; exact refBytes_any _ W)
  · obtain ⟨l1, l2, l3, l4⟩ := hl (k + 1)
    have hk' := hS k hk
    have hb := hbit k (by omega)
    obtain ⟨p, q, hp, hq, hpq⟩ : ∃ p q : Nat × Nat, p = (bif b k then (st (k + 1)).2 else (st (k + 1)).1) ∧ q = (bif b k then (st (k + 1)).1 else (st (k + 1)).2) ∧ (p.1 < pp ∧ p.2 < pp ∧ q.1 < pp ∧ q.2 < pp) := ⟨_, _, rfl, rfl, by cases b k <;> exact ⟨by assumption, by assumption, by assumption, by assumption⟩⟩
    obtain ⟨p1, p2, q1, q2⟩ := hpq
    have e2 : (bif swN b k then (st k).2 else (st k).1) = dblP p := by
      rw [hsw k hk, hk', hp]
      cases b k <;> rfl
    have e3 : (bif swN b k then (st k).1 else (st k).2) = addP (keyN ub) p q := by
      rw [hsw k hk, hk', hp, hq]
      cases b k
      · rfl
      · exact addP_swap _ _ _
    refine ⟨nD p.1, nD p.2, nD q.1, nD q.2, nD (fA p.1 p.2), nD (smP p), nD (fS p.1 p.2), nD (lesP p), nD (btwP p), nD (fA q.1 q.2), nD (fS q.1 q.2), nD (oneP p q), nD (othP p q), nD (fA (oneP p q) (othP p q)), nD (fS (oneP p q) (othP p q)), nD (addP (keyN ub) p q).1, nD (fM (fS (oneP p q) (othP p q)) (fS (oneP p q) (othP p q))), nD (addP (keyN ub) p q).2, nD (dblP p).1, nD (fM (btwP p) 121665), nD (fA (smP p) (fM (btwP p) 121665)), nD (dblP p).2, swN b (k + 1) != b k,
      ⟨rfl, rfl, rfl, rfl, rfl, rfl, rfl, rfl, rfl, rfl, rfl, rfl, rfl, rfl, rfl, rfl, rfl, rfl, rfl, rfl, rfl, rfl⟩, ?_, ?_, fun W => adR _ _ W p1 p2, fun W => tmR _ _ W (fA_lt _ _) (fA_lt _ _), fun W => suR _ _ W p1 p2, fun W => tmR _ _ W (fS_lt _ _) (fS_lt _ _), fun W => suR _ _ W (fM_lt _ _) (fM_lt _ _), fun W => adR _ _ W q1 q2, fun W => suR _ _ W q1 q2,
      fun W => tmR' _ _ _ W (fS_lt _ _) (fA_lt _ _) (fM_comm _ _), fun W => tmR' _ _ _ W (fA_lt _ _) (fS_lt _ _) (fM_comm _ _), fun W => adR _ _ W (fM_lt _ _) (fM_lt _ _), fun W => suR _ _ W (fM_lt _ _) (fM_lt _ _), fun W => tmR' _ _ _ W (fA_lt _ _) (fA_lt _ _) rfl, fun W => tmR _ _ W (fS_lt _ _) (fS_lt _ _), fun W => tmR' _ _ _ W hx (fM_lt _ _) (fM_comm _ _), fun W => tmR' _ _ _ W (fM_lt _ _) (fM_lt _ _) rfl,
      fun W => tmR' _ _ _ W (by decide) (fS_lt _ _) (fM_comm _ _), fun W => adR _ _ W (fM_lt _ _) (fM_lt _ _), fun W => tmR' _ _ _ W (fS_lt _ _) (fA_lt _ _) rfl, ?_, ?_, ?_, ?_, (clampL key).getD (k / 8) 0, hcell k (by omega), ?_⟩
    · intro h
      rw [hp, hq, hsw k hk]
      generalize swN b (k + 1) = x at *
      generalize b k = y at *
      cases x <;> cases y <;> first | exact ⟨rfl, rfl, rfl, rfl, rfl⟩ | exact absurd h (by decide)
    · intro h
      rw [hp, hq, hsw k hk]
      generalize swN b (k + 1) = x at *
      generalize b k = y at *
      cases x <;> cases y <;> first | exact ⟨by decide, rfl, rfl, rfl, rfl⟩ | exact absurd h (by decide)
    · rw [e2]
    · rw [e2]
    · rw [e3]
    · rw [e3]
    · rw [hb, hsw k hk]
      cases b k <;> rfl
  · refine ⟨swN b 0, ⟨rfl, rfl, rfl, rfl⟩, fun h => ?_, fun h => ?_⟩
    · rw [h]; exact ⟨rfl, rfl, rfl, rfl, rfl⟩
    · rw [h]; exact ⟨rfl, rfl, rfl, rfl, rfl⟩
  · obtain ⟨l1, l2, l3, l4⟩ := hl 0
    exact fun W => refInvert_any _ W (Nat.lt_trans l2 (by decide))
  · obtain ⟨l1, l2, l3, l4⟩ := hl 0
    exact fun W => tmR _ _ W l1 (Nat.mod_lt _ (by decide))
end Go.Proofs.YtlhgabhjbnckkaaDoor
namespace Go.Proofs.YtlhgabhjbnckkaaDoor
open Go.RowKit
theorem load_err {w : World} {g : Nat} {v : Value} (h : w.cell? ⟨g, 0, none⟩ = some v) : (Instr.loadAt 27 (.pointer (some ⟨g, 0, none⟩))).run Tryd.prog w = .ok v w := by
  go_simp
set_option maxRecDepth 100000 in
set_option maxHeartbeats 1000000 in
theorem base_over (ka nine kb : List UInt8) (w : World)
    (Hka : Hid (ka.length = 32))
    (Hkb : Hid (kb.length = 32))
    (CM : Hid (∀ W, Calls Tryd.prog 9 #[hashVal ka, hashVal nine] W fun e w' => e = .returned (hashVal kb) ∧ Below W.heap.size W w'))
    (BN : ∀ w, (Instr.build 23 #[(0, .int .u8 9)]).run Tryd.prog w = .ok (hashVal nine) w) :
    Calls Tryd.prog 13 #[hashVal ka] w fun e w' => e = .returned (hashVal kb) ∧ Below w.heap.size w w' := by
  go_enter Tryd.func13, Tryd.ntmps13
  go_wp2_with (first
    | (refine take_step rfl 23 (.tmp 0) rfl ka rfl ?_
       intro w1 hb1 hvk1 hz
       clear hz
       have hB1 := hb1
       have hgek : w.heap.size ≤ w.heap.size := Nat.le_refl _
       clear  hb1
       try simp only [Act.put, List.setIfInBounds_toArray, List.set_cons_zero, List.set_cons_succ]
       skip)
    | (refine vzero_step (o := ⟨some 2, _, _, _, _, _⟩) rfl 23 rfl kzeros zero_k32 ?_
       intro w2 hb2 hvr2
       have hB2 := below_then hB1 hb2
       have hger : w.heap.size ≤ w1.heap.size := hB1.size
       have hvk2 := hvk1.on hb2
       have hnekr := Nat.ne_of_lt hvk1.lt
       clear hB1 hvk1 hb2
       try simp only [Act.put, List.setIfInBounds_toArray, List.set_cons_zero, List.set_cons_succ]
       skip)
    | (refine get_step rfl 23 (.tmp 1) rfl w.heap.size 32 ka 5 rfl hvk2 Tryd.underlying23 size_k32 Hka.out ?_
       try simp only [Act.put, List.setIfInBounds_toArray, List.set_cons_zero, List.set_cons_succ]
       skip)
    | (refine build_step rfl 23 _ rfl [(0, .int .u8 9)] rfl _ BN ?_
       try simp only [Act.put, List.setIfInBounds_toArray, List.set_cons_zero, List.set_cons_succ]
       skip))
  generalize hqr : w1.heap.size = gr at *
  clear hqr
  refine (CM.out w2).mono ?_
  rintro e w3 ⟨rfl, hb3⟩
  have hB3 := below_then hB2 hb3
  have hvk3 := hvk2.on hb3
  have hvr3 := hvr2.on hb3
  clear hB2 hvk2 hvr2 hb3
  go_wp2_with (first
    | (refine vset_step rfl 23 (.tmp 2) (.tmp 5) rfl gr 32 kzeros (kb.map cellOf) rfl rfl hvr3 rfl size_k32 (by rw [List.length_map, Hkb.out]) (kcells_one _) ?_
       intro w4 hb4 hvr4 hz4
       have hB4 : Below w.heap.size w w4 := hB3.trans (hb4.below hger hB3.size)
       have hvk4 := hvk3.but hb4 hnekr
       clear hB3 hvr3 hb4 hz4 hvk3
       skip))
  exact sret Tryd.results13 gr (kb.map cellOf) rfl hvr4 Tryd.underlying23 rfl size_k32 (by rw [List.length_map, Hkb.out]) rfl ⟨rfl, hB4⟩
set_option maxRecDepth 100000 in
set_option maxHeartbeats 1000000 in
theorem refBase_over (ka nine kb : List UInt8) (w : World)
    (Hka : Hid (ka.length = 32))
    (Hkb : Hid (kb.length = 32))
    (CM : Hid (∀ W, Calls Tryd.prog 7 #[hashVal ka, hashVal nine] W fun e w' => e = .returned (hashVal kb) ∧ Below W.heap.size W w'))
    (BN : ∀ w, (Instr.build 22 #[(0, .int .u8 9)]).run Tryd.prog w = .ok (hashVal nine) w) :
    Calls Tryd.prog 14 #[hashVal ka] w fun e w' => e = .returned (hashVal kb) ∧ Below w.heap.size w w' := by
  go_enter Tryd.func14, Tryd.ntmps14
  go_wp2_with (first
    | (refine vtake_step rfl 22 (.tmp 0) rfl (ka.map cellOf) rfl ?_
       intro w1 hb1 hvk1
       have hB1 := hb1
       have hgek : w.heap.size ≤ w.heap.size := Nat.le_refl _
       clear  hb1
       try simp only [Act.put, List.setIfInBounds_toArray, List.set_cons_zero, List.set_cons_succ]
       skip)
    | (refine vzero_step (o := ⟨some 2, _, _, _, _, _⟩) rfl 22 rfl kzeros zero_b32 ?_
       intro w2 hb2 hvr2
       have hB2 := below_then hB1 hb2
       have hger : w.heap.size ≤ w1.heap.size := hB1.size
       have hvk2 := hvk1.on hb2
       have hnekr := Nat.ne_of_lt hvk1.lt
       clear hB1 hvk1 hb2
       try simp only [Act.put, List.setIfInBounds_toArray, List.set_cons_zero, List.set_cons_succ]
       skip)
    | (refine sget_step rfl 22 (.tmp 1) rfl w.heap.size 32 (ka.map cellOf) rfl hvk2 Tryd.underlying22 rfl size_b32 (by rw [List.length_map, Hka.out]) ?_
       try simp only [Act.put, List.setIfInBounds_toArray, List.set_cons_zero, List.set_cons_succ]
       skip)
    | (refine build_step rfl 22 _ rfl [(0, .int .u8 9)] rfl _ BN ?_
       try simp only [Act.put, List.setIfInBounds_toArray, List.set_cons_zero, List.set_cons_succ]
       skip))
  generalize hqr : w1.heap.size = gr at *
  clear hqr
  refine (CM.out w2).mono ?_
  rintro e w3 ⟨rfl, hb3⟩
  have hB3 := below_then hB2 hb3
  have hvk3 := hvk2.on hb3
  have hvr3 := hvr2.on hb3
  clear hB2 hvk2 hvr2 hb3
  go_wp2_with (first
    | (refine vset_step rfl 22 (.tmp 2) (.tmp 5) rfl gr 32 kzeros (kb.map cellOf) rfl rfl hvr3 rfl size_b32 (by rw [List.length_map, Hkb.out]) (kcells_one _) ?_
       intro w4 hb4 hvr4 hz4
       have hB4 : Below w.heap.size w w4 := hB3.trans (hb4.below hger hB3.size)
       have hvk4 := hvk3.but hb4 hnekr
       clear hB3 hvr3 hb4 hz4 hvk3
       skip))
  exact sret Tryd.results14 gr (kb.map cellOf) rfl hvr4 Tryd.underlying22 rfl size_b32 (by rw [List.length_map, Hkb.out]) rfl ⟨rfl, hB4⟩
set_option maxRecDepth 100000 in
set_option maxHeartbeats 1000000 in
theorem shared_over (ka ub kb zr res : List UInt8) (er err : Value) (z : Bool) (w : World)
    (Hka : Hid (ka.length = 32))
    (Hub : Hid (ub.length = 32))
    (Hkb : Hid (kb.length = 32))
    (Hzr : Hid (zr.length = 32))
    (CM : Hid (∀ W, Calls Tryd.prog 9 #[hashVal ka, hashVal ub] W fun e w' => e = .returned (hashVal kb) ∧ Below W.heap.size W w'))
    (BZ : ∀ w, (Instr.build 23 #[]).run Tryd.prog w = .ok (hashVal zr) w)
    (EZ : ∀ w, (binOp .eql 23 (hashVal kb) (hashVal zr)).run Tryd.prog w = .ok (.bool z) w)
    (H0 : Hid (z = false → res = kb ∧ err = .nilIface))
    (H1 : Hid (z = true → res = zr ∧ err = er))
    (hE : w.cell? ⟨0, 0, none⟩ = some er) :
    Calls Tryd.prog 8 #[hashVal ka, hashVal ub] w fun e w' => e = .returned (.tuple #[hashVal res, err]) ∧ Below w.heap.size w w' := by
  go_enter Tryd.func8, Tryd.ntmps8
  go_wp2_with (first
    | (refine take_step rfl 23 (.tmp 0) rfl ka rfl ?_
       intro w1 hb1 hvk1 hz
       clear hz
       have hB1 := hb1
       have hgek : w.heap.size ≤ w.heap.size := Nat.le_refl _
       clear  hb1
       try simp only [Act.put, List.setIfInBounds_toArray, List.set_cons_zero, List.set_cons_succ]
       skip)
    | (refine take_step rfl 23 (.tmp 1) rfl ub rfl ?_
       intro w2 hb2 hvu2 hz
       clear hz
       have hB2 := below_then hB1 hb2
       have hgeu : w.heap.size ≤ w1.heap.size := hB1.size
       have hvk2 := hvk1.on hb2
       have hneku := Nat.ne_of_lt hvk1.lt
       clear hB1 hvk1 hb2
       try simp only [Act.put, List.setIfInBounds_toArray, List.set_cons_zero, List.set_cons_succ]
       skip)
    | (refine vzero_step (o := ⟨some 4, _, _, _, _, _⟩) rfl 23 rfl kzeros zero_k32 ?_
       intro w3 hb3 hvr3
       have hB3 := below_then hB2 hb3
       have hger : w.heap.size ≤ w2.heap.size := hB2.size
       have hvk3 := hvk2.on hb3
       have hnekr := Nat.ne_of_lt hvk2.lt
       have hvu3 := hvu2.on hb3
       have hneur := Nat.ne_of_lt hvu2.lt
       clear hB2 hvk2 hvu2 hb3
       try simp only [Act.put, List.setIfInBounds_toArray, List.set_cons_zero, List.set_cons_succ]
       skip)
    | (refine get_step rfl 23 (.tmp 2) rfl w.heap.size 32 ka 5 rfl hvk3 Tryd.underlying23 size_k32 Hka.out ?_
       try simp only [Act.put, List.setIfInBounds_toArray, List.set_cons_zero, List.set_cons_succ]
       skip)
    | (refine get_step rfl 23 (.tmp 3) rfl w1.heap.size 32 ub 5 rfl hvu3 Tryd.underlying23 size_k32 Hub.out ?_
       try simp only [Act.put, List.setIfInBounds_toArray, List.set_cons_zero, List.set_cons_succ]
       skip))
  generalize hqu : w1.heap.size = gu at *
  clear hqu
  generalize hqr : w2.heap.size = gr at *
  clear hqr
  refine (CM.out w3).mono ?_
  rintro e w4 ⟨rfl, hb4⟩
  have hB4 := below_then hB3 hb4
  have hvk4 := hvk3.on hb4
  have hvu4 := hvu3.on hb4
  have hvr4 := hvr3.on hb4
  clear hB3 hvk3 hvu3 hvr3 hb4
  cases z
  · obtain ⟨hr1, hr2⟩ := H0.out (by simp)
    have hG12 : ∀ w, (eqGuard .eql 23 (.tmp 10) (.tmp 11) (hashVal kb) (hashVal zr)).run Tryd.prog w = .ok () w := fun w => key_guard _ _ _ _ _ w
    have hQ12 : ∀ w, (binOp .eql 23 (hashVal kb) (hashVal zr)).run Tryd.prog w = .ok (.bool false) w := EZ
    go_wp2_with (first
      | (refine vput_step rfl rfl 23 (.tmp 6) (.tmp 9) rfl rfl 32 kzeros (kb.map cellOf) rfl rfl zero_k32 rfl size_k32 (by rw [List.length_map, Hkb.out]) (kcells_one _) ?_
         intro w5 hb5 hvc5
         have hB5 := below_then hB4 hb5
         have hgec : w.heap.size ≤ w4.heap.size := hB4.size
         have hvk5 := hvk4.on hb5
         have hnekc := Nat.ne_of_lt hvk4.lt
         have hvu5 := hvu4.on hb5
         have hneuc := Nat.ne_of_lt hvu4.lt
         have hvr5 := hvr4.on hb5
         have hnerc := Nat.ne_of_lt hvr4.lt
         clear hB4 hvk4 hvu4 hvr4 hb5
         try simp only [Act.put, List.setIfInBounds_toArray, List.set_cons_zero, List.set_cons_succ]
         skip)
      | (refine get_step rfl 23 (.tmp 6) rfl w4.heap.size 32 kb 5 rfl hvc5 Tryd.underlying23 size_k32 Hkb.out ?_
         try simp only [Act.put, List.setIfInBounds_toArray, List.set_cons_zero, List.set_cons_succ]
         skip)
      | (refine build_step rfl 23 [] rfl [] rfl _ BZ ?_
         try simp only [Act.put, List.setIfInBounds_toArray, List.set_cons_zero, List.set_cons_succ]
         skip)
      | (refine get_step rfl 23 (.tmp 6) rfl w4.heap.size 32 kb 5 rfl hvc5 Tryd.underlying23 size_k32 Hkb.out ?_
         try simp only [Act.put, List.setIfInBounds_toArray, List.set_cons_zero, List.set_cons_succ]
         skip)
      | (refine vset_step rfl 23 (.tmp 4) (.tmp 15) rfl gr 32 kzeros (kb.map cellOf) rfl rfl hvr5 rfl size_k32 (by rw [List.length_map, Hkb.out]) (kcells_one _) ?_
         intro w6 hb6 hvr6 hz6
         have hB6 : Below w.heap.size w w6 := hB5.trans (hb6.below hger hB5.size)
         have hvk6 := hvk5.but hb6 hnekr
         have hvu6 := hvu5.but hb6 hneur
         have hvc6 := hvc5.but hb6 (Ne.symm hnerc)
         clear hB5 hvr5 hb6 hz6 hvk5 hvu5 hvc5
         skip))
    generalize hqc : w4.heap.size = gc at *
    clear hqc
    exact sret2 Tryd.results8 gr (kb.map cellOf) _ rfl rfl hvr6 Tryd.underlying23 rfl size_k32 (by rw [List.length_map, Hkb.out]) rfl ⟨by subst hr1; subst hr2; rfl, hB6⟩
  · obtain ⟨hr1, hr2⟩ := H1.out (by simp)
    have hG12 : ∀ w, (eqGuard .eql 23 (.tmp 10) (.tmp 11) (hashVal kb) (hashVal zr)).run Tryd.prog w = .ok () w := fun w => key_guard _ _ _ _ _ w
    have hQ12 : ∀ w, (binOp .eql 23 (hashVal kb) (hashVal zr)).run Tryd.prog w = .ok (.bool true) w := EZ
    go_wp2_with (first
      | (refine vput_step rfl rfl 23 (.tmp 6) (.tmp 9) rfl rfl 32 kzeros (kb.map cellOf) rfl rfl zero_k32 rfl size_k32 (by rw [List.length_map, Hkb.out]) (kcells_one _) ?_
         intro w5 hb5 hvc5
         have hB5 := below_then hB4 hb5
         have hgec : w.heap.size ≤ w4.heap.size := hB4.size
         have hvk5 := hvk4.on hb5
         have hnekc := Nat.ne_of_lt hvk4.lt
         have hvu5 := hvu4.on hb5
         have hneuc := Nat.ne_of_lt hvu4.lt
         have hvr5 := hvr4.on hb5
         have hnerc := Nat.ne_of_lt hvr4.lt
         clear hB4 hvk4 hvu4 hvr4 hb5
         try simp only [Act.put, List.setIfInBounds_toArray, List.set_cons_zero, List.set_cons_succ]
         skip)
      | (refine get_step rfl 23 (.tmp 6) rfl w4.heap.size 32 kb 5 rfl hvc5 Tryd.underlying23 size_k32 Hkb.out ?_
         try simp only [Act.put, List.setIfInBounds_toArray, List.set_cons_zero, List.set_cons_succ]
         skip)
      | (refine build_step rfl 23 [] rfl [] rfl _ BZ ?_
         try simp only [Act.put, List.setIfInBounds_toArray, List.set_cons_zero, List.set_cons_succ]
         skip))
    generalize hqc : w4.heap.size = gc at *
    clear hqc
    replace hvk5 := hvk5.drew
    replace hvu5 := hvu5.drew
    replace hvr5 := hvr5.drew
    replace hvc5 := hvc5.drew
    rename_i K hKK
    have hltE := block_lt_of_cell hE
    have de7 : w5.drew.cell? ⟨0, 0, none⟩ = some er := (hB5.cell hltE).trans hE
    have hB7 := (show Below w.heap.size w w5.drew from hB5.drew)
    clear hB5
    refine wp_region_any (by kernel_rfl) ?_
    refine wpAny_of_held (S := fun w' => w'.cell? ⟨0, 0, none⟩ = some er) _ _ _ _ ?_
    show wpAnyH _ _ _ _ _ _ _ _ w5.drew
    simp only [List.size_toArray, List.length_cons, List.length_nil, Nat.reduceAdd, Array.replicate_succ, Array.replicate_zero, List.push_toArray, List.nil_append, List.cons_append]
    generalize w5.drew = w7 at *
    refine wpAnyH_take (i := 1) (oi := ⟨some 14, _, _, _, _, _⟩) (v := er) rfl (by kernel_rfl) (by kernel_rfl) (by kernel_rfl) (fun _ _ _ h => h) (Or.inl ⟨by rfl, ?_⟩) de7 ?_
    · intro w8 h8
      exact exec_load _ _ _ _ rfl _ _ rfl _ (load_err h8)
    refine wpAnyH_all (rs := [0]) (by kernel_rfl) (by decide) fun i hi => ?_
    obtain rfl := List.mem_singleton.1 hi
    clear hi
    refine wpOp_step rfl fun K1 hK1 => ?_
    rw [if_pos (by rfl)]
    refine flat_pure (hashVal zr) (exec_build _ _ _ [] rfl [] rfl _ w7 (BZ w7)) (hK1 _ _ ⟨de7, ?_⟩)
    clear hK1 K1
    refine wpAnyH_all (rs := [2]) (by kernel_rfl) (by decide) fun i hi => ?_
    obtain rfl := List.mem_singleton.1 hi
    clear hi
    refine wpOp_step rfl fun K1 hK1 => ?_
    rw [if_pos (by rfl)]
    refine wp_store_mid 23 (.tmp 4) (.tmp 13) rfl gr 0 (zr.map cellOf).toArray rfl rfl (by rw [List.size_toArray, List.length_map, Hzr.out]; exact hvr5.there 0 32 (by rw [show (kzeros).length = 32 from rfl]; decide)) (by rw [List.size_toArray, List.length_map, Hzr.out]; exact size_k32) (kcells_one _) (hK1 _ _ ?_)
    have hC2 := hvr5.setCells (cs := zr.map cellOf) (o := 0) (by rw [List.length_map, Hzr.out, show (kzeros).length = 32 from rfl]; decide)
    rw [splice_all _ _ (by rw [List.length_map, Hzr.out, show (kzeros).length = 32 from rfl])] at hC2
    have hb8 : But gr w7 (w7.setCells gr 0 (zr.map cellOf)) := (But.refl _ _).setCells _ _
    have hB8 : Below w.heap.size w (w7.setCells gr 0 (zr.map cellOf)) := hB7.trans (hb8.below hger hB7.size)
    have de8 : (w7.setCells gr 0 (zr.map cellOf)).cell? ⟨0, 0, none⟩ = some er := (World.cell?_of_block (hb8.block _ (block_lt_of_cell de7) (Nat.ne_of_lt (Nat.lt_of_lt_of_le hltE hger)))).trans de7
    change (w7.setCells gr 0 (zr.map cellOf)).cell? ⟨0, 0, none⟩ = some er ∧ wpAnyH _ _ _ _ _ _ _ _ (w7.setCells gr 0 (zr.map cellOf))
    have hvk8 := hvk5.but hb8 hnekr
    have hvu8 := hvu5.but hb8 hneur
    have hvc8 := hvc5.but hb8 (Ne.symm hnerc)
    have hvr8 := hC2
    clear hC2 hb8 hK1 K1 hB7 hvr5 de7 hvk5 hvu5 hvc5
    generalize w7.setCells gr 0 (zr.map cellOf) = w8 at *
    refine ⟨de8, ?_⟩
    refine wpAnyH_all (rs := [3]) (by kernel_rfl) (by decide) fun i hi => ?_
    obtain rfl := List.mem_singleton.1 hi
    clear hi
    refine wpOp_step rfl fun K1 hK1 => ?_
    rw [if_pos (by rfl)]
    refine flat_pure (er) (exec_move _ _ _ (.inr rfl) (er) (by rfl) w8) (hK1 _ _ ⟨de8, ?_⟩)
    clear hK1 K1
    refine wpAnyH_done (by kernel_rfl) ?_ _
    show Exit.then K _ Exit.normal (⟨((hashVal ka) :: (hashVal ub) :: (.pointer (some ⟨w.heap.size, 0, none⟩)) :: (.pointer (some ⟨gu, 0, none⟩)) :: (.pointer (some ⟨gr, 0, none⟩)) :: (er) :: (.pointer (some ⟨gc, 0, none⟩)) :: (hashVal ka) :: (hashVal ub) :: (hashVal kb) :: (hashVal kb) :: (hashVal zr) :: (.bool true) :: (hashVal zr) :: (er) :: undef :: []).toArray, []⟩ : Act) w8
    simp only [Exit.then]
    refine hKK _ _ ?_
    clear hKK K
    go_wp2_with fail
    exact sret2 Tryd.results8 gr (zr.map cellOf) _ rfl rfl hvr8 Tryd.underlying23 rfl size_k32 (by rw [List.length_map, Hzr.out]) rfl ⟨by subst hr1; subst hr2; rfl, hB8⟩
end Go.Proofs.YtlhgabhjbnckkaaDoor
