/- The walk of the law LadderMeets. (Made by tools/mkladder.py.) -/
import Derived.Test.YtlhgabhjbnckkaaDoorPart12
import Derived.Test.YtlhgabhjbnckkaaDoorPart13
import Derived.Test.YtlhgabhjbnckkaaDoorPart2
import Derived.Deep.Cut
namespace Go.Proofs.YtlhgabhjbnckkaaDoor
open Go.RowKit
def leVs3 (ka : List UInt8) (kb : List UInt8) (g_base : Nat) (gu : Nat) (x : List UInt8) (bb : List UInt8) : List Value :=
  (hashVal ka) :: (hashVal kb) :: (.pointer (some ⟨g_base, 0, none⟩)) :: (.pointer (some ⟨gu, 0, none⟩)) :: (.bool false) :: undef :: (.nilIface) :: undef :: undef :: (.bool true) :: (.bool false) :: (.tuple #[hashVal x, .nilIface]) :: (hashVal ka) :: (hashVal kb) :: (hashVal bb) :: (.tuple #[hashVal x, .nilIface]) :: (hashVal x) :: (.nilIface) :: undef :: undef :: undef :: undef :: undef :: undef :: undef :: undef :: undef :: undef :: undef :: undef :: undef :: undef :: undef :: undef :: undef :: undef :: []
def leVs3N (ka : List UInt8) (kb : List UInt8) (g_base : Nat) (gu : Nat) (x : List UInt8) (bb : List UInt8) (n5 : Nat) : List Value :=
  (hashVal ka) :: (hashVal kb) :: (.pointer (some ⟨g_base, 0, none⟩)) :: (.pointer (some ⟨gu, 0, none⟩)) :: (.bool false) :: (.pointer (some ⟨n5, 0, none⟩)) :: (.nilIface) :: undef :: undef :: (.bool true) :: (.bool false) :: (.tuple #[hashVal x, .nilIface]) :: (hashVal ka) :: (hashVal kb) :: (hashVal bb) :: (.tuple #[hashVal x, .nilIface]) :: (hashVal x) :: (.nilIface) :: undef :: undef :: undef :: undef :: undef :: undef :: undef :: undef :: undef :: undef :: undef :: undef :: undef :: undef :: undef :: undef :: undef :: undef :: []
def leVs4_1 (ka : List UInt8) (kb : List UInt8) (g_base : Nat) (gu : Nat) (gv : Nat) (x : List UInt8) (bb : List UInt8) (ba : List UInt8) : List Value :=
  (hashVal ka) :: (hashVal kb) :: (.pointer (some ⟨g_base, 0, none⟩)) :: (.pointer (some ⟨gu, 0, none⟩)) :: (.bool false) :: (.pointer (some ⟨gv, 0, none⟩)) :: (.nilIface) :: undef :: (.nilIface) :: (.bool true) :: (.bool false) :: (.tuple #[hashVal x, .nilIface]) :: (hashVal ka) :: (hashVal kb) :: (hashVal bb) :: (.tuple #[hashVal x, .nilIface]) :: (hashVal x) :: (.nilIface) :: (.tuple #[hashVal x, .nilIface]) :: (hashVal kb) :: (hashVal ka) :: (hashVal ba) :: (.tuple #[hashVal x, .nilIface]) :: (hashVal x) :: (.nilIface) :: undef :: undef :: undef :: undef :: undef :: undef :: undef :: undef :: undef :: undef :: undef :: []
def leVs4_1N (ka : List UInt8) (kb : List UInt8) (g_base : Nat) (gu : Nat) (gv : Nat) (x : List UInt8) (bb : List UInt8) (ba : List UInt8) (n7 : Nat) : List Value :=
  (hashVal ka) :: (hashVal kb) :: (.pointer (some ⟨g_base, 0, none⟩)) :: (.pointer (some ⟨gu, 0, none⟩)) :: (.bool false) :: (.pointer (some ⟨gv, 0, none⟩)) :: (.nilIface) :: (.pointer (some ⟨n7, 0, none⟩)) :: (.nilIface) :: (.bool true) :: (.bool false) :: (.tuple #[hashVal x, .nilIface]) :: (hashVal ka) :: (hashVal kb) :: (hashVal bb) :: (.tuple #[hashVal x, .nilIface]) :: (hashVal x) :: (.nilIface) :: (.tuple #[hashVal x, .nilIface]) :: (hashVal kb) :: (hashVal ka) :: (hashVal ba) :: (.tuple #[hashVal x, .nilIface]) :: (hashVal x) :: (.nilIface) :: undef :: undef :: undef :: undef :: undef :: undef :: undef :: undef :: undef :: undef :: undef :: []
def leVs5_2 (ka : List UInt8) (kb : List UInt8) (g_base : Nat) (gu : Nat) (gv : Nat) (gs : Nat) (x : List UInt8) (bb : List UInt8) (ba : List UInt8) : List Value :=
  (hashVal ka) :: (hashVal kb) :: (.pointer (some ⟨g_base, 0, none⟩)) :: (.pointer (some ⟨gu, 0, none⟩)) :: (.bool true) :: (.pointer (some ⟨gv, 0, none⟩)) :: (.nilIface) :: (.pointer (some ⟨gs, 0, none⟩)) :: (.nilIface) :: (.bool true) :: (.bool false) :: (.tuple #[hashVal x, .nilIface]) :: (hashVal ka) :: (hashVal kb) :: (hashVal bb) :: (.tuple #[hashVal x, .nilIface]) :: (hashVal x) :: (.nilIface) :: (.tuple #[hashVal x, .nilIface]) :: (hashVal kb) :: (hashVal ka) :: (hashVal ba) :: (.tuple #[hashVal x, .nilIface]) :: (hashVal x) :: (.nilIface) :: (.nilIface) :: (.bool true) :: (.bool true) :: (.nilIface) :: (.bool true) :: (.bool true) :: (.bool true) :: (hashVal x) :: (hashVal x) :: (.bool true) :: (.bool true) :: []
set_option maxRecDepth 100000 in
set_option maxHeartbeats 1000000 in
theorem meets_over (ka kb ba bb x : List UInt8) (es : List Addr) (w : World)
    (Hka : Hid (ka.length = 32))
    (Hkb : Hid (kb.length = 32))
    (Hx : Hid (x.length = 32))
    (CAL : Hid (∀ W, Errs W es → Calls Tryd.prog 6 #[] W fun e w' => e = .returned (.bool true) ∧ Below W.heap.size W w'))
    (CB : Hid (∀ W, Calls Tryd.prog 13 #[hashVal kb] W fun e w' => e = .returned (hashVal bb) ∧ Below W.heap.size W w'))
    (CA : Hid (∀ W, Calls Tryd.prog 13 #[hashVal ka] W fun e w' => e = .returned (hashVal ba) ∧ Below W.heap.size W w'))
    (CS1 : Hid (∀ W, Errs W es → Calls Tryd.prog 8 #[hashVal ka, hashVal bb] W fun e w' => e = .returned (.tuple #[hashVal x, .nilIface]) ∧ Below W.heap.size W w'))
    (CS2 : Hid (∀ W, Errs W es → Calls Tryd.prog 8 #[hashVal kb, hashVal ba] W fun e w' => e = .returned (.tuple #[hashVal x, .nilIface]) ∧ Below W.heap.size W w'))
    (EQ : ∀ w, (binOp .eql 23 (hashVal x) (hashVal x)).run Tryd.prog w = .ok (.bool true) w)
    (hE : Errs w es) :
    Calls Tryd.prog 5 #[hashVal ka, hashVal kb] w fun e w' => e = .returned (.bool true) ∧ Below w.heap.size w w' := by
  go_enter Tryd.func5, Tryd.ntmps5
  go_wp2_with (first
    | (refine take_step rfl 23 (.tmp 0) rfl ka rfl ?_
       intro w1 hb1 hvk1 hz
       clear hz
       have hB1 := hb1
       have hgek : w.heap.size ≤ w.heap.size := Nat.le_refl _
       clear  hb1
       try simp only [Act.put, List.setIfInBounds_toArray, List.set_cons_zero, List.set_cons_succ]
       skip)
    | (refine take_step rfl 23 (.tmp 1) rfl kb rfl ?_
       intro w2 hb2 hvu2 hz
       clear hz
       have hB2 := below_then hB1 hb2
       have hgeu : w.heap.size ≤ w1.heap.size := hB1.size
       have hvk2 := hvk1.on hb2
       have hneku := Nat.ne_of_lt hvk1.lt
       clear hB1 hvk1 hb2
       try simp only [Act.put, List.setIfInBounds_toArray, List.set_cons_zero, List.set_cons_succ]
       skip))
  generalize hqu : w1.heap.size = gu at *
  clear hqu
  refine (CAL.out w2 (hE.below hB2)).mono ?_
  rintro e w3 ⟨rfl, hb3⟩
  have hB3 := below_then hB2 hb3
  have hvk3 := hvk2.on hb3
  have hvu3 := hvu2.on hb3
  clear hB2 hvk2 hvu2 hb3
  go_wp2_with fail
  replace hvk3 := hvk3.drew
  replace hvu3 := hvu3.drew
  have hBq := (show Below w.heap.size w w3.drew from hB3.drew)
  refine wp_region_any (by kernel_rfl) ?_
  refine wpAny_flatS (L := [0, 1, 2, 3, 4, 5, 6, 7, 8, 9]) (by kernel_rfl) _ _ (leVs3 ka kb w.heap.size gu x bb) [(7, 5)] (fun _ => 23) (fun _ => kzeros) (fun _ => some (8, x.map cellOf)) [0, 1, 2, 3, 4, 7, 8, 9, 10, 18, 19, 20, 21, 22, 23, 24, 25, 26, 27, 28, 29, 30, 31, 32, 33, 34, 35] (by kernel_rfl) (by kernel_rfl) ?_ (fun _ _ => zero_k32) ?_ ?_ ?_ (by rfl) ?_ 0 (by kernel_rfl) ?_
  · intro p hp
    rcases List.mem_cons.1 hp with rfl | hp
    · exact ⟨⟨_, rfl, rfl, rfl, rfl, by kernel_rfl, by kernel_rfl⟩⟩
    exact absurd hp List.not_mem_nil
  · intro p hp j l h
    rcases List.mem_cons.1 hp with rfl | hp
    · change some (8, x.map cellOf) = some (j, l) at h
      cases h
      exact ⟨⟨_, 16, rfl, rfl, rfl, rfl, by kernel_rfl, by kernel_rfl, by kernel_rfl, rfl, by rw [List.length_map, Hx.out]; exact size_k32, by rw [List.length_map, Hx.out]; rfl, kcells_one _⟩, by decide⟩
    exact absurd hp List.not_mem_nil
  · intro p hp q hq j l l2 h1 h2
    rcases List.mem_cons.1 hp with rfl | hp
    · rcases List.mem_cons.1 hq with rfl | hq
      · rfl
      exact absurd hq List.not_mem_nil
    exact absurd hp List.not_mem_nil
  · exact all_cons rfl (all_cons rfl (all_cons rfl (all_cons rfl (all_cons rfl (all_cons rfl (all_cons rfl (all_cons rfl (all_cons rfl (all_cons rfl (all_cons rfl (all_cons rfl (all_cons rfl (all_cons rfl (all_cons rfl (all_cons rfl (all_cons rfl (all_cons rfl (all_cons rfl (all_cons rfl (all_cons rfl (all_cons rfl (all_cons rfl (all_cons rfl (all_cons rfl (all_cons rfl (all_cons rfl (all_nil)))))))))))))))))))))))))))
  · refine all_cons (.inr (.inl (mStep _ 12 rfl rfl rfl rfl (by kernel_rfl) (fun a hv => wanted_all rfl _) (fun a w K hb hv hK => mPure (hashVal ka) (exec_load _ _ _ _ rfl _ _ (hv 2 (by kernel_rfl) rfl) w (key_run (hvk3.on hb) Hka.out)) hK)))) ?_
    refine all_cons (.inr (.inl (mStep _ 13 rfl rfl rfl rfl (by kernel_rfl) (fun a hv => wanted_all rfl _) (fun a w K hb hv hK => mPure (hashVal kb) (exec_load _ _ _ _ rfl _ _ (hv 3 (by kernel_rfl) rfl) w (key_run (hvu3.on hb) Hkb.out)) hK)))) ?_
    refine all_cons (.inr (.inl (mStep _ 14 rfl rfl rfl rfl (by kernel_rfl) (fun a hv => wanted_all rfl _) (fun a w K hb hv hK => mCall (hashVal bb) 13 _ _ rfl [hashVal kb] (cons_eq (hv 13 (by kernel_rfl) rfl) (rfl)) (enters Tryd.func13 rfl rfl) (CB.out w) hK)))) ?_
    refine all_cons (.inr (.inl (mStep _ 15 rfl rfl rfl rfl (by kernel_rfl) (fun a hv => wanted_all rfl _) (fun a w K hb hv hK => mCall (.tuple #[hashVal x, .nilIface]) 8 _ _ rfl [hashVal ka, hashVal bb] (cons_eq (hv 12 (by kernel_rfl) rfl) (cons_eq (hv 14 (by kernel_rfl) rfl) (rfl))) (enters Tryd.func8 rfl rfl) (CS1.out w (hE.below (below_then hBq hb))) hK)))) ?_
    refine all_cons (.inr (.inl (mStep _ 11 rfl rfl rfl rfl (by kernel_rfl) (fun a hv => wanted_all rfl _) (fun a w K hb hv hK => mPure (.tuple #[hashVal x, .nilIface]) (exec_move _ _ _ (.inl rfl) _ (hv 15 (by kernel_rfl) rfl) w) hK)))) ?_
    refine all_cons (.inr (.inl (mStep _ 16 rfl rfl rfl rfl (by kernel_rfl) (fun a hv => wanted_all rfl _) (fun a w K hb hv hK => mPure (hashVal x) (exec_extract _ _ _ _ rfl _ (hv 11 (by kernel_rfl) rfl) _ rfl w) hK)))) ?_
    refine all_cons (.inr (.inl (mStep _ 17 rfl rfl rfl rfl (by kernel_rfl) (fun a hv => wanted_all rfl _) (fun a w K hb hv hK => mPure (.nilIface) (exec_extract _ _ _ _ rfl _ (hv 11 (by kernel_rfl) rfl) _ rfl w) hK)))) ?_
    refine all_cons (.inl ⟨(7, 5), by simp, rfl⟩) ?_
    refine all_cons (.inr (.inr ⟨(7, 5), by simp, _, rfl⟩)) ?_
    refine all_cons (.inr (.inl (mStep _ 6 rfl rfl rfl rfl (by kernel_rfl) (fun a hv => wanted_all rfl _) (fun a w K hb hv hK => mPure (.nilIface) (exec_move _ _ _ (.inr rfl) _ (hv 17 (by kernel_rfl) rfl) w) hK)))) ?_
    exact all_nil
  intro w4 g hb4 hN4 hap4
  obtain ⟨hgev, hvv4⟩ := hN4 (7, 5) (by simp)
  clear hN4 hap4
  have hB4 := below_then (show Below w.heap.size w w3.drew from hB3.drew) hb4
  have hltk : w.heap.size < w3.heap.size := hvk3.lt
  have hltu : gu < w3.heap.size := hvu3.lt
  have hvk4 := hvk3.on hb4
  have hvu4 := hvu3.on hb4
  rw [show withNew g [(7, 5)] (leVs3 ka kb w.heap.size gu x bb) = leVs3N ka kb w.heap.size gu x bb (g 5) from rfl]
  replace hgev : w3.heap.size ≤ g 5 := hgev
  replace hvv4 : Cells w4 (g 5) (x.map cellOf) 23 := hvv4
  have hnekv : w.heap.size ≠ g 5 := Nat.ne_of_lt (Nat.lt_of_lt_of_le hltk hgev)
  have hneuv : gu ≠ g 5 := Nat.ne_of_lt (Nat.lt_of_lt_of_le hltu hgev)
  replace hgev : w.heap.size ≤ g 5 := Nat.le_trans (show w.heap.size ≤ w3.heap.size from hB3.size) hgev
  clear hltk hltu
  generalize g 5 = gv at *
  clear hB3 hvk3 hvu3 hb4 hBq
  refine ⟨by kernel_rfl, ?_⟩
  rename_i K hKK
  show Exit.then K _ Exit.normal (⟨(leVs3N ka kb w.heap.size gu x bb gv).toArray, []⟩ : Act) w4
  simp only [Exit.then]
  refine hKK _ _ ?_
  clear hKK K g
  simp only [leVs3N]
  go_wp2_with fail
  replace hvk4 := hvk4.drew
  replace hvu4 := hvu4.drew
  replace hvv4 := hvv4.drew
  have hBq := (show Below w.heap.size w w4.drew from hB4.drew)
  refine wp_region_any (by kernel_rfl) ?_
  refine wpAny_flatS (L := [0, 1, 2, 3, 4, 5, 6, 7, 8, 9]) (by kernel_rfl) _ _ (leVs4_1 ka kb w.heap.size gu gv x bb ba) [(7, 7)] (fun _ => 23) (fun _ => kzeros) (fun _ => some (8, x.map cellOf)) [0, 1, 2, 3, 4, 5, 6, 9, 10, 11, 12, 13, 14, 15, 16, 17, 25, 26, 27, 28, 29, 30, 31, 32, 33, 34, 35] (by kernel_rfl) (by kernel_rfl) ?_ (fun _ _ => zero_k32) ?_ ?_ ?_ (by rfl) ?_ 0 (by kernel_rfl) ?_
  · intro p hp
    rcases List.mem_cons.1 hp with rfl | hp
    · exact ⟨⟨_, rfl, rfl, rfl, rfl, by kernel_rfl, by kernel_rfl⟩⟩
    exact absurd hp List.not_mem_nil
  · intro p hp j l h
    rcases List.mem_cons.1 hp with rfl | hp
    · change some (8, x.map cellOf) = some (j, l) at h
      cases h
      exact ⟨⟨_, 23, rfl, rfl, rfl, rfl, by kernel_rfl, by kernel_rfl, by kernel_rfl, rfl, by rw [List.length_map, Hx.out]; exact size_k32, by rw [List.length_map, Hx.out]; rfl, kcells_one _⟩, by decide⟩
    exact absurd hp List.not_mem_nil
  · intro p hp q hq j l l2 h1 h2
    rcases List.mem_cons.1 hp with rfl | hp
    · rcases List.mem_cons.1 hq with rfl | hq
      · rfl
      exact absurd hq List.not_mem_nil
    exact absurd hp List.not_mem_nil
  · exact all_cons rfl (all_cons rfl (all_cons rfl (all_cons rfl (all_cons rfl (all_cons rfl (all_cons rfl (all_cons rfl (all_cons rfl (all_cons rfl (all_cons rfl (all_cons rfl (all_cons rfl (all_cons rfl (all_cons rfl (all_cons rfl (all_cons rfl (all_cons rfl (all_cons rfl (all_cons rfl (all_cons rfl (all_cons rfl (all_cons rfl (all_cons rfl (all_cons rfl (all_cons rfl (all_cons rfl (all_nil)))))))))))))))))))))))))))
  · refine all_cons (.inr (.inl (mStep _ 19 rfl rfl rfl rfl (by kernel_rfl) (fun a hv => wanted_all rfl _) (fun a w K hb hv hK => mPure (hashVal kb) (exec_load _ _ _ _ rfl _ _ (hv 3 (by kernel_rfl) rfl) w (key_run (hvu4.on hb) Hkb.out)) hK)))) ?_
    refine all_cons (.inr (.inl (mStep _ 20 rfl rfl rfl rfl (by kernel_rfl) (fun a hv => wanted_all rfl _) (fun a w K hb hv hK => mPure (hashVal ka) (exec_load _ _ _ _ rfl _ _ (hv 2 (by kernel_rfl) rfl) w (key_run (hvk4.on hb) Hka.out)) hK)))) ?_
    refine all_cons (.inr (.inl (mStep _ 21 rfl rfl rfl rfl (by kernel_rfl) (fun a hv => wanted_all rfl _) (fun a w K hb hv hK => mCall (hashVal ba) 13 _ _ rfl [hashVal ka] (cons_eq (hv 20 (by kernel_rfl) rfl) (rfl)) (enters Tryd.func13 rfl rfl) (CA.out w) hK)))) ?_
    refine all_cons (.inr (.inl (mStep _ 22 rfl rfl rfl rfl (by kernel_rfl) (fun a hv => wanted_all rfl _) (fun a w K hb hv hK => mCall (.tuple #[hashVal x, .nilIface]) 8 _ _ rfl [hashVal kb, hashVal ba] (cons_eq (hv 19 (by kernel_rfl) rfl) (cons_eq (hv 21 (by kernel_rfl) rfl) (rfl))) (enters Tryd.func8 rfl rfl) (CS2.out w (hE.below (below_then hBq hb))) hK)))) ?_
    refine all_cons (.inr (.inl (mStep _ 18 rfl rfl rfl rfl (by kernel_rfl) (fun a hv => wanted_all rfl _) (fun a w K hb hv hK => mPure (.tuple #[hashVal x, .nilIface]) (exec_move _ _ _ (.inl rfl) _ (hv 22 (by kernel_rfl) rfl) w) hK)))) ?_
    refine all_cons (.inr (.inl (mStep _ 23 rfl rfl rfl rfl (by kernel_rfl) (fun a hv => wanted_all rfl _) (fun a w K hb hv hK => mPure (hashVal x) (exec_extract _ _ _ _ rfl _ (hv 18 (by kernel_rfl) rfl) _ rfl w) hK)))) ?_
    refine all_cons (.inr (.inl (mStep _ 24 rfl rfl rfl rfl (by kernel_rfl) (fun a hv => wanted_all rfl _) (fun a w K hb hv hK => mPure (.nilIface) (exec_extract _ _ _ _ rfl _ (hv 18 (by kernel_rfl) rfl) _ rfl w) hK)))) ?_
    refine all_cons (.inl ⟨(7, 7), by simp, rfl⟩) ?_
    refine all_cons (.inr (.inr ⟨(7, 7), by simp, _, rfl⟩)) ?_
    refine all_cons (.inr (.inl (mStep _ 8 rfl rfl rfl rfl (by kernel_rfl) (fun a hv => wanted_all rfl _) (fun a w K hb hv hK => mPure (.nilIface) (exec_move _ _ _ (.inr rfl) _ (hv 24 (by kernel_rfl) rfl) w) hK)))) ?_
    exact all_nil
  intro w5 g hb5 hN5 hap5
  obtain ⟨hges, hvs5⟩ := hN5 (7, 7) (by simp)
  clear hN5 hap5
  have hB5 := below_then (show Below w.heap.size w w4.drew from hB4.drew) hb5
  have hltk : w.heap.size < w4.heap.size := hvk4.lt
  have hltu : gu < w4.heap.size := hvu4.lt
  have hltv : gv < w4.heap.size := hvv4.lt
  have hvk5 := hvk4.on hb5
  have hvu5 := hvu4.on hb5
  have hvv5 := hvv4.on hb5
  rw [show withNew g [(7, 7)] (leVs4_1 ka kb w.heap.size gu gv x bb ba) = leVs4_1N ka kb w.heap.size gu gv x bb ba (g 7) from rfl]
  replace hges : w4.heap.size ≤ g 7 := hges
  replace hvs5 : Cells w5 (g 7) (x.map cellOf) 23 := hvs5
  have hneks : w.heap.size ≠ g 7 := Nat.ne_of_lt (Nat.lt_of_lt_of_le hltk hges)
  have hneus : gu ≠ g 7 := Nat.ne_of_lt (Nat.lt_of_lt_of_le hltu hges)
  have hnevs : gv ≠ g 7 := Nat.ne_of_lt (Nat.lt_of_lt_of_le hltv hges)
  replace hges : w.heap.size ≤ g 7 := Nat.le_trans (show w.heap.size ≤ w4.heap.size from hB4.size) hges
  clear hltk hltu hltv
  generalize g 7 = gs at *
  clear hB4 hvk4 hvu4 hvv4 hb5 hBq
  refine ⟨by kernel_rfl, ?_⟩
  rename_i K hKK
  show Exit.then K _ Exit.normal (⟨(leVs4_1N ka kb w.heap.size gu gv x bb ba gs).toArray, []⟩ : Act) w5
  simp only [Exit.then]
  refine hKK _ _ ?_
  clear hKK K g
  simp only [leVs4_1N]
  go_upto_region 5 with fail
  refine wp_region_flat (md := .any) (by kernel_rfl) ?_
  refine wpAny_flatM (L := [0, 1, 2, 3, 4, 5, 6, 7, 8, 9, 10, 11]) (by kernel_rfl) _ _ (leVs5_2 ka kb w.heap.size gu gv gs x bb ba) [] 48 (nzeros 5) [0, 1, 2, 3, 5, 6, 7, 8, 9, 10, 11, 12, 13, 14, 15, 16, 17, 18, 19, 20, 21, 22, 23, 24] (by kernel_rfl) (by kernel_rfl) ?_ zero_elem ?_ (by rfl) ?_ 0 (by kernel_rfl) ?_
  · intro p hp
    exact absurd hp List.not_mem_nil
  · exact all_cons rfl (all_cons rfl (all_cons rfl (all_cons rfl (all_cons rfl (all_cons rfl (all_cons rfl (all_cons rfl (all_cons rfl (all_cons rfl (all_cons rfl (all_cons rfl (all_cons rfl (all_cons rfl (all_cons rfl (all_cons rfl (all_cons rfl (all_cons rfl (all_cons rfl (all_cons rfl (all_cons rfl (all_cons rfl (all_cons rfl (all_cons rfl (all_nil))))))))))))))))))))))))
  · refine all_cons (.inr (mStep _ 25 rfl rfl rfl rfl (by kernel_rfl) (fun a hv => wanted_all rfl _) (fun a w K hb hv hK => mPure (.nilIface) (exec_move _ _ _ (.inl rfl) _ (hv 6 (by kernel_rfl) rfl) w) hK))) ?_
    refine all_cons (.inr (mStep _ 26 rfl rfl rfl rfl (by kernel_rfl) (fun a hv => wanted_all rfl _) (fun a w K hb hv hK => mPure (.bool true) (exec_bin _ _ _ _ _ _ _ rfl (.nilIface) (.nilIface) _ (hv 25 (by kernel_rfl) rfl) (by rfl) w ((fun w => by kernel_rfl) w) ((fun w => by kernel_rfl) w)) hK))) ?_
    refine all_cons (.inr (mStep _ 27 rfl rfl rfl rfl (by kernel_rfl) (fun a hv => wanted_all rfl _) (fun a w K hb hv hK => mPure (.bool true) (exec_move _ _ _ (.inl rfl) _ (hv 26 (by kernel_rfl) rfl) w) hK))) ?_
    refine all_cons (.inr (mStep _ 28 rfl rfl rfl rfl (by kernel_rfl) (fun a hv => (wanted_is (j := 2) (b := true) (c := true) rfl rfl rfl (hv 27 (by kernel_rfl) rfl)).trans rfl) (fun a w K hb hv hK => mPure (.nilIface) (exec_move _ _ _ (.inl rfl) _ (hv 8 (by kernel_rfl) rfl) w) hK))) ?_
    refine all_cons (.inr (mStep _ 29 rfl rfl rfl rfl (by kernel_rfl) (fun a hv => (wanted_is (j := 2) (b := true) (c := true) rfl rfl rfl (hv 27 (by kernel_rfl) rfl)).trans rfl) (fun a w K hb hv hK => mPure (.bool true) (exec_bin _ _ _ _ _ _ _ rfl (.nilIface) (.nilIface) _ (hv 28 (by kernel_rfl) rfl) (by rfl) w ((fun w => by kernel_rfl) w) ((fun w => by kernel_rfl) w)) hK))) ?_
    refine all_cons (.inr (mStep _ 30 rfl rfl rfl rfl (by kernel_rfl) (fun a hv => wanted_all rfl _) (fun a w K hb hv hK => mPure (.bool true) (pick_true _ _ _ _ _ rfl (hv 27 (by kernel_rfl) rfl) (.bool true) (hv 29 (by kernel_rfl) rfl) w) hK))) ?_
    refine all_cons (.inr (mStep _ 31 rfl rfl rfl rfl (by kernel_rfl) (fun a hv => wanted_all rfl _) (fun a w K hb hv hK => mPure (.bool true) (exec_move _ _ _ (.inl rfl) _ (hv 30 (by kernel_rfl) rfl) w) hK))) ?_
    refine all_cons (.inr (mStep _ 32 rfl rfl rfl rfl (by kernel_rfl) (fun a hv => (wanted_is (j := 6) (b := true) (c := true) rfl rfl rfl (hv 31 (by kernel_rfl) rfl)).trans rfl) (fun a w K hb hv hK => mPure (hashVal x) (exec_load _ _ _ _ rfl _ _ (hv 5 (by kernel_rfl) rfl) w (key_run (hvv5.on hb) Hx.out)) hK))) ?_
    refine all_cons (.inr (mStep _ 33 rfl rfl rfl rfl (by kernel_rfl) (fun a hv => (wanted_is (j := 6) (b := true) (c := true) rfl rfl rfl (hv 31 (by kernel_rfl) rfl)).trans rfl) (fun a w K hb hv hK => mPure (hashVal x) (exec_load _ _ _ _ rfl _ _ (hv 7 (by kernel_rfl) rfl) w (key_run (hvs5.on hb) Hx.out)) hK))) ?_
    refine all_cons (.inr (mStep _ 34 rfl rfl rfl rfl (by kernel_rfl) (fun a hv => (wanted_is (j := 6) (b := true) (c := true) rfl rfl rfl (hv 31 (by kernel_rfl) rfl)).trans rfl) (fun a w K hb hv hK => mPure (.bool true) (exec_bin _ _ _ _ _ _ _ rfl (hashVal x) (hashVal x) _ (hv 32 (by kernel_rfl) rfl) (hv 33 (by kernel_rfl) rfl) w ((fun w => key_guard _ _ _ _ _ w) w) ((EQ) w)) hK))) ?_
    refine all_cons (.inr (mStep _ 35 rfl rfl rfl rfl (by kernel_rfl) (fun a hv => wanted_all rfl _) (fun a w K hb hv hK => mPure (.bool true) (pick_true _ _ _ _ _ rfl (hv 31 (by kernel_rfl) rfl) (.bool true) (hv 34 (by kernel_rfl) rfl) w) hK))) ?_
    refine all_cons (.inr (mStep _ 4 rfl rfl rfl rfl (by kernel_rfl) (fun a hv => wanted_all rfl _) (fun a w K hb hv hK => mPure (.bool true) (exec_move _ _ _ (.inr rfl) _ (hv 35 (by kernel_rfl) rfl) w) hK))) ?_
    exact all_nil
  intro w6 g hb6 hN6 hap6
  clear hN6 hap6
  have hB6 := below_then hB5 hb6
  have hvk6 := hvk5.on hb6
  have hvu6 := hvu5.on hb6
  have hvv6 := hvv5.on hb6
  have hvs6 := hvs5.on hb6
  clear hB5 hvk5 hvu5 hvv5 hvs5 hb6
  refine ⟨by kernel_rfl, ?_⟩
  rename_i K hKK
  show Exit.then K _ Exit.normal (⟨(leVs5_2 ka kb w.heap.size gu gv gs x bb ba).toArray, []⟩ : Act) w6
  simp only [Exit.then]
  refine hKK _ _ ?_
  clear hKK K g
  simp only [leVs5_2]
  go_wp2
  go_ret
  exact ⟨rfl, hB6⟩
end Go.Proofs.YtlhgabhjbnckkaaDoor
