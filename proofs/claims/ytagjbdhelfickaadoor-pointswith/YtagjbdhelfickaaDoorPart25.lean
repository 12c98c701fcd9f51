/- Part 25 of what the laws of this seat share: FStrict. -/
import Derived.Test.YtagjbdhelfickaaDoorPart24
namespace Go.Proofs.YtagjbdhelfickaaDoor
open Go.RowKit
theorem load_err {w : World} {g : Nat} {v : Value} (h : w.cell? ⟨g, 0, none⟩ = some v) : (Instr.loadAt 33 (.pointer (some ⟨g, 0, none⟩))).run Tryd.prog w = .ok v w := by
  go_simp
def strVs2 (kb : List UInt8) (g_base : Nat) (gz : Nat) (gx : Nat) (x : List Nat) (kx : List UInt8) (n : Bool) : List Value :=
  (hashVal kb) :: (.pointer (some ⟨g_base, 0, none⟩)) :: (.pointer (some ⟨gz, 0, none⟩)) :: (.nilIface) :: (.pointer (some ⟨gx, 0, none⟩)) :: (hashVal kb) :: (numVal x) :: (numVal x) :: (hashVal kx) :: (hashVal kb) :: (.bool n) :: undef :: undef :: undef :: []
set_option maxRecDepth 100000 in
set_option maxHeartbeats 1000000 in
theorem strict_over (kb kx : List UInt8) (x zz res : List Nat) (er err : Value) (n : Bool) (w : World)
    (Hkb : Hid (kb.length = 32))
    (Hx : Hid (x.length = 5))
    (Hzz : Hid (zz.length = 5))
    (CX : Hid (∀ W, Calls Tryd.prog 61 #[hashVal kb] W fun e w' => e = .returned (numVal x) ∧ Below W.heap.size W w'))
    (CB : Hid (∀ W, Calls Tryd.prog 44 #[numVal x] W fun e w' => e = .returned (hashVal kx) ∧ Below W.heap.size W w'))
    (EN : ∀ w, (binOp .neq 23 (hashVal kx) (hashVal kb)).run Tryd.prog w = .ok (.bool n) w)
    (BZ : ∀ w, (Instr.build 29 #[]).run Tryd.prog w = .ok (numVal zz) w)
    (H0 : Hid (n = false → res = x ∧ err = .nilIface))
    (H1 : Hid (n = true → res = zz ∧ err = er))
    (hE : w.cell? ⟨0, 0, none⟩ = some er) :
    Calls Tryd.prog 28 #[hashVal kb] w fun e w' => e = .returned (.tuple #[numVal res, err]) ∧ Below w.heap.size w w' := by
  go_enter Tryd.func28, Tryd.ntmps28
  go_wp2_with (first
    | (refine take_step rfl 23 (.tmp 0) rfl kb rfl ?_
       intro w1 hb1 hvk1 hz
       clear hz
       have hB1 := hb1
       have hgek : w.heap.size ≤ w.heap.size := Nat.le_refl _
       clear  hb1
       try simp only [Act.put, List.setIfInBounds_toArray, List.set_cons_zero, List.set_cons_succ]
       skip)
    | (refine vzero_step (o := ⟨some 2, _, _, _, _, _⟩) rfl 29 rfl (nzeros 5) zero_elem ?_
       intro w2 hb2 hvz2
       have hB2 := below_then hB1 hb2
       have hgez : w.heap.size ≤ w1.heap.size := hB1.size
       have hvk2 := hvk1.on hb2
       have hnekz := Nat.ne_of_lt hvk1.lt
       clear hB1 hvk1 hb2
       try simp only [Act.put, List.setIfInBounds_toArray, List.set_cons_zero, List.set_cons_succ]
       skip)
    | (refine get_step rfl 23 (.tmp 1) rfl w.heap.size 32 kb 5 rfl hvk2 Tryd.underlying23 size_k32 Hkb.out ?_
       try simp only [Act.put, List.setIfInBounds_toArray, List.set_cons_zero, List.set_cons_succ]
       skip))
  generalize hqz : w1.heap.size = gz at *
  clear hqz
  refine (CX.out w2).mono ?_
  rintro e w3 ⟨rfl, hb3⟩
  have hB3 := below_then hB2 hb3
  have hvk3 := hvk2.on hb3
  have hvz3 := hvz2.on hb3
  clear hB2 hvk2 hvz2 hb3
  go_wp2_with (first
    | (refine vput_step rfl rfl 29 (.tmp 4) (.tmp 6) rfl rfl 5 (nzeros 5) (x.map ncell) rfl rfl zero_elem rfl size_elem (by rw [List.length_map, Hx.out]) (ncells_one _) ?_
       intro w4 hb4 hvx4
       have hB4 := below_then hB3 hb4
       have hgex : w.heap.size ≤ w3.heap.size := hB3.size
       have hvk4 := hvk3.on hb4
       have hnekx := Nat.ne_of_lt hvk3.lt
       have hvz4 := hvz3.on hb4
       have hnezx := Nat.ne_of_lt hvz3.lt
       clear hB3 hvk3 hvz3 hb4
       try simp only [Act.put, List.setIfInBounds_toArray, List.set_cons_zero, List.set_cons_succ]
       skip))
  generalize hqx : w3.heap.size = gx at *
  clear hqx
  replace hvk4 := hvk4.drew
  replace hvz4 := hvz4.drew
  replace hvx4 := hvx4.drew
  refine wp_region_any (by kernel_rfl) ?_
  refine wpAny_flatM (L := [0, 1, 2, 3]) (by kernel_rfl) _ _ (strVs2 kb w.heap.size gz gx x kx n) [] 29 (nzeros 5) [0, 1, 2, 3, 4, 5, 6, 11, 12, 13] (by kernel_rfl) (by kernel_rfl) ?_ zero_elem ?_ (by rfl) ?_ 0 (by kernel_rfl) ?_
  · intro p hp
    exact absurd hp List.not_mem_nil
  · repeat refine all_cons rfl ?_
    exact all_nil
  · refine all_cons (.inr (mStep _ 7 rfl rfl rfl rfl (by kernel_rfl) (fun a hv => wanted_all rfl _) (fun a w K hb hv hK => mPure (numVal x) (exec_load _ _ _ _ rfl _ _ (hv 4 (by kernel_rfl) rfl) w (elem_run (hvx4.on hb) Hx.out)) hK))) ?_
    refine all_cons (.inr (mStep _ 8 rfl rfl rfl rfl (by kernel_rfl) (fun a hv => wanted_all rfl _) (fun a w K hb hv hK => mCall (hashVal kx) 44 _ _ rfl [numVal x] (cons_eq (hv 7 (by kernel_rfl) rfl) (rfl)) (enters Tryd.func44 rfl rfl) (CB.out w) hK))) ?_
    refine all_cons (.inr (mStep _ 9 rfl rfl rfl rfl (by kernel_rfl) (fun a hv => wanted_all rfl _) (fun a w K hb hv hK => mPure (hashVal kb) (exec_load _ _ _ _ rfl _ _ (hv 1 (by kernel_rfl) rfl) w (key_run (hvk4.on hb) Hkb.out)) hK))) ?_
    refine all_cons (.inr (mStep _ 10 rfl rfl rfl rfl (by kernel_rfl) (fun a hv => wanted_all rfl _) (fun a w K hb hv hK => mPure (.bool n) (exec_bin _ _ _ _ _ _ _ rfl (hashVal kx) (hashVal kb) _ (hv 8 (by kernel_rfl) rfl) (hv 9 (by kernel_rfl) rfl) w ((fun w => key_guard _ _ _ _ _ w) w) ((EN) w)) hK))) ?_
    exact all_nil
  intro w5 g hb5 hN5 hap5
  clear hN5 hap5
  have hB5 := below_then (show Below w.heap.size w w4.drew from hB4.drew) hb5
  have hvk5 := hvk4.on hb5
  have hvz5 := hvz4.on hb5
  have hvx5 := hvx4.on hb5
  clear hB4 hvk4 hvz4 hvx4 hb5
  refine ⟨by kernel_rfl, ?_⟩
  rename_i K hKK
  show Exit.then K _ Exit.normal (⟨(strVs2 kb w.heap.size gz gx x kx n).toArray, []⟩ : Act) w5
  simp only [Exit.then]
  refine hKK _ _ ?_
  clear hKK K g
  simp only [strVs2]
  cases n
  · obtain ⟨hr1, hr2⟩ := H0.out (by simp)
    go_wp2_with (first
      | (refine sget_step rfl 29 (.tmp 4) rfl gx 5 (x.map ncell) rfl hvx5 Tryd.underlying29 rfl size_elem (by rw [List.length_map, Hx.out]) ?_
         try simp only [Act.put, List.setIfInBounds_toArray, List.set_cons_zero, List.set_cons_succ]
         skip)
      | (refine vset_step rfl 29 (.tmp 2) (.tmp 13) rfl gz 5 (nzeros 5) (x.map ncell) rfl rfl hvz5 rfl size_elem (by rw [List.length_map, Hx.out]) (ncells_one _) ?_
         intro w6 hb6 hvz6 hz6
         have hB6 : Below w.heap.size w w6 := hB5.trans (hb6.below hgez hB5.size)
         have hvk6 := hvk5.but hb6 hnekz
         have hvx6 := hvx5.but hb6 (Ne.symm hnezx)
         clear hB5 hvz5 hb6 hz6 hvk5 hvx5
         skip))
    exact sret2 Tryd.results28 gz (x.map ncell) _ rfl rfl hvz6 Tryd.underlying29 rfl size_elem (by rw [List.length_map, Hx.out]) rfl ⟨by subst hr1; subst hr2; rfl, hB6⟩
  · obtain ⟨hr1, hr2⟩ := H1.out (by simp)
    go_wp2_with fail
    have hlt := block_lt_of_cell hE
    have d0 : w5.drew.cell? ⟨0, 0, none⟩ = some er := (hB5.cell hlt).trans hE
    have hne : 0 ≠ gz := Nat.ne_of_lt (Nat.lt_of_lt_of_le hlt hgez)
    have hzd := hvz5.drew
    have hBd : Below w.heap.size w w5.drew := hB5.drew
    have LE : ∀ w' : World, w'.cell? ⟨0, 0, none⟩ = some er → (Instr.loadAt 33 (.pointer (some ⟨0, 0, none⟩))).run Tryd.prog w' = .ok er w' := fun w' h => load_err h
    refine wp_region_any (by kernel_rfl) ?_
    show wpAny _ _ _ _ _ _ _ w5.drew
    simp only [List.size_toArray, List.length_cons, List.length_nil, Nat.reduceAdd, Array.replicate_succ, Array.replicate_zero, List.push_toArray, List.nil_append, List.cons_append]
    generalize w5.drew = wd at *
    refine wpAny_take (i := 0) (oi := ⟨some 11, _, _, _, _, _⟩) (v := numVal zz) rfl (by kernel_rfl) (by kernel_rfl) (by kernel_rfl) (fun _ _ _ h => h) (Or.inl ⟨by rfl, ?_⟩) ?_
    · intro w8
      simp [execOp, BZ w8]
    try simp only [Act.put, List.setIfInBounds_toArray, List.set_cons_zero, List.set_cons_succ]
    refine wpAny_all (rs := [1, 2]) (by kernel_rfl) (by decide) fun i hi => ?_
    rcases List.mem_cons.1 hi with rfl | hi
    · refine wpOp_step rfl fun K1 hK1 => ?_
      rw [if_pos (by rfl)]
      refine flat_pure er (exec_load _ _ _ _ rfl _ _ rfl _ (LE _ d0)) (hK1 _ _ ?_)
      try simp only [Act.put, List.setIfInBounds_toArray, List.set_cons_zero, List.set_cons_succ]
      refine wpAny_rest 2 rfl (by kernel_rfl) ?_
      refine vset_step rfl 29 (.tmp 2) (.tmp 11) rfl gz 5 (nzeros 5) (zz.map ncell) rfl rfl hzd rfl size_elem (by rw [List.length_map, Hzz.out]) (ncells_one _) ?_
      intro w9 hb9 hz9 hs9
      have hB9 : Below w.heap.size w w9 := hBd.trans (hb9.below hgez hBd.size)
      refine wpList_move rfl (.inr rfl) er (by rfl) ?_
      clear hK1
      go_wp2_with fail
      exact sret2 Tryd.results28 gz (zz.map ncell) _ rfl rfl hz9 Tryd.underlying29 rfl size_elem (by rw [List.length_map, Hzz.out]) rfl ⟨by subst hr1; subst hr2; rfl, hB9⟩
    rcases List.mem_cons.1 hi with rfl | hi
    · refine wpOp_step rfl fun K1 hK1 => ?_
      rw [if_pos (by rfl)]
      refine wp_store_mid 29 (.tmp 2) (.tmp 11) rfl gz 0 (zz.map ncell).toArray rfl rfl (by rw [List.size_toArray, List.length_map, Hzz.out]; exact hzd.there 0 5 (by decide)) (by rw [List.size_toArray, List.length_map, Hzz.out]; exact size_elem) (ncells_one _) (hK1 _ _ ?_)
      have hC2 := hzd.setCells (cs := zz.map ncell) (o := 0) (by rw [List.length_map, Hzz.out]; decide)
      rw [splice_all _ _ (by rw [List.length_map, Hzz.out]; rfl)] at hC2
      have hb9 : But gz wd (wd.setCells gz 0 (zz.map ncell)) := (But.refl _ _).setCells _ _
      have hB9 : Below w.heap.size w (wd.setCells gz 0 (zz.map ncell)) := hBd.trans (hb9.below hgez hBd.size)
      have d1 : (wd.setCells gz 0 (zz.map ncell)).cell? ⟨0, 0, none⟩ = some er := (World.cell?_of_block (hb9.block _ (block_lt_of_cell d0) hne)).trans d0
      change wpAny _ _ _ _ _ _ _ (wd.setCells gz 0 (zz.map ncell))
      have hz9 := hC2
      clear hC2 hb9 hK1
      generalize wd.setCells gz 0 (zz.map ncell) = w9 at *
      refine wpAny_all (rs := [1]) (by kernel_rfl) (by decide) fun i hi => ?_
      rcases List.mem_cons.1 hi with rfl | hi
      · refine wpOp_step rfl fun K1 hK1 => ?_
        rw [if_pos (by rfl)]
        refine flat_pure er (exec_load _ _ _ _ rfl _ _ rfl _ (LE _ d1)) (hK1 _ _ ?_)
        try simp only [Act.put, List.setIfInBounds_toArray, List.set_cons_zero, List.set_cons_succ]
        refine wpAny_rest 3 rfl (by kernel_rfl) ?_
        refine wpList_move rfl (.inr rfl) er (by rfl) ?_
        clear hK1
        go_wp2_with fail
        exact sret2 Tryd.results28 gz (zz.map ncell) _ rfl rfl hz9 Tryd.underlying29 rfl size_elem (by rw [List.length_map, Hzz.out]) rfl ⟨by subst hr1; subst hr2; rfl, hB9⟩
      exact absurd hi List.not_mem_nil
    exact absurd hi List.not_mem_nil
end Go.Proofs.YtagjbdhelfickaaDoor
