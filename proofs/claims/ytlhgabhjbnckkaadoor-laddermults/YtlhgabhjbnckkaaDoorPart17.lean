/- Part 17 of what the laws of this seat share: JPlus, JBit, XClamp. -/
import Derived.Deep.Cut
import Derived.Test.YtlhgabhjbnckkaaDoorPart16
namespace Go.Proofs.YtlhgabhjbnckkaaDoor
open Go.RowKit
def plusVs1 (p : List Nat) (q : List Nat) (ap : List Nat) (g_base : Nat) (gq : Nat) (gd : Nat) (gr : Nat) (px : List Nat) (pz : List Nat) (a1 : List Nat) (qx : List Nat) (qz : List Nat) (d1 : List Nat) (on : List Nat) : List Value :=
  (numVal p) :: (numVal q) :: (numVal ap) :: (.pointer (some ⟨g_base, 0, none⟩)) :: (.pointer (some ⟨gq, 0, none⟩)) :: (.pointer (some ⟨gd, 0, none⟩)) :: (.pointer (some ⟨gr, 0, none⟩)) :: undef :: undef :: (.pointer (some ⟨g_base, 0, none⟩)) :: (numVal px) :: (.pointer (some ⟨g_base, 5, none⟩)) :: (numVal pz) :: (numVal a1) :: (.pointer (some ⟨gq, 0, none⟩)) :: (numVal qx) :: (.pointer (some ⟨gq, 5, none⟩)) :: (numVal qz) :: (numVal d1) :: (numVal on) :: undef :: undef :: undef :: undef :: undef :: undef :: undef :: undef :: undef :: undef :: undef :: undef :: undef :: undef :: undef :: undef :: undef :: undef :: undef :: undef :: undef :: undef :: []
def plusVs1N (p : List Nat) (q : List Nat) (ap : List Nat) (g_base : Nat) (gq : Nat) (gd : Nat) (gr : Nat) (px : List Nat) (pz : List Nat) (a1 : List Nat) (qx : List Nat) (qz : List Nat) (d1 : List Nat) (on : List Nat) (n7 : Nat) : List Value :=
  (numVal p) :: (numVal q) :: (numVal ap) :: (.pointer (some ⟨g_base, 0, none⟩)) :: (.pointer (some ⟨gq, 0, none⟩)) :: (.pointer (some ⟨gd, 0, none⟩)) :: (.pointer (some ⟨gr, 0, none⟩)) :: (.pointer (some ⟨n7, 0, none⟩)) :: undef :: (.pointer (some ⟨g_base, 0, none⟩)) :: (numVal px) :: (.pointer (some ⟨g_base, 5, none⟩)) :: (numVal pz) :: (numVal a1) :: (.pointer (some ⟨gq, 0, none⟩)) :: (numVal qx) :: (.pointer (some ⟨gq, 5, none⟩)) :: (numVal qz) :: (numVal d1) :: (numVal on) :: undef :: undef :: undef :: undef :: undef :: undef :: undef :: undef :: undef :: undef :: undef :: undef :: undef :: undef :: undef :: undef :: undef :: undef :: undef :: undef :: undef :: undef :: []
def plusVs2_1 (p : List Nat) (q : List Nat) (ap : List Nat) (g_base : Nat) (gq : Nat) (gd : Nat) (gr : Nat) (go : Nat) (px : List Nat) (pz : List Nat) (a1 : List Nat) (qx : List Nat) (qz : List Nat) (d1 : List Nat) (on : List Nat) (d2 : List Nat) (a2 : List Nat) (ot : List Nat) : List Value :=
  (numVal p) :: (numVal q) :: (numVal ap) :: (.pointer (some ⟨g_base, 0, none⟩)) :: (.pointer (some ⟨gq, 0, none⟩)) :: (.pointer (some ⟨gd, 0, none⟩)) :: (.pointer (some ⟨gr, 0, none⟩)) :: (.pointer (some ⟨go, 0, none⟩)) :: undef :: (.pointer (some ⟨g_base, 0, none⟩)) :: (numVal px) :: (.pointer (some ⟨g_base, 5, none⟩)) :: (numVal pz) :: (numVal a1) :: (.pointer (some ⟨gq, 0, none⟩)) :: (numVal qx) :: (.pointer (some ⟨gq, 5, none⟩)) :: (numVal qz) :: (numVal d1) :: (numVal on) :: (.pointer (some ⟨g_base, 0, none⟩)) :: (numVal px) :: (.pointer (some ⟨g_base, 5, none⟩)) :: (numVal pz) :: (numVal d2) :: (.pointer (some ⟨gq, 0, none⟩)) :: (numVal qx) :: (.pointer (some ⟨gq, 5, none⟩)) :: (numVal qz) :: (numVal a2) :: (numVal ot) :: undef :: undef :: undef :: undef :: undef :: undef :: undef :: undef :: undef :: undef :: undef :: []
def plusVs2_1N (p : List Nat) (q : List Nat) (ap : List Nat) (g_base : Nat) (gq : Nat) (gd : Nat) (gr : Nat) (go : Nat) (px : List Nat) (pz : List Nat) (a1 : List Nat) (qx : List Nat) (qz : List Nat) (d1 : List Nat) (on : List Nat) (d2 : List Nat) (a2 : List Nat) (ot : List Nat) (n8 : Nat) : List Value :=
  (numVal p) :: (numVal q) :: (numVal ap) :: (.pointer (some ⟨g_base, 0, none⟩)) :: (.pointer (some ⟨gq, 0, none⟩)) :: (.pointer (some ⟨gd, 0, none⟩)) :: (.pointer (some ⟨gr, 0, none⟩)) :: (.pointer (some ⟨go, 0, none⟩)) :: (.pointer (some ⟨n8, 0, none⟩)) :: (.pointer (some ⟨g_base, 0, none⟩)) :: (numVal px) :: (.pointer (some ⟨g_base, 5, none⟩)) :: (numVal pz) :: (numVal a1) :: (.pointer (some ⟨gq, 0, none⟩)) :: (numVal qx) :: (.pointer (some ⟨gq, 5, none⟩)) :: (numVal qz) :: (numVal d1) :: (numVal on) :: (.pointer (some ⟨g_base, 0, none⟩)) :: (numVal px) :: (.pointer (some ⟨g_base, 5, none⟩)) :: (numVal pz) :: (numVal d2) :: (.pointer (some ⟨gq, 0, none⟩)) :: (numVal qx) :: (.pointer (some ⟨gq, 5, none⟩)) :: (numVal qz) :: (numVal a2) :: (numVal ot) :: undef :: undef :: undef :: undef :: undef :: undef :: undef :: undef :: undef :: undef :: undef :: []
def plusVs3_2 (p : List Nat) (q : List Nat) (ap : List Nat) (g_base : Nat) (gq : Nat) (gd : Nat) (gr : Nat) (go : Nat) (gt : Nat) (px : List Nat) (pz : List Nat) (a1 : List Nat) (qx : List Nat) (qz : List Nat) (d1 : List Nat) (on : List Nat) (d2 : List Nat) (a2 : List Nat) (ot : List Nat) (s1 : List Nat) (s2 : List Nat) (f1 : List Nat) (f2 : List Nat) (nz : List Nat) (r : List Nat) : List Value :=
  (numVal p) :: (numVal q) :: (numVal ap) :: (.pointer (some ⟨g_base, 0, none⟩)) :: (.pointer (some ⟨gq, 0, none⟩)) :: (.pointer (some ⟨gd, 0, none⟩)) :: (.pointer (some ⟨gr, 0, none⟩)) :: (.pointer (some ⟨go, 0, none⟩)) :: (.pointer (some ⟨gt, 0, none⟩)) :: (.pointer (some ⟨g_base, 0, none⟩)) :: (numVal px) :: (.pointer (some ⟨g_base, 5, none⟩)) :: (numVal pz) :: (numVal a1) :: (.pointer (some ⟨gq, 0, none⟩)) :: (numVal qx) :: (.pointer (some ⟨gq, 5, none⟩)) :: (numVal qz) :: (numVal d1) :: (numVal on) :: (.pointer (some ⟨g_base, 0, none⟩)) :: (numVal px) :: (.pointer (some ⟨g_base, 5, none⟩)) :: (numVal pz) :: (numVal d2) :: (.pointer (some ⟨gq, 0, none⟩)) :: (numVal qx) :: (.pointer (some ⟨gq, 5, none⟩)) :: (numVal qz) :: (numVal a2) :: (numVal ot) :: (numVal on) :: (numVal ot) :: (numVal s1) :: (numVal s2) :: (numVal on) :: (numVal ot) :: (numVal f1) :: (numVal f2) :: (numVal ap) :: (numVal nz) :: (numVal r) :: []
set_option maxRecDepth 100000 in
set_option maxHeartbeats 1000000 in
theorem plusPt_over (p px pz q qx qz ap a1 d1 on d2 a2 ot s1 s2 f1 f2 nz r : List Nat) (w : World)
    (Hpx : Hid (px.length = 5))
    (Hpz : Hid (pz.length = 5))
    (Hqx : Hid (qx.length = 5))
    (Hqz : Hid (qz.length = 5))
    (Hap : Hid (ap.length = 5))
    (Hon : Hid (on.length = 5))
    (Hot : Hid (ot.length = 5))
    (Hr : Hid (r.length = 10))
    (Fp : Hid (p = px ++ pz))
    (Fq : Hid (q = qx ++ qz))
    (C1 : Hid (∀ W, Calls Tryd.prog 38 #[numVal px, numVal pz] W fun e w' => e = .returned (numVal a1) ∧ Below W.heap.size W w'))
    (C2 : Hid (∀ W, Calls Tryd.prog 40 #[numVal qx, numVal qz] W fun e w' => e = .returned (numVal d1) ∧ Below W.heap.size W w'))
    (C3 : Hid (∀ W, Calls Tryd.prog 39 #[numVal a1, numVal d1] W fun e w' => e = .returned (numVal on) ∧ Below W.heap.size W w'))
    (C4 : Hid (∀ W, Calls Tryd.prog 40 #[numVal px, numVal pz] W fun e w' => e = .returned (numVal d2) ∧ Below W.heap.size W w'))
    (C5 : Hid (∀ W, Calls Tryd.prog 38 #[numVal qx, numVal qz] W fun e w' => e = .returned (numVal a2) ∧ Below W.heap.size W w'))
    (C6 : Hid (∀ W, Calls Tryd.prog 39 #[numVal d2, numVal a2] W fun e w' => e = .returned (numVal ot) ∧ Below W.heap.size W w'))
    (C7 : Hid (∀ W, Calls Tryd.prog 38 #[numVal on, numVal ot] W fun e w' => e = .returned (numVal s1) ∧ Below W.heap.size W w'))
    (C8 : Hid (∀ W, Calls Tryd.prog 41 #[numVal s1] W fun e w' => e = .returned (numVal s2) ∧ Below W.heap.size W w'))
    (C9 : Hid (∀ W, Calls Tryd.prog 40 #[numVal on, numVal ot] W fun e w' => e = .returned (numVal f1) ∧ Below W.heap.size W w'))
    (C10 : Hid (∀ W, Calls Tryd.prog 41 #[numVal f1] W fun e w' => e = .returned (numVal f2) ∧ Below W.heap.size W w'))
    (C11 : Hid (∀ W, Calls Tryd.prog 39 #[numVal f2, numVal ap] W fun e w' => e = .returned (numVal nz) ∧ Below W.heap.size W w'))
    (BR : ∀ w, (Instr.build 51 #[(0, numVal s2), (1, numVal nz)]).run Tryd.prog w = .ok (numVal r) w) :
    Calls Tryd.prog 24 #[numVal p, numVal q, numVal ap] w fun e w' => e = .returned (numVal r) ∧ Below w.heap.size w w' := by
  go_enter Tryd.func24, Tryd.ntmps24
  go_wp2_with (first
    | (refine vtake_step rfl 51 (.tmp 0) rfl (p.map ncell) rfl ?_
       intro w1 hb1 hvp1
       have hB1 := hb1
       have hgep : w.heap.size ≤ w.heap.size := Nat.le_refl _
       clear  hb1
       try simp only [Act.put, List.setIfInBounds_toArray, List.set_cons_zero, List.set_cons_succ]
       skip)
    | (refine vtake_step rfl 51 (.tmp 1) rfl (q.map ncell) rfl ?_
       intro w2 hb2 hvq2
       have hB2 := below_then hB1 hb2
       have hgeq : w.heap.size ≤ w1.heap.size := hB1.size
       have hvp2 := hvp1.on hb2
       have hnepq := Nat.ne_of_lt hvp1.lt
       clear hB1 hvp1 hb2
       try simp only [Act.put, List.setIfInBounds_toArray, List.set_cons_zero, List.set_cons_succ]
       skip)
    | (refine vtake_step rfl 48 (.tmp 2) rfl (ap.map ncell) rfl ?_
       intro w3 hb3 hvd3
       have hB3 := below_then hB2 hb3
       have hged : w.heap.size ≤ w2.heap.size := hB2.size
       have hvp3 := hvp2.on hb3
       have hnepd := Nat.ne_of_lt hvp2.lt
       have hvq3 := hvq2.on hb3
       have hneqd := Nat.ne_of_lt hvq2.lt
       clear hB2 hvp2 hvq2 hb3
       try simp only [Act.put, List.setIfInBounds_toArray, List.set_cons_zero, List.set_cons_succ]
       skip)
    | (refine vzero_step (o := ⟨some 6, _, _, _, _, _⟩) rfl 51 rfl (nzeros 10) zero_pt ?_
       intro w4 hb4 hvr4
       have hB4 := below_then hB3 hb4
       have hger : w.heap.size ≤ w3.heap.size := hB3.size
       have hvp4 := hvp3.on hb4
       have hnepr := Nat.ne_of_lt hvp3.lt
       have hvq4 := hvq3.on hb4
       have hneqr := Nat.ne_of_lt hvq3.lt
       have hvd4 := hvd3.on hb4
       have hnedr := Nat.ne_of_lt hvd3.lt
       clear hB3 hvp3 hvq3 hvd3 hb4
       try simp only [Act.put, List.setIfInBounds_toArray, List.set_cons_zero, List.set_cons_succ]
       skip))
  generalize hqq : w1.heap.size = gq at *
  clear hqq
  generalize hqd : w2.heap.size = gd at *
  clear hqd
  generalize hqr : w3.heap.size = gr at *
  clear hqr
  replace hvp4 := hvp4.drew
  replace hvq4 := hvq4.drew
  replace hvd4 := hvd4.drew
  replace hvr4 := hvr4.drew
  refine wp_region_any (by kernel_rfl) ?_
  refine wpAny_flatM (L := [0, 1, 2, 3, 4, 5, 6, 7, 8, 9, 10, 11]) (by kernel_rfl) _ _ (plusVs1 p q ap w.heap.size gq gd gr px pz a1 qx qz d1 on) [(11, 7)] 48 (nzeros 5) [0, 1, 2, 3, 4, 5, 6, 8, 20, 21, 22, 23, 24, 25, 26, 27, 28, 29, 30, 31, 32, 33, 34, 35, 36, 37, 38, 39, 40, 41] (by kernel_rfl) (by kernel_rfl) ?_ zero_elem ?_ (by rfl) ?_ 1 (by kernel_rfl) ?_
  · intro p hp
    rcases List.mem_cons.1 hp with rfl | hp
    · exact ⟨⟨_, rfl, rfl, rfl, rfl, by kernel_rfl, by kernel_rfl⟩⟩
    exact absurd hp List.not_mem_nil
  · exact all_cons rfl (all_cons rfl (all_cons rfl (all_cons rfl (all_cons rfl (all_cons rfl (all_cons rfl (all_cons rfl (all_cons rfl (all_cons rfl (all_cons rfl (all_cons rfl (all_cons rfl (all_cons rfl (all_cons rfl (all_cons rfl (all_cons rfl (all_cons rfl (all_cons rfl (all_cons rfl (all_cons rfl (all_cons rfl (all_cons rfl (all_cons rfl (all_cons rfl (all_cons rfl (all_cons rfl (all_cons rfl (all_cons rfl (all_cons rfl (all_nil))))))))))))))))))))))))))))))
  · refine all_cons (.inr (mStep _ 9 rfl rfl rfl rfl (by kernel_rfl) (fun a hv => wanted_all rfl _) (fun a w K hb hv hK => mPure _ (exec_field _ _ _ _ 0 rfl _ _ (hv 3 (by kernel_rfl) rfl) w (field_x _ w)) hK))) ?_
    refine all_cons (.inr (mStep _ 10 rfl rfl rfl rfl (by kernel_rfl) (fun a hv => wanted_all rfl _) (fun a w K hb hv hK => mPure (numVal px) (exec_load _ _ _ _ rfl _ _ (hv 9 (by kernel_rfl) rfl) w (load_x (hvp4.on hb) Fp.out Hpx.out)) hK))) ?_
    refine all_cons (.inr (mStep _ 11 rfl rfl rfl rfl (by kernel_rfl) (fun a hv => wanted_all rfl _) (fun a w K hb hv hK => mPure _ (exec_field _ _ _ _ 1 rfl _ _ (hv 3 (by kernel_rfl) rfl) w (field_z _ w)) hK))) ?_
    refine all_cons (.inr (mStep _ 12 rfl rfl rfl rfl (by kernel_rfl) (fun a hv => wanted_all rfl _) (fun a w K hb hv hK => mPure (numVal pz) (exec_load _ _ _ _ rfl _ _ (hv 11 (by kernel_rfl) rfl) w (load_z (hvp4.on hb) Fp.out Hpx.out Hpz.out)) hK))) ?_
    refine all_cons (.inr (mStep _ 13 rfl rfl rfl rfl (by kernel_rfl) (fun a hv => wanted_all rfl _) (fun a w K hb hv hK => mCall (numVal a1) 38 _ _ rfl [numVal px, numVal pz] (cons_eq (hv 10 (by kernel_rfl) rfl) (cons_eq (hv 12 (by kernel_rfl) rfl) (rfl))) (enters Tryd.func38 rfl rfl) (C1.out w) hK))) ?_
    refine all_cons (.inr (mStep _ 14 rfl rfl rfl rfl (by kernel_rfl) (fun a hv => wanted_all rfl _) (fun a w K hb hv hK => mPure _ (exec_field _ _ _ _ 0 rfl _ _ (hv 4 (by kernel_rfl) rfl) w (field_x _ w)) hK))) ?_
    refine all_cons (.inr (mStep _ 15 rfl rfl rfl rfl (by kernel_rfl) (fun a hv => wanted_all rfl _) (fun a w K hb hv hK => mPure (numVal qx) (exec_load _ _ _ _ rfl _ _ (hv 14 (by kernel_rfl) rfl) w (load_x (hvq4.on hb) Fq.out Hqx.out)) hK))) ?_
    refine all_cons (.inr (mStep _ 16 rfl rfl rfl rfl (by kernel_rfl) (fun a hv => wanted_all rfl _) (fun a w K hb hv hK => mPure _ (exec_field _ _ _ _ 1 rfl _ _ (hv 4 (by kernel_rfl) rfl) w (field_z _ w)) hK))) ?_
    refine all_cons (.inr (mStep _ 17 rfl rfl rfl rfl (by kernel_rfl) (fun a hv => wanted_all rfl _) (fun a w K hb hv hK => mPure (numVal qz) (exec_load _ _ _ _ rfl _ _ (hv 16 (by kernel_rfl) rfl) w (load_z (hvq4.on hb) Fq.out Hqx.out Hqz.out)) hK))) ?_
    refine all_cons (.inr (mStep _ 18 rfl rfl rfl rfl (by kernel_rfl) (fun a hv => wanted_all rfl _) (fun a w K hb hv hK => mCall (numVal d1) 40 _ _ rfl [numVal qx, numVal qz] (cons_eq (hv 15 (by kernel_rfl) rfl) (cons_eq (hv 17 (by kernel_rfl) rfl) (rfl))) (enters Tryd.func40 rfl rfl) (C2.out w) hK))) ?_
    refine all_cons (.inr (mStep _ 19 rfl rfl rfl rfl (by kernel_rfl) (fun a hv => wanted_all rfl _) (fun a w K hb hv hK => mCall (numVal on) 39 _ _ rfl [numVal a1, numVal d1] (cons_eq (hv 13 (by kernel_rfl) rfl) (cons_eq (hv 18 (by kernel_rfl) rfl) (rfl))) (enters Tryd.func39 rfl rfl) (C3.out w) hK))) ?_
    refine all_cons (.inl ⟨(11, 7), by simp, rfl⟩) ?_
    exact all_nil
  intro w5 g hb5 hN5 hap5
  obtain ⟨hgeo, hvo5⟩ := hN5 (11, 7) (by simp)
  clear hN5 hap5
  have hB5 := below_then (show Below w.heap.size w w4.drew from hB4.drew) hb5
  have hltp : w.heap.size < w4.heap.size := hvp4.lt
  have hltq : gq < w4.heap.size := hvq4.lt
  have hltd : gd < w4.heap.size := hvd4.lt
  have hltr : gr < w4.heap.size := hvr4.lt
  have hvp5 := hvp4.on hb5
  have hvq5 := hvq4.on hb5
  have hvd5 := hvd4.on hb5
  have hvr5 := hvr4.on hb5
  rw [show withNew g [(11, 7)] (plusVs1 p q ap w.heap.size gq gd gr px pz a1 qx qz d1 on) = plusVs1N p q ap w.heap.size gq gd gr px pz a1 qx qz d1 on (g 7) from rfl]
  replace hgeo : w4.heap.size ≤ g 7 := hgeo
  replace hvo5 : Cells w5 (g 7) (nzeros 5) 48 := hvo5
  have hnepo : w.heap.size ≠ g 7 := Nat.ne_of_lt (Nat.lt_of_lt_of_le hltp hgeo)
  have hneqo : gq ≠ g 7 := Nat.ne_of_lt (Nat.lt_of_lt_of_le hltq hgeo)
  have hnedo : gd ≠ g 7 := Nat.ne_of_lt (Nat.lt_of_lt_of_le hltd hgeo)
  have hnero : gr ≠ g 7 := Nat.ne_of_lt (Nat.lt_of_lt_of_le hltr hgeo)
  replace hgeo : w.heap.size ≤ g 7 := Nat.le_trans (show w.heap.size ≤ w4.heap.size from hB4.size) hgeo
  clear hltp hltq hltd hltr
  generalize g 7 = go at *
  clear hB4 hvp4 hvq4 hvd4 hvr4 hb5
  refine wpAny_rest 12 rfl (by kernel_rfl) ?_
  refine vset_step rfl 48 (.tmp 7) (.tmp 19) rfl go 5 (nzeros 5) (on.map ncell) rfl rfl hvo5 rfl size_elem (by rw [List.length_map, Hon.out]) (ncells_one _) ?_
  intro w6 hb6 hvo6 hz6
  have hB6 : Below w.heap.size w w6 := hB5.trans (hb6.below hgeo hB5.size)
  have hvp6 := hvp5.but hb6 hnepo
  have hvq6 := hvq5.but hb6 hneqo
  have hvd6 := hvd5.but hb6 hnedo
  have hvr6 := hvr5.but hb6 hnero
  clear hB5 hvo5 hb6 hz6 hvp5 hvq5 hvd5 hvr5
  rename_i K hKK
  show Exit.then K _ Exit.normal (⟨(plusVs1N p q ap w.heap.size gq gd gr px pz a1 qx qz d1 on go).toArray, []⟩ : Act) w6
  simp only [Exit.then]
  refine hKK _ _ ?_
  clear hKK K g
  simp only [plusVs1N]
  go_wp2_with fail
  replace hvp6 := hvp6.drew
  replace hvq6 := hvq6.drew
  replace hvd6 := hvd6.drew
  replace hvr6 := hvr6.drew
  replace hvo6 := hvo6.drew
  refine wp_region_any (by kernel_rfl) ?_
  refine wpAny_flatM (L := [0, 1, 2, 3, 4, 5, 6, 7, 8, 9, 10, 11]) (by kernel_rfl) _ _ (plusVs2_1 p q ap w.heap.size gq gd gr go px pz a1 qx qz d1 on d2 a2 ot) [(11, 8)] 48 (nzeros 5) [0, 1, 2, 3, 4, 5, 6, 7, 9, 10, 11, 12, 13, 14, 15, 16, 17, 18, 19, 31, 32, 33, 34, 35, 36, 37, 38, 39, 40, 41] (by kernel_rfl) (by kernel_rfl) ?_ zero_elem ?_ (by rfl) ?_ 1 (by kernel_rfl) ?_
  · intro p hp
    rcases List.mem_cons.1 hp with rfl | hp
    · exact ⟨⟨_, rfl, rfl, rfl, rfl, by kernel_rfl, by kernel_rfl⟩⟩
    exact absurd hp List.not_mem_nil
  · exact all_cons rfl (all_cons rfl (all_cons rfl (all_cons rfl (all_cons rfl (all_cons rfl (all_cons rfl (all_cons rfl (all_cons rfl (all_cons rfl (all_cons rfl (all_cons rfl (all_cons rfl (all_cons rfl (all_cons rfl (all_cons rfl (all_cons rfl (all_cons rfl (all_cons rfl (all_cons rfl (all_cons rfl (all_cons rfl (all_cons rfl (all_cons rfl (all_cons rfl (all_cons rfl (all_cons rfl (all_cons rfl (all_cons rfl (all_cons rfl (all_nil))))))))))))))))))))))))))))))
  · refine all_cons (.inr (mStep _ 20 rfl rfl rfl rfl (by kernel_rfl) (fun a hv => wanted_all rfl _) (fun a w K hb hv hK => mPure _ (exec_field _ _ _ _ 0 rfl _ _ (hv 3 (by kernel_rfl) rfl) w (field_x _ w)) hK))) ?_
    refine all_cons (.inr (mStep _ 21 rfl rfl rfl rfl (by kernel_rfl) (fun a hv => wanted_all rfl _) (fun a w K hb hv hK => mPure (numVal px) (exec_load _ _ _ _ rfl _ _ (hv 20 (by kernel_rfl) rfl) w (load_x (hvp6.on hb) Fp.out Hpx.out)) hK))) ?_
    refine all_cons (.inr (mStep _ 22 rfl rfl rfl rfl (by kernel_rfl) (fun a hv => wanted_all rfl _) (fun a w K hb hv hK => mPure _ (exec_field _ _ _ _ 1 rfl _ _ (hv 3 (by kernel_rfl) rfl) w (field_z _ w)) hK))) ?_
    refine all_cons (.inr (mStep _ 23 rfl rfl rfl rfl (by kernel_rfl) (fun a hv => wanted_all rfl _) (fun a w K hb hv hK => mPure (numVal pz) (exec_load _ _ _ _ rfl _ _ (hv 22 (by kernel_rfl) rfl) w (load_z (hvp6.on hb) Fp.out Hpx.out Hpz.out)) hK))) ?_
    refine all_cons (.inr (mStep _ 24 rfl rfl rfl rfl (by kernel_rfl) (fun a hv => wanted_all rfl _) (fun a w K hb hv hK => mCall (numVal d2) 40 _ _ rfl [numVal px, numVal pz] (cons_eq (hv 21 (by kernel_rfl) rfl) (cons_eq (hv 23 (by kernel_rfl) rfl) (rfl))) (enters Tryd.func40 rfl rfl) (C4.out w) hK))) ?_
    refine all_cons (.inr (mStep _ 25 rfl rfl rfl rfl (by kernel_rfl) (fun a hv => wanted_all rfl _) (fun a w K hb hv hK => mPure _ (exec_field _ _ _ _ 0 rfl _ _ (hv 4 (by kernel_rfl) rfl) w (field_x _ w)) hK))) ?_
    refine all_cons (.inr (mStep _ 26 rfl rfl rfl rfl (by kernel_rfl) (fun a hv => wanted_all rfl _) (fun a w K hb hv hK => mPure (numVal qx) (exec_load _ _ _ _ rfl _ _ (hv 25 (by kernel_rfl) rfl) w (load_x (hvq6.on hb) Fq.out Hqx.out)) hK))) ?_
    refine all_cons (.inr (mStep _ 27 rfl rfl rfl rfl (by kernel_rfl) (fun a hv => wanted_all rfl _) (fun a w K hb hv hK => mPure _ (exec_field _ _ _ _ 1 rfl _ _ (hv 4 (by kernel_rfl) rfl) w (field_z _ w)) hK))) ?_
    refine all_cons (.inr (mStep _ 28 rfl rfl rfl rfl (by kernel_rfl) (fun a hv => wanted_all rfl _) (fun a w K hb hv hK => mPure (numVal qz) (exec_load _ _ _ _ rfl _ _ (hv 27 (by kernel_rfl) rfl) w (load_z (hvq6.on hb) Fq.out Hqx.out Hqz.out)) hK))) ?_
    refine all_cons (.inr (mStep _ 29 rfl rfl rfl rfl (by kernel_rfl) (fun a hv => wanted_all rfl _) (fun a w K hb hv hK => mCall (numVal a2) 38 _ _ rfl [numVal qx, numVal qz] (cons_eq (hv 26 (by kernel_rfl) rfl) (cons_eq (hv 28 (by kernel_rfl) rfl) (rfl))) (enters Tryd.func38 rfl rfl) (C5.out w) hK))) ?_
    refine all_cons (.inr (mStep _ 30 rfl rfl rfl rfl (by kernel_rfl) (fun a hv => wanted_all rfl _) (fun a w K hb hv hK => mCall (numVal ot) 39 _ _ rfl [numVal d2, numVal a2] (cons_eq (hv 24 (by kernel_rfl) rfl) (cons_eq (hv 29 (by kernel_rfl) rfl) (rfl))) (enters Tryd.func39 rfl rfl) (C6.out w) hK))) ?_
    refine all_cons (.inl ⟨(11, 8), by simp, rfl⟩) ?_
    exact all_nil
  intro w7 g hb7 hN7 hap7
  obtain ⟨hget, hvt7⟩ := hN7 (11, 8) (by simp)
  clear hN7 hap7
  have hB7 := below_then (show Below w.heap.size w w6.drew from hB6.drew) hb7
  have hltp : w.heap.size < w6.heap.size := hvp6.lt
  have hltq : gq < w6.heap.size := hvq6.lt
  have hltd : gd < w6.heap.size := hvd6.lt
  have hltr : gr < w6.heap.size := hvr6.lt
  have hlto : go < w6.heap.size := hvo6.lt
  have hvp7 := hvp6.on hb7
  have hvq7 := hvq6.on hb7
  have hvd7 := hvd6.on hb7
  have hvr7 := hvr6.on hb7
  have hvo7 := hvo6.on hb7
  rw [show withNew g [(11, 8)] (plusVs2_1 p q ap w.heap.size gq gd gr go px pz a1 qx qz d1 on d2 a2 ot) = plusVs2_1N p q ap w.heap.size gq gd gr go px pz a1 qx qz d1 on d2 a2 ot (g 8) from rfl]
  replace hget : w6.heap.size ≤ g 8 := hget
  replace hvt7 : Cells w7 (g 8) (nzeros 5) 48 := hvt7
  have hnept : w.heap.size ≠ g 8 := Nat.ne_of_lt (Nat.lt_of_lt_of_le hltp hget)
  have hneqt : gq ≠ g 8 := Nat.ne_of_lt (Nat.lt_of_lt_of_le hltq hget)
  have hnedt : gd ≠ g 8 := Nat.ne_of_lt (Nat.lt_of_lt_of_le hltd hget)
  have hnert : gr ≠ g 8 := Nat.ne_of_lt (Nat.lt_of_lt_of_le hltr hget)
  have hneot : go ≠ g 8 := Nat.ne_of_lt (Nat.lt_of_lt_of_le hlto hget)
  replace hget : w.heap.size ≤ g 8 := Nat.le_trans (show w.heap.size ≤ w6.heap.size from hB6.size) hget
  clear hltp hltq hltd hltr hlto
  generalize g 8 = gt at *
  clear hB6 hvp6 hvq6 hvd6 hvr6 hvo6 hb7
  refine wpAny_rest 12 rfl (by kernel_rfl) ?_
  refine vset_step rfl 48 (.tmp 8) (.tmp 30) rfl gt 5 (nzeros 5) (ot.map ncell) rfl rfl hvt7 rfl size_elem (by rw [List.length_map, Hot.out]) (ncells_one _) ?_
  intro w8 hb8 hvt8 hz8
  have hB8 : Below w.heap.size w w8 := hB7.trans (hb8.below hget hB7.size)
  have hvp8 := hvp7.but hb8 hnept
  have hvq8 := hvq7.but hb8 hneqt
  have hvd8 := hvd7.but hb8 hnedt
  have hvr8 := hvr7.but hb8 hnert
  have hvo8 := hvo7.but hb8 hneot
  clear hB7 hvt7 hb8 hz8 hvp7 hvq7 hvd7 hvr7 hvo7
  rename_i K hKK
  show Exit.then K _ Exit.normal (⟨(plusVs2_1N p q ap w.heap.size gq gd gr go px pz a1 qx qz d1 on d2 a2 ot gt).toArray, []⟩ : Act) w8
  simp only [Exit.then]
  refine hKK _ _ ?_
  clear hKK K g
  simp only [plusVs2_1N]
  go_wp2_with fail
  replace hvp8 := hvp8.drew
  replace hvq8 := hvq8.drew
  replace hvd8 := hvd8.drew
  replace hvr8 := hvr8.drew
  replace hvo8 := hvo8.drew
  replace hvt8 := hvt8.drew
  refine wp_region_any (by kernel_rfl) ?_
  refine wpAny_flatM (L := [0, 1, 2, 3, 4, 5, 6, 7, 8, 9, 10]) (by kernel_rfl) _ _ (plusVs3_2 p q ap w.heap.size gq gd gr go gt px pz a1 qx qz d1 on d2 a2 ot s1 s2 f1 f2 nz r) [] 48 (nzeros 5) [0, 1, 2, 3, 4, 5, 6, 7, 8, 9, 10, 11, 12, 13, 14, 15, 16, 17, 18, 19, 20, 21, 22, 23, 24, 25, 26, 27, 28, 29, 30] (by kernel_rfl) (by kernel_rfl) ?_ zero_elem ?_ (by rfl) ?_ 1 (by kernel_rfl) ?_
  · intro p hp
    exact absurd hp List.not_mem_nil
  · exact all_cons rfl (all_cons rfl (all_cons rfl (all_cons rfl (all_cons rfl (all_cons rfl (all_cons rfl (all_cons rfl (all_cons rfl (all_cons rfl (all_cons rfl (all_cons rfl (all_cons rfl (all_cons rfl (all_cons rfl (all_cons rfl (all_cons rfl (all_cons rfl (all_cons rfl (all_cons rfl (all_cons rfl (all_cons rfl (all_cons rfl (all_cons rfl (all_cons rfl (all_cons rfl (all_cons rfl (all_cons rfl (all_cons rfl (all_cons rfl (all_cons rfl (all_nil)))))))))))))))))))))))))))))))
  · refine all_cons (.inr (mStep _ 31 rfl rfl rfl rfl (by kernel_rfl) (fun a hv => wanted_all rfl _) (fun a w K hb hv hK => mPure (numVal on) (exec_load _ _ _ _ rfl _ _ (hv 7 (by kernel_rfl) rfl) w (elem_run (hvo8.on hb) Hon.out)) hK))) ?_
    refine all_cons (.inr (mStep _ 32 rfl rfl rfl rfl (by kernel_rfl) (fun a hv => wanted_all rfl _) (fun a w K hb hv hK => mPure (numVal ot) (exec_load _ _ _ _ rfl _ _ (hv 8 (by kernel_rfl) rfl) w (elem_run (hvt8.on hb) Hot.out)) hK))) ?_
    refine all_cons (.inr (mStep _ 33 rfl rfl rfl rfl (by kernel_rfl) (fun a hv => wanted_all rfl _) (fun a w K hb hv hK => mCall (numVal s1) 38 _ _ rfl [numVal on, numVal ot] (cons_eq (hv 31 (by kernel_rfl) rfl) (cons_eq (hv 32 (by kernel_rfl) rfl) (rfl))) (enters Tryd.func38 rfl rfl) (C7.out w) hK))) ?_
    refine all_cons (.inr (mStep _ 34 rfl rfl rfl rfl (by kernel_rfl) (fun a hv => wanted_all rfl _) (fun a w K hb hv hK => mCall (numVal s2) 41 _ _ rfl [numVal s1] (cons_eq (hv 33 (by kernel_rfl) rfl) (rfl)) (enters Tryd.func41 rfl rfl) (C8.out w) hK))) ?_
    refine all_cons (.inr (mStep _ 35 rfl rfl rfl rfl (by kernel_rfl) (fun a hv => wanted_all rfl _) (fun a w K hb hv hK => mPure (numVal on) (exec_load _ _ _ _ rfl _ _ (hv 7 (by kernel_rfl) rfl) w (elem_run (hvo8.on hb) Hon.out)) hK))) ?_
    refine all_cons (.inr (mStep _ 36 rfl rfl rfl rfl (by kernel_rfl) (fun a hv => wanted_all rfl _) (fun a w K hb hv hK => mPure (numVal ot) (exec_load _ _ _ _ rfl _ _ (hv 8 (by kernel_rfl) rfl) w (elem_run (hvt8.on hb) Hot.out)) hK))) ?_
    refine all_cons (.inr (mStep _ 37 rfl rfl rfl rfl (by kernel_rfl) (fun a hv => wanted_all rfl _) (fun a w K hb hv hK => mCall (numVal f1) 40 _ _ rfl [numVal on, numVal ot] (cons_eq (hv 35 (by kernel_rfl) rfl) (cons_eq (hv 36 (by kernel_rfl) rfl) (rfl))) (enters Tryd.func40 rfl rfl) (C9.out w) hK))) ?_
    refine all_cons (.inr (mStep _ 38 rfl rfl rfl rfl (by kernel_rfl) (fun a hv => wanted_all rfl _) (fun a w K hb hv hK => mCall (numVal f2) 41 _ _ rfl [numVal f1] (cons_eq (hv 37 (by kernel_rfl) rfl) (rfl)) (enters Tryd.func41 rfl rfl) (C10.out w) hK))) ?_
    refine all_cons (.inr (mStep _ 39 rfl rfl rfl rfl (by kernel_rfl) (fun a hv => wanted_all rfl _) (fun a w K hb hv hK => mPure (numVal ap) (exec_load _ _ _ _ rfl _ _ (hv 5 (by kernel_rfl) rfl) w (elem_run (hvd8.on hb) Hap.out)) hK))) ?_
    refine all_cons (.inr (mStep _ 40 rfl rfl rfl rfl (by kernel_rfl) (fun a hv => wanted_all rfl _) (fun a w K hb hv hK => mCall (numVal nz) 39 _ _ rfl [numVal f2, numVal ap] (cons_eq (hv 38 (by kernel_rfl) rfl) (cons_eq (hv 39 (by kernel_rfl) rfl) (rfl))) (enters Tryd.func39 rfl rfl) (C11.out w) hK))) ?_
    refine all_cons (.inr (mStep _ 41 rfl rfl rfl rfl (by kernel_rfl) (fun a hv => wanted_all rfl _) (fun a w K hb hv hK => mPure (numVal r) (exec_build _ _ _ [(0, .tmp 34), (1, .tmp 40)] rfl [(0, numVal s2), (1, numVal nz)] (cons_eq (congrArg (Prod.mk 0) (hv 34 (by kernel_rfl) rfl)) (cons_eq (congrArg (Prod.mk 1) (hv 40 (by kernel_rfl) rfl)) (rfl))) _ w (BR w)) hK))) ?_
    exact all_nil
  intro w9 g hb9 hN9 hap9
  clear hN9 hap9
  have hB9 := below_then (show Below w.heap.size w w8.drew from hB8.drew) hb9
  have hvp9 := hvp8.on hb9
  have hvq9 := hvq8.on hb9
  have hvd9 := hvd8.on hb9
  have hvr9 := hvr8.on hb9
  have hvo9 := hvo8.on hb9
  have hvt9 := hvt8.on hb9
  clear hB8 hvp8 hvq8 hvd8 hvr8 hvo8 hvt8 hb9
  refine wpAny_rest 11 rfl (by kernel_rfl) ?_
  refine vset_step rfl 51 (.tmp 6) (.tmp 41) rfl gr 10 (nzeros 10) (r.map ncell) rfl rfl hvr9 rfl size_pt (by rw [List.length_map, Hr.out]) (ncells_one _) ?_
  intro w10 hb10 hvr10 hz10
  have hB10 : Below w.heap.size w w10 := hB9.trans (hb10.below hger hB9.size)
  have hvp10 := hvp9.but hb10 hnepr
  have hvq10 := hvq9.but hb10 hneqr
  have hvd10 := hvd9.but hb10 hnedr
  have hvo10 := hvo9.but hb10 (Ne.symm hnero)
  have hvt10 := hvt9.but hb10 (Ne.symm hnert)
  clear hB9 hvr9 hb10 hz10 hvp9 hvq9 hvd9 hvo9 hvt9
  rename_i K hKK
  show Exit.then K _ Exit.normal (⟨(plusVs3_2 p q ap w.heap.size gq gd gr go gt px pz a1 qx qz d1 on d2 a2 ot s1 s2 f1 f2 nz r).toArray, []⟩ : Act) w10
  simp only [Exit.then]
  refine hKK _ _ ?_
  clear hKK K g
  simp only [plusVs3_2]
  go_wp2
  exact sret Tryd.results24 gr (r.map ncell) rfl hvr10 Tryd.underlying51 rfl size_pt (by rw [List.length_map, Hr.out]) rfl ⟨rfl, hB10⟩
def ptBytesVs1 (p : List Nat) (g_base : Nat) (gk : Nat) (x : List Nat) (z : List Nat) (iv : List Nat) (qu : List Nat) (kb : List UInt8) : List Value :=
  (numVal p) :: (.pointer (some ⟨g_base, 0, none⟩)) :: (.pointer (some ⟨gk, 0, none⟩)) :: (.pointer (some ⟨g_base, 0, none⟩)) :: (numVal x) :: (.pointer (some ⟨g_base, 5, none⟩)) :: (numVal z) :: (numVal iv) :: (numVal qu) :: (hashVal kb) :: []
set_option maxRecDepth 100000 in
set_option maxHeartbeats 1000000 in
theorem ptBytes_over (p x z iv qu : List Nat) (kb : List UInt8) (w : World)
    (Hx : Hid (x.length = 5))
    (Hz : Hid (z.length = 5))
    (Hkb : Hid (kb.length = 32))
    (Fp : Hid (p = x ++ z))
    (C1 : Hid (∀ W, Calls Tryd.prog 42 #[numVal z] W fun e w' => e = .returned (numVal iv) ∧ Below W.heap.size W w'))
    (C2 : Hid (∀ W, Calls Tryd.prog 39 #[numVal x, numVal iv] W fun e w' => e = .returned (numVal qu) ∧ Below W.heap.size W w'))
    (C3 : Hid (∀ W, Calls Tryd.prog 43 #[numVal qu] W fun e w' => e = .returned (hashVal kb) ∧ Below W.heap.size W w')) :
    Calls Tryd.prog 27 #[numVal p] w fun e w' => e = .returned (hashVal kb) ∧ Below w.heap.size w w' := by
  go_enter Tryd.func27, Tryd.ntmps27
  go_wp2_with (first
    | (refine vtake_step rfl 51 (.tmp 0) rfl (p.map ncell) rfl ?_
       intro w1 hb1 hvp1
       have hB1 := hb1
       have hgep : w.heap.size ≤ w.heap.size := Nat.le_refl _
       clear  hb1
       try simp only [Act.put, List.setIfInBounds_toArray, List.set_cons_zero, List.set_cons_succ]
       skip)
    | (refine vzero_step (o := ⟨some 2, _, _, _, _, _⟩) rfl 23 rfl kzeros zero_k32 ?_
       intro w2 hb2 hvk2
       have hB2 := below_then hB1 hb2
       have hgek : w.heap.size ≤ w1.heap.size := hB1.size
       have hvp2 := hvp1.on hb2
       have hnepk := Nat.ne_of_lt hvp1.lt
       clear hB1 hvp1 hb2
       try simp only [Act.put, List.setIfInBounds_toArray, List.set_cons_zero, List.set_cons_succ]
       skip))
  generalize hqk : w1.heap.size = gk at *
  clear hqk
  replace hvp2 := hvp2.drew
  replace hvk2 := hvk2.drew
  refine wp_region_any (by kernel_rfl) ?_
  refine wpAny_flatM (L := [0, 1, 2, 3, 4, 5, 6]) (by kernel_rfl) _ _ (ptBytesVs1 p w.heap.size gk x z iv qu kb) [] 48 (nzeros 5) [0, 1, 2] (by kernel_rfl) (by kernel_rfl) ?_ zero_elem ?_ (by rfl) ?_ 1 (by kernel_rfl) ?_
  · intro p hp
    exact absurd hp List.not_mem_nil
  · exact all_cons rfl (all_cons rfl (all_cons rfl (all_nil)))
  · refine all_cons (.inr (mStep _ 3 rfl rfl rfl rfl (by kernel_rfl) (fun a hv => wanted_all rfl _) (fun a w K hb hv hK => mPure _ (exec_field _ _ _ _ 0 rfl _ _ (hv 1 (by kernel_rfl) rfl) w (field_x _ w)) hK))) ?_
    refine all_cons (.inr (mStep _ 4 rfl rfl rfl rfl (by kernel_rfl) (fun a hv => wanted_all rfl _) (fun a w K hb hv hK => mPure (numVal x) (exec_load _ _ _ _ rfl _ _ (hv 3 (by kernel_rfl) rfl) w (load_x (hvp2.on hb) Fp.out Hx.out)) hK))) ?_
    refine all_cons (.inr (mStep _ 5 rfl rfl rfl rfl (by kernel_rfl) (fun a hv => wanted_all rfl _) (fun a w K hb hv hK => mPure _ (exec_field _ _ _ _ 1 rfl _ _ (hv 1 (by kernel_rfl) rfl) w (field_z _ w)) hK))) ?_
    refine all_cons (.inr (mStep _ 6 rfl rfl rfl rfl (by kernel_rfl) (fun a hv => wanted_all rfl _) (fun a w K hb hv hK => mPure (numVal z) (exec_load _ _ _ _ rfl _ _ (hv 5 (by kernel_rfl) rfl) w (load_z (hvp2.on hb) Fp.out Hx.out Hz.out)) hK))) ?_
    refine all_cons (.inr (mStep _ 7 rfl rfl rfl rfl (by kernel_rfl) (fun a hv => wanted_all rfl _) (fun a w K hb hv hK => mCall (numVal iv) 42 _ _ rfl [numVal z] (cons_eq (hv 6 (by kernel_rfl) rfl) (rfl)) (enters Tryd.func42 rfl rfl) (C1.out w) hK))) ?_
    refine all_cons (.inr (mStep _ 8 rfl rfl rfl rfl (by kernel_rfl) (fun a hv => wanted_all rfl _) (fun a w K hb hv hK => mCall (numVal qu) 39 _ _ rfl [numVal x, numVal iv] (cons_eq (hv 4 (by kernel_rfl) rfl) (cons_eq (hv 7 (by kernel_rfl) rfl) (rfl))) (enters Tryd.func39 rfl rfl) (C2.out w) hK))) ?_
    refine all_cons (.inr (mStep _ 9 rfl rfl rfl rfl (by kernel_rfl) (fun a hv => wanted_all rfl _) (fun a w K hb hv hK => mCall (hashVal kb) 43 _ _ rfl [numVal qu] (cons_eq (hv 8 (by kernel_rfl) rfl) (rfl)) (enters Tryd.func43 rfl rfl) (C3.out w) hK))) ?_
    exact all_nil
  intro w3 g hb3 hN3 hap3
  clear hN3 hap3
  have hB3 := below_then (show Below w.heap.size w w2.drew from hB2.drew) hb3
  have hvp3 := hvp2.on hb3
  have hvk3 := hvk2.on hb3
  clear hB2 hvp2 hvk2 hb3
  refine wpAny_rest 7 rfl (by kernel_rfl) ?_
  refine vset_step rfl 23 (.tmp 2) (.tmp 9) rfl gk 32 kzeros (kb.map cellOf) rfl rfl hvk3 rfl size_k32 (by rw [List.length_map, Hkb.out]) (kcells_one _) ?_
  intro w4 hb4 hvk4 hz4
  have hB4 : Below w.heap.size w w4 := hB3.trans (hb4.below hgek hB3.size)
  have hvp4 := hvp3.but hb4 hnepk
  clear hB3 hvk3 hb4 hz4 hvp3
  rename_i K hKK
  show Exit.then K _ Exit.normal (⟨(ptBytesVs1 p w.heap.size gk x z iv qu kb).toArray, []⟩ : Act) w4
  simp only [Exit.then]
  refine hKK _ _ ?_
  clear hKK K g
  simp only [ptBytesVs1]
  go_wp2
  exact sret Tryd.results27 gk (kb.map cellOf) rfl hvk4 Tryd.underlying23 rfl size_k32 (by rw [List.length_map, Hkb.out]) rfl ⟨rfl, hB4⟩
theorem plusPt_any (u : Nat) (a b : Nat × Nat) (w : World) (hu : u < pp) (h1 : a.1 < pp) (h2 : a.2 < pp) (h3 : b.1 < pp) (h4 : b.2 < pp) : Calls Tryd.prog 24 #[numVal (ptL a), numVal (ptL b), numVal (limb5 u)] w fun e w' => e = .returned (numVal (ptL (addP u a b))) ∧ Below w.heap.size w w' :=
  plusPt_over (ptL a) (limb5 a.1) (limb5 a.2) (ptL b) (limb5 b.1) (limb5 b.2) (limb5 u) (limb5 (fA a.1 a.2)) (limb5 (fS b.1 b.2)) (limb5 (oneP a b)) (limb5 (fS a.1 a.2)) (limb5 (fA b.1 b.2)) (limb5 (othP a b)) (limb5 (fA (oneP a b) (othP a b))) (limb5 (addP u a b).1) (limb5 (fS (oneP a b) (othP a b))) (limb5 (fM (fS (oneP a b) (othP a b)) (fS (oneP a b) (othP a b)))) (limb5 (addP u a b).2) (ptL (addP u a b)) w rfl rfl rfl rfl rfl rfl rfl rfl rfl rfl
    (fun W => eAdd_any a.1 a.2 W h1 h2) (fun W => eSub_any b.1 b.2 W h3 h4) (fun W => eTimes_any _ _ W (fA_lt _ _) (fS_lt _ _)) (fun W => eSub_any a.1 a.2 W h1 h2) (fun W => eAdd_any b.1 b.2 W h3 h4) (fun W => eTimes_any _ _ W (fS_lt _ _) (fA_lt _ _)) (fun W => eAdd_any (oneP a b) (othP a b) W (fM_lt _ _) (fM_lt _ _)) (fun W => eSquare_any _ W (fA_lt _ _)) (fun W => eSub_any (oneP a b) (othP a b) W (fM_lt _ _) (fM_lt _ _)) (fun W => eSquare_any _ W (fS_lt _ _)) (fun W => eTimes_any _ u W (fM_lt _ _) hu) (build_pt _ _ rfl rfl)
theorem ivN_pw (n : Nat) : ivN n = pwN n 57896044618658097711785492504343953926634992332820282019728792003956564819947 := by
  have h : pp - 2 = 57896044618658097711785492504343953926634992332820282019728792003956564819947 := by decide
  unfold ivN pwN
  rw [h]
theorem ptBytes_any (a : Nat × Nat) (w : World) (h1 : a.1 < pp) (h2 : a.2 < pp) : Calls Tryd.prog 27 #[numVal (ptL a)] w fun e w' => e = .returned (hashVal (keyB (fM a.1 (ivN a.2)))) ∧ Below w.heap.size w w' :=
  ptBytes_over (ptL a) (limb5 a.1) (limb5 a.2) (limb5 (ivN a.2)) (limb5 (fM a.1 (ivN a.2))) (keyB (fM a.1 (ivN a.2))) w rfl rfl (keyB_length _) rfl (fun W => by rw [ivN_pw]; exact invert_any a.2 W h2) (fun W => eTimes_any a.1 (ivN a.2) W h1 (Nat.mod_lt _ (by decide))) (fun W => bytesE_any _ W (fM_lt _ _))
end Go.Proofs.YtlhgabhjbnckkaaDoor
namespace Go.Proofs.YtlhgabhjbnckkaaDoor
open Go.RowKit
set_option maxRecDepth 100000 in
theorem bit8_all : ∀ (x : Fin 256) (k : Fin 8), bits .and .u8 ((x.val : Int) / 2 ^ k.val) 1 = ((x.val / 2 ^ k.val % 2 : Nat) : Int) := by decide +kernel
theorem bit8_at (x k : Nat) (b : Bool) (hx : x < 256) (hk : k < 8) (h : decide (x / 2 ^ k % 2 = 1) = b) : bits .and .u8 ((x : Int) / 2 ^ k) 1 = if b then 1 else 0 := by
  rw [bit8_all ⟨x, hx⟩ ⟨k, hk⟩, ← h]
  show ((x / 2 ^ k % 2 : Nat) : Int) = _
  rcases Nat.mod_two_eq_zero_or_one (x / 2 ^ k) with h | h <;> rw [h] <;> simp
/-- A key's bit i, from the low one on. -/
def kbit (k : List UInt8) (i : Nat) : Bool := decide ((k.getD (i / 8) 0).toNat / 2 ^ (i % 8) % 2 = 1)
set_option maxRecDepth 100000 in
set_option maxHeartbeats 1000000 in
theorem bit_over (k : List UInt8) (i : Nat) (q : UInt8) (b : Bool) (w : World) (hi : i < 256) (D : Hid ((k.map cellOf)[i / 8]? = some (cellOf q))) (HB : Hid (decide (q.toNat / 2 ^ (i % 8) % 2 = 1) = b)) :
    Calls Tryd.prog 25 #[hashVal k, .int .i64 (i : Int)] w fun e w' => e = .returned (.bool b) ∧ Below w.heap.size w w' := by
  have hbit := bit8_at q.toNat (i % 8) b q.toNat_lt (Nat.mod_lt _ (by decide)) HB.out
  have i1 : (0 : Int) ≤ (i : Int) := by omega
  have i2 : (i : Int) < 256 := by omega
  go_enter Tryd.func25, Tryd.ntmps25
  cases b
  all_goals go_wp2_with (first
    | (refine take_step rfl 23 (.tmp 0) rfl k rfl ?_
       intro w1 hB1 hA1 hz
       clear hz
       have d1 := hA1.get D.out
       try simp only [Act.put, List.setIfInBounds_toArray, List.set_cons_zero, List.set_cons_succ]
       skip))
  all_goals (go_ret; exact ⟨rfl, hB1⟩)
theorem bit_any (k : List UInt8) (i : Nat) (w : World) (hk : k.length = 32) (hi : i < 256) : Calls Tryd.prog 25 #[hashVal k, .int .i64 (i : Int)] w fun e w' => e = .returned (.bool (kbit k i)) ∧ Below w.heap.size w w' :=
  bit_over k i (k.getD (i / 8) 0) _ w hi (by
    show _ = _
    rw [List.getElem?_map, List.getD_eq_getElem?_getD, List.getElem?_eq_getElem (by omega)]; rfl) rfl
end Go.Proofs.YtlhgabhjbnckkaaDoor
namespace Go.Proofs.YtlhgabhjbnckkaaDoor
open Go.RowKit
/-- A clamped key. -/
def clampL (k : List UInt8) : List UInt8 := (k.set 0 (k.getD 0 0 / 8 * 8)).set 31 (k.getD 31 0 % 64 + 64)
theorem clampL_length (k : List UInt8) : (clampL k).length = k.length := by rw [clampL, List.length_set, List.length_set]
theorem cell_at (k : List UInt8) (j : Nat) (h : j < k.length) : (k.map cellOf)[j]? = some (cellOf (k.getD j 0)) := by
  rw [List.getElem?_map, List.getD_eq_getElem?_getD, List.getElem?_eq_getElem h]; rfl
set_option maxRecDepth 100000 in
set_option maxHeartbeats 2000000 in
theorem refClamp_over (b c0 c : List UInt8) (q0 q1 v0 v1 : UInt8) (w : World) (HB : Hid (b.length = 32)) (HC0 : Hid (c0 = b.set 0 v0)) (HC : Hid (c = c0.set 31 v1)) (D0 : Hid ((b.map cellOf)[0]? = some (cellOf q0))) (D1 : Hid ((c0.map cellOf)[31]? = some (cellOf q1)))
    (hv0 : Hid (v0.toNat = q0.toNat / 8 * 8)) (hv1 : Hid (v1.toNat = q1.toNat % 64 + 64)) :
    Calls Tryd.prog 11 #[hashVal b] w fun e w' => e = .returned (hashVal c) ∧ Below w.heap.size w w' := by
  have HL0 : Hid (c0.length = 32) := by show _ = _; rw [HC0.out, List.length_set]; exact HB.out
  have HLC : Hid (c.length = 32) := by show _ = _; rw [HC.out, List.length_set]; exact HL0.out
  have hq0 := q0.toNat_lt
  have hq1 := q1.toNat_lt
  have e1 : (q0.toNat : Int).tdiv 8 = ((q0.toNat / 8 : Nat) : Int) := by rw [Int.tdiv_eq_ediv_of_nonneg (by omega)]; omega
  have e2 : IntKind.u8.wrap ((q0.toNat / 8 : Nat) : Int) = ((q0.toNat / 8 : Nat) : Int) := by rw [IntKind.wrap_u8]; omega
  have e3 : IntKind.u8.wrap (((q0.toNat / 8 : Nat) : Int) * 8) = (v0.toNat : Int) := by rw [IntKind.wrap_u8, hv0.out]; omega
  have e4 : (q1.toNat : Int).tmod 64 = ((q1.toNat % 64 : Nat) : Int) := by rw [Int.tmod_eq_emod_of_nonneg (by omega)]; omega
  have e5 : IntKind.u8.wrap ((q1.toNat % 64 : Nat) : Int) = ((q1.toNat % 64 : Nat) : Int) := by rw [IntKind.wrap_u8]; omega
  have e6 : IntKind.u8.wrap (((q1.toNat % 64 : Nat) : Int) + 64) = (v1.toNat : Int) := by rw [IntKind.wrap_u8, hv1.out]; omega
  clear hq0 hq1 hv0 hv1
  generalize ((q0.toNat / 8 : Nat) : Int) = y0 at *
  generalize ((q1.toNat % 64 : Nat) : Int) = y1 at *
  go_enter Tryd.func11, Tryd.ntmps11
  go_wp2_with (first
    | (refine take_step rfl 22 (.tmp 0) rfl b rfl ?_
       intro w1 hB1 hA1 hz
       clear hz
       try simp only [Act.put, List.setIfInBounds_toArray, List.set_cons_zero, List.set_cons_succ]
       skip)
    | (refine vzero_step rfl 22 rfl (List.replicate 32 (cellOf 0)) zero_b32 ?_
       intro w3 hb3 hZ3
       have hB3 := below_then hB1 hb3
       have hA3 := hA1.on hb3
       have hg2 := hA1.lt
       clear hB1 hA1 hb3
       have d1 := hA3.get D0.out
       have hT := hA3.there 0 1 (by rw [List.length_map, HB.out]; decide)
       have hE := Lib.hid (hA3.set 0 (cellOf v0))
       try simp only [Act.put, List.setIfInBounds_toArray, List.set_cons_zero, List.set_cons_succ]
       skip)
    | (refine store_step rfl 5 _ _ rfl w.heap.size 0 .u8 (v0.toNat : Int) rfl rfl size_u8 hT ?_
       intro w5 hw5
       have hB5 : Below w.heap.size w w5 := by rw [hw5]; exact hB3.setCell (p := ⟨w.heap.size, 0, none⟩) (Nat.le_refl _) _
       have hA5 : Cells w5 w.heap.size (c0.map cellOf) 22 := by rw [hw5, HC0.out, List.map_set]; exact hE.out
       have hZ5 : Cells w5 w1.heap.size (List.replicate 32 (cellOf 0)) 22 := by rw [hw5]; exact hZ3.other (by show w1.heap.size ≠ w.heap.size; omega) _
       clear hw5 hT hE hB3 hA3 hZ3 d1 D0 HC0
       have d1 := hA5.get D1.out
       have hT := hA5.there 31 1 (by rw [List.length_map, HL0.out]; decide)
       have hE := Lib.hid (hA5.set 31 (cellOf v1)))
    | (refine store_step rfl 5 _ _ rfl w.heap.size 31 .u8 (v1.toNat : Int) rfl rfl size_u8 hT ?_
       intro w6 hw6
       have hB6 : Below w.heap.size w w6 := by rw [hw6]; exact hB5.setCell (p := ⟨w.heap.size, 31, none⟩) (Nat.le_refl _) _
       have hA6 : Cells w6 w.heap.size (c.map cellOf) 22 := by rw [hw6, HC.out, List.map_set]; exact hE.out
       have hZ6 : Cells w6 w1.heap.size (List.replicate 32 (cellOf 0)) 22 := by rw [hw6]; exact hZ5.other (by show w1.heap.size ≠ w.heap.size; omega) _
       clear hw6 hT hE hB5 hA5 hZ5 d1 D1 HC)
    | (refine get_step rfl 22 (.tmp 1) rfl w.heap.size 32 c _ rfl hA6 Tryd.underlying22 size_b32 HLC.out ?_
       try simp only [Act.put, List.setIfInBounds_toArray, List.set_cons_zero, List.set_cons_succ]
       skip)
    | (refine set_step rfl 22 _ _ rfl w1.heap.size 32 (List.replicate 32 (cellOf 0)) c rfl rfl hZ6 (by simp) size_b32 HLC.out ?_
       intro w7 hb7 hC7 _))
  exact ret_hash Tryd.results11 w1.heap.size c rfl hC7 Tryd.underlying22 size_b32 HLC.out rfl ⟨rfl, hB6.trans (hb7.below (by omega) hB6.size)⟩
theorem refClamp_any (b : List UInt8) (w : World) (hb : b.length = 32) : Calls Tryd.prog 11 #[hashVal b] w fun e w' => e = .returned (hashVal (clampL b)) ∧ Below w.heap.size w w' := by
  refine refClamp_over b _ _ (b.getD 0 0) (b.getD 31 0) _ _ w hb rfl rfl (cell_at b 0 (by omega)) ?_ ?_ ?_
  · show _ = _
    rw [List.getElem?_map, List.getElem?_set_ne (by decide), ← List.getElem?_map]
    exact cell_at b 31 (by omega)
  · show _ = _
    generalize b.getD 0 0 = q
    have := q.toNat_lt
    rw [UInt8.toNat_mul, UInt8.toNat_div]
    show q.toNat / 8 * 8 % 256 = _
    omega
  · show _ = _
    generalize b.getD 31 0 = q
    rw [UInt8.toNat_add, UInt8.toNat_mod]
    show (q.toNat % 64 + 64) % 256 = _
    omega
theorem andnot_7 : ∀ x : Fin 256, bits .andNot .u8 (x.val : Int) 7 = ((x.val / 8 * 8 : Nat) : Int) := by decide +kernel
theorem andnot_128 : ∀ x : Fin 256, bits .andNot .u8 (x.val : Int) 128 = ((x.val % 128 : Nat) : Int) := by decide +kernel
theorem or_64 : ∀ x : Fin 256, bits .or .u8 ((x.val % 128 : Nat) : Int) 64 = ((x.val % 64 + 64 : Nat) : Int) := by decide +kernel
set_option maxRecDepth 100000 in
set_option maxHeartbeats 2000000 in
theorem clamp_over (b c0 c1 c : List UInt8) (q0 q1 v0 v1 v2 : UInt8) (w : World) (HB : Hid (b.length = 32)) (HC0 : Hid (c0 = b.set 0 v0)) (HC1 : Hid (c1 = c0.set 31 v1)) (HC : Hid (c = c1.set 31 v2)) (D0 : Hid ((b.map cellOf)[0]? = some (cellOf q0))) (D1 : Hid ((c0.map cellOf)[31]? = some (cellOf q1))) (D2 : Hid ((c1.map cellOf)[31]? = some (cellOf v1)))
    (e1 : bits .andNot .u8 (q0.toNat : Int) 7 = (v0.toNat : Int)) (e2 : bits .andNot .u8 (q1.toNat : Int) 128 = (v1.toNat : Int)) (e3 : bits .or .u8 (v1.toNat : Int) 64 = (v2.toNat : Int)) :
    Calls Tryd.prog 10 #[hashVal b] w fun e w' => e = .returned (hashVal c) ∧ Below w.heap.size w w' := by
  have HL0 : Hid (c0.length = 32) := by show _ = _; rw [HC0.out, List.length_set]; exact HB.out
  have HL1 : Hid (c1.length = 32) := by show _ = _; rw [HC1.out, List.length_set]; exact HL0.out
  have HLC : Hid (c.length = 32) := by show _ = _; rw [HC.out, List.length_set]; exact HL1.out
  go_enter Tryd.func10, Tryd.ntmps10
  go_wp2_with (first
    | (refine take_step rfl 23 (.tmp 0) rfl b rfl ?_
       intro w1 hB1 hA1 hz
       clear hz
       try simp only [Act.put, List.setIfInBounds_toArray, List.set_cons_zero, List.set_cons_succ]
       skip)
    | (refine vzero_step rfl 23 rfl (List.replicate 32 (cellOf 0)) zero_k32 ?_
       intro w3 hb3 hZ3
       have hB3 := below_then hB1 hb3
       have hA3 := hA1.on hb3
       have hg2 := hA1.lt
       clear hB1 hA1 hb3
       have d1 := hA3.get D0.out
       have hT := hA3.there 0 1 (by rw [List.length_map, HB.out]; decide)
       have hE := Lib.hid (hA3.set 0 (cellOf v0))
       try simp only [Act.put, List.setIfInBounds_toArray, List.set_cons_zero, List.set_cons_succ]
       skip)
    | (refine store_step rfl 5 _ _ rfl w.heap.size 0 .u8 (v0.toNat : Int) rfl rfl size_u8 hT ?_
       intro w5 hw5
       have hB5 : Below w.heap.size w w5 := by rw [hw5]; exact hB3.setCell (p := ⟨w.heap.size, 0, none⟩) (Nat.le_refl _) _
       have hA5 : Cells w5 w.heap.size (c0.map cellOf) 23 := by rw [hw5, HC0.out, List.map_set]; exact hE.out
       have hZ5 : Cells w5 w1.heap.size (List.replicate 32 (cellOf 0)) 23 := by rw [hw5]; exact hZ3.other (by show w1.heap.size ≠ w.heap.size; omega) _
       clear hw5 hT hE hB3 hA3 hZ3 d1 D0 HC0
       have d1 := hA5.get D1.out
       have hT := hA5.there 31 1 (by rw [List.length_map, HL0.out]; decide)
       have hE := Lib.hid (hA5.set 31 (cellOf v1)))
    | (refine store_step rfl 5 _ _ rfl w.heap.size 31 .u8 (v1.toNat : Int) rfl rfl size_u8 hT ?_
       intro w6 hw6
       have hB6 : Below w.heap.size w w6 := by rw [hw6]; exact hB5.setCell (p := ⟨w.heap.size, 31, none⟩) (Nat.le_refl _) _
       have hA6 : Cells w6 w.heap.size (c1.map cellOf) 23 := by rw [hw6, HC1.out, List.map_set]; exact hE.out
       have hZ6 : Cells w6 w1.heap.size (List.replicate 32 (cellOf 0)) 23 := by rw [hw6]; exact hZ5.other (by show w1.heap.size ≠ w.heap.size; omega) _
       clear hw6 hT hE hB5 hA5 hZ5 d1 D1 HC1
       have d1 := hA6.get D2.out
       have hT := hA6.there 31 1 (by rw [List.length_map, HL1.out]; decide)
       have hE := Lib.hid (hA6.set 31 (cellOf v2)))
    | (refine store_step rfl 5 _ _ rfl w.heap.size 31 .u8 (v2.toNat : Int) rfl rfl size_u8 hT ?_
       intro w7 hw7
       have hB7 : Below w.heap.size w w7 := by rw [hw7]; exact hB6.setCell (p := ⟨w.heap.size, 31, none⟩) (Nat.le_refl _) _
       have hA7 : Cells w7 w.heap.size (c.map cellOf) 23 := by rw [hw7, HC.out, List.map_set]; exact hE.out
       have hZ7 : Cells w7 w1.heap.size (List.replicate 32 (cellOf 0)) 23 := by rw [hw7]; exact hZ6.other (by show w1.heap.size ≠ w.heap.size; omega) _
       clear hw7 hT hE hB6 hA6 hZ6 d1 D2 HC)
    | (refine get_step rfl 23 (.tmp 1) rfl w.heap.size 32 c _ rfl hA7 Tryd.underlying23 size_k32 HLC.out ?_
       try simp only [Act.put, List.setIfInBounds_toArray, List.set_cons_zero, List.set_cons_succ]
       skip)
    | (refine set_step rfl 23 _ _ rfl w1.heap.size 32 (List.replicate 32 (cellOf 0)) c rfl rfl hZ7 (by simp) size_k32 HLC.out ?_
       intro w8 hb8 hC8 _))
  exact ret_hash Tryd.results10 w1.heap.size c rfl hC8 Tryd.underlying23 size_k32 HLC.out rfl ⟨rfl, hB7.trans (hb8.below (by omega) hB7.size)⟩
theorem clamp_any (b : List UInt8) (w : World) (hb : b.length = 32) : Calls Tryd.prog 10 #[hashVal b] w fun e w' => e = .returned (hashVal (clampL b)) ∧ Below w.heap.size w w' := by
  have h1 : ∀ q : UInt8, (q / 8 * 8).toNat = q.toNat / 8 * 8 := fun q => by
    have := q.toNat_lt
    rw [UInt8.toNat_mul, UInt8.toNat_div]
    show q.toNat / 8 * 8 % 256 = _
    omega
  have h2 : ∀ q : UInt8, (q % 64 + 64).toNat = q.toNat % 64 + 64 := fun q => by
    rw [UInt8.toNat_add, UInt8.toNat_mod]
    show (q.toNat % 64 + 64) % 256 = _
    omega
  have h3 : ∀ q : UInt8, (q % 128).toNat = q.toNat % 128 := fun q => by rw [UInt8.toNat_mod]; rfl
  refine clamp_over b (b.set 0 (b.getD 0 0 / 8 * 8)) ((b.set 0 (b.getD 0 0 / 8 * 8)).set 31 (b.getD 31 0 % 128)) _ (b.getD 0 0) (b.getD 31 0) _ (b.getD 31 0 % 128) (b.getD 31 0 % 64 + 64) w hb rfl rfl ?_ (cell_at b 0 (by omega)) ?_ ?_ ?_ ?_ ?_
  · show _ = _
    rw [List.set_set, clampL]
  · show _ = _
    rw [List.getElem?_map, List.getElem?_set_ne (by decide), ← List.getElem?_map]
    exact cell_at b 31 (by omega)
  · show _ = _
    rw [List.getElem?_map, List.getElem?_set_self (by rw [List.length_set]; omega)]
    rfl
  · rw [h1]; exact andnot_7 ⟨_, (b.getD 0 0).toNat_lt⟩
  · rw [h3]; exact andnot_128 ⟨_, (b.getD 31 0).toNat_lt⟩
  · rw [h2, h3]; exact or_64 ⟨_, (b.getD 31 0).toNat_lt⟩
/-- Clamping twice is clamping once. -/
theorem clampL_twice (k : List UInt8) (h : k.length = 32) : clampL (clampL k) = clampL k := by
  have g0 : (clampL k).getD 0 0 = k.getD 0 0 / 8 * 8 := by
    rw [clampL, List.getD_eq_getElem?_getD, List.getElem?_set_ne (by decide), List.getElem?_set_self (by omega)]; rfl
  have g1 : (clampL k).getD 31 0 = k.getD 31 0 % 64 + 64 := by
    rw [clampL, List.getD_eq_getElem?_getD, List.getElem?_set_self (by rw [List.length_set]; omega)]; rfl
  have b0 : ∀ q : UInt8, q / 8 * 8 / 8 * 8 = q / 8 * 8 := fun q => by
    have hq := q.toNat_lt
    apply UInt8.toNat_inj.1
    rw [UInt8.toNat_mul, UInt8.toNat_div, UInt8.toNat_mul, UInt8.toNat_div]
    show q.toNat / 8 * 8 % 256 / 8 * 8 % 256 = q.toNat / 8 * 8 % 256
    omega
  have b1 : ∀ q : UInt8, (q % 64 + 64) % 64 + 64 = q % 64 + 64 := fun q => by
    apply UInt8.toNat_inj.1
    rw [UInt8.toNat_add, UInt8.toNat_mod, UInt8.toNat_add, UInt8.toNat_mod]
    show ((q.toNat % 64 + 64) % 256 % 64 + 64) % 256 = (q.toNat % 64 + 64) % 256
    omega
  rw [clampL, g0, g1, b0, b1, clampL]
  generalize k.getD 0 0 / 8 * 8 = v
  generalize k.getD 31 0 % 64 + 64 = u
  apply List.ext_getElem?
  intro i
  simp only [List.getElem?_set, List.length_set]
  split <;> split <;> simp_all
end Go.Proofs.YtlhgabhjbnckkaaDoor
