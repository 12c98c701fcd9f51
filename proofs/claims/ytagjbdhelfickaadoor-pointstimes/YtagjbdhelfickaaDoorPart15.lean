/- Part 15 of what the laws of this seat share: UTwice. -/
import Derived.Deep.Cut
import Derived.Test.YtagjbdhelfickaaDoorPart14
namespace Go.Proofs.YtagjbdhelfickaaDoor
open Go.RowKit
def utwVs1 (p : List Nat) (g_base : Nat) (gr : Nat) (px : List Nat) (xx : List Nat) (py : List Nat) (yy : List Nat) (pz : List Nat) (zz : List Nat) : List Value :=
  (numVal p) :: (.pointer (some ⟨g_base, 0, none⟩)) :: (.pointer (some ⟨gr, 0, none⟩)) :: undef :: undef :: undef :: undef :: undef :: (.pointer (some ⟨g_base, 0, none⟩)) :: (numVal px) :: (numVal xx) :: (.pointer (some ⟨g_base, 5, none⟩)) :: (numVal py) :: (numVal yy) :: (.pointer (some ⟨g_base, 10, none⟩)) :: (numVal pz) :: (numVal zz) :: undef :: undef :: undef :: undef :: undef :: undef :: undef :: undef :: undef :: undef :: undef :: undef :: undef :: undef :: undef :: undef :: undef :: undef :: undef :: undef :: undef :: []
def utwVs1N (p : List Nat) (g_base : Nat) (gr : Nat) (px : List Nat) (xx : List Nat) (py : List Nat) (yy : List Nat) (pz : List Nat) (zz : List Nat) (n3 n4 n5 : Nat) : List Value :=
  (numVal p) :: (.pointer (some ⟨g_base, 0, none⟩)) :: (.pointer (some ⟨gr, 0, none⟩)) :: (.pointer (some ⟨n3, 0, none⟩)) :: (.pointer (some ⟨n4, 0, none⟩)) :: (.pointer (some ⟨n5, 0, none⟩)) :: undef :: undef :: (.pointer (some ⟨g_base, 0, none⟩)) :: (numVal px) :: (numVal xx) :: (.pointer (some ⟨g_base, 5, none⟩)) :: (numVal py) :: (numVal yy) :: (.pointer (some ⟨g_base, 10, none⟩)) :: (numVal pz) :: (numVal zz) :: undef :: undef :: undef :: undef :: undef :: undef :: undef :: undef :: undef :: undef :: undef :: undef :: undef :: undef :: undef :: undef :: undef :: undef :: undef :: undef :: undef :: []
def utwVs2_1 (p : List Nat) (g_base : Nat) (gr : Nat) (gx : Nat) (gy : Nat) (gz : Nat) (px : List Nat) (xx : List Nat) (py : List Nat) (yy : List Nat) (pz : List Nat) (zz : List Nat) (xy : List Nat) : List Value :=
  (numVal p) :: (.pointer (some ⟨g_base, 0, none⟩)) :: (.pointer (some ⟨gr, 0, none⟩)) :: (.pointer (some ⟨gx, 0, none⟩)) :: (.pointer (some ⟨gy, 0, none⟩)) :: (.pointer (some ⟨gz, 0, none⟩)) :: undef :: undef :: (.pointer (some ⟨g_base, 0, none⟩)) :: (numVal px) :: (numVal xx) :: (.pointer (some ⟨g_base, 5, none⟩)) :: (numVal py) :: (numVal yy) :: (.pointer (some ⟨g_base, 10, none⟩)) :: (numVal pz) :: (numVal zz) :: (.pointer (some ⟨g_base, 0, none⟩)) :: (numVal px) :: (.pointer (some ⟨g_base, 5, none⟩)) :: (numVal py) :: (numVal xy) :: undef :: undef :: undef :: undef :: undef :: undef :: undef :: undef :: undef :: undef :: undef :: undef :: undef :: undef :: undef :: undef :: []
def utwVs2_1N (p : List Nat) (g_base : Nat) (gr : Nat) (gx : Nat) (gy : Nat) (gz : Nat) (px : List Nat) (xx : List Nat) (py : List Nat) (yy : List Nat) (pz : List Nat) (zz : List Nat) (xy : List Nat) (n6 : Nat) : List Value :=
  (numVal p) :: (.pointer (some ⟨g_base, 0, none⟩)) :: (.pointer (some ⟨gr, 0, none⟩)) :: (.pointer (some ⟨gx, 0, none⟩)) :: (.pointer (some ⟨gy, 0, none⟩)) :: (.pointer (some ⟨gz, 0, none⟩)) :: (.pointer (some ⟨n6, 0, none⟩)) :: undef :: (.pointer (some ⟨g_base, 0, none⟩)) :: (numVal px) :: (numVal xx) :: (.pointer (some ⟨g_base, 5, none⟩)) :: (numVal py) :: (numVal yy) :: (.pointer (some ⟨g_base, 10, none⟩)) :: (numVal pz) :: (numVal zz) :: (.pointer (some ⟨g_base, 0, none⟩)) :: (numVal px) :: (.pointer (some ⟨g_base, 5, none⟩)) :: (numVal py) :: (numVal xy) :: undef :: undef :: undef :: undef :: undef :: undef :: undef :: undef :: undef :: undef :: undef :: undef :: undef :: undef :: undef :: undef :: []
def utwVs4_2 (p : List Nat) (g_base : Nat) (gr : Nat) (gx : Nat) (gy : Nat) (gz : Nat) (gm : Nat) (gl : Nat) (px : List Nat) (xx : List Nat) (py : List Nat) (yy : List Nat) (pz : List Nat) (zz : List Nat) (xy : List Nat) (le : List Nat) (t2 : List Nat) (al : List Nat) (z2 : List Nat) (dd : List Nat) (r : List Nat) : List Value :=
  (numVal p) :: (.pointer (some ⟨g_base, 0, none⟩)) :: (.pointer (some ⟨gr, 0, none⟩)) :: (.pointer (some ⟨gx, 0, none⟩)) :: (.pointer (some ⟨gy, 0, none⟩)) :: (.pointer (some ⟨gz, 0, none⟩)) :: (.pointer (some ⟨gm, 0, none⟩)) :: (.pointer (some ⟨gl, 0, none⟩)) :: (.pointer (some ⟨g_base, 0, none⟩)) :: (numVal px) :: (numVal xx) :: (.pointer (some ⟨g_base, 5, none⟩)) :: (numVal py) :: (numVal yy) :: (.pointer (some ⟨g_base, 10, none⟩)) :: (numVal pz) :: (numVal zz) :: (.pointer (some ⟨g_base, 0, none⟩)) :: (numVal px) :: (.pointer (some ⟨g_base, 5, none⟩)) :: (numVal py) :: (numVal xy) :: (numVal yy) :: (numVal xx) :: (numVal le) :: (numVal xy) :: (numVal xy) :: (numVal t2) :: (numVal le) :: (numVal yy) :: (numVal xx) :: (numVal al) :: (numVal zz) :: (numVal zz) :: (numVal z2) :: (numVal le) :: (numVal dd) :: (numVal r) :: []
set_option maxRecDepth 100000 in
set_option maxHeartbeats 1000000 in
theorem utwice_over (p px py pz xx yy zz xy le t2 al z2 dd r : List Nat) (w : World)
    (Hpx : Hid (px.length = 5))
    (Hpy : Hid (py.length = 5))
    (Hpz : Hid (pz.length = 5))
    (Hxx : Hid (xx.length = 5))
    (Hyy : Hid (yy.length = 5))
    (Hzz : Hid (zz.length = 5))
    (Hxy : Hid (xy.length = 5))
    (Hle : Hid (le.length = 5))
    (Hr : Hid (r.length = 15))
    (Fp : Hid (p = px ++ py ++ pz))
    (C1 : Hid (∀ W, Calls Tryd.prog 51 #[numVal px] W fun e w' => e = .returned (numVal xx) ∧ Below W.heap.size W w'))
    (C2 : Hid (∀ W, Calls Tryd.prog 51 #[numVal py] W fun e w' => e = .returned (numVal yy) ∧ Below W.heap.size W w'))
    (C3 : Hid (∀ W, Calls Tryd.prog 51 #[numVal pz] W fun e w' => e = .returned (numVal zz) ∧ Below W.heap.size W w'))
    (C4 : Hid (∀ W, Calls Tryd.prog 43 #[numVal px, numVal py] W fun e w' => e = .returned (numVal xy) ∧ Below W.heap.size W w'))
    (C5 : Hid (∀ W, Calls Tryd.prog 47 #[numVal yy, numVal xx] W fun e w' => e = .returned (numVal le) ∧ Below W.heap.size W w'))
    (C6 : Hid (∀ W, Calls Tryd.prog 50 #[numVal xy, numVal xy] W fun e w' => e = .returned (numVal t2) ∧ Below W.heap.size W w'))
    (C7 : Hid (∀ W, Calls Tryd.prog 50 #[numVal yy, numVal xx] W fun e w' => e = .returned (numVal al) ∧ Below W.heap.size W w'))
    (C8 : Hid (∀ W, Calls Tryd.prog 50 #[numVal zz, numVal zz] W fun e w' => e = .returned (numVal z2) ∧ Below W.heap.size W w'))
    (C9 : Hid (∀ W, Calls Tryd.prog 47 #[numVal z2, numVal le] W fun e w' => e = .returned (numVal dd) ∧ Below W.heap.size W w'))
    (C10 : Hid (∀ W, Calls Tryd.prog 53 #[numVal t2, numVal le, numVal al, numVal dd] W fun e w' => e = .returned (numVal r) ∧ Below W.heap.size W w')) :
    Calls Tryd.prog 90 #[numVal p] w fun e w' => e = .returned (numVal r) ∧ Below w.heap.size w w' := by
  go_enter Tryd.func90, Tryd.ntmps90
  go_wp2_with (first
    | (refine vtake_step rfl 31 (.tmp 0) rfl (p.map ncell) rfl ?_
       intro w1 hb1 hvp1
       have hB1 := hb1
       have hgep : w.heap.size ≤ w.heap.size := Nat.le_refl _
       clear  hb1
       try simp only [Act.put, List.setIfInBounds_toArray, List.set_cons_zero, List.set_cons_succ]
       skip)
    | (refine vzero_step (o := ⟨some 2, _, _, _, _, _⟩) rfl 31 rfl (nzeros 15) zero_up ?_
       intro w2 hb2 hvr2
       have hB2 := below_then hB1 hb2
       have hger : w.heap.size ≤ w1.heap.size := hB1.size
       have hvp2 := hvp1.on hb2
       have hnepr := Nat.ne_of_lt hvp1.lt
       clear hB1 hvp1 hb2
       try simp only [Act.put, List.setIfInBounds_toArray, List.set_cons_zero, List.set_cons_succ]
       skip))
  generalize hqr : w1.heap.size = gr at *
  clear hqr
  replace hvp2 := hvp2.drew
  replace hvr2 := hvr2.drew
  refine wp_region_any (by kernel_rfl) ?_
  refine wpAny_flatS (L := [0, 1, 2, 3, 4, 5, 6, 7, 8, 9, 10, 11, 12, 13, 14]) (by kernel_rfl) _ _ (utwVs1 p w.heap.size gr px xx py yy pz zz) [(9, 3), (10, 4), (11, 5)] (fun _ => 29) (fun _ => (nzeros 5)) (fun s => bif s == 3 then some (12, xx.map ncell) else bif s == 4 then some (13, yy.map ncell) else bif s == 5 then some (14, zz.map ncell) else none) [0, 1, 2, 6, 7, 17, 18, 19, 20, 21, 22, 23, 24, 25, 26, 27, 28, 29, 30, 31, 32, 33, 34, 35, 36, 37] (by kernel_rfl) (by kernel_rfl) ?_ (fun _ _ => zero_elem) ?_ ?_ ?_ (by rfl) ?_ 0 (by kernel_rfl) ?_
  · intro p hp
    rcases List.mem_cons.1 hp with rfl | hp
    · exact ⟨⟨_, rfl, rfl, rfl, rfl, by kernel_rfl, by kernel_rfl⟩⟩
    rcases List.mem_cons.1 hp with rfl | hp
    · exact ⟨⟨_, rfl, rfl, rfl, rfl, by kernel_rfl, by kernel_rfl⟩⟩
    rcases List.mem_cons.1 hp with rfl | hp
    · exact ⟨⟨_, rfl, rfl, rfl, rfl, by kernel_rfl, by kernel_rfl⟩⟩
    exact absurd hp List.not_mem_nil
  · intro p hp j l h
    rcases List.mem_cons.1 hp with rfl | hp
    · change some (12, xx.map ncell) = some (j, l) at h
      cases h
      exact ⟨⟨_, 10, rfl, rfl, rfl, rfl, by kernel_rfl, by kernel_rfl, by kernel_rfl, rfl, by rw [List.length_map, Hxx.out]; exact size_elem, by rw [List.length_map, Hxx.out]; rfl, ncells_one _⟩, by decide⟩
    rcases List.mem_cons.1 hp with rfl | hp
    · change some (13, yy.map ncell) = some (j, l) at h
      cases h
      exact ⟨⟨_, 13, rfl, rfl, rfl, rfl, by kernel_rfl, by kernel_rfl, by kernel_rfl, rfl, by rw [List.length_map, Hyy.out]; exact size_elem, by rw [List.length_map, Hyy.out]; rfl, ncells_one _⟩, by decide⟩
    rcases List.mem_cons.1 hp with rfl | hp
    · change some (14, zz.map ncell) = some (j, l) at h
      cases h
      exact ⟨⟨_, 16, rfl, rfl, rfl, rfl, by kernel_rfl, by kernel_rfl, by kernel_rfl, rfl, by rw [List.length_map, Hzz.out]; exact size_elem, by rw [List.length_map, Hzz.out]; rfl, ncells_one _⟩, by decide⟩
    exact absurd hp List.not_mem_nil
  · intro p hp q hq j l l2 h1 h2
    rcases List.mem_cons.1 hp with rfl | hp
    · rcases List.mem_cons.1 hq with rfl | hq
      · rfl
      rcases List.mem_cons.1 hq with rfl | hq
      · change some (12, _) = some (j, l) at h1
        change some (13, _) = some (j, l2) at h2
        exact absurd ((Prod.mk.inj (Option.some.inj h1)).1.trans (Prod.mk.inj (Option.some.inj h2)).1.symm) (by decide)
      rcases List.mem_cons.1 hq with rfl | hq
      · change some (12, _) = some (j, l) at h1
        change some (14, _) = some (j, l2) at h2
        exact absurd ((Prod.mk.inj (Option.some.inj h1)).1.trans (Prod.mk.inj (Option.some.inj h2)).1.symm) (by decide)
      exact absurd hq List.not_mem_nil
    rcases List.mem_cons.1 hp with rfl | hp
    · rcases List.mem_cons.1 hq with rfl | hq
      · change some (13, _) = some (j, l) at h1
        change some (12, _) = some (j, l2) at h2
        exact absurd ((Prod.mk.inj (Option.some.inj h1)).1.trans (Prod.mk.inj (Option.some.inj h2)).1.symm) (by decide)
      rcases List.mem_cons.1 hq with rfl | hq
      · rfl
      rcases List.mem_cons.1 hq with rfl | hq
      · change some (13, _) = some (j, l) at h1
        change some (14, _) = some (j, l2) at h2
        exact absurd ((Prod.mk.inj (Option.some.inj h1)).1.trans (Prod.mk.inj (Option.some.inj h2)).1.symm) (by decide)
      exact absurd hq List.not_mem_nil
    rcases List.mem_cons.1 hp with rfl | hp
    · rcases List.mem_cons.1 hq with rfl | hq
      · change some (14, _) = some (j, l) at h1
        change some (12, _) = some (j, l2) at h2
        exact absurd ((Prod.mk.inj (Option.some.inj h1)).1.trans (Prod.mk.inj (Option.some.inj h2)).1.symm) (by decide)
      rcases List.mem_cons.1 hq with rfl | hq
      · change some (14, _) = some (j, l) at h1
        change some (13, _) = some (j, l2) at h2
        exact absurd ((Prod.mk.inj (Option.some.inj h1)).1.trans (Prod.mk.inj (Option.some.inj h2)).1.symm) (by decide)
      rcases List.mem_cons.1 hq with rfl | hq
      · rfl
      exact absurd hq List.not_mem_nil
    exact absurd hp List.not_mem_nil
  · repeat refine all_cons rfl ?_
    exact all_nil
  · refine all_cons (.inr (.inl (mStep _ 8 rfl rfl rfl rfl (by kernel_rfl) (fun a hv => wanted_all rfl _) (fun a w K hb hv hK => mPure _ (exec_field _ _ _ _ 0 rfl _ _ (hv 1 (by kernel_rfl) rfl) w (field_u0 _ w)) hK)))) ?_
    refine all_cons (.inr (.inl (mStep _ 9 rfl rfl rfl rfl (by kernel_rfl) (fun a hv => wanted_all rfl _) (fun a w K hb hv hK => mPure (numVal px) (exec_load _ _ _ _ rfl _ _ (hv 8 (by kernel_rfl) rfl) w (load_u0 (hvp2.on hb) Fp.out Hpx.out)) hK)))) ?_
    refine all_cons (.inr (.inl (mStep _ 10 rfl rfl rfl rfl (by kernel_rfl) (fun a hv => wanted_all rfl _) (fun a w K hb hv hK => mCall (numVal xx) 51 _ _ rfl [numVal px] (cons_eq (hv 9 (by kernel_rfl) rfl) (rfl)) (enters Tryd.func51 rfl rfl) (C1.out w) hK)))) ?_
    refine all_cons (.inr (.inl (mStep _ 11 rfl rfl rfl rfl (by kernel_rfl) (fun a hv => wanted_all rfl _) (fun a w K hb hv hK => mPure _ (exec_field _ _ _ _ 1 rfl _ _ (hv 1 (by kernel_rfl) rfl) w (field_u1 _ w)) hK)))) ?_
    refine all_cons (.inr (.inl (mStep _ 12 rfl rfl rfl rfl (by kernel_rfl) (fun a hv => wanted_all rfl _) (fun a w K hb hv hK => mPure (numVal py) (exec_load _ _ _ _ rfl _ _ (hv 11 (by kernel_rfl) rfl) w (load_u1 (hvp2.on hb) Fp.out Hpx.out Hpy.out)) hK)))) ?_
    refine all_cons (.inr (.inl (mStep _ 13 rfl rfl rfl rfl (by kernel_rfl) (fun a hv => wanted_all rfl _) (fun a w K hb hv hK => mCall (numVal yy) 51 _ _ rfl [numVal py] (cons_eq (hv 12 (by kernel_rfl) rfl) (rfl)) (enters Tryd.func51 rfl rfl) (C2.out w) hK)))) ?_
    refine all_cons (.inr (.inl (mStep _ 14 rfl rfl rfl rfl (by kernel_rfl) (fun a hv => wanted_all rfl _) (fun a w K hb hv hK => mPure _ (exec_field _ _ _ _ 2 rfl _ _ (hv 1 (by kernel_rfl) rfl) w (field_u2 _ w)) hK)))) ?_
    refine all_cons (.inr (.inl (mStep _ 15 rfl rfl rfl rfl (by kernel_rfl) (fun a hv => wanted_all rfl _) (fun a w K hb hv hK => mPure (numVal pz) (exec_load _ _ _ _ rfl _ _ (hv 14 (by kernel_rfl) rfl) w (load_u2 (hvp2.on hb) Fp.out Hpx.out Hpy.out Hpz.out)) hK)))) ?_
    refine all_cons (.inr (.inl (mStep _ 16 rfl rfl rfl rfl (by kernel_rfl) (fun a hv => wanted_all rfl _) (fun a w K hb hv hK => mCall (numVal zz) 51 _ _ rfl [numVal pz] (cons_eq (hv 15 (by kernel_rfl) rfl) (rfl)) (enters Tryd.func51 rfl rfl) (C3.out w) hK)))) ?_
    refine all_cons (.inl ⟨(9, 3), by simp, rfl⟩) ?_
    refine all_cons (.inl ⟨(10, 4), by simp, rfl⟩) ?_
    refine all_cons (.inl ⟨(11, 5), by simp, rfl⟩) ?_
    refine all_cons (.inr (.inr ⟨(9, 3), by simp, _, rfl⟩)) ?_
    refine all_cons (.inr (.inr ⟨(10, 4), by simp, _, rfl⟩)) ?_
    refine all_cons (.inr (.inr ⟨(11, 5), by simp, _, rfl⟩)) ?_
    exact all_nil
  intro w3 g hb3 hN3 hap3
  obtain ⟨hgex, hvx3⟩ := hN3 (9, 3) (by simp)
  obtain ⟨hgey, hvy3⟩ := hN3 (10, 4) (by simp)
  obtain ⟨hgez, hvz3⟩ := hN3 (11, 5) (by simp)
  have hnexy := hap3 (9, 3) (by simp) (10, 4) (by simp) (by decide)
  have hnexz := hap3 (9, 3) (by simp) (11, 5) (by simp) (by decide)
  have hneyz := hap3 (10, 4) (by simp) (11, 5) (by simp) (by decide)
  clear hN3 hap3
  have hB3 := below_then (show Below w.heap.size w w2.drew from hB2.drew) hb3
  have hltp : w.heap.size < w2.heap.size := hvp2.lt
  have hltr : gr < w2.heap.size := hvr2.lt
  have hvp3 := hvp2.on hb3
  have hvr3 := hvr2.on hb3
  rw [show withNew g [(9, 3), (10, 4), (11, 5)] (utwVs1 p w.heap.size gr px xx py yy pz zz) = utwVs1N p w.heap.size gr px xx py yy pz zz (g 3) (g 4) (g 5) from rfl]
  replace hgex : w2.heap.size ≤ g 3 := hgex
  replace hvx3 : Cells w3 (g 3) (xx.map ncell) 29 := hvx3
  replace hgey : w2.heap.size ≤ g 4 := hgey
  replace hvy3 : Cells w3 (g 4) (yy.map ncell) 29 := hvy3
  replace hgez : w2.heap.size ≤ g 5 := hgez
  replace hvz3 : Cells w3 (g 5) (zz.map ncell) 29 := hvz3
  replace hnexy : g 3 ≠ g 4 := hnexy
  replace hnexz : g 3 ≠ g 5 := hnexz
  replace hneyz : g 4 ≠ g 5 := hneyz
  have hnepx : w.heap.size ≠ g 3 := Nat.ne_of_lt (Nat.lt_of_lt_of_le hltp hgex)
  have hnerx : gr ≠ g 3 := Nat.ne_of_lt (Nat.lt_of_lt_of_le hltr hgex)
  replace hgex : w.heap.size ≤ g 3 := Nat.le_trans (show w.heap.size ≤ w2.heap.size from hB2.size) hgex
  have hnepy : w.heap.size ≠ g 4 := Nat.ne_of_lt (Nat.lt_of_lt_of_le hltp hgey)
  have hnery : gr ≠ g 4 := Nat.ne_of_lt (Nat.lt_of_lt_of_le hltr hgey)
  replace hgey : w.heap.size ≤ g 4 := Nat.le_trans (show w.heap.size ≤ w2.heap.size from hB2.size) hgey
  have hnepz : w.heap.size ≠ g 5 := Nat.ne_of_lt (Nat.lt_of_lt_of_le hltp hgez)
  have hnerz : gr ≠ g 5 := Nat.ne_of_lt (Nat.lt_of_lt_of_le hltr hgez)
  replace hgez : w.heap.size ≤ g 5 := Nat.le_trans (show w.heap.size ≤ w2.heap.size from hB2.size) hgez
  clear hltp hltr
  generalize g 3 = gx at *
  generalize g 4 = gy at *
  generalize g 5 = gz at *
  clear hB2 hvp2 hvr2 hb3
  refine ⟨by kernel_rfl, ?_⟩
  rename_i K hKK
  show Exit.then K _ Exit.normal (⟨(utwVs1N p w.heap.size gr px xx py yy pz zz gx gy gz).toArray, []⟩ : Act) w3
  simp only [Exit.then]
  refine hKK _ _ ?_
  clear hKK K g
  simp only [utwVs1N]
  go_upto_region 2 with fail
  refine wp_region_flat (md := .any) (by kernel_rfl) ?_
  refine wpAny_flatM (L := [0, 1, 2, 3, 4, 5]) (by kernel_rfl) _ _ (utwVs2_1 p w.heap.size gr gx gy gz px xx py yy pz zz xy) [(5, 6)] 29 (nzeros 5) [0, 1, 2, 3, 4, 5, 7, 8, 9, 10, 11, 12, 13, 14, 15, 16, 22, 23, 24, 25, 26, 27, 28, 29, 30, 31, 32, 33, 34, 35, 36, 37] (by kernel_rfl) (by kernel_rfl) ?_ zero_elem ?_ (by rfl) ?_ 1 (by kernel_rfl) ?_
  · intro p hp
    rcases List.mem_cons.1 hp with rfl | hp
    · exact ⟨⟨_, rfl, rfl, rfl, rfl, by kernel_rfl, by kernel_rfl⟩⟩
    exact absurd hp List.not_mem_nil
  · repeat refine all_cons rfl ?_
    exact all_nil
  · refine all_cons (.inr (mStep _ 17 rfl rfl rfl rfl (by kernel_rfl) (fun a hv => wanted_all rfl _) (fun a w K hb hv hK => mPure _ (exec_field _ _ _ _ 0 rfl _ _ (hv 1 (by kernel_rfl) rfl) w (field_u0 _ w)) hK))) ?_
    refine all_cons (.inr (mStep _ 18 rfl rfl rfl rfl (by kernel_rfl) (fun a hv => wanted_all rfl _) (fun a w K hb hv hK => mPure (numVal px) (exec_load _ _ _ _ rfl _ _ (hv 17 (by kernel_rfl) rfl) w (load_u0 (hvp3.on hb) Fp.out Hpx.out)) hK))) ?_
    refine all_cons (.inr (mStep _ 19 rfl rfl rfl rfl (by kernel_rfl) (fun a hv => wanted_all rfl _) (fun a w K hb hv hK => mPure _ (exec_field _ _ _ _ 1 rfl _ _ (hv 1 (by kernel_rfl) rfl) w (field_u1 _ w)) hK))) ?_
    refine all_cons (.inr (mStep _ 20 rfl rfl rfl rfl (by kernel_rfl) (fun a hv => wanted_all rfl _) (fun a w K hb hv hK => mPure (numVal py) (exec_load _ _ _ _ rfl _ _ (hv 19 (by kernel_rfl) rfl) w (load_u1 (hvp3.on hb) Fp.out Hpx.out Hpy.out)) hK))) ?_
    refine all_cons (.inr (mStep _ 21 rfl rfl rfl rfl (by kernel_rfl) (fun a hv => wanted_all rfl _) (fun a w K hb hv hK => mCall (numVal xy) 43 _ _ rfl [numVal px, numVal py] (cons_eq (hv 18 (by kernel_rfl) rfl) (cons_eq (hv 20 (by kernel_rfl) rfl) (rfl))) (enters Tryd.func43 rfl rfl) (C4.out w) hK))) ?_
    refine all_cons (.inl ⟨(5, 6), by simp, rfl⟩) ?_
    exact all_nil
  intro w4 g hb4 hN4 hap4
  obtain ⟨hgem, hvm4⟩ := hN4 (5, 6) (by simp)
  clear hN4 hap4
  have hB4 := below_then hB3 hb4
  have hltp : w.heap.size < w3.heap.size := hvp3.lt
  have hltr : gr < w3.heap.size := hvr3.lt
  have hltx : gx < w3.heap.size := hvx3.lt
  have hlty : gy < w3.heap.size := hvy3.lt
  have hltz : gz < w3.heap.size := hvz3.lt
  have hvp4 := hvp3.on hb4
  have hvr4 := hvr3.on hb4
  have hvx4 := hvx3.on hb4
  have hvy4 := hvy3.on hb4
  have hvz4 := hvz3.on hb4
  rw [show withNew g [(5, 6)] (utwVs2_1 p w.heap.size gr gx gy gz px xx py yy pz zz xy) = utwVs2_1N p w.heap.size gr gx gy gz px xx py yy pz zz xy (g 6) from rfl]
  replace hgem : w3.heap.size ≤ g 6 := hgem
  replace hvm4 : Cells w4 (g 6) (nzeros 5) 29 := hvm4
  have hnepm : w.heap.size ≠ g 6 := Nat.ne_of_lt (Nat.lt_of_lt_of_le hltp hgem)
  have hnerm : gr ≠ g 6 := Nat.ne_of_lt (Nat.lt_of_lt_of_le hltr hgem)
  have hnexm : gx ≠ g 6 := Nat.ne_of_lt (Nat.lt_of_lt_of_le hltx hgem)
  have hneym : gy ≠ g 6 := Nat.ne_of_lt (Nat.lt_of_lt_of_le hlty hgem)
  have hnezm : gz ≠ g 6 := Nat.ne_of_lt (Nat.lt_of_lt_of_le hltz hgem)
  replace hgem : w.heap.size ≤ g 6 := Nat.le_trans (show w.heap.size ≤ w3.heap.size from hB3.size) hgem
  clear hltp hltr hltx hlty hltz
  generalize g 6 = gm at *
  clear hB3 hvp3 hvr3 hvx3 hvy3 hvz3 hb4
  refine wpAny_rest 6 rfl (by kernel_rfl) ?_
  refine vset_step rfl 29 (.tmp 6) (.tmp 21) rfl gm 5 (nzeros 5) (xy.map ncell) rfl rfl hvm4 rfl size_elem (by rw [List.length_map, Hxy.out]) (ncells_one _) ?_
  intro w5 hb5 hvm5 hz5
  have hB5 : Below w.heap.size w w5 := hB4.trans (hb5.below hgem hB4.size)
  have hvp5 := hvp4.but hb5 hnepm
  have hvr5 := hvr4.but hb5 hnerm
  have hvx5 := hvx4.but hb5 hnexm
  have hvy5 := hvy4.but hb5 hneym
  have hvz5 := hvz4.but hb5 hnezm
  clear hB4 hvm4 hb5 hz5 hvp4 hvr4 hvx4 hvy4 hvz4
  rename_i K hKK
  show Exit.then K _ Exit.normal (⟨(utwVs2_1N p w.heap.size gr gx gy gz px xx py yy pz zz xy gm).toArray, []⟩ : Act) w5
  simp only [Exit.then]
  refine hKK _ _ ?_
  clear hKK K g
  simp only [utwVs2_1N]
  go_wp2_with (first
    | (refine sget_step rfl 29 (.tmp 4) rfl gy 5 (yy.map ncell) rfl hvy5 Tryd.underlying29 rfl size_elem (by rw [List.length_map, Hyy.out]) ?_
       try simp only [Act.put, List.setIfInBounds_toArray, List.set_cons_zero, List.set_cons_succ]
       skip)
    | (refine sget_step rfl 29 (.tmp 3) rfl gx 5 (xx.map ncell) rfl hvx5 Tryd.underlying29 rfl size_elem (by rw [List.length_map, Hxx.out]) ?_
       try simp only [Act.put, List.setIfInBounds_toArray, List.set_cons_zero, List.set_cons_succ]
       skip))
  refine (C5.out w5).mono ?_
  rintro e w6 ⟨rfl, hb6⟩
  have hB6 := below_then hB5 hb6
  have hvp6 := hvp5.on hb6
  have hvr6 := hvr5.on hb6
  have hvx6 := hvx5.on hb6
  have hvy6 := hvy5.on hb6
  have hvz6 := hvz5.on hb6
  have hvm6 := hvm5.on hb6
  clear hB5 hvp5 hvr5 hvx5 hvy5 hvz5 hvm5 hb6
  go_wp2_with (first
    | (refine vput_step rfl rfl 29 (.tmp 7) (.tmp 24) rfl rfl 5 (nzeros 5) (le.map ncell) rfl rfl zero_elem rfl size_elem (by rw [List.length_map, Hle.out]) (ncells_one _) ?_
       intro w7 hb7 hvl7
       have hB7 := below_then hB6 hb7
       have hgel : w.heap.size ≤ w6.heap.size := hB6.size
       have hvp7 := hvp6.on hb7
       have hnepl := Nat.ne_of_lt hvp6.lt
       have hvr7 := hvr6.on hb7
       have hnerl := Nat.ne_of_lt hvr6.lt
       have hvx7 := hvx6.on hb7
       have hnexl := Nat.ne_of_lt hvx6.lt
       have hvy7 := hvy6.on hb7
       have hneyl := Nat.ne_of_lt hvy6.lt
       have hvz7 := hvz6.on hb7
       have hnezl := Nat.ne_of_lt hvz6.lt
       have hvm7 := hvm6.on hb7
       have hneml := Nat.ne_of_lt hvm6.lt
       clear hB6 hvp6 hvr6 hvx6 hvy6 hvz6 hvm6 hb7
       try simp only [Act.put, List.setIfInBounds_toArray, List.set_cons_zero, List.set_cons_succ]
       skip))
  generalize hql : w6.heap.size = gl at *
  clear hql
  replace hvp7 := hvp7.drew
  replace hvr7 := hvr7.drew
  replace hvx7 := hvx7.drew
  replace hvy7 := hvy7.drew
  replace hvz7 := hvz7.drew
  replace hvm7 := hvm7.drew
  replace hvl7 := hvl7.drew
  refine wp_region_any (by kernel_rfl) ?_
  refine wpAny_flatM (L := [0, 1, 2, 3, 4, 5, 6, 7, 8, 9, 10, 11, 12]) (by kernel_rfl) _ _ (utwVs4_2 p w.heap.size gr gx gy gz gm gl px xx py yy pz zz xy le t2 al z2 dd r) [] 31 (nzeros 15) [0, 1, 2, 3, 4, 5, 6, 7, 8, 9, 10, 11, 12, 13, 14, 15, 16, 17, 18, 19, 20, 21, 22, 23, 24] (by kernel_rfl) (by kernel_rfl) ?_ zero_up ?_ (by rfl) ?_ 1 (by kernel_rfl) ?_
  · intro p hp
    exact absurd hp List.not_mem_nil
  · repeat refine all_cons rfl ?_
    exact all_nil
  · refine all_cons (.inr (mStep _ 25 rfl rfl rfl rfl (by kernel_rfl) (fun a hv => wanted_all rfl _) (fun a w K hb hv hK => mPure (numVal xy) (exec_load _ _ _ _ rfl _ _ (hv 6 (by kernel_rfl) rfl) w (elem_run (hvm7.on hb) Hxy.out)) hK))) ?_
    refine all_cons (.inr (mStep _ 26 rfl rfl rfl rfl (by kernel_rfl) (fun a hv => wanted_all rfl _) (fun a w K hb hv hK => mPure (numVal xy) (exec_load _ _ _ _ rfl _ _ (hv 6 (by kernel_rfl) rfl) w (elem_run (hvm7.on hb) Hxy.out)) hK))) ?_
    refine all_cons (.inr (mStep _ 27 rfl rfl rfl rfl (by kernel_rfl) (fun a hv => wanted_all rfl _) (fun a w K hb hv hK => mCall (numVal t2) 50 _ _ rfl [numVal xy, numVal xy] (cons_eq (hv 25 (by kernel_rfl) rfl) (cons_eq (hv 26 (by kernel_rfl) rfl) (rfl))) (enters Tryd.func50 rfl rfl) (C6.out w) hK))) ?_
    refine all_cons (.inr (mStep _ 28 rfl rfl rfl rfl (by kernel_rfl) (fun a hv => wanted_all rfl _) (fun a w K hb hv hK => mPure (numVal le) (exec_load _ _ _ _ rfl _ _ (hv 7 (by kernel_rfl) rfl) w (elem_run (hvl7.on hb) Hle.out)) hK))) ?_
    refine all_cons (.inr (mStep _ 29 rfl rfl rfl rfl (by kernel_rfl) (fun a hv => wanted_all rfl _) (fun a w K hb hv hK => mPure (numVal yy) (exec_load _ _ _ _ rfl _ _ (hv 4 (by kernel_rfl) rfl) w (elem_run (hvy7.on hb) Hyy.out)) hK))) ?_
    refine all_cons (.inr (mStep _ 30 rfl rfl rfl rfl (by kernel_rfl) (fun a hv => wanted_all rfl _) (fun a w K hb hv hK => mPure (numVal xx) (exec_load _ _ _ _ rfl _ _ (hv 3 (by kernel_rfl) rfl) w (elem_run (hvx7.on hb) Hxx.out)) hK))) ?_
    refine all_cons (.inr (mStep _ 31 rfl rfl rfl rfl (by kernel_rfl) (fun a hv => wanted_all rfl _) (fun a w K hb hv hK => mCall (numVal al) 50 _ _ rfl [numVal yy, numVal xx] (cons_eq (hv 29 (by kernel_rfl) rfl) (cons_eq (hv 30 (by kernel_rfl) rfl) (rfl))) (enters Tryd.func50 rfl rfl) (C7.out w) hK))) ?_
    refine all_cons (.inr (mStep _ 32 rfl rfl rfl rfl (by kernel_rfl) (fun a hv => wanted_all rfl _) (fun a w K hb hv hK => mPure (numVal zz) (exec_load _ _ _ _ rfl _ _ (hv 5 (by kernel_rfl) rfl) w (elem_run (hvz7.on hb) Hzz.out)) hK))) ?_
    refine all_cons (.inr (mStep _ 33 rfl rfl rfl rfl (by kernel_rfl) (fun a hv => wanted_all rfl _) (fun a w K hb hv hK => mPure (numVal zz) (exec_load _ _ _ _ rfl _ _ (hv 5 (by kernel_rfl) rfl) w (elem_run (hvz7.on hb) Hzz.out)) hK))) ?_
    refine all_cons (.inr (mStep _ 34 rfl rfl rfl rfl (by kernel_rfl) (fun a hv => wanted_all rfl _) (fun a w K hb hv hK => mCall (numVal z2) 50 _ _ rfl [numVal zz, numVal zz] (cons_eq (hv 32 (by kernel_rfl) rfl) (cons_eq (hv 33 (by kernel_rfl) rfl) (rfl))) (enters Tryd.func50 rfl rfl) (C8.out w) hK))) ?_
    refine all_cons (.inr (mStep _ 35 rfl rfl rfl rfl (by kernel_rfl) (fun a hv => wanted_all rfl _) (fun a w K hb hv hK => mPure (numVal le) (exec_load _ _ _ _ rfl _ _ (hv 7 (by kernel_rfl) rfl) w (elem_run (hvl7.on hb) Hle.out)) hK))) ?_
    refine all_cons (.inr (mStep _ 36 rfl rfl rfl rfl (by kernel_rfl) (fun a hv => wanted_all rfl _) (fun a w K hb hv hK => mCall (numVal dd) 47 _ _ rfl [numVal z2, numVal le] (cons_eq (hv 34 (by kernel_rfl) rfl) (cons_eq (hv 35 (by kernel_rfl) rfl) (rfl))) (enters Tryd.func47 rfl rfl) (C9.out w) hK))) ?_
    refine all_cons (.inr (mStep _ 37 rfl rfl rfl rfl (by kernel_rfl) (fun a hv => wanted_all rfl _) (fun a w K hb hv hK => mCall (numVal r) 53 _ _ rfl [numVal t2, numVal le, numVal al, numVal dd] (cons_eq (hv 27 (by kernel_rfl) rfl) (cons_eq (hv 28 (by kernel_rfl) rfl) (cons_eq (hv 31 (by kernel_rfl) rfl) (cons_eq (hv 36 (by kernel_rfl) rfl) (rfl))))) (enters Tryd.func53 rfl rfl) (C10.out w) hK))) ?_
    exact all_nil
  intro w8 g hb8 hN8 hap8
  clear hN8 hap8
  have hB8 := below_then (show Below w.heap.size w w7.drew from hB7.drew) hb8
  have hvp8 := hvp7.on hb8
  have hvr8 := hvr7.on hb8
  have hvx8 := hvx7.on hb8
  have hvy8 := hvy7.on hb8
  have hvz8 := hvz7.on hb8
  have hvm8 := hvm7.on hb8
  have hvl8 := hvl7.on hb8
  clear hB7 hvp7 hvr7 hvx7 hvy7 hvz7 hvm7 hvl7 hb8
  refine wpAny_rest 13 rfl (by kernel_rfl) ?_
  refine vset_step rfl 31 (.tmp 2) (.tmp 37) rfl gr 15 (nzeros 15) (r.map ncell) rfl rfl hvr8 rfl size_up (by rw [List.length_map, Hr.out]) (ncells_one _) ?_
  intro w9 hb9 hvr9 hz9
  have hB9 : Below w.heap.size w w9 := hB8.trans (hb9.below hger hB8.size)
  have hvp9 := hvp8.but hb9 hnepr
  have hvx9 := hvx8.but hb9 (Ne.symm hnerx)
  have hvy9 := hvy8.but hb9 (Ne.symm hnery)
  have hvz9 := hvz8.but hb9 (Ne.symm hnerz)
  have hvm9 := hvm8.but hb9 (Ne.symm hnerm)
  have hvl9 := hvl8.but hb9 (Ne.symm hnerl)
  clear hB8 hvr8 hb9 hz9 hvp8 hvx8 hvy8 hvz8 hvm8 hvl8
  rename_i K hKK
  show Exit.then K _ Exit.normal (⟨(utwVs4_2 p w.heap.size gr gx gy gz gm gl px xx py yy pz zz xy le t2 al z2 dd r).toArray, []⟩ : Act) w9
  simp only [Exit.then]
  refine hKK _ _ ?_
  clear hKK K g
  simp only [utwVs4_2]
  go_wp2
  exact sret Tryd.results90 gr (r.map ncell) rfl hvr9 Tryd.underlying31 rfl size_up (by rw [List.length_map, Hr.out]) rfl ⟨rfl, hB9⟩
end Go.Proofs.YtagjbdhelfickaaDoor
