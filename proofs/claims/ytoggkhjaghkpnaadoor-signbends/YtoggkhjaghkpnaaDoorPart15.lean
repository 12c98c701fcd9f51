/- Part 15 of what the laws of this seat share: UTwice, UAdd, USame. -/
import Derived.Deep.Cut
import Derived.Test.YtoggkhjaghkpnaaDoorPart14
namespace Go.Proofs.YtoggkhjaghkpnaaDoor
open Go.RowKit
def utwVs1 (p : List Nat) (g_base : Nat) (gr : Nat) (px : List Nat) (xx : List Nat) (py : List Nat) (yy : List Nat) (pz : List Nat) (zz : List Nat) : List Value :=
  (numVal p) :: ptr g_base :: ptr gr :: ud 5 (ptr g_base :: (numVal px) :: (numVal xx) :: (.pointer (some ⟨g_base, 5, none⟩)) :: (numVal py) :: (numVal yy) :: (.pointer (some ⟨g_base, 10, none⟩)) :: (numVal pz) :: (numVal zz) :: ud 21 [])
def utwVs1N (p : List Nat) (g_base : Nat) (gr : Nat) (px : List Nat) (xx : List Nat) (py : List Nat) (yy : List Nat) (pz : List Nat) (zz : List Nat) (n3 n4 n5 : Nat) : List Value :=
  (numVal p) :: ptr g_base :: ptr gr :: ptr n3 :: ptr n4 :: ptr n5 :: undef :: undef :: ptr g_base :: (numVal px) :: (numVal xx) :: (.pointer (some ⟨g_base, 5, none⟩)) :: (numVal py) :: (numVal yy) :: (.pointer (some ⟨g_base, 10, none⟩)) :: (numVal pz) :: (numVal zz) :: ud 21 []
def utwVs2_1 (p : List Nat) (g_base : Nat) (gr : Nat) (gx : Nat) (gy : Nat) (gz : Nat) (px : List Nat) (xx : List Nat) (py : List Nat) (yy : List Nat) (pz : List Nat) (zz : List Nat) (xy : List Nat) : List Value :=
  (numVal p) :: ptr g_base :: ptr gr :: ptr gx :: ptr gy :: ptr gz :: undef :: undef :: ptr g_base :: (numVal px) :: (numVal xx) :: (.pointer (some ⟨g_base, 5, none⟩)) :: (numVal py) :: (numVal yy) :: (.pointer (some ⟨g_base, 10, none⟩)) :: (numVal pz) :: (numVal zz) :: ptr g_base :: (numVal px) :: (.pointer (some ⟨g_base, 5, none⟩)) :: (numVal py) :: (numVal xy) :: ud 16 []
def utwVs2_1N (p : List Nat) (g_base : Nat) (gr : Nat) (gx : Nat) (gy : Nat) (gz : Nat) (px : List Nat) (xx : List Nat) (py : List Nat) (yy : List Nat) (pz : List Nat) (zz : List Nat) (xy : List Nat) (n6 : Nat) : List Value :=
  (numVal p) :: ptr g_base :: ptr gr :: ptr gx :: ptr gy :: ptr gz :: ptr n6 :: undef :: ptr g_base :: (numVal px) :: (numVal xx) :: (.pointer (some ⟨g_base, 5, none⟩)) :: (numVal py) :: (numVal yy) :: (.pointer (some ⟨g_base, 10, none⟩)) :: (numVal pz) :: (numVal zz) :: ptr g_base :: (numVal px) :: (.pointer (some ⟨g_base, 5, none⟩)) :: (numVal py) :: (numVal xy) :: ud 16 []
def utwVs4_2 (p : List Nat) (g_base : Nat) (gr : Nat) (gx : Nat) (gy : Nat) (gz : Nat) (gm : Nat) (gl : Nat) (px : List Nat) (xx : List Nat) (py : List Nat) (yy : List Nat) (pz : List Nat) (zz : List Nat) (xy : List Nat) (le : List Nat) (t2 : List Nat) (al : List Nat) (z2 : List Nat) (dd : List Nat) (r : List Nat) : List Value :=
  (numVal p) :: ptr g_base :: ptr gr :: ptr gx :: ptr gy :: ptr gz :: ptr gm :: ptr gl :: ptr g_base :: (numVal px) :: (numVal xx) :: (.pointer (some ⟨g_base, 5, none⟩)) :: (numVal py) :: (numVal yy) :: (.pointer (some ⟨g_base, 10, none⟩)) :: (numVal pz) :: (numVal zz) :: ptr g_base :: (numVal px) :: (.pointer (some ⟨g_base, 5, none⟩)) :: (numVal py) :: (numVal xy) :: (numVal yy) :: (numVal xx) :: (numVal le) :: (numVal xy) :: (numVal xy) :: (numVal t2) :: (numVal le) :: (numVal yy) :: (numVal xx) :: (numVal al) :: (numVal zz) :: (numVal zz) :: (numVal z2) :: (numVal le) :: (numVal dd) :: (numVal r) :: []
set_option maxRecDepth 100000 in
set_option maxHeartbeats 1000000 in
theorem utwice_over (p px py pz xx yy zz xy le t2 al z2 dd r : List Nat) (w : World)
    (Hpx : Hid (px.length = 5))
    (Hpy : Hid (py.length = 5))
    (Hpz : Hid (pz.length = 5))
    (Hxx : Hid (xx.length = 5))
    (Hyy : Hid (yy.length = 5))
    (Hzz : Hid (zz.length = 5))
    (Hxy : Hid (xy.length = 5))
    (Hle : Hid (le.length = 5))
    (Hr : Hid (r.length = 15))
    (Fp : Hid (p = px ++ py ++ pz))
    (C1 : Hid (∀ W, Calls Tryd.prog 60 #[numVal px] W (gvn (numVal xx) W)))
    (C2 : Hid (∀ W, Calls Tryd.prog 60 #[numVal py] W (gvn (numVal yy) W)))
    (C3 : Hid (∀ W, Calls Tryd.prog 60 #[numVal pz] W (gvn (numVal zz) W)))
    (C4 : Hid (∀ W, Calls Tryd.prog 43 #[numVal px, numVal py] W (gvn (numVal xy) W)))
    (C5 : Hid (∀ W, Calls Tryd.prog 39 #[numVal yy, numVal xx] W (gvn (numVal le) W)))
    (C6 : Hid (∀ W, Calls Tryd.prog 62 #[numVal xy, numVal xy] W (gvn (numVal t2) W)))
    (C7 : Hid (∀ W, Calls Tryd.prog 62 #[numVal yy, numVal xx] W (gvn (numVal al) W)))
    (C8 : Hid (∀ W, Calls Tryd.prog 62 #[numVal zz, numVal zz] W (gvn (numVal z2) W)))
    (C9 : Hid (∀ W, Calls Tryd.prog 39 #[numVal z2, numVal le] W (gvn (numVal dd) W)))
    (C10 : Hid (∀ W, Calls Tryd.prog 87 #[numVal t2, numVal le, numVal al, numVal dd] W (gvn (numVal r) W))) :
    Calls Tryd.prog 86 #[numVal p] w (gvn (numVal r) w) := by
  go_enter Tryd.func86, Tryd.ntmps86
  go_wp2_with (first
    | (refine vtake_step rfl 46 (.tmp 0) rfl (p.map ncell) rfl ?_
       intro w1 hb1 hvp1
       have hB1 := hb1
       have hgep : w.heap.size ≤ w.heap.size := Nat.le_refl _
       clear  hb1
       try simp only [putS]
       skip)
    | (refine vzero_step (o := ⟨some 2, _, _, _, _, _⟩) rfl 46 rfl (nzeros 15) zero_up ?_
       intro w2 hb2 hvr2
       have hB2 := below_then hB1 hb2
       have hger : w.heap.size ≤ w1.heap.size := hB1.size
       have hvp2 := hvp1.on hb2
       have hnepr := Nat.ne_of_lt hvp1.lt
       clear hB1 hvp1 hb2
       try simp only [putS]
       skip))
  generalize hqr : w1.heap.size = gr at *
  clear hqr
  replace hvp2 := hvp2.drew
  replace hvr2 := hvr2.drew
  refine wp_region_any (by kernel_rfl) ?_
  refine wpAny_flatS (L := [0, 1, 2, 3, 4, 5, 6, 7, 8, 9, 10, 11, 12, 13, 14]) (by kernel_rfl) _ _ (utwVs1 p w.heap.size gr px xx py yy pz zz) [(9, 3), (10, 4), (11, 5)] (fun _ => 44) (fun _ => (nzeros 5)) (fun s => bif s == 3 then some (12, xx.map ncell) else bif s == 4 then some (13, yy.map ncell) else bif s == 5 then some (14, zz.map ncell) else none) [0, 1, 2, 6, 7, 17, 18, 19, 20, 21, 22, 23, 24, 25, 26, 27, 28, 29, 30, 31, 32, 33, 34, 35, 36, 37] (by kernel_rfl) (by kernel_rfl) ?_ (fun _ _ => zero_elem) ?_ ?_ ?_ (by rfl) ?_ 0 (by kernel_rfl) ?_
  · intro p hp
    rcases List.mem_cons.1 hp with rfl | hp
    · exact ⟨⟨_, rfl, rfl, rfl, rfl, by kernel_rfl, by kernel_rfl⟩⟩
    rcases List.mem_cons.1 hp with rfl | hp
    · exact ⟨⟨_, rfl, rfl, rfl, rfl, by kernel_rfl, by kernel_rfl⟩⟩
    rcases List.mem_cons.1 hp with rfl | hp
    · exact ⟨⟨_, rfl, rfl, rfl, rfl, by kernel_rfl, by kernel_rfl⟩⟩
    exact absurd hp List.not_mem_nil
  · intro p hp j l h
    rcases List.mem_cons.1 hp with rfl | hp
    · change some (12, xx.map ncell) = some (j, l) at h
      cases h
      exact ⟨⟨_, 10, rfl, rfl, rfl, rfl, by kernel_rfl, by kernel_rfl, by kernel_rfl, rfl, by rw [List.length_map, Hxx.out]; exact size_elem, by rw [List.length_map, Hxx.out]; rfl, ncells_one _⟩, by decide⟩
    rcases List.mem_cons.1 hp with rfl | hp
    · change some (13, yy.map ncell) = some (j, l) at h
      cases h
      exact ⟨⟨_, 13, rfl, rfl, rfl, rfl, by kernel_rfl, by kernel_rfl, by kernel_rfl, rfl, by rw [List.length_map, Hyy.out]; exact size_elem, by rw [List.length_map, Hyy.out]; rfl, ncells_one _⟩, by decide⟩
    rcases List.mem_cons.1 hp with rfl | hp
    · change some (14, zz.map ncell) = some (j, l) at h
      cases h
      exact ⟨⟨_, 16, rfl, rfl, rfl, rfl, by kernel_rfl, by kernel_rfl, by kernel_rfl, rfl, by rw [List.length_map, Hzz.out]; exact size_elem, by rw [List.length_map, Hzz.out]; rfl, ncells_one _⟩, by decide⟩
    exact absurd hp List.not_mem_nil
  · intro p hp q hq j l l2 h1 h2
    rcases List.mem_cons.1 hp with rfl | hp
    · rcases List.mem_cons.1 hq with rfl | hq
      · rfl
      rcases List.mem_cons.1 hq with rfl | hq
      · change some (12, _) = some (j, l) at h1
        change some (13, _) = some (j, l2) at h2
        exact absurd ((Prod.mk.inj (Option.some.inj h1)).1.trans (Prod.mk.inj (Option.some.inj h2)).1.symm) (by decide)
      rcases List.mem_cons.1 hq with rfl | hq
      · change some (12, _) = some (j, l) at h1
        change some (14, _) = some (j, l2) at h2
        exact absurd ((Prod.mk.inj (Option.some.inj h1)).1.trans (Prod.mk.inj (Option.some.inj h2)).1.symm) (by decide)
      exact absurd hq List.not_mem_nil
    rcases List.mem_cons.1 hp with rfl | hp
    · rcases List.mem_cons.1 hq with rfl | hq
      · change some (13, _) = some (j, l) at h1
        change some (12, _) = some (j, l2) at h2
        exact absurd ((Prod.mk.inj (Option.some.inj h1)).1.trans (Prod.mk.inj (Option.some.inj h2)).1.symm) (by decide)
      rcases List.mem_cons.1 hq with rfl | hq
      · rfl
      rcases List.mem_cons.1 hq with rfl | hq
      · change some (13, _) = some (j, l) at h1
        change some (14, _) = some (j, l2) at h2
        exact absurd ((Prod.mk.inj (Option.some.inj h1)).1.trans (Prod.mk.inj (Option.some.inj h2)).1.symm) (by decide)
      exact absurd hq List.not_mem_nil
    rcases List.mem_cons.1 hp with rfl | hp
    · rcases List.mem_cons.1 hq with rfl | hq
      · change some (14, _) = some (j, l) at h1
        change some (12, _) = some (j, l2) at h2
        exact absurd ((Prod.mk.inj (Option.some.inj h1)).1.trans (Prod.mk.inj (Option.some.inj h2)).1.symm) (by decide)
      rcases List.mem_cons.1 hq with rfl | hq
      · change some (14, _) = some (j, l) at h1
        change some (13, _) = some (j, l2) at h2
        exact absurd ((Prod.mk.inj (Option.some.inj h1)).1.trans (Prod.mk.inj (Option.some.inj h2)).1.symm) (by decide)
      rcases List.mem_cons.1 hq with rfl | hq
      · rfl
      exact absurd hq List.not_mem_nil
    exact absurd hp List.not_mem_nil
  · repeat refine all_cons rfl ?_
    exact all_nil
  · refine all_cons (.inr (.inl (mF 8 rfl (field_u0 _)))) ?_
    refine all_cons (.inr (.inl (mL 9 rfl fun w hb => load_u0 (hvp2.on hb) Fp.out Hpx.out))) ?_
    refine all_cons (.inr (.inl (mC 10 rfl Tryd.func60 fun w hb => C1.out w))) ?_
    refine all_cons (.inr (.inl (mF 11 rfl (field_u1 _)))) ?_
    refine all_cons (.inr (.inl (mL 12 rfl fun w hb => load_u1 (hvp2.on hb) Fp.out Hpx.out Hpy.out))) ?_
    refine all_cons (.inr (.inl (mC 13 rfl Tryd.func60 fun w hb => C2.out w))) ?_
    refine all_cons (.inr (.inl (mF 14 rfl (field_u2 _)))) ?_
    refine all_cons (.inr (.inl (mL 15 rfl fun w hb => load_u2 (hvp2.on hb) Fp.out Hpx.out Hpy.out Hpz.out))) ?_
    refine all_cons (.inr (.inl (mC 16 rfl Tryd.func60 fun w hb => C3.out w))) ?_
    refine all_cons (.inl ⟨(9, 3), by simp, rfl⟩) ?_
    refine all_cons (.inl ⟨(10, 4), by simp, rfl⟩) ?_
    refine all_cons (.inl ⟨(11, 5), by simp, rfl⟩) ?_
    refine all_cons (.inr (.inr ⟨(9, 3), by simp, _, rfl⟩)) ?_
    refine all_cons (.inr (.inr ⟨(10, 4), by simp, _, rfl⟩)) ?_
    refine all_cons (.inr (.inr ⟨(11, 5), by simp, _, rfl⟩)) ?_
    exact all_nil
  intro w3 g hb3 hN3 hap3
  obtain ⟨hgex, hvx3⟩ := hN3 (9, 3) (by simp)
  obtain ⟨hgey, hvy3⟩ := hN3 (10, 4) (by simp)
  obtain ⟨hgez, hvz3⟩ := hN3 (11, 5) (by simp)
  have hnexy := hap3 (9, 3) (by simp) (10, 4) (by simp) (by decide)
  have hnexz := hap3 (9, 3) (by simp) (11, 5) (by simp) (by decide)
  have hneyz := hap3 (10, 4) (by simp) (11, 5) (by simp) (by decide)
  clear hN3 hap3
  have hB3 := below_then (show Below w.heap.size w w2.drew from hB2.drew) hb3
  have hltp : w.heap.size < w2.heap.size := hvp2.lt
  have hltr : gr < w2.heap.size := hvr2.lt
  have hvp3 := hvp2.on hb3
  have hvr3 := hvr2.on hb3
  rw [show withNew g [(9, 3), (10, 4), (11, 5)] (utwVs1 p w.heap.size gr px xx py yy pz zz) = utwVs1N p w.heap.size gr px xx py yy pz zz (g 3) (g 4) (g 5) from rfl]
  replace hgex : w2.heap.size ≤ g 3 := hgex
  replace hvx3 : Cells w3 (g 3) (xx.map ncell) 44 := hvx3
  replace hgey : w2.heap.size ≤ g 4 := hgey
  replace hvy3 : Cells w3 (g 4) (yy.map ncell) 44 := hvy3
  replace hgez : w2.heap.size ≤ g 5 := hgez
  replace hvz3 : Cells w3 (g 5) (zz.map ncell) 44 := hvz3
  replace hnexy : g 3 ≠ g 4 := hnexy
  replace hnexz : g 3 ≠ g 5 := hnexz
  replace hneyz : g 4 ≠ g 5 := hneyz
  have hnepx : w.heap.size ≠ g 3 := Nat.ne_of_lt (Nat.lt_of_lt_of_le hltp hgex)
  have hnerx : gr ≠ g 3 := Nat.ne_of_lt (Nat.lt_of_lt_of_le hltr hgex)
  replace hgex : w.heap.size ≤ g 3 := Nat.le_trans (show w.heap.size ≤ w2.heap.size from hB2.size) hgex
  have hnepy : w.heap.size ≠ g 4 := Nat.ne_of_lt (Nat.lt_of_lt_of_le hltp hgey)
  have hnery : gr ≠ g 4 := Nat.ne_of_lt (Nat.lt_of_lt_of_le hltr hgey)
  replace hgey : w.heap.size ≤ g 4 := Nat.le_trans (show w.heap.size ≤ w2.heap.size from hB2.size) hgey
  have hnepz : w.heap.size ≠ g 5 := Nat.ne_of_lt (Nat.lt_of_lt_of_le hltp hgez)
  have hnerz : gr ≠ g 5 := Nat.ne_of_lt (Nat.lt_of_lt_of_le hltr hgez)
  replace hgez : w.heap.size ≤ g 5 := Nat.le_trans (show w.heap.size ≤ w2.heap.size from hB2.size) hgez
  clear hltp hltr
  generalize g 3 = gx at *
  generalize g 4 = gy at *
  generalize g 5 = gz at *
  clear hB2 hvp2 hvr2 hb3
  refine ⟨by kernel_rfl, ?_⟩
  rename_i K hKK
  show Exit.then K _ Exit.normal (⟨(utwVs1N p w.heap.size gr px xx py yy pz zz gx gy gz).toArray, []⟩ : Act) w3
  simp only [Exit.then]
  refine hKK _ _ ?_
  clear hKK K g
  simp only [utwVs1N, ptr, ud]
  go_upto_region 2 with fail
  refine wp_region_flat (md := .any) (by kernel_rfl) ?_
  refine wpAny_flatM (L := [0, 1, 2, 3, 4, 5]) (by kernel_rfl) _ _ (utwVs2_1 p w.heap.size gr gx gy gz px xx py yy pz zz xy) [(5, 6)] 44 (nzeros 5) [0, 1, 2, 3, 4, 5, 7, 8, 9, 10, 11, 12, 13, 14, 15, 16, 22, 23, 24, 25, 26, 27, 28, 29, 30, 31, 32, 33, 34, 35, 36, 37] (by kernel_rfl) (by kernel_rfl) ?_ zero_elem ?_ (by rfl) ?_ 1 (by kernel_rfl) ?_
  · intro p hp
    rcases List.mem_cons.1 hp with rfl | hp
    · exact ⟨⟨_, rfl, rfl, rfl, rfl, by kernel_rfl, by kernel_rfl⟩⟩
    exact absurd hp List.not_mem_nil
  · repeat refine all_cons rfl ?_
    exact all_nil
  · refine all_cons (.inr (mF 17 rfl (field_u0 _))) ?_
    refine all_cons (.inr (mL 18 rfl fun w hb => load_u0 (hvp3.on hb) Fp.out Hpx.out)) ?_
    refine all_cons (.inr (mF 19 rfl (field_u1 _))) ?_
    refine all_cons (.inr (mL 20 rfl fun w hb => load_u1 (hvp3.on hb) Fp.out Hpx.out Hpy.out)) ?_
    refine all_cons (.inr (mC 21 rfl Tryd.func43 fun w hb => C4.out w)) ?_
    refine all_cons (.inl ⟨(5, 6), by simp, rfl⟩) ?_
    exact all_nil
  intro w4 g hb4 hN4 hap4
  obtain ⟨hgem, hvm4⟩ := hN4 (5, 6) (by simp)
  clear hN4 hap4
  have hB4 := below_then hB3 hb4
  have hltp : w.heap.size < w3.heap.size := hvp3.lt
  have hltr : gr < w3.heap.size := hvr3.lt
  have hltx : gx < w3.heap.size := hvx3.lt
  have hlty : gy < w3.heap.size := hvy3.lt
  have hltz : gz < w3.heap.size := hvz3.lt
  have hvp4 := hvp3.on hb4
  have hvr4 := hvr3.on hb4
  have hvx4 := hvx3.on hb4
  have hvy4 := hvy3.on hb4
  have hvz4 := hvz3.on hb4
  rw [show withNew g [(5, 6)] (utwVs2_1 p w.heap.size gr gx gy gz px xx py yy pz zz xy) = utwVs2_1N p w.heap.size gr gx gy gz px xx py yy pz zz xy (g 6) from rfl]
  replace hgem : w3.heap.size ≤ g 6 := hgem
  replace hvm4 : Cells w4 (g 6) (nzeros 5) 44 := hvm4
  have hnepm : w.heap.size ≠ g 6 := Nat.ne_of_lt (Nat.lt_of_lt_of_le hltp hgem)
  have hnerm : gr ≠ g 6 := Nat.ne_of_lt (Nat.lt_of_lt_of_le hltr hgem)
  have hnexm : gx ≠ g 6 := Nat.ne_of_lt (Nat.lt_of_lt_of_le hltx hgem)
  have hneym : gy ≠ g 6 := Nat.ne_of_lt (Nat.lt_of_lt_of_le hlty hgem)
  have hnezm : gz ≠ g 6 := Nat.ne_of_lt (Nat.lt_of_lt_of_le hltz hgem)
  replace hgem : w.heap.size ≤ g 6 := Nat.le_trans (show w.heap.size ≤ w3.heap.size from hB3.size) hgem
  clear hltp hltr hltx hlty hltz
  generalize g 6 = gm at *
  clear hB3 hvp3 hvr3 hvx3 hvy3 hvz3 hb4
  refine wpAny_rest 6 rfl (by kernel_rfl) ?_
  refine vset_step rfl 44 (.tmp 6) (.tmp 21) rfl gm 5 (nzeros 5) (xy.map ncell) rfl rfl hvm4 rfl size_elem (by rw [List.length_map, Hxy.out]) (ncells_one _) ?_
  intro w5 hb5 hvm5 hz5
  have hB5 : Below w.heap.size w w5 := hB4.trans (hb5.below hgem hB4.size)
  have hvp5 := hvp4.but hb5 hnepm
  have hvr5 := hvr4.but hb5 hnerm
  have hvx5 := hvx4.but hb5 hnexm
  have hvy5 := hvy4.but hb5 hneym
  have hvz5 := hvz4.but hb5 hnezm
  clear hB4 hvm4 hb5 hz5 hvp4 hvr4 hvx4 hvy4 hvz4
  rename_i K hKK
  show Exit.then K _ Exit.normal (⟨(utwVs2_1N p w.heap.size gr gx gy gz px xx py yy pz zz xy gm).toArray, []⟩ : Act) w5
  simp only [Exit.then]
  refine hKK _ _ ?_
  clear hKK K g
  simp only [utwVs2_1N, ptr, ud]
  go_wp2_with (first
    | (refine sget_step rfl 44 (.tmp 4) rfl gy 5 (yy.map ncell) rfl hvy5 Tryd.underlying44 rfl size_elem (by rw [List.length_map, Hyy.out]) ?_
       try simp only [putS]
       skip)
    | (refine sget_step rfl 44 (.tmp 3) rfl gx 5 (xx.map ncell) rfl hvx5 Tryd.underlying44 rfl size_elem (by rw [List.length_map, Hxx.out]) ?_
       try simp only [putS]
       skip))
  refine (C5.out w5).mono ?_
  rintro e w6 ⟨rfl, hb6⟩
  have hB6 := below_then hB5 hb6
  have hvp6 := hvp5.on hb6
  have hvr6 := hvr5.on hb6
  have hvx6 := hvx5.on hb6
  have hvy6 := hvy5.on hb6
  have hvz6 := hvz5.on hb6
  have hvm6 := hvm5.on hb6
  clear hB5 hvp5 hvr5 hvx5 hvy5 hvz5 hvm5 hb6
  go_wp2_with (first
    | (refine vput_step rfl rfl 44 (.tmp 7) (.tmp 24) rfl rfl 5 (nzeros 5) (le.map ncell) rfl rfl zero_elem rfl size_elem (by rw [List.length_map, Hle.out]) (ncells_one _) ?_
       intro w7 hb7 hvl7
       have hB7 := below_then hB6 hb7
       have hgel : w.heap.size ≤ w6.heap.size := hB6.size
       have hvp7 := hvp6.on hb7
       have hnepl := Nat.ne_of_lt hvp6.lt
       have hvr7 := hvr6.on hb7
       have hnerl := Nat.ne_of_lt hvr6.lt
       have hvx7 := hvx6.on hb7
       have hnexl := Nat.ne_of_lt hvx6.lt
       have hvy7 := hvy6.on hb7
       have hneyl := Nat.ne_of_lt hvy6.lt
       have hvz7 := hvz6.on hb7
       have hnezl := Nat.ne_of_lt hvz6.lt
       have hvm7 := hvm6.on hb7
       have hneml := Nat.ne_of_lt hvm6.lt
       clear hB6 hvp6 hvr6 hvx6 hvy6 hvz6 hvm6 hb7
       try simp only [putS]
       skip))
  generalize hql : w6.heap.size = gl at *
  clear hql
  replace hvp7 := hvp7.drew
  replace hvr7 := hvr7.drew
  replace hvx7 := hvx7.drew
  replace hvy7 := hvy7.drew
  replace hvz7 := hvz7.drew
  replace hvm7 := hvm7.drew
  replace hvl7 := hvl7.drew
  refine wp_region_any (by kernel_rfl) ?_
  refine wpAny_flatM (L := [0, 1, 2, 3, 4, 5, 6, 7, 8, 9, 10, 11, 12]) (by kernel_rfl) _ _ (utwVs4_2 p w.heap.size gr gx gy gz gm gl px xx py yy pz zz xy le t2 al z2 dd r) [] 46 (nzeros 15) [0, 1, 2, 3, 4, 5, 6, 7, 8, 9, 10, 11, 12, 13, 14, 15, 16, 17, 18, 19, 20, 21, 22, 23, 24] (by kernel_rfl) (by kernel_rfl) ?_ zero_up ?_ (by rfl) ?_ 1 (by kernel_rfl) ?_
  · intro p hp
    exact absurd hp List.not_mem_nil
  · repeat refine all_cons rfl ?_
    exact all_nil
  · refine all_cons (.inr (mL 25 rfl fun w hb => elem_run (hvm7.on hb) Hxy.out)) ?_
    refine all_cons (.inr (mL 26 rfl fun w hb => elem_run (hvm7.on hb) Hxy.out)) ?_
    refine all_cons (.inr (mC 27 rfl Tryd.func62 fun w hb => C6.out w)) ?_
    refine all_cons (.inr (mL 28 rfl fun w hb => elem_run (hvl7.on hb) Hle.out)) ?_
    refine all_cons (.inr (mL 29 rfl fun w hb => elem_run (hvy7.on hb) Hyy.out)) ?_
    refine all_cons (.inr (mL 30 rfl fun w hb => elem_run (hvx7.on hb) Hxx.out)) ?_
    refine all_cons (.inr (mC 31 rfl Tryd.func62 fun w hb => C7.out w)) ?_
    refine all_cons (.inr (mL 32 rfl fun w hb => elem_run (hvz7.on hb) Hzz.out)) ?_
    refine all_cons (.inr (mL 33 rfl fun w hb => elem_run (hvz7.on hb) Hzz.out)) ?_
    refine all_cons (.inr (mC 34 rfl Tryd.func62 fun w hb => C8.out w)) ?_
    refine all_cons (.inr (mL 35 rfl fun w hb => elem_run (hvl7.on hb) Hle.out)) ?_
    refine all_cons (.inr (mC 36 rfl Tryd.func39 fun w hb => C9.out w)) ?_
    refine all_cons (.inr (mC 37 rfl Tryd.func87 fun w hb => C10.out w)) ?_
    exact all_nil
  intro w8 g hb8 hN8 hap8
  clear hN8 hap8
  have hB8 := below_then (show Below w.heap.size w w7.drew from hB7.drew) hb8
  have hvp8 := hvp7.on hb8
  have hvr8 := hvr7.on hb8
  have hvx8 := hvx7.on hb8
  have hvy8 := hvy7.on hb8
  have hvz8 := hvz7.on hb8
  have hvm8 := hvm7.on hb8
  have hvl8 := hvl7.on hb8
  clear hB7 hvp7 hvr7 hvx7 hvy7 hvz7 hvm7 hvl7 hb8
  refine wpAny_rest 13 rfl (by kernel_rfl) ?_
  refine vset_step rfl 46 (.tmp 2) (.tmp 37) rfl gr 15 (nzeros 15) (r.map ncell) rfl rfl hvr8 rfl size_up (by rw [List.length_map, Hr.out]) (ncells_one _) ?_
  intro w9 hb9 hvr9 hz9
  have hB9 : Below w.heap.size w w9 := hB8.trans (hb9.below hger hB8.size)
  have hvp9 := hvp8.but hb9 hnepr
  have hvx9 := hvx8.but hb9 (Ne.symm hnerx)
  have hvy9 := hvy8.but hb9 (Ne.symm hnery)
  have hvz9 := hvz8.but hb9 (Ne.symm hnerz)
  have hvm9 := hvm8.but hb9 (Ne.symm hnerm)
  have hvl9 := hvl8.but hb9 (Ne.symm hnerl)
  clear hB8 hvr8 hb9 hz9 hvp8 hvx8 hvy8 hvz8 hvm8 hvl8
  rename_i K hKK
  show Exit.then K _ Exit.normal (⟨(utwVs4_2 p w.heap.size gr gx gy gz gm gl px xx py yy pz zz xy le t2 al z2 dd r).toArray, []⟩ : Act) w9
  simp only [Exit.then]
  refine hKK _ _ ?_
  clear hKK K g
  simp only [utwVs4_2, ptr]
  go_wp2
  exact sret Tryd.results86 gr (r.map ncell) rfl hvr9 Tryd.underlying46 rfl size_up (by rw [List.length_map, Hr.out]) rfl ⟨rfl, hB9⟩
def uaddVs1 (p : List Nat) (q : List Nat) (g_base : Nat) (gq : Nat) (gr : Nat) (px : List Nat) (qx : List Nat) (xx : List Nat) (py : List Nat) (qy : List Nat) (yy : List Nat) : List Value :=
  (numVal p) :: (numVal q) :: ptr g_base :: ptr gq :: ptr gr :: ud 7 (ptr g_base :: (numVal px) :: ptr gq :: (numVal qx) :: (numVal xx) :: (.pointer (some ⟨g_base, 5, none⟩)) :: (numVal py) :: (.pointer (some ⟨gq, 5, none⟩)) :: (numVal qy) :: (numVal yy) :: ud 39 [])
def uaddVs1N (p : List Nat) (q : List Nat) (g_base : Nat) (gq : Nat) (gr : Nat) (px : List Nat) (qx : List Nat) (xx : List Nat) (py : List Nat) (qy : List Nat) (yy : List Nat) (n5 n6 : Nat) : List Value :=
  (numVal p) :: (numVal q) :: ptr g_base :: ptr gq :: ptr gr :: ptr n5 :: ptr n6 :: ud 5 (ptr g_base :: (numVal px) :: ptr gq :: (numVal qx) :: (numVal xx) :: (.pointer (some ⟨g_base, 5, none⟩)) :: (numVal py) :: (.pointer (some ⟨gq, 5, none⟩)) :: (numVal qy) :: (numVal yy) :: ud 39 [])
def uaddVs2_1 (p : List Nat) (q : List Nat) (g_base : Nat) (gq : Nat) (gr : Nat) (gx : Nat) (gy : Nat) (px : List Nat) (qx : List Nat) (xx : List Nat) (py : List Nat) (qy : List Nat) (yy : List Nat) (pz : List Nat) (qz : List Nat) (zz : List Nat) : List Value :=
  (numVal p) :: (numVal q) :: ptr g_base :: ptr gq :: ptr gr :: ptr gx :: ptr gy :: ud 5 (ptr g_base :: (numVal px) :: ptr gq :: (numVal qx) :: (numVal xx) :: (.pointer (some ⟨g_base, 5, none⟩)) :: (numVal py) :: (.pointer (some ⟨gq, 5, none⟩)) :: (numVal qy) :: (numVal yy) :: (.pointer (some ⟨g_base, 10, none⟩)) :: (numVal pz) :: (.pointer (some ⟨gq, 10, none⟩)) :: (numVal qz) :: (numVal zz) :: ud 34 [])
def uaddVs2_1N (p : List Nat) (q : List Nat) (g_base : Nat) (gq : Nat) (gr : Nat) (gx : Nat) (gy : Nat) (px : List Nat) (qx : List Nat) (xx : List Nat) (py : List Nat) (qy : List Nat) (yy : List Nat) (pz : List Nat) (qz : List Nat) (zz : List Nat) (n7 : Nat) : List Value :=
  (numVal p) :: (numVal q) :: ptr g_base :: ptr gq :: ptr gr :: ptr gx :: ptr gy :: ptr n7 :: ud 4 (ptr g_base :: (numVal px) :: ptr gq :: (numVal qx) :: (numVal xx) :: (.pointer (some ⟨g_base, 5, none⟩)) :: (numVal py) :: (.pointer (some ⟨gq, 5, none⟩)) :: (numVal qy) :: (numVal yy) :: (.pointer (some ⟨g_base, 10, none⟩)) :: (numVal pz) :: (.pointer (some ⟨gq, 10, none⟩)) :: (numVal qz) :: (numVal zz) :: ud 34 [])
def uaddVs3_2 (p : List Nat) (q : List Nat) (g_base : Nat) (gq : Nat) (gr : Nat) (gx : Nat) (gy : Nat) (gz : Nat) (px : List Nat) (qx : List Nat) (xx : List Nat) (py : List Nat) (qy : List Nat) (yy : List Nat) (pz : List Nat) (qz : List Nat) (zz : List Nat) (c1 : List Nat) (c2 : List Nat) (cr : List Nat) : List Value :=
  (numVal p) :: (numVal q) :: ptr g_base :: ptr gq :: ptr gr :: ptr gx :: ptr gy :: ptr gz :: ud 4 (ptr g_base :: (numVal px) :: ptr gq :: (numVal qx) :: (numVal xx) :: (.pointer (some ⟨g_base, 5, none⟩)) :: (numVal py) :: (.pointer (some ⟨gq, 5, none⟩)) :: (numVal qy) :: (numVal yy) :: (.pointer (some ⟨g_base, 10, none⟩)) :: (numVal pz) :: (.pointer (some ⟨gq, 10, none⟩)) :: (numVal qz) :: (numVal zz) :: ptr g_base :: (numVal px) :: (.pointer (some ⟨gq, 5, none⟩)) :: (numVal qy) :: (numVal c1) :: (.pointer (some ⟨g_base, 5, none⟩)) :: (numVal py) :: ptr gq :: (numVal qx) :: (numVal c2) :: (numVal cr) :: ud 23 [])
def uaddVs3_2N (p : List Nat) (q : List Nat) (g_base : Nat) (gq : Nat) (gr : Nat) (gx : Nat) (gy : Nat) (gz : Nat) (px : List Nat) (qx : List Nat) (xx : List Nat) (py : List Nat) (qy : List Nat) (yy : List Nat) (pz : List Nat) (qz : List Nat) (zz : List Nat) (c1 : List Nat) (c2 : List Nat) (cr : List Nat) (n8 : Nat) : List Value :=
  (numVal p) :: (numVal q) :: ptr g_base :: ptr gq :: ptr gr :: ptr gx :: ptr gy :: ptr gz :: ptr n8 :: ud 3 (ptr g_base :: (numVal px) :: ptr gq :: (numVal qx) :: (numVal xx) :: (.pointer (some ⟨g_base, 5, none⟩)) :: (numVal py) :: (.pointer (some ⟨gq, 5, none⟩)) :: (numVal qy) :: (numVal yy) :: (.pointer (some ⟨g_base, 10, none⟩)) :: (numVal pz) :: (.pointer (some ⟨gq, 10, none⟩)) :: (numVal qz) :: (numVal zz) :: ptr g_base :: (numVal px) :: (.pointer (some ⟨gq, 5, none⟩)) :: (numVal qy) :: (numVal c1) :: (.pointer (some ⟨g_base, 5, none⟩)) :: (numVal py) :: ptr gq :: (numVal qx) :: (numVal c2) :: (numVal cr) :: ud 23 [])
def uaddVs6_3 (p : List Nat) (q : List Nat) (g_base : Nat) (gq : Nat) (gr : Nat) (gx : Nat) (gy : Nat) (gz : Nat) (gc : Nat) (gl : Nat) (go : Nat) (px : List Nat) (qx : List Nat) (xx : List Nat) (py : List Nat) (qy : List Nat) (yy : List Nat) (pz : List Nat) (qz : List Nat) (zz : List Nat) (c1 : List Nat) (c2 : List Nat) (cr : List Nat) (al : List Nat) (ov : List Nat) (cv : List Nat) (dx : List Nat) (be : List Nat) : List Value :=
  (numVal p) :: (numVal q) :: ptr g_base :: ptr gq :: ptr gr :: ptr gx :: ptr gy :: ptr gz :: ptr gc :: ptr gl :: ptr go :: undef :: ptr g_base :: (numVal px) :: ptr gq :: (numVal qx) :: (numVal xx) :: (.pointer (some ⟨g_base, 5, none⟩)) :: (numVal py) :: (.pointer (some ⟨gq, 5, none⟩)) :: (numVal qy) :: (numVal yy) :: (.pointer (some ⟨g_base, 10, none⟩)) :: (numVal pz) :: (.pointer (some ⟨gq, 10, none⟩)) :: (numVal qz) :: (numVal zz) :: ptr g_base :: (numVal px) :: (.pointer (some ⟨gq, 5, none⟩)) :: (numVal qy) :: (numVal c1) :: (.pointer (some ⟨g_base, 5, none⟩)) :: (numVal py) :: ptr gq :: (numVal qx) :: (numVal c2) :: (numVal cr) :: (numVal yy) :: (numVal xx) :: (numVal al) :: (numVal zz) :: (numVal ov) :: (numVal cv) :: (numVal xx) :: (numVal dx) :: (numVal yy) :: (numVal be) :: ud 13 []
def uaddVs6_3N (p : List Nat) (q : List Nat) (g_base : Nat) (gq : Nat) (gr : Nat) (gx : Nat) (gy : Nat) (gz : Nat) (gc : Nat) (gl : Nat) (go : Nat) (px : List Nat) (qx : List Nat) (xx : List Nat) (py : List Nat) (qy : List Nat) (yy : List Nat) (pz : List Nat) (qz : List Nat) (zz : List Nat) (c1 : List Nat) (c2 : List Nat) (cr : List Nat) (al : List Nat) (ov : List Nat) (cv : List Nat) (dx : List Nat) (be : List Nat) (n11 : Nat) : List Value :=
  (numVal p) :: (numVal q) :: ptr g_base :: ptr gq :: ptr gr :: ptr gx :: ptr gy :: ptr gz :: ptr gc :: ptr gl :: ptr go :: ptr n11 :: ptr g_base :: (numVal px) :: ptr gq :: (numVal qx) :: (numVal xx) :: (.pointer (some ⟨g_base, 5, none⟩)) :: (numVal py) :: (.pointer (some ⟨gq, 5, none⟩)) :: (numVal qy) :: (numVal yy) :: (.pointer (some ⟨g_base, 10, none⟩)) :: (numVal pz) :: (.pointer (some ⟨gq, 10, none⟩)) :: (numVal qz) :: (numVal zz) :: ptr g_base :: (numVal px) :: (.pointer (some ⟨gq, 5, none⟩)) :: (numVal qy) :: (numVal c1) :: (.pointer (some ⟨g_base, 5, none⟩)) :: (numVal py) :: ptr gq :: (numVal qx) :: (numVal c2) :: (numVal cr) :: (numVal yy) :: (numVal xx) :: (numVal al) :: (numVal zz) :: (numVal ov) :: (numVal cv) :: (numVal xx) :: (numVal dx) :: (numVal yy) :: (numVal be) :: ud 13 []
def uaddVs7_4 (p : List Nat) (q : List Nat) (g_base : Nat) (gq : Nat) (gr : Nat) (gx : Nat) (gy : Nat) (gz : Nat) (gc : Nat) (gl : Nat) (go : Nat) (gb : Nat) (px : List Nat) (qx : List Nat) (xx : List Nat) (py : List Nat) (qy : List Nat) (yy : List Nat) (pz : List Nat) (qz : List Nat) (zz : List Nat) (c1 : List Nat) (c2 : List Nat) (cr : List Nat) (al : List Nat) (ov : List Nat) (cv : List Nat) (dx : List Nat) (be : List Nat) (aa : List Nat) (bb : List Nat) (cc : List Nat) (dd : List Nat) (r : List Nat) : List Value :=
  (numVal p) :: (numVal q) :: ptr g_base :: ptr gq :: ptr gr :: ptr gx :: ptr gy :: ptr gz :: ptr gc :: ptr gl :: ptr go :: ptr gb :: ptr g_base :: (numVal px) :: ptr gq :: (numVal qx) :: (numVal xx) :: (.pointer (some ⟨g_base, 5, none⟩)) :: (numVal py) :: (.pointer (some ⟨gq, 5, none⟩)) :: (numVal qy) :: (numVal yy) :: (.pointer (some ⟨g_base, 10, none⟩)) :: (numVal pz) :: (.pointer (some ⟨gq, 10, none⟩)) :: (numVal qz) :: (numVal zz) :: ptr g_base :: (numVal px) :: (.pointer (some ⟨gq, 5, none⟩)) :: (numVal qy) :: (numVal c1) :: (.pointer (some ⟨g_base, 5, none⟩)) :: (numVal py) :: ptr gq :: (numVal qx) :: (numVal c2) :: (numVal cr) :: (numVal yy) :: (numVal xx) :: (numVal al) :: (numVal zz) :: (numVal ov) :: (numVal cv) :: (numVal xx) :: (numVal dx) :: (numVal yy) :: (numVal be) :: (numVal cr) :: (numVal zz) :: (numVal aa) :: (numVal ov) :: (numVal be) :: (numVal bb) :: (numVal al) :: (numVal zz) :: (numVal cc) :: (numVal ov) :: (numVal be) :: (numVal dd) :: (numVal r) :: []
set_option maxRecDepth 100000 in
set_option maxHeartbeats 2000000 in
theorem uadd_over (p px py pz q qx qy qz xx yy zz c1 c2 cr al ov cv dx be aa bb cc dd r : List Nat) (E : Value) (w : World)
    (Hpx : Hid (px.length = 5))
    (Hpy : Hid (py.length = 5))
    (Hpz : Hid (pz.length = 5))
    (Hqx : Hid (qx.length = 5))
    (Hqy : Hid (qy.length = 5))
    (Hqz : Hid (qz.length = 5))
    (Hxx : Hid (xx.length = 5))
    (Hyy : Hid (yy.length = 5))
    (Hzz : Hid (zz.length = 5))
    (Hcr : Hid (cr.length = 5))
    (Hal : Hid (al.length = 5))
    (Hov : Hid (ov.length = 5))
    (Hbe : Hid (be.length = 5))
    (Hr : Hid (r.length = 15))
    (Fp : Hid (p = px ++ py ++ pz))
    (Fq : Hid (q = qx ++ qy ++ qz))
    (C1 : Hid (∀ W, Calls Tryd.prog 43 #[numVal px, numVal qx] W (gvn (numVal xx) W)))
    (C2 : Hid (∀ W, Calls Tryd.prog 43 #[numVal py, numVal qy] W (gvn (numVal yy) W)))
    (C3 : Hid (∀ W, Calls Tryd.prog 43 #[numVal pz, numVal qz] W (gvn (numVal zz) W)))
    (C4 : Hid (∀ W, Calls Tryd.prog 43 #[numVal px, numVal qy] W (gvn (numVal c1) W)))
    (C5 : Hid (∀ W, Calls Tryd.prog 43 #[numVal py, numVal qx] W (gvn (numVal c2) W)))
    (C6 : Hid (∀ W, Calls Tryd.prog 62 #[numVal c1, numVal c2] W (gvn (numVal cr) W)))
    (C7 : Hid (∀ W, Calls Tryd.prog 62 #[numVal yy, numVal xx] W (gvn (numVal al) W)))
    (C8 : Hid (∀ W, Calls Tryd.prog 60 #[numVal zz] W (gvn (numVal ov) W)))
    (C10 : Hid (∀ W, Calls Tryd.prog 43 #[numVal cv, numVal xx] W (gvn (numVal dx) W)))
    (C11 : Hid (∀ W, Calls Tryd.prog 43 #[numVal dx, numVal yy] W (gvn (numVal be) W)))
    (C12 : Hid (∀ W, Calls Tryd.prog 43 #[numVal cr, numVal zz] W (gvn (numVal aa) W)))
    (C13 : Hid (∀ W, Calls Tryd.prog 62 #[numVal ov, numVal be] W (gvn (numVal bb) W)))
    (C14 : Hid (∀ W, Calls Tryd.prog 43 #[numVal al, numVal zz] W (gvn (numVal cc) W)))
    (C15 : Hid (∀ W, Calls Tryd.prog 39 #[numVal ov, numVal be] W (gvn (numVal dd) W)))
    (C9 : Hid (∀ W, TabsU E W → Calls Tryd.prog 61 #[] W (gvn (numVal cv) W)))
    (C16 : Hid (∀ W, Calls Tryd.prog 87 #[numVal aa, numVal bb, numVal cc, numVal dd] W (gvn (numVal r) W)))
    (hS : TabsU E w) :
    Calls Tryd.prog 68 #[numVal p, numVal q] w (gvn (numVal r) w) := by
  go_enter Tryd.func68, Tryd.ntmps68
  go_wp2_with (first
    | (refine vtake_step rfl 46 (.tmp 0) rfl (p.map ncell) rfl ?_
       intro w1 hb1 hvp1
       have hB1 := hb1
       have hgep : w.heap.size ≤ w.heap.size := Nat.le_refl _
       clear  hb1
       try simp only [putS]
       skip)
    | (refine vtake_step rfl 46 (.tmp 1) rfl (q.map ncell) rfl ?_
       intro w2 hb2 hvq2
       have hB2 := below_then hB1 hb2
       have hgeq : w.heap.size ≤ w1.heap.size := hB1.size
       have hvp2 := hvp1.on hb2
       have hnepq := Nat.ne_of_lt hvp1.lt
       clear hB1 hvp1 hb2
       try simp only [putS]
       skip)
    | (refine vzero_step (o := ⟨some 4, _, _, _, _, _⟩) rfl 46 rfl (nzeros 15) zero_up ?_
       intro w3 hb3 hvr3
       have hB3 := below_then hB2 hb3
       have hger : w.heap.size ≤ w2.heap.size := hB2.size
       have hvp3 := hvp2.on hb3
       have hnepr := Nat.ne_of_lt hvp2.lt
       have hvq3 := hvq2.on hb3
       have hneqr := Nat.ne_of_lt hvq2.lt
       clear hB2 hvp2 hvq2 hb3
       try simp only [putS]
       skip))
  generalize hqq : w1.heap.size = gq at *
  clear hqq
  generalize hqr : w2.heap.size = gr at *
  clear hqr
  replace hvp3 := hvp3.drew
  replace hvq3 := hvq3.drew
  replace hvr3 := hvr3.drew
  refine wp_region_any (by kernel_rfl) ?_
  refine wpAny_flatS (L := [0, 1, 2, 3, 4, 5, 6, 7, 8, 9, 10, 11, 12, 13]) (by kernel_rfl) _ _ (uaddVs1 p q w.heap.size gq gr px qx xx py qy yy) [(10, 5), (11, 6)] (fun _ => 44) (fun _ => (nzeros 5)) (fun s => bif s == 5 then some (12, xx.map ncell) else bif s == 6 then some (13, yy.map ncell) else none) [0, 1, 2, 3, 4, 7, 8, 9, 10, 11, 22, 23, 24, 25, 26, 27, 28, 29, 30, 31, 32, 33, 34, 35, 36, 37, 38, 39, 40, 41, 42, 43, 44, 45, 46, 47, 48, 49, 50, 51, 52, 53, 54, 55, 56, 57, 58, 59, 60] (by kernel_rfl) (by kernel_rfl) ?_ (fun _ _ => zero_elem) ?_ ?_ ?_ (by rfl) ?_ 0 (by kernel_rfl) ?_
  · intro p hp
    rcases List.mem_cons.1 hp with rfl | hp
    · exact ⟨⟨_, rfl, rfl, rfl, rfl, by kernel_rfl, by kernel_rfl⟩⟩
    rcases List.mem_cons.1 hp with rfl | hp
    · exact ⟨⟨_, rfl, rfl, rfl, rfl, by kernel_rfl, by kernel_rfl⟩⟩
    exact absurd hp List.not_mem_nil
  · intro p hp j l h
    rcases List.mem_cons.1 hp with rfl | hp
    · change some (12, xx.map ncell) = some (j, l) at h
      cases h
      exact ⟨⟨_, 16, rfl, rfl, rfl, rfl, by kernel_rfl, by kernel_rfl, by kernel_rfl, rfl, by rw [List.length_map, Hxx.out]; exact size_elem, by rw [List.length_map, Hxx.out]; rfl, ncells_one _⟩, by decide⟩
    rcases List.mem_cons.1 hp with rfl | hp
    · change some (13, yy.map ncell) = some (j, l) at h
      cases h
      exact ⟨⟨_, 21, rfl, rfl, rfl, rfl, by kernel_rfl, by kernel_rfl, by kernel_rfl, rfl, by rw [List.length_map, Hyy.out]; exact size_elem, by rw [List.length_map, Hyy.out]; rfl, ncells_one _⟩, by decide⟩
    exact absurd hp List.not_mem_nil
  · intro p hp q hq j l l2 h1 h2
    rcases List.mem_cons.1 hp with rfl | hp
    · rcases List.mem_cons.1 hq with rfl | hq
      · rfl
      rcases List.mem_cons.1 hq with rfl | hq
      · change some (12, _) = some (j, l) at h1
        change some (13, _) = some (j, l2) at h2
        exact absurd ((Prod.mk.inj (Option.some.inj h1)).1.trans (Prod.mk.inj (Option.some.inj h2)).1.symm) (by decide)
      exact absurd hq List.not_mem_nil
    rcases List.mem_cons.1 hp with rfl | hp
    · rcases List.mem_cons.1 hq with rfl | hq
      · change some (13, _) = some (j, l) at h1
        change some (12, _) = some (j, l2) at h2
        exact absurd ((Prod.mk.inj (Option.some.inj h1)).1.trans (Prod.mk.inj (Option.some.inj h2)).1.symm) (by decide)
      rcases List.mem_cons.1 hq with rfl | hq
      · rfl
      exact absurd hq List.not_mem_nil
    exact absurd hp List.not_mem_nil
  · repeat refine all_cons rfl ?_
    exact all_nil
  · refine all_cons (.inr (.inl (mF 12 rfl (field_u0 _)))) ?_
    refine all_cons (.inr (.inl (mL 13 rfl fun w hb => load_u0 (hvp3.on hb) Fp.out Hpx.out))) ?_
    refine all_cons (.inr (.inl (mF 14 rfl (field_u0 _)))) ?_
    refine all_cons (.inr (.inl (mL 15 rfl fun w hb => load_u0 (hvq3.on hb) Fq.out Hqx.out))) ?_
    refine all_cons (.inr (.inl (mC 16 rfl Tryd.func43 fun w hb => C1.out w))) ?_
    refine all_cons (.inr (.inl (mF 17 rfl (field_u1 _)))) ?_
    refine all_cons (.inr (.inl (mL 18 rfl fun w hb => load_u1 (hvp3.on hb) Fp.out Hpx.out Hpy.out))) ?_
    refine all_cons (.inr (.inl (mF 19 rfl (field_u1 _)))) ?_
    refine all_cons (.inr (.inl (mL 20 rfl fun w hb => load_u1 (hvq3.on hb) Fq.out Hqx.out Hqy.out))) ?_
    refine all_cons (.inr (.inl (mC 21 rfl Tryd.func43 fun w hb => C2.out w))) ?_
    refine all_cons (.inl ⟨(10, 5), by simp, rfl⟩) ?_
    refine all_cons (.inl ⟨(11, 6), by simp, rfl⟩) ?_
    refine all_cons (.inr (.inr ⟨(10, 5), by simp, _, rfl⟩)) ?_
    refine all_cons (.inr (.inr ⟨(11, 6), by simp, _, rfl⟩)) ?_
    exact all_nil
  intro w4 g hb4 hN4 hap4
  obtain ⟨hgex, hvx4⟩ := hN4 (10, 5) (by simp)
  obtain ⟨hgey, hvy4⟩ := hN4 (11, 6) (by simp)
  have hnexy := hap4 (10, 5) (by simp) (11, 6) (by simp) (by decide)
  clear hN4 hap4
  have hB4 := below_then (show Below w.heap.size w w3.drew from hB3.drew) hb4
  have hltp : w.heap.size < w3.heap.size := hvp3.lt
  have hltq : gq < w3.heap.size := hvq3.lt
  have hltr : gr < w3.heap.size := hvr3.lt
  have hvp4 := hvp3.on hb4
  have hvq4 := hvq3.on hb4
  have hvr4 := hvr3.on hb4
  rw [show withNew g [(10, 5), (11, 6)] (uaddVs1 p q w.heap.size gq gr px qx xx py qy yy) = uaddVs1N p q w.heap.size gq gr px qx xx py qy yy (g 5) (g 6) from rfl]
  replace hgex : w3.heap.size ≤ g 5 := hgex
  replace hvx4 : Cells w4 (g 5) (xx.map ncell) 44 := hvx4
  replace hgey : w3.heap.size ≤ g 6 := hgey
  replace hvy4 : Cells w4 (g 6) (yy.map ncell) 44 := hvy4
  replace hnexy : g 5 ≠ g 6 := hnexy
  have hnepx : w.heap.size ≠ g 5 := Nat.ne_of_lt (Nat.lt_of_lt_of_le hltp hgex)
  have hneqx : gq ≠ g 5 := Nat.ne_of_lt (Nat.lt_of_lt_of_le hltq hgex)
  have hnerx : gr ≠ g 5 := Nat.ne_of_lt (Nat.lt_of_lt_of_le hltr hgex)
  replace hgex : w.heap.size ≤ g 5 := Nat.le_trans (show w.heap.size ≤ w3.heap.size from hB3.size) hgex
  have hnepy : w.heap.size ≠ g 6 := Nat.ne_of_lt (Nat.lt_of_lt_of_le hltp hgey)
  have hneqy : gq ≠ g 6 := Nat.ne_of_lt (Nat.lt_of_lt_of_le hltq hgey)
  have hnery : gr ≠ g 6 := Nat.ne_of_lt (Nat.lt_of_lt_of_le hltr hgey)
  replace hgey : w.heap.size ≤ g 6 := Nat.le_trans (show w.heap.size ≤ w3.heap.size from hB3.size) hgey
  clear hltp hltq hltr
  generalize g 5 = gx at *
  generalize g 6 = gy at *
  clear hB3 hvp3 hvq3 hvr3 hb4
  refine ⟨by kernel_rfl, ?_⟩
  rename_i K hKK
  show Exit.then K _ Exit.normal (⟨(uaddVs1N p q w.heap.size gq gr px qx xx py qy yy gx gy).toArray, []⟩ : Act) w4
  simp only [Exit.then]
  refine hKK _ _ ?_
  clear hKK K g
  simp only [uaddVs1N, ptr, ud]
  go_upto_region 2 with fail
  refine wp_region_flat (md := .any) (by kernel_rfl) ?_
  refine wpAny_flatM (L := [0, 1, 2, 3, 4, 5]) (by kernel_rfl) _ _ (uaddVs2_1 p q w.heap.size gq gr gx gy px qx xx py qy yy pz qz zz) [(5, 7)] 44 (nzeros 5) [0, 1, 2, 3, 4, 5, 6, 8, 9, 10, 11, 12, 13, 14, 15, 16, 17, 18, 19, 20, 21, 27, 28, 29, 30, 31, 32, 33, 34, 35, 36, 37, 38, 39, 40, 41, 42, 43, 44, 45, 46, 47, 48, 49, 50, 51, 52, 53, 54, 55, 56, 57, 58, 59, 60] (by kernel_rfl) (by kernel_rfl) ?_ zero_elem ?_ (by rfl) ?_ 1 (by kernel_rfl) ?_
  · intro p hp
    rcases List.mem_cons.1 hp with rfl | hp
    · exact ⟨⟨_, rfl, rfl, rfl, rfl, by kernel_rfl, by kernel_rfl⟩⟩
    exact absurd hp List.not_mem_nil
  · repeat refine all_cons rfl ?_
    exact all_nil
  · refine all_cons (.inr (mF 22 rfl (field_u2 _))) ?_
    refine all_cons (.inr (mL 23 rfl fun w hb => load_u2 (hvp4.on hb) Fp.out Hpx.out Hpy.out Hpz.out)) ?_
    refine all_cons (.inr (mF 24 rfl (field_u2 _))) ?_
    refine all_cons (.inr (mL 25 rfl fun w hb => load_u2 (hvq4.on hb) Fq.out Hqx.out Hqy.out Hqz.out)) ?_
    refine all_cons (.inr (mC 26 rfl Tryd.func43 fun w hb => C3.out w)) ?_
    refine all_cons (.inl ⟨(5, 7), by simp, rfl⟩) ?_
    exact all_nil
  intro w5 g hb5 hN5 hap5
  obtain ⟨hgez, hvz5⟩ := hN5 (5, 7) (by simp)
  clear hN5 hap5
  have hB5 := below_then hB4 hb5
  have hltp : w.heap.size < w4.heap.size := hvp4.lt
  have hltq : gq < w4.heap.size := hvq4.lt
  have hltr : gr < w4.heap.size := hvr4.lt
  have hltx : gx < w4.heap.size := hvx4.lt
  have hlty : gy < w4.heap.size := hvy4.lt
  have hvp5 := hvp4.on hb5
  have hvq5 := hvq4.on hb5
  have hvr5 := hvr4.on hb5
  have hvx5 := hvx4.on hb5
  have hvy5 := hvy4.on hb5
  rw [show withNew g [(5, 7)] (uaddVs2_1 p q w.heap.size gq gr gx gy px qx xx py qy yy pz qz zz) = uaddVs2_1N p q w.heap.size gq gr gx gy px qx xx py qy yy pz qz zz (g 7) from rfl]
  replace hgez : w4.heap.size ≤ g 7 := hgez
  replace hvz5 : Cells w5 (g 7) (nzeros 5) 44 := hvz5
  have hnepz : w.heap.size ≠ g 7 := Nat.ne_of_lt (Nat.lt_of_lt_of_le hltp hgez)
  have hneqz : gq ≠ g 7 := Nat.ne_of_lt (Nat.lt_of_lt_of_le hltq hgez)
  have hnerz : gr ≠ g 7 := Nat.ne_of_lt (Nat.lt_of_lt_of_le hltr hgez)
  have hnexz : gx ≠ g 7 := Nat.ne_of_lt (Nat.lt_of_lt_of_le hltx hgez)
  have hneyz : gy ≠ g 7 := Nat.ne_of_lt (Nat.lt_of_lt_of_le hlty hgez)
  replace hgez : w.heap.size ≤ g 7 := Nat.le_trans (show w.heap.size ≤ w4.heap.size from hB4.size) hgez
  clear hltp hltq hltr hltx hlty
  generalize g 7 = gz at *
  clear hB4 hvp4 hvq4 hvr4 hvx4 hvy4 hb5
  refine wpAny_rest 6 rfl (by kernel_rfl) ?_
  refine vset_step rfl 44 (.tmp 7) (.tmp 26) rfl gz 5 (nzeros 5) (zz.map ncell) rfl rfl hvz5 rfl size_elem (by rw [List.length_map, Hzz.out]) (ncells_one _) ?_
  intro w6 hb6 hvz6 hz6
  have hB6 : Below w.heap.size w w6 := hB5.trans (hb6.below hgez hB5.size)
  have hvp6 := hvp5.but hb6 hnepz
  have hvq6 := hvq5.but hb6 hneqz
  have hvr6 := hvr5.but hb6 hnerz
  have hvx6 := hvx5.but hb6 hnexz
  have hvy6 := hvy5.but hb6 hneyz
  clear hB5 hvz5 hb6 hz6 hvp5 hvq5 hvr5 hvx5 hvy5
  rename_i K hKK
  show Exit.then K _ Exit.normal (⟨(uaddVs2_1N p q w.heap.size gq gr gx gy px qx xx py qy yy pz qz zz gz).toArray, []⟩ : Act) w6
  simp only [Exit.then]
  refine hKK _ _ ?_
  clear hKK K g
  simp only [uaddVs2_1N, ptr, ud]
  go_wp2_with fail
  replace hvp6 := hvp6.drew
  replace hvq6 := hvq6.drew
  replace hvr6 := hvr6.drew
  replace hvx6 := hvx6.drew
  replace hvy6 := hvy6.drew
  replace hvz6 := hvz6.drew
  refine wp_region_any (by kernel_rfl) ?_
  refine wpAny_flatM (L := [0, 1, 2, 3, 4, 5, 6, 7, 8, 9, 10, 11]) (by kernel_rfl) _ _ (uaddVs3_2 p q w.heap.size gq gr gx gy gz px qx xx py qy yy pz qz zz c1 c2 cr) [(11, 8)] 44 (nzeros 5) [0, 1, 2, 3, 4, 5, 6, 7, 9, 10, 11, 12, 13, 14, 15, 16, 17, 18, 19, 20, 21, 22, 23, 24, 25, 26, 38, 39, 40, 41, 42, 43, 44, 45, 46, 47, 48, 49, 50, 51, 52, 53, 54, 55, 56, 57, 58, 59, 60] (by kernel_rfl) (by kernel_rfl) ?_ zero_elem ?_ (by rfl) ?_ 1 (by kernel_rfl) ?_
  · intro p hp
    rcases List.mem_cons.1 hp with rfl | hp
    · exact ⟨⟨_, rfl, rfl, rfl, rfl, by kernel_rfl, by kernel_rfl⟩⟩
    exact absurd hp List.not_mem_nil
  · repeat refine all_cons rfl ?_
    exact all_nil
  · refine all_cons (.inr (mF 27 rfl (field_u0 _))) ?_
    refine all_cons (.inr (mL 28 rfl fun w hb => load_u0 (hvp6.on hb) Fp.out Hpx.out)) ?_
    refine all_cons (.inr (mF 29 rfl (field_u1 _))) ?_
    refine all_cons (.inr (mL 30 rfl fun w hb => load_u1 (hvq6.on hb) Fq.out Hqx.out Hqy.out)) ?_
    refine all_cons (.inr (mC 31 rfl Tryd.func43 fun w hb => C4.out w)) ?_
    refine all_cons (.inr (mF 32 rfl (field_u1 _))) ?_
    refine all_cons (.inr (mL 33 rfl fun w hb => load_u1 (hvp6.on hb) Fp.out Hpx.out Hpy.out)) ?_
    refine all_cons (.inr (mF 34 rfl (field_u0 _))) ?_
    refine all_cons (.inr (mL 35 rfl fun w hb => load_u0 (hvq6.on hb) Fq.out Hqx.out)) ?_
    refine all_cons (.inr (mC 36 rfl Tryd.func43 fun w hb => C5.out w)) ?_
    refine all_cons (.inr (mC 37 rfl Tryd.func62 fun w hb => C6.out w)) ?_
    refine all_cons (.inl ⟨(11, 8), by simp, rfl⟩) ?_
    exact all_nil
  intro w7 g hb7 hN7 hap7
  obtain ⟨hgec, hvc7⟩ := hN7 (11, 8) (by simp)
  clear hN7 hap7
  have hB7 := below_then (show Below w.heap.size w w6.drew from hB6.drew) hb7
  have hltp : w.heap.size < w6.heap.size := hvp6.lt
  have hltq : gq < w6.heap.size := hvq6.lt
  have hltr : gr < w6.heap.size := hvr6.lt
  have hltx : gx < w6.heap.size := hvx6.lt
  have hlty : gy < w6.heap.size := hvy6.lt
  have hltz : gz < w6.heap.size := hvz6.lt
  have hvp7 := hvp6.on hb7
  have hvq7 := hvq6.on hb7
  have hvr7 := hvr6.on hb7
  have hvx7 := hvx6.on hb7
  have hvy7 := hvy6.on hb7
  have hvz7 := hvz6.on hb7
  rw [show withNew g [(11, 8)] (uaddVs3_2 p q w.heap.size gq gr gx gy gz px qx xx py qy yy pz qz zz c1 c2 cr) = uaddVs3_2N p q w.heap.size gq gr gx gy gz px qx xx py qy yy pz qz zz c1 c2 cr (g 8) from rfl]
  replace hgec : w6.heap.size ≤ g 8 := hgec
  replace hvc7 : Cells w7 (g 8) (nzeros 5) 44 := hvc7
  have hnepc : w.heap.size ≠ g 8 := Nat.ne_of_lt (Nat.lt_of_lt_of_le hltp hgec)
  have hneqc : gq ≠ g 8 := Nat.ne_of_lt (Nat.lt_of_lt_of_le hltq hgec)
  have hnerc : gr ≠ g 8 := Nat.ne_of_lt (Nat.lt_of_lt_of_le hltr hgec)
  have hnexc : gx ≠ g 8 := Nat.ne_of_lt (Nat.lt_of_lt_of_le hltx hgec)
  have hneyc : gy ≠ g 8 := Nat.ne_of_lt (Nat.lt_of_lt_of_le hlty hgec)
  have hnezc : gz ≠ g 8 := Nat.ne_of_lt (Nat.lt_of_lt_of_le hltz hgec)
  replace hgec : w.heap.size ≤ g 8 := Nat.le_trans (show w.heap.size ≤ w6.heap.size from hB6.size) hgec
  clear hltp hltq hltr hltx hlty hltz
  generalize g 8 = gc at *
  clear hB6 hvp6 hvq6 hvr6 hvx6 hvy6 hvz6 hb7
  refine wpAny_rest 12 rfl (by kernel_rfl) ?_
  refine vset_step rfl 44 (.tmp 8) (.tmp 37) rfl gc 5 (nzeros 5) (cr.map ncell) rfl rfl hvc7 rfl size_elem (by rw [List.length_map, Hcr.out]) (ncells_one _) ?_
  intro w8 hb8 hvc8 hz8
  have hB8 : Below w.heap.size w w8 := hB7.trans (hb8.below hgec hB7.size)
  have hvp8 := hvp7.but hb8 hnepc
  have hvq8 := hvq7.but hb8 hneqc
  have hvr8 := hvr7.but hb8 hnerc
  have hvx8 := hvx7.but hb8 hnexc
  have hvy8 := hvy7.but hb8 hneyc
  have hvz8 := hvz7.but hb8 hnezc
  clear hB7 hvc7 hb8 hz8 hvp7 hvq7 hvr7 hvx7 hvy7 hvz7
  rename_i K hKK
  show Exit.then K _ Exit.normal (⟨(uaddVs3_2N p q w.heap.size gq gr gx gy gz px qx xx py qy yy pz qz zz c1 c2 cr gc).toArray, []⟩ : Act) w8
  simp only [Exit.then]
  refine hKK _ _ ?_
  clear hKK K g
  simp only [uaddVs3_2N, ptr, ud]
  go_wp2_with (first
    | (refine sget_step rfl 44 (.tmp 6) rfl gy 5 (yy.map ncell) rfl hvy8 Tryd.underlying44 rfl size_elem (by rw [List.length_map, Hyy.out]) ?_
       try simp only [putS]
       skip)
    | (refine sget_step rfl 44 (.tmp 5) rfl gx 5 (xx.map ncell) rfl hvx8 Tryd.underlying44 rfl size_elem (by rw [List.length_map, Hxx.out]) ?_
       try simp only [putS]
       skip))
  refine (C7.out w8).mono ?_
  rintro e w9 ⟨rfl, hb9⟩
  have hB9 := below_then hB8 hb9
  have hvp9 := hvp8.on hb9
  have hvq9 := hvq8.on hb9
  have hvr9 := hvr8.on hb9
  have hvx9 := hvx8.on hb9
  have hvy9 := hvy8.on hb9
  have hvz9 := hvz8.on hb9
  have hvc9 := hvc8.on hb9
  clear hB8 hvp8 hvq8 hvr8 hvx8 hvy8 hvz8 hvc8 hb9
  go_wp2_with (first
    | (refine vput_step rfl rfl 44 (.tmp 9) (.tmp 40) rfl rfl 5 (nzeros 5) (al.map ncell) rfl rfl zero_elem rfl size_elem (by rw [List.length_map, Hal.out]) (ncells_one _) ?_
       intro w10 hb10 hvl10
       have hB10 := below_then hB9 hb10
       have hgel : w.heap.size ≤ w9.heap.size := hB9.size
       have hvp10 := hvp9.on hb10
       have hnepl := Nat.ne_of_lt hvp9.lt
       have hvq10 := hvq9.on hb10
       have hneql := Nat.ne_of_lt hvq9.lt
       have hvr10 := hvr9.on hb10
       have hnerl := Nat.ne_of_lt hvr9.lt
       have hvx10 := hvx9.on hb10
       have hnexl := Nat.ne_of_lt hvx9.lt
       have hvy10 := hvy9.on hb10
       have hneyl := Nat.ne_of_lt hvy9.lt
       have hvz10 := hvz9.on hb10
       have hnezl := Nat.ne_of_lt hvz9.lt
       have hvc10 := hvc9.on hb10
       have hnecl := Nat.ne_of_lt hvc9.lt
       clear hB9 hvp9 hvq9 hvr9 hvx9 hvy9 hvz9 hvc9 hb10
       try simp only [putS]
       skip)
    | (refine sget_step rfl 44 (.tmp 7) rfl gz 5 (zz.map ncell) rfl hvz10 Tryd.underlying44 rfl size_elem (by rw [List.length_map, Hzz.out]) ?_
       try simp only [putS]
       skip))
  generalize hql : w9.heap.size = gl at *
  clear hql
  refine (C8.out w10).mono ?_
  rintro e w11 ⟨rfl, hb11⟩
  have hB11 := below_then hB10 hb11
  have hvp11 := hvp10.on hb11
  have hvq11 := hvq10.on hb11
  have hvr11 := hvr10.on hb11
  have hvx11 := hvx10.on hb11
  have hvy11 := hvy10.on hb11
  have hvz11 := hvz10.on hb11
  have hvc11 := hvc10.on hb11
  have hvl11 := hvl10.on hb11
  clear hB10 hvp10 hvq10 hvr10 hvx10 hvy10 hvz10 hvc10 hvl10 hb11
  go_wp2_with (first
    | (refine vput_step rfl rfl 44 (.tmp 10) (.tmp 42) rfl rfl 5 (nzeros 5) (ov.map ncell) rfl rfl zero_elem rfl size_elem (by rw [List.length_map, Hov.out]) (ncells_one _) ?_
       intro w12 hb12 hvo12
       have hB12 := below_then hB11 hb12
       have hgeo : w.heap.size ≤ w11.heap.size := hB11.size
       have hvp12 := hvp11.on hb12
       have hnepo := Nat.ne_of_lt hvp11.lt
       have hvq12 := hvq11.on hb12
       have hneqo := Nat.ne_of_lt hvq11.lt
       have hvr12 := hvr11.on hb12
       have hnero := Nat.ne_of_lt hvr11.lt
       have hvx12 := hvx11.on hb12
       have hnexo := Nat.ne_of_lt hvx11.lt
       have hvy12 := hvy11.on hb12
       have hneyo := Nat.ne_of_lt hvy11.lt
       have hvz12 := hvz11.on hb12
       have hnezo := Nat.ne_of_lt hvz11.lt
       have hvc12 := hvc11.on hb12
       have hneco := Nat.ne_of_lt hvc11.lt
       have hvl12 := hvl11.on hb12
       have hnelo := Nat.ne_of_lt hvl11.lt
       clear hB11 hvp11 hvq11 hvr11 hvx11 hvy11 hvz11 hvc11 hvl11 hb12
       try simp only [putS]
       skip))
  generalize hqo : w11.heap.size = go at *
  clear hqo
  replace hvp12 := hvp12.drew
  replace hvq12 := hvq12.drew
  replace hvr12 := hvr12.drew
  replace hvx12 := hvx12.drew
  replace hvy12 := hvy12.drew
  replace hvz12 := hvz12.drew
  replace hvc12 := hvc12.drew
  replace hvl12 := hvl12.drew
  replace hvo12 := hvo12.drew
  have hBq := (show Below w.heap.size w w12.drew from hB12.drew)
  refine wp_region_any (by kernel_rfl) ?_
  refine wpAny_flatM (L := [0, 1, 2, 3, 4, 5]) (by kernel_rfl) _ _ (uaddVs6_3 p q w.heap.size gq gr gx gy gz gc gl go px qx xx py qy yy pz qz zz c1 c2 cr al ov cv dx be) [(5, 11)] 44 (nzeros 5) [0, 1, 2, 3, 4, 5, 6, 7, 8, 9, 10, 12, 13, 14, 15, 16, 17, 18, 19, 20, 21, 22, 23, 24, 25, 26, 27, 28, 29, 30, 31, 32, 33, 34, 35, 36, 37, 38, 39, 40, 41, 42, 48, 49, 50, 51, 52, 53, 54, 55, 56, 57, 58, 59, 60] (by kernel_rfl) (by kernel_rfl) ?_ zero_elem ?_ (by rfl) ?_ 1 (by kernel_rfl) ?_
  · intro p hp
    rcases List.mem_cons.1 hp with rfl | hp
    · exact ⟨⟨_, rfl, rfl, rfl, rfl, by kernel_rfl, by kernel_rfl⟩⟩
    exact absurd hp List.not_mem_nil
  · repeat refine all_cons rfl ?_
    exact all_nil
  · refine all_cons (.inr (mC 43 rfl Tryd.func61 fun w hb => C9.out w (hS.below (below_then hBq hb)))) ?_
    refine all_cons (.inr (mL 44 rfl fun w hb => elem_run (hvx12.on hb) Hxx.out)) ?_
    refine all_cons (.inr (mC 45 rfl Tryd.func43 fun w hb => C10.out w)) ?_
    refine all_cons (.inr (mL 46 rfl fun w hb => elem_run (hvy12.on hb) Hyy.out)) ?_
    refine all_cons (.inr (mC 47 rfl Tryd.func43 fun w hb => C11.out w)) ?_
    refine all_cons (.inl ⟨(5, 11), by simp, rfl⟩) ?_
    exact all_nil
  intro w13 g hb13 hN13 hap13
  obtain ⟨hgeb, hvb13⟩ := hN13 (5, 11) (by simp)
  clear hN13 hap13
  have hB13 := below_then (show Below w.heap.size w w12.drew from hB12.drew) hb13
  have hltp : w.heap.size < w12.heap.size := hvp12.lt
  have hltq : gq < w12.heap.size := hvq12.lt
  have hltr : gr < w12.heap.size := hvr12.lt
  have hltx : gx < w12.heap.size := hvx12.lt
  have hlty : gy < w12.heap.size := hvy12.lt
  have hltz : gz < w12.heap.size := hvz12.lt
  have hltc : gc < w12.heap.size := hvc12.lt
  have hltl : gl < w12.heap.size := hvl12.lt
  have hlto : go < w12.heap.size := hvo12.lt
  have hvp13 := hvp12.on hb13
  have hvq13 := hvq12.on hb13
  have hvr13 := hvr12.on hb13
  have hvx13 := hvx12.on hb13
  have hvy13 := hvy12.on hb13
  have hvz13 := hvz12.on hb13
  have hvc13 := hvc12.on hb13
  have hvl13 := hvl12.on hb13
  have hvo13 := hvo12.on hb13
  rw [show withNew g [(5, 11)] (uaddVs6_3 p q w.heap.size gq gr gx gy gz gc gl go px qx xx py qy yy pz qz zz c1 c2 cr al ov cv dx be) = uaddVs6_3N p q w.heap.size gq gr gx gy gz gc gl go px qx xx py qy yy pz qz zz c1 c2 cr al ov cv dx be (g 11) from rfl]
  replace hgeb : w12.heap.size ≤ g 11 := hgeb
  replace hvb13 : Cells w13 (g 11) (nzeros 5) 44 := hvb13
  have hnepb : w.heap.size ≠ g 11 := Nat.ne_of_lt (Nat.lt_of_lt_of_le hltp hgeb)
  have hneqb : gq ≠ g 11 := Nat.ne_of_lt (Nat.lt_of_lt_of_le hltq hgeb)
  have hnerb : gr ≠ g 11 := Nat.ne_of_lt (Nat.lt_of_lt_of_le hltr hgeb)
  have hnexb : gx ≠ g 11 := Nat.ne_of_lt (Nat.lt_of_lt_of_le hltx hgeb)
  have hneyb : gy ≠ g 11 := Nat.ne_of_lt (Nat.lt_of_lt_of_le hlty hgeb)
  have hnezb : gz ≠ g 11 := Nat.ne_of_lt (Nat.lt_of_lt_of_le hltz hgeb)
  have hnecb : gc ≠ g 11 := Nat.ne_of_lt (Nat.lt_of_lt_of_le hltc hgeb)
  have hnelb : gl ≠ g 11 := Nat.ne_of_lt (Nat.lt_of_lt_of_le hltl hgeb)
  have hneob : go ≠ g 11 := Nat.ne_of_lt (Nat.lt_of_lt_of_le hlto hgeb)
  replace hgeb : w.heap.size ≤ g 11 := Nat.le_trans (show w.heap.size ≤ w12.heap.size from hB12.size) hgeb
  clear hltp hltq hltr hltx hlty hltz hltc hltl hlto
  generalize g 11 = gb at *
  clear hB12 hvp12 hvq12 hvr12 hvx12 hvy12 hvz12 hvc12 hvl12 hvo12 hb13 hBq
  refine wpAny_rest 6 rfl (by kernel_rfl) ?_
  refine vset_step rfl 44 (.tmp 11) (.tmp 47) rfl gb 5 (nzeros 5) (be.map ncell) rfl rfl hvb13 rfl size_elem (by rw [List.length_map, Hbe.out]) (ncells_one _) ?_
  intro w14 hb14 hvb14 hz14
  have hB14 : Below w.heap.size w w14 := hB13.trans (hb14.below hgeb hB13.size)
  have hvp14 := hvp13.but hb14 hnepb
  have hvq14 := hvq13.but hb14 hneqb
  have hvr14 := hvr13.but hb14 hnerb
  have hvx14 := hvx13.but hb14 hnexb
  have hvy14 := hvy13.but hb14 hneyb
  have hvz14 := hvz13.but hb14 hnezb
  have hvc14 := hvc13.but hb14 hnecb
  have hvl14 := hvl13.but hb14 hnelb
  have hvo14 := hvo13.but hb14 hneob
  clear hB13 hvb13 hb14 hz14 hvp13 hvq13 hvr13 hvx13 hvy13 hvz13 hvc13 hvl13 hvo13
  rename_i K hKK
  show Exit.then K _ Exit.normal (⟨(uaddVs6_3N p q w.heap.size gq gr gx gy gz gc gl go px qx xx py qy yy pz qz zz c1 c2 cr al ov cv dx be gb).toArray, []⟩ : Act) w14
  simp only [Exit.then]
  refine hKK _ _ ?_
  clear hKK K g
  simp only [uaddVs6_3N, ptr, ud]
  go_wp2_with fail
  replace hvp14 := hvp14.drew
  replace hvq14 := hvq14.drew
  replace hvr14 := hvr14.drew
  replace hvx14 := hvx14.drew
  replace hvy14 := hvy14.drew
  replace hvz14 := hvz14.drew
  replace hvc14 := hvc14.drew
  replace hvl14 := hvl14.drew
  replace hvo14 := hvo14.drew
  replace hvb14 := hvb14.drew
  refine wp_region_any (by kernel_rfl) ?_
  refine wpAny_flatM (L := [0, 1, 2, 3, 4, 5, 6, 7, 8, 9, 10, 11, 12]) (by kernel_rfl) _ _ (uaddVs7_4 p q w.heap.size gq gr gx gy gz gc gl go gb px qx xx py qy yy pz qz zz c1 c2 cr al ov cv dx be aa bb cc dd r) [] 46 (nzeros 15) [0, 1, 2, 3, 4, 5, 6, 7, 8, 9, 10, 11, 12, 13, 14, 15, 16, 17, 18, 19, 20, 21, 22, 23, 24, 25, 26, 27, 28, 29, 30, 31, 32, 33, 34, 35, 36, 37, 38, 39, 40, 41, 42, 43, 44, 45, 46, 47] (by kernel_rfl) (by kernel_rfl) ?_ zero_up ?_ (by rfl) ?_ 1 (by kernel_rfl) ?_
  · intro p hp
    exact absurd hp List.not_mem_nil
  · repeat refine all_cons rfl ?_
    exact all_nil
  · refine all_cons (.inr (mL 48 rfl fun w hb => elem_run (hvc14.on hb) Hcr.out)) ?_
    refine all_cons (.inr (mL 49 rfl fun w hb => elem_run (hvz14.on hb) Hzz.out)) ?_
    refine all_cons (.inr (mC 50 rfl Tryd.func43 fun w hb => C12.out w)) ?_
    refine all_cons (.inr (mL 51 rfl fun w hb => elem_run (hvo14.on hb) Hov.out)) ?_
    refine all_cons (.inr (mL 52 rfl fun w hb => elem_run (hvb14.on hb) Hbe.out)) ?_
    refine all_cons (.inr (mC 53 rfl Tryd.func62 fun w hb => C13.out w)) ?_
    refine all_cons (.inr (mL 54 rfl fun w hb => elem_run (hvl14.on hb) Hal.out)) ?_
    refine all_cons (.inr (mL 55 rfl fun w hb => elem_run (hvz14.on hb) Hzz.out)) ?_
    refine all_cons (.inr (mC 56 rfl Tryd.func43 fun w hb => C14.out w)) ?_
    refine all_cons (.inr (mL 57 rfl fun w hb => elem_run (hvo14.on hb) Hov.out)) ?_
    refine all_cons (.inr (mL 58 rfl fun w hb => elem_run (hvb14.on hb) Hbe.out)) ?_
    refine all_cons (.inr (mC 59 rfl Tryd.func39 fun w hb => C15.out w)) ?_
    refine all_cons (.inr (mC 60 rfl Tryd.func87 fun w hb => C16.out w)) ?_
    exact all_nil
  intro w15 g hb15 hN15 hap15
  clear hN15 hap15
  have hB15 := below_then (show Below w.heap.size w w14.drew from hB14.drew) hb15
  have hvp15 := hvp14.on hb15
  have hvq15 := hvq14.on hb15
  have hvr15 := hvr14.on hb15
  have hvx15 := hvx14.on hb15
  have hvy15 := hvy14.on hb15
  have hvz15 := hvz14.on hb15
  have hvc15 := hvc14.on hb15
  have hvl15 := hvl14.on hb15
  have hvo15 := hvo14.on hb15
  have hvb15 := hvb14.on hb15
  clear hB14 hvp14 hvq14 hvr14 hvx14 hvy14 hvz14 hvc14 hvl14 hvo14 hvb14 hb15
  refine wpAny_rest 13 rfl (by kernel_rfl) ?_
  refine vset_step rfl 46 (.tmp 4) (.tmp 60) rfl gr 15 (nzeros 15) (r.map ncell) rfl rfl hvr15 rfl size_up (by rw [List.length_map, Hr.out]) (ncells_one _) ?_
  intro w16 hb16 hvr16 hz16
  have hB16 : Below w.heap.size w w16 := hB15.trans (hb16.below hger hB15.size)
  have hvp16 := hvp15.but hb16 hnepr
  have hvq16 := hvq15.but hb16 hneqr
  have hvx16 := hvx15.but hb16 (Ne.symm hnerx)
  have hvy16 := hvy15.but hb16 (Ne.symm hnery)
  have hvz16 := hvz15.but hb16 (Ne.symm hnerz)
  have hvc16 := hvc15.but hb16 (Ne.symm hnerc)
  have hvl16 := hvl15.but hb16 (Ne.symm hnerl)
  have hvo16 := hvo15.but hb16 (Ne.symm hnero)
  have hvb16 := hvb15.but hb16 (Ne.symm hnerb)
  clear hB15 hvr15 hb16 hz16 hvp15 hvq15 hvx15 hvy15 hvz15 hvc15 hvl15 hvo15 hvb15
  rename_i K hKK
  show Exit.then K _ Exit.normal (⟨(uaddVs7_4 p q w.heap.size gq gr gx gy gz gc gl go gb px qx xx py qy yy pz qz zz c1 c2 cr al ov cv dx be aa bb cc dd r).toArray, []⟩ : Act) w16
  simp only [Exit.then]
  refine hKK _ _ ?_
  clear hKK K g
  simp only [uaddVs7_4, ptr]
  go_wp2
  exact sret Tryd.results68 gr (r.map ncell) rfl hvr16 Tryd.underlying46 rfl size_up (by rw [List.length_map, Hr.out]) rfl ⟨rfl, hB16⟩
end Go.Proofs.YtoggkhjaghkpnaaDoor
