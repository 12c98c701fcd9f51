/- Part 18 of what the laws of this seat share: UEven, UMath, BPoint. -/
import Derived.Deep.Cut
import Derived.Deep.MidRow
import Derived.Test.YtagjbdhelfickaaDoorPart17
namespace Go.Proofs.YtagjbdhelfickaaDoor
open Go.RowKit
def uevenVs1 (y : List Nat) (g_base : Nat) (gr : Nat) (o : List Nat) (yy : List Nat) : List Value :=
  (numVal y) :: (.pointer (some ⟨g_base, 0, none⟩)) :: (.pointer (some ⟨gr, 0, none⟩)) :: (.bool false) :: undef :: undef :: undef :: (numVal o) :: (numVal y) :: (numVal yy) :: undef :: undef :: undef :: undef :: undef :: undef :: undef :: undef :: undef :: undef :: undef :: undef :: undef :: undef :: []
def uevenVs1N (y : List Nat) (g_base : Nat) (gr : Nat) (o : List Nat) (yy : List Nat) (n4 n5 : Nat) : List Value :=
  (numVal y) :: (.pointer (some ⟨g_base, 0, none⟩)) :: (.pointer (some ⟨gr, 0, none⟩)) :: (.bool false) :: (.pointer (some ⟨n4, 0, none⟩)) :: (.pointer (some ⟨n5, 0, none⟩)) :: undef :: (numVal o) :: (numVal y) :: (numVal yy) :: undef :: undef :: undef :: undef :: undef :: undef :: undef :: undef :: undef :: undef :: undef :: undef :: undef :: undef :: []
def uevenVs2_1 (y : List Nat) (g_base : Nat) (gr : Nat) (go : Nat) (gs : Nat) (o : List Nat) (yy : List Nat) (cv : List Nat) (dy : List Nat) (d1 : List Nat) (iv : List Nat) : List Value :=
  (numVal y) :: (.pointer (some ⟨g_base, 0, none⟩)) :: (.pointer (some ⟨gr, 0, none⟩)) :: (.bool false) :: (.pointer (some ⟨go, 0, none⟩)) :: (.pointer (some ⟨gs, 0, none⟩)) :: undef :: (numVal o) :: (numVal y) :: (numVal yy) :: (numVal cv) :: (numVal yy) :: (numVal dy) :: (numVal o) :: (numVal d1) :: (numVal iv) :: undef :: undef :: undef :: undef :: undef :: undef :: undef :: undef :: []
def uevenVs2_1N (y : List Nat) (g_base : Nat) (gr : Nat) (go : Nat) (gs : Nat) (o : List Nat) (yy : List Nat) (cv : List Nat) (dy : List Nat) (d1 : List Nat) (iv : List Nat) (n6 : Nat) : List Value :=
  (numVal y) :: (.pointer (some ⟨g_base, 0, none⟩)) :: (.pointer (some ⟨gr, 0, none⟩)) :: (.bool false) :: (.pointer (some ⟨go, 0, none⟩)) :: (.pointer (some ⟨gs, 0, none⟩)) :: (.pointer (some ⟨n6, 0, none⟩)) :: (numVal o) :: (numVal y) :: (numVal yy) :: (numVal cv) :: (numVal yy) :: (numVal dy) :: (numVal o) :: (numVal d1) :: (numVal iv) :: undef :: undef :: undef :: undef :: undef :: undef :: undef :: undef :: []
def uevenVs3_2 (y : List Nat) (g_base : Nat) (gr : Nat) (go : Nat) (gs : Nat) (gv : Nat) (o : List Nat) (yy : List Nat) (cv : List Nat) (dy : List Nat) (d1 : List Nat) (iv : List Nat) (s1 : List Nat) (pr : List Nat) (x : List Nat) (c : Bool) : List Value :=
  (numVal y) :: (.pointer (some ⟨g_base, 0, none⟩)) :: (.pointer (some ⟨gr, 0, none⟩)) :: (.bool false) :: (.pointer (some ⟨go, 0, none⟩)) :: (.pointer (some ⟨gs, 0, none⟩)) :: (.pointer (some ⟨gv, 0, none⟩)) :: (numVal o) :: (numVal y) :: (numVal yy) :: (numVal cv) :: (numVal yy) :: (numVal dy) :: (numVal o) :: (numVal d1) :: (numVal iv) :: (numVal yy) :: (numVal o) :: (numVal s1) :: (numVal iv) :: (numVal pr) :: (.tuple #[numVal x, .bool c]) :: (numVal x) :: (.bool c) :: []
set_option maxRecDepth 100000 in
set_option maxHeartbeats 2000000 in
theorem ueven_over (y o yy cv dy d1 iv s1 pr x : List Nat) (c : Bool) (E : Value) (w : World)
    (Hy : Hid (y.length = 5))
    (Ho : Hid (o.length = 5))
    (Hyy : Hid (yy.length = 5))
    (Hiv : Hid (iv.length = 5))
    (Hx : Hid (x.length = 5))
    (C1 : Hid (∀ W, Calls Tryd.prog 55 #[.int .i64 1] W fun e w' => e = .returned (numVal o) ∧ Below W.heap.size W w'))
    (C2 : Hid (∀ W, Calls Tryd.prog 51 #[numVal y] W fun e w' => e = .returned (numVal yy) ∧ Below W.heap.size W w'))
    (C3 : Hid (∀ W, TabsU E W → Calls Tryd.prog 52 #[] W fun e w' => e = .returned (numVal cv) ∧ Below W.heap.size W w'))
    (C4 : Hid (∀ W, Calls Tryd.prog 43 #[numVal cv, numVal yy] W fun e w' => e = .returned (numVal dy) ∧ Below W.heap.size W w'))
    (C5 : Hid (∀ W, Calls Tryd.prog 50 #[numVal dy, numVal o] W fun e w' => e = .returned (numVal d1) ∧ Below W.heap.size W w'))
    (C6 : Hid (∀ W, Calls Tryd.prog 42 #[numVal d1] W fun e w' => e = .returned (numVal iv) ∧ Below W.heap.size W w'))
    (C7 : Hid (∀ W, Calls Tryd.prog 47 #[numVal yy, numVal o] W fun e w' => e = .returned (numVal s1) ∧ Below W.heap.size W w'))
    (C8 : Hid (∀ W, Calls Tryd.prog 43 #[numVal s1, numVal iv] W fun e w' => e = .returned (numVal pr) ∧ Below W.heap.size W w'))
    (C9 : Hid (∀ W, TabsU E W → Calls Tryd.prog 62 #[numVal pr] W fun e w' => e = .returned (.tuple #[numVal x, .bool c]) ∧ Below W.heap.size W w'))
    (hS : TabsU E w) :
    Calls Tryd.prog 29 #[numVal y] w fun e w' => e = .returned (.tuple #[numVal x, .bool c]) ∧ Below w.heap.size w w' := by
  go_enter Tryd.func29, Tryd.ntmps29
  go_wp2_with (first
    | (refine vtake_step rfl 29 (.tmp 0) rfl (y.map ncell) rfl ?_
       intro w1 hb1 hvy1
       have hB1 := hb1
       have hgey : w.heap.size ≤ w.heap.size := Nat.le_refl _
       clear  hb1
       try simp only [Act.put, List.setIfInBounds_toArray, List.set_cons_zero, List.set_cons_succ]
       skip)
    | (refine vzero_step (o := ⟨some 2, _, _, _, _, _⟩) rfl 29 rfl (nzeros 5) zero_elem ?_
       intro w2 hb2 hvr2
       have hB2 := below_then hB1 hb2
       have hger : w.heap.size ≤ w1.heap.size := hB1.size
       have hvy2 := hvy1.on hb2
       have hneyr := Nat.ne_of_lt hvy1.lt
       clear hB1 hvy1 hb2
       try simp only [Act.put, List.setIfInBounds_toArray, List.set_cons_zero, List.set_cons_succ]
       skip))
  generalize hqr : w1.heap.size = gr at *
  clear hqr
  replace hvy2 := hvy2.drew
  replace hvr2 := hvr2.drew
  refine wp_region_any (by kernel_rfl) ?_
  refine wpAny_flatS (L := [0, 1, 2, 3, 4, 5, 6]) (by kernel_rfl) _ _ (uevenVs1 y w.heap.size gr o yy) [(3, 4), (4, 5)] (fun _ => 29) (fun _ => (nzeros 5)) (fun s => bif s == 4 then some (5, o.map ncell) else bif s == 5 then some (6, yy.map ncell) else none) [0, 1, 2, 3, 6, 10, 11, 12, 13, 14, 15, 16, 17, 18, 19, 20, 21, 22, 23] (by kernel_rfl) (by kernel_rfl) ?_ (fun _ _ => zero_elem) ?_ ?_ ?_ (by rfl) ?_ 0 (by kernel_rfl) ?_
  · intro p hp
    rcases List.mem_cons.1 hp with rfl | hp
    · exact ⟨⟨_, rfl, rfl, rfl, rfl, by kernel_rfl, by kernel_rfl⟩⟩
    rcases List.mem_cons.1 hp with rfl | hp
    · exact ⟨⟨_, rfl, rfl, rfl, rfl, by kernel_rfl, by kernel_rfl⟩⟩
    exact absurd hp List.not_mem_nil
  · intro p hp j l h
    rcases List.mem_cons.1 hp with rfl | hp
    · change some (5, o.map ncell) = some (j, l) at h
      cases h
      exact ⟨⟨_, 7, rfl, rfl, rfl, rfl, by kernel_rfl, by kernel_rfl, by kernel_rfl, rfl, by rw [List.length_map, Ho.out]; exact size_elem, by rw [List.length_map, Ho.out]; rfl, ncells_one _⟩, by decide⟩
    rcases List.mem_cons.1 hp with rfl | hp
    · change some (6, yy.map ncell) = some (j, l) at h
      cases h
      exact ⟨⟨_, 9, rfl, rfl, rfl, rfl, by kernel_rfl, by kernel_rfl, by kernel_rfl, rfl, by rw [List.length_map, Hyy.out]; exact size_elem, by rw [List.length_map, Hyy.out]; rfl, ncells_one _⟩, by decide⟩
    exact absurd hp List.not_mem_nil
  · intro p hp q hq j l l2 h1 h2
    rcases List.mem_cons.1 hp with rfl | hp
    · rcases List.mem_cons.1 hq with rfl | hq
      · rfl
      rcases List.mem_cons.1 hq with rfl | hq
      · change some (5, _) = some (j, l) at h1
        change some (6, _) = some (j, l2) at h2
        exact absurd ((Prod.mk.inj (Option.some.inj h1)).1.trans (Prod.mk.inj (Option.some.inj h2)).1.symm) (by decide)
      exact absurd hq List.not_mem_nil
    rcases List.mem_cons.1 hp with rfl | hp
    · rcases List.mem_cons.1 hq with rfl | hq
      · change some (6, _) = some (j, l) at h1
        change some (5, _) = some (j, l2) at h2
        exact absurd ((Prod.mk.inj (Option.some.inj h1)).1.trans (Prod.mk.inj (Option.some.inj h2)).1.symm) (by decide)
      rcases List.mem_cons.1 hq with rfl | hq
      · rfl
      exact absurd hq List.not_mem_nil
    exact absurd hp List.not_mem_nil
  · repeat refine all_cons rfl ?_
    exact all_nil
  · refine all_cons (.inr (.inl (mStep _ 7 rfl rfl rfl rfl (by kernel_rfl) (fun a hv => wanted_all rfl _) (fun a w K hb hv hK => mCall (numVal o) 55 _ _ rfl [.int .i64 1] (cons_eq (by rfl) (rfl)) (enters Tryd.func55 rfl rfl) (C1.out w) hK)))) ?_
    refine all_cons (.inr (.inl (mStep _ 8 rfl rfl rfl rfl (by kernel_rfl) (fun a hv => wanted_all rfl _) (fun a w K hb hv hK => mPure (numVal y) (exec_load _ _ _ _ rfl _ _ (hv 1 (by kernel_rfl) rfl) w (elem_run (hvy2.on hb) Hy.out)) hK)))) ?_
    refine all_cons (.inr (.inl (mStep _ 9 rfl rfl rfl rfl (by kernel_rfl) (fun a hv => wanted_all rfl _) (fun a w K hb hv hK => mCall (numVal yy) 51 _ _ rfl [numVal y] (cons_eq (hv 8 (by kernel_rfl) rfl) (rfl)) (enters Tryd.func51 rfl rfl) (C2.out w) hK)))) ?_
    refine all_cons (.inl ⟨(3, 4), by simp, rfl⟩) ?_
    refine all_cons (.inl ⟨(4, 5), by simp, rfl⟩) ?_
    refine all_cons (.inr (.inr ⟨(3, 4), by simp, _, rfl⟩)) ?_
    refine all_cons (.inr (.inr ⟨(4, 5), by simp, _, rfl⟩)) ?_
    exact all_nil
  intro w3 g hb3 hN3 hap3
  obtain ⟨hgeo, hvo3⟩ := hN3 (3, 4) (by simp)
  obtain ⟨hges, hvs3⟩ := hN3 (4, 5) (by simp)
  have hneos := hap3 (3, 4) (by simp) (4, 5) (by simp) (by decide)
  clear hN3 hap3
  have hB3 := below_then (show Below w.heap.size w w2.drew from hB2.drew) hb3
  have hlty : w.heap.size < w2.heap.size := hvy2.lt
  have hltr : gr < w2.heap.size := hvr2.lt
  have hvy3 := hvy2.on hb3
  have hvr3 := hvr2.on hb3
  rw [show withNew g [(3, 4), (4, 5)] (uevenVs1 y w.heap.size gr o yy) = uevenVs1N y w.heap.size gr o yy (g 4) (g 5) from rfl]
  replace hgeo : w2.heap.size ≤ g 4 := hgeo
  replace hvo3 : Cells w3 (g 4) (o.map ncell) 29 := hvo3
  replace hges : w2.heap.size ≤ g 5 := hges
  replace hvs3 : Cells w3 (g 5) (yy.map ncell) 29 := hvs3
  replace hneos : g 4 ≠ g 5 := hneos
  have hneyo : w.heap.size ≠ g 4 := Nat.ne_of_lt (Nat.lt_of_lt_of_le hlty hgeo)
  have hnero : gr ≠ g 4 := Nat.ne_of_lt (Nat.lt_of_lt_of_le hltr hgeo)
  replace hgeo : w.heap.size ≤ g 4 := Nat.le_trans (show w.heap.size ≤ w2.heap.size from hB2.size) hgeo
  have hneys : w.heap.size ≠ g 5 := Nat.ne_of_lt (Nat.lt_of_lt_of_le hlty hges)
  have hners : gr ≠ g 5 := Nat.ne_of_lt (Nat.lt_of_lt_of_le hltr hges)
  replace hges : w.heap.size ≤ g 5 := Nat.le_trans (show w.heap.size ≤ w2.heap.size from hB2.size) hges
  clear hlty hltr
  generalize g 4 = go at *
  generalize g 5 = gs at *
  clear hB2 hvy2 hvr2 hb3
  refine ⟨by kernel_rfl, ?_⟩
  rename_i K hKK
  show Exit.then K _ Exit.normal (⟨(uevenVs1N y w.heap.size gr o yy go gs).toArray, []⟩ : Act) w3
  simp only [Exit.then]
  refine hKK _ _ ?_
  clear hKK K g
  simp only [uevenVs1N]
  go_wp2_with fail
  replace hvy3 := hvy3.drew
  replace hvr3 := hvr3.drew
  replace hvo3 := hvo3.drew
  replace hvs3 := hvs3.drew
  have hBq := (show Below w.heap.size w w3.drew from hB3.drew)
  refine wp_region_any (by kernel_rfl) ?_
  refine wpAny_flatM (L := [0, 1, 2, 3, 4, 5, 6]) (by kernel_rfl) _ _ (uevenVs2_1 y w.heap.size gr go gs o yy cv dy d1 iv) [(6, 6)] 29 (nzeros 5) [0, 1, 2, 3, 4, 5, 7, 8, 9, 16, 17, 18, 19, 20, 21, 22, 23] (by kernel_rfl) (by kernel_rfl) ?_ zero_elem ?_ (by rfl) ?_ 1 (by kernel_rfl) ?_
  · intro p hp
    rcases List.mem_cons.1 hp with rfl | hp
    · exact ⟨⟨_, rfl, rfl, rfl, rfl, by kernel_rfl, by kernel_rfl⟩⟩
    exact absurd hp List.not_mem_nil
  · repeat refine all_cons rfl ?_
    exact all_nil
  · refine all_cons (.inr (mStep _ 10 rfl rfl rfl rfl (by kernel_rfl) (fun a hv => wanted_all rfl _) (fun a w K hb hv hK => mCall (numVal cv) 52 _ _ rfl [] (rfl) (enters Tryd.func52 rfl rfl) (C3.out w (hS.below (below_then hBq hb))) hK))) ?_
    refine all_cons (.inr (mStep _ 11 rfl rfl rfl rfl (by kernel_rfl) (fun a hv => wanted_all rfl _) (fun a w K hb hv hK => mPure (numVal yy) (exec_load _ _ _ _ rfl _ _ (hv 5 (by kernel_rfl) rfl) w (elem_run (hvs3.on hb) Hyy.out)) hK))) ?_
    refine all_cons (.inr (mStep _ 12 rfl rfl rfl rfl (by kernel_rfl) (fun a hv => wanted_all rfl _) (fun a w K hb hv hK => mCall (numVal dy) 43 _ _ rfl [numVal cv, numVal yy] (cons_eq (hv 10 (by kernel_rfl) rfl) (cons_eq (hv 11 (by kernel_rfl) rfl) (rfl))) (enters Tryd.func43 rfl rfl) (C4.out w) hK))) ?_
    refine all_cons (.inr (mStep _ 13 rfl rfl rfl rfl (by kernel_rfl) (fun a hv => wanted_all rfl _) (fun a w K hb hv hK => mPure (numVal o) (exec_load _ _ _ _ rfl _ _ (hv 4 (by kernel_rfl) rfl) w (elem_run (hvo3.on hb) Ho.out)) hK))) ?_
    refine all_cons (.inr (mStep _ 14 rfl rfl rfl rfl (by kernel_rfl) (fun a hv => wanted_all rfl _) (fun a w K hb hv hK => mCall (numVal d1) 50 _ _ rfl [numVal dy, numVal o] (cons_eq (hv 12 (by kernel_rfl) rfl) (cons_eq (hv 13 (by kernel_rfl) rfl) (rfl))) (enters Tryd.func50 rfl rfl) (C5.out w) hK))) ?_
    refine all_cons (.inr (mStep _ 15 rfl rfl rfl rfl (by kernel_rfl) (fun a hv => wanted_all rfl _) (fun a w K hb hv hK => mCall (numVal iv) 42 _ _ rfl [numVal d1] (cons_eq (hv 14 (by kernel_rfl) rfl) (rfl)) (enters Tryd.func42 rfl rfl) (C6.out w) hK))) ?_
    refine all_cons (.inl ⟨(6, 6), by simp, rfl⟩) ?_
    exact all_nil
  intro w4 g hb4 hN4 hap4
  obtain ⟨hgev, hvv4⟩ := hN4 (6, 6) (by simp)
  clear hN4 hap4
  have hB4 := below_then (show Below w.heap.size w w3.drew from hB3.drew) hb4
  have hlty : w.heap.size < w3.heap.size := hvy3.lt
  have hltr : gr < w3.heap.size := hvr3.lt
  have hlto : go < w3.heap.size := hvo3.lt
  have hlts : gs < w3.heap.size := hvs3.lt
  have hvy4 := hvy3.on hb4
  have hvr4 := hvr3.on hb4
  have hvo4 := hvo3.on hb4
  have hvs4 := hvs3.on hb4
  rw [show withNew g [(6, 6)] (uevenVs2_1 y w.heap.size gr go gs o yy cv dy d1 iv) = uevenVs2_1N y w.heap.size gr go gs o yy cv dy d1 iv (g 6) from rfl]
  replace hgev : w3.heap.size ≤ g 6 := hgev
  replace hvv4 : Cells w4 (g 6) (nzeros 5) 29 := hvv4
  have hneyv : w.heap.size ≠ g 6 := Nat.ne_of_lt (Nat.lt_of_lt_of_le hlty hgev)
  have hnerv : gr ≠ g 6 := Nat.ne_of_lt (Nat.lt_of_lt_of_le hltr hgev)
  have hneov : go ≠ g 6 := Nat.ne_of_lt (Nat.lt_of_lt_of_le hlto hgev)
  have hnesv : gs ≠ g 6 := Nat.ne_of_lt (Nat.lt_of_lt_of_le hlts hgev)
  replace hgev : w.heap.size ≤ g 6 := Nat.le_trans (show w.heap.size ≤ w3.heap.size from hB3.size) hgev
  clear hlty hltr hlto hlts
  generalize g 6 = gv at *
  clear hB3 hvy3 hvr3 hvo3 hvs3 hb4 hBq
  refine wpAny_rest 7 rfl (by kernel_rfl) ?_
  refine vset_step rfl 29 (.tmp 6) (.tmp 15) rfl gv 5 (nzeros 5) (iv.map ncell) rfl rfl hvv4 rfl size_elem (by rw [List.length_map, Hiv.out]) (ncells_one _) ?_
  intro w5 hb5 hvv5 hz5
  have hB5 : Below w.heap.size w w5 := hB4.trans (hb5.below hgev hB4.size)
  have hvy5 := hvy4.but hb5 hneyv
  have hvr5 := hvr4.but hb5 hnerv
  have hvo5 := hvo4.but hb5 hneov
  have hvs5 := hvs4.but hb5 hnesv
  clear hB4 hvv4 hb5 hz5 hvy4 hvr4 hvo4 hvs4
  rename_i K hKK
  show Exit.then K _ Exit.normal (⟨(uevenVs2_1N y w.heap.size gr go gs o yy cv dy d1 iv gv).toArray, []⟩ : Act) w5
  simp only [Exit.then]
  refine hKK _ _ ?_
  clear hKK K g
  simp only [uevenVs2_1N]
  go_wp2_with fail
  replace hvy5 := hvy5.drew
  replace hvr5 := hvr5.drew
  replace hvo5 := hvo5.drew
  replace hvs5 := hvs5.drew
  replace hvv5 := hvv5.drew
  have hBq := (show Below w.heap.size w w5.drew from hB5.drew)
  refine wp_region_any (by kernel_rfl) ?_
  refine wpAny_flatM (L := [0, 1, 2, 3, 4, 5, 6, 7]) (by kernel_rfl) _ _ (uevenVs3_2 y w.heap.size gr go gs gv o yy cv dy d1 iv s1 pr x c) [] 29 (nzeros 5) [0, 1, 2, 3, 4, 5, 6, 7, 8, 9, 10, 11, 12, 13, 14, 15] (by kernel_rfl) (by kernel_rfl) ?_ zero_elem ?_ (by rfl) ?_ 2 (by kernel_rfl) ?_
  · intro p hp
    exact absurd hp List.not_mem_nil
  · repeat refine all_cons rfl ?_
    exact all_nil
  · refine all_cons (.inr (mStep _ 16 rfl rfl rfl rfl (by kernel_rfl) (fun a hv => wanted_all rfl _) (fun a w K hb hv hK => mPure (numVal yy) (exec_load _ _ _ _ rfl _ _ (hv 5 (by kernel_rfl) rfl) w (elem_run (hvs5.on hb) Hyy.out)) hK))) ?_
    refine all_cons (.inr (mStep _ 17 rfl rfl rfl rfl (by kernel_rfl) (fun a hv => wanted_all rfl _) (fun a w K hb hv hK => mPure (numVal o) (exec_load _ _ _ _ rfl _ _ (hv 4 (by kernel_rfl) rfl) w (elem_run (hvo5.on hb) Ho.out)) hK))) ?_
    refine all_cons (.inr (mStep _ 18 rfl rfl rfl rfl (by kernel_rfl) (fun a hv => wanted_all rfl _) (fun a w K hb hv hK => mCall (numVal s1) 47 _ _ rfl [numVal yy, numVal o] (cons_eq (hv 16 (by kernel_rfl) rfl) (cons_eq (hv 17 (by kernel_rfl) rfl) (rfl))) (enters Tryd.func47 rfl rfl) (C7.out w) hK))) ?_
    refine all_cons (.inr (mStep _ 19 rfl rfl rfl rfl (by kernel_rfl) (fun a hv => wanted_all rfl _) (fun a w K hb hv hK => mPure (numVal iv) (exec_load _ _ _ _ rfl _ _ (hv 6 (by kernel_rfl) rfl) w (elem_run (hvv5.on hb) Hiv.out)) hK))) ?_
    refine all_cons (.inr (mStep _ 20 rfl rfl rfl rfl (by kernel_rfl) (fun a hv => wanted_all rfl _) (fun a w K hb hv hK => mCall (numVal pr) 43 _ _ rfl [numVal s1, numVal iv] (cons_eq (hv 18 (by kernel_rfl) rfl) (cons_eq (hv 19 (by kernel_rfl) rfl) (rfl))) (enters Tryd.func43 rfl rfl) (C8.out w) hK))) ?_
    refine all_cons (.inr (mStep _ 21 rfl rfl rfl rfl (by kernel_rfl) (fun a hv => wanted_all rfl _) (fun a w K hb hv hK => mCall (.tuple #[numVal x, .bool c]) 62 _ _ rfl [numVal pr] (cons_eq (hv 20 (by kernel_rfl) rfl) (rfl)) (enters Tryd.func62 rfl rfl) (C9.out w (hS.below (below_then hBq hb))) hK))) ?_
    refine all_cons (.inr (mStep _ 22 rfl rfl rfl rfl (by kernel_rfl) (fun a hv => wanted_all rfl _) (fun a w K hb hv hK => mPure (numVal x) (exec_extract _ _ _ _ rfl _ (hv 21 (by kernel_rfl) rfl) _ rfl w) hK))) ?_
    refine all_cons (.inr (mStep _ 23 rfl rfl rfl rfl (by kernel_rfl) (fun a hv => wanted_all rfl _) (fun a w K hb hv hK => mPure (.bool c) (exec_extract _ _ _ _ rfl _ (hv 21 (by kernel_rfl) rfl) _ rfl w) hK))) ?_
    exact all_nil
  intro w6 g hb6 hN6 hap6
  clear hN6 hap6
  have hB6 := below_then (show Below w.heap.size w w5.drew from hB5.drew) hb6
  have hvy6 := hvy5.on hb6
  have hvr6 := hvr5.on hb6
  have hvo6 := hvo5.on hb6
  have hvs6 := hvs5.on hb6
  have hvv6 := hvv5.on hb6
  clear hB5 hvy5 hvr5 hvo5 hvs5 hvv5 hb6 hBq
  refine wpAny_rest 8 rfl (by kernel_rfl) ?_
  refine vset_step rfl 29 (.tmp 2) (.tmp 22) rfl gr 5 (nzeros 5) (x.map ncell) rfl rfl hvr6 rfl size_elem (by rw [List.length_map, Hx.out]) (ncells_one _) ?_
  intro w7 hb7 hvr7 hz7
  have hB7 : Below w.heap.size w w7 := hB6.trans (hb7.below hger hB6.size)
  have hvy7 := hvy6.but hb7 hneyr
  have hvo7 := hvo6.but hb7 (Ne.symm hnero)
  have hvs7 := hvs6.but hb7 (Ne.symm hners)
  have hvv7 := hvv6.but hb7 (Ne.symm hnerv)
  clear hB6 hvr6 hb7 hz7 hvy6 hvo6 hvs6 hvv6
  refine wpList_move rfl (.inr rfl) (.bool c) (by rfl) ?_
  rename_i K hKK
  show Exit.then K _ Exit.normal (⟨((uevenVs3_2 y w.heap.size gr go gs gv o yy cv dy d1 iv s1 pr x c).set 3 (.bool c)).toArray, []⟩ : Act) w7
  simp only [Exit.then]
  refine hKK _ _ ?_
  clear hKK K g
  simp only [uevenVs3_2, List.set_cons_zero, List.set_cons_succ]
  go_wp2
  exact sret2 Tryd.results29 gr (x.map ncell) _ rfl rfl hvr7 Tryd.underlying29 rfl size_elem (by rw [List.length_map, Hx.out]) rfl ⟨rfl, hB7⟩
end Go.Proofs.YtagjbdhelfickaaDoor
namespace Go.Proofs.YtagjbdhelfickaaDoor
open Go.RowKit
/-- The point whose x is a/b, and whose y is c/d. -/
def quoT (a b c d : Nat) : Tri := (fM a d, fM c b, fM b d)
theorem quoT_lt (a b c d : Nat) : TriLt (quoT a b c d) := ⟨fM_lt _ _, fM_lt _ _, fM_lt _ _⟩
/-- The sum, as the program has it. -/
def addX (p q : Tri) : Nat := fM p.1 q.1
def addY (p q : Tri) : Nat := fM p.2.1 q.2.1
def addZ (p q : Tri) : Nat := fM p.2.2 q.2.2
def addCross (p q : Tri) : Nat := fA (fM p.1 q.2.1) (fM p.2.1 q.1)
def addAlong (p q : Tri) : Nat := fA (addY p q) (addX p q)
def addOver (p q : Tri) : Nat := fM (addZ p q) (addZ p q)
def addBent (p q : Tri) : Nat := fM (fM dNat (addX p q)) (addY p q)
def addT (p q : Tri) : Tri := quoT (fM (addCross p q) (addZ p q)) (fA (addOver p q) (addBent p q)) (fM (addAlong p q) (addZ p q)) (fS (addOver p q) (addBent p q))
theorem addT_lt (p q : Tri) : TriLt (addT p q) := quoT_lt _ _ _ _
/-- The double. -/
def twXX (p : Tri) : Nat := fM p.1 p.1
def twYY (p : Tri) : Nat := fM p.2.1 p.2.1
def twZZ (p : Tri) : Nat := fM p.2.2 p.2.2
def twXY (p : Tri) : Nat := fM p.1 p.2.1
def twLess (p : Tri) : Nat := fS (twYY p) (twXX p)
def twT (p : Tri) : Tri := quoT (fA (twXY p) (twXY p)) (twLess p) (fA (twYY p) (twXX p)) (fS (fA (twZZ p) (twZZ p)) (twLess p))
theorem twT_lt (p : Tri) : TriLt (twT p) := quoT_lt _ _ _ _
def radT (p : Tri) : Tri := twT (twT (twT (twT p)))
theorem radT_lt (p : Tri) : TriLt (radT p) := twT_lt _
/-- Whether they are the same. -/
def sameT (s t : Tri) : Bool := decide (fM s.1 t.2.2 = fM t.1 s.2.2) && decide (fM s.2.1 t.2.2 = fM t.2.1 s.2.2)
/-- A point's multiples. -/
def manyT (p : Tri) : Nat → Tri
  | 0 => (0, 1, 1)
  | i + 1 => addT (manyT p i) p
theorem zero_lt : TriLt (0, 1, 1) := ⟨by show 0 < pp; decide, by show 1 < pp; decide, by show 1 < pp; decide⟩
theorem manyT_lt (p : Tri) : ∀ i, TriLt (manyT p i)
  | 0 => zero_lt
  | _ + 1 => addT_lt _ _
/-- A key's digits of four bits, and what those from the high one on make. -/
def dig (k : List UInt8) (i : Nat) : Nat := (k.getD (i / 2) 0).toNat / 16 ^ (i % 2) % 16
theorem dig_lt (k : List UInt8) (i : Nat) : dig k i < 16 := Nat.mod_lt _ (by decide)
theorem lev_dig : ∀ (k : List UInt8) (i : Nat), lev k / 16 ^ i % 16 = dig k i
  | [], i => by rw [show lev [] = 0 from rfl, Nat.zero_div]; simp [dig]
  | b :: t, i => by
    rw [lev_cons]
    have hb := b.toNat_lt
    rcases Nat.lt_or_ge i 2 with h | h
    · obtain rfl | rfl : i = 0 ∨ i = 1 := by omega
      · show (b.toNat + 256 * lev t) / 1 % 16 = b.toNat / 1 % 16; omega
      · show (b.toNat + 256 * lev t) / 16 % 16 = b.toNat / 16 % 16; omega
    · obtain ⟨j, rfl⟩ : ∃ j, i = j + 2 := ⟨i - 2, by omega⟩
      have ih := lev_dig t j
      rw [dig, show (j + 2) / 2 = j / 2 + 1 by omega, Nat.add_mod_right, List.getD_cons_succ]
      rw [dig] at ih
      rw [← ih, Nat.add_comm j 2, Nat.pow_add, ← Nat.div_div_eq_div_mul, show (16 : Nat) ^ 2 = 256 from rfl]
      congr 2
      omega
def preD (k : List UInt8) : Nat → Nat
  | 0 => 0
  | j + 1 => 16 * preD k j + dig k (63 - j)
theorem preD_is {k : List UInt8} (hk : lev k < 115792089237316195423570985008687907853269984665640564039457584007913129639936) : ∀ j m, j + m = 64 → preD k j = lev k / 16 ^ m
  | 0, m, h => by
    obtain rfl : m = 64 := by omega
    exact (Nat.div_eq_of_lt (by rw [show (16 : Nat) ^ 64 = 115792089237316195423570985008687907853269984665640564039457584007913129639936 from by decide +kernel]; exact hk)).symm
  | j + 1, m, h => by
    have ih := preD_is hk j (m + 1) (by omega)
    rw [Nat.pow_succ, ← Nat.div_div_eq_div_mul] at ih
    show 16 * preD k j + dig k (63 - j) = _
    rw [ih, show 63 - j = m by omega, ← lev_dig]
    generalize lev k / 16 ^ m = q
    omega
/-- The shares' sum: m of them, the j-th's multiple by digit i is f i j. -/
def innT (f : Nat → Tri) (a : Tri) : Nat → Tri
  | 0 => a
  | j + 1 => addT (innT f a j) (f j)
def outT (m : Nat) (f : Nat → Nat → Tri) : Nat → Tri
  | 0 => (0, 1, 1)
  | k + 1 => innT (f (63 - k)) (radT (outT m f k)) m
theorem innT_lt (f : Nat → Tri) (a : Tri) (h : TriLt a) : ∀ j, TriLt (innT f a j)
  | 0 => h
  | _ + 1 => addT_lt _ _
theorem outT_lt (m : Nat) (f : Nat → Nat → Tri) : ∀ k, TriLt (outT m f k)
  | 0 => zero_lt
  | _ + 1 => innT_lt _ _ (radT_lt _) _
namespace NP
/-- Two quotients over the curve's own denominators are the sum's. -/
theorem Rep.quot {P : Nat} {d i : Int} (h : Edw P d i) {p q : Pt P d} {W A B C D : Int} (nW : ¬ (P : Int) ∣ W) (cA : Cg P A (W * (p.x * q.y + q.x * p.y))) (cB : Cg P B (W * (1 + d * p.x * q.x * p.y * q.y))) (cC : Cg P C (W * (p.y * q.y + p.x * q.x))) (cD : Cg P D (W * (1 - d * p.x * q.x * p.y * q.y))) : Rep (h.add p q) (A * D) (C * B) (B * D) := by
  obtain ⟨⟨a, ha⟩, ⟨b, hb⟩⟩ := h.add_is p q
  have hp := h.plus p.on q.on
  have hm := h.less p.on q.on
  have cX := cA.mul cD
  have cY := cC.mul cB
  have cZ := cB.mul cD
  obtain ⟨s, hs⟩ : ∃ s, (h.add p q).x = s := ⟨_, rfl⟩
  obtain ⟨t, ht⟩ : ∃ t, (h.add p q).y = t := ⟨_, rfl⟩
  rw [hs] at ha
  rw [ht] at hb
  generalize p.x = x1 at *
  generalize p.y = y1 at *
  generalize q.x = x2 at *
  generalize q.y = y2 at *
  have two : ∀ {x y : Int}, ¬ (P : Int) ∣ x → ¬ (P : Int) ∣ y → ¬ (P : Int) ∣ x * y := fun hx hy hd => by
    rcases h.prime.int hd with h8 | h8
    · exact hx h8
    · exact hy h8
  refine ⟨fun hd => two (two nW hp) (two nW hm) (cZ.dvd hd), ?_, ?_⟩
  · rw [hs]
    refine (cX.trans ?_).trans ((Cg.refl s).mul cZ.swap)
    generalize 1 + d * x1 * x2 * y1 * y2 = e1 at *
    generalize 1 - d * x1 * x2 * y1 * y2 = e2 at *
    generalize x1 * y2 + x2 * y1 = n at *
    exact ⟨-(a * W * W * e2), by grind⟩
  · rw [ht]
    refine (cY.trans ?_).trans ((Cg.refl t).mul cZ.swap)
    generalize 1 + d * x1 * x2 * y1 * y2 = e1 at *
    generalize 1 - d * x1 * x2 * y1 * y2 = e2 at *
    generalize y1 * y2 + x1 * x2 = n at *
    exact ⟨-(b * W * W * e1), by grind⟩
theorem not_two {x y : Int} (hx : ¬ ((PP : Nat) : Int) ∣ x) (hy : ¬ ((PP : Nat) : Int) ∣ y) : ¬ ((PP : Nat) : Int) ∣ x * y := fun hd => by
  rcases pr_P.int hd with h | h
  · exact hx h
  · exact hy h
theorem addT_rep {p q : Pt PP dE} {s t : Tri} (r1 : RepN p s) (r2 : RepN q t) : RepN (edw.add p q) (addT s t) := by
  refine ⟨?_, addT_lt _ _⟩
  obtain ⟨⟨n1, cx1, cy1⟩, -⟩ := r1
  obtain ⟨⟨n2, cx2, cy2⟩, -⟩ := r2
  have hz := cg_M s.2.2 t.2.2
  have hxx := (cg_M s.1 t.1).trans (cx1.mul cx2)
  have hyy := (cg_M s.2.1 t.2.1).trans (cy1.mul cy2)
  have hov := (cg_M (addZ s t) (addZ s t)).trans (hz.mul hz)
  have hbe := (cg_M (fM dNat (addX s t)) (addY s t)).trans (((cg_M dNat (addX s t)).trans ((Cg.refl (dNat : Int)).mul hxx)).mul hyy)
  rw [dNat_is] at hbe
  have hcr := (cg_A (fM s.1 t.2.1) (fM s.2.1 t.1)).trans (((cg_M s.1 t.2.1).trans (cx1.mul cy2)).add ((cg_M s.2.1 t.1).trans (cy1.mul cx2)))
  have hal := (cg_A (addY s t) (addX s t)).trans (hyy.add hxx)
  have hA := (cg_M (addCross s t) (addZ s t)).trans (hcr.mul hz)
  have hB := (cg_A (addOver s t) (addBent s t)).trans (hov.add hbe)
  have hC := (cg_M (addAlong s t) (addZ s t)).trans (hal.mul hz)
  have hD := (cg_S (addOver s t) (addBent s t) (fM_lt _ _)).trans (hov.sub hbe)
  have nW : ¬ ((PP : Nat) : Int) ∣ ((s.2.2 : Int) * t.2.2) * ((s.2.2 : Int) * t.2.2) := not_two (not_two n1 n2) (not_two n1 n2)
  have h := Rep.quot edw (p := p) (q := q) (W := ((s.2.2 : Int) * t.2.2) * ((s.2.2 : Int) * t.2.2)) nW
    (hA.trans (by rw [show p.x * (s.2.2 : Int) * (q.y * (t.2.2 : Int)) + p.y * (s.2.2 : Int) * (q.x * (t.2.2 : Int)) = (s.2.2 : Int) * t.2.2 * (p.x * q.y + q.x * p.y) by grind, Int.mul_right_comm]; exact Cg.refl _))
    (hB.trans (by rw [show (s.2.2 : Int) * t.2.2 * ((s.2.2 : Int) * t.2.2) + (dE : Int) * (p.x * (s.2.2 : Int) * (q.x * (t.2.2 : Int))) * (p.y * (s.2.2 : Int) * (q.y * (t.2.2 : Int))) = (s.2.2 : Int) * t.2.2 * ((s.2.2 : Int) * t.2.2) * (1 + (dE : Int) * p.x * q.x * p.y * q.y) by grind]; exact Cg.refl _))
    (hC.trans (by rw [show p.y * (s.2.2 : Int) * (q.y * (t.2.2 : Int)) + p.x * (s.2.2 : Int) * (q.x * (t.2.2 : Int)) = (s.2.2 : Int) * t.2.2 * (p.y * q.y + p.x * q.x) by grind, Int.mul_right_comm]; exact Cg.refl _))
    (hD.trans (by rw [show (s.2.2 : Int) * t.2.2 * ((s.2.2 : Int) * t.2.2) - (dE : Int) * (p.x * (s.2.2 : Int) * (q.x * (t.2.2 : Int))) * (p.y * (s.2.2 : Int) * (q.y * (t.2.2 : Int))) = (s.2.2 : Int) * t.2.2 * ((s.2.2 : Int) * t.2.2) * (1 - (dE : Int) * p.x * q.x * p.y * q.y) by grind]; exact Cg.refl _))
  exact h.of (cg_M _ _) (cg_M _ _) (cg_M _ _)
theorem twT_rep {p : Pt PP dE} {t : Tri} (r : RepN p t) : RepN (edw.add p p) (twT t) := by
  refine ⟨?_, twT_lt _⟩
  obtain ⟨⟨n1, cx, cy⟩, -⟩ := r
  obtain ⟨u, hu⟩ := p.on
  have hxx := (cg_M t.1 t.1).trans (cx.mul cx)
  have hyy := (cg_M t.2.1 t.2.1).trans (cy.mul cy)
  have hzz := cg_M t.2.2 t.2.2
  have hxy := (cg_M t.1 t.2.1).trans (cx.mul cy)
  have hA := (cg_A (twXY t) (twXY t)).trans (hxy.add hxy)
  have hB := (cg_S (twYY t) (twXX t) (fM_lt _ _)).trans (hyy.sub hxx)
  have hC := (cg_A (twYY t) (twXX t)).trans (hyy.add hxx)
  have hB2 : Cg ((PP : Nat) : Int) ((twLess t : Nat) : Int) ((t.2.2 : Int) * t.2.2 * (1 + (dE : Int) * p.x * p.x * p.y * p.y)) := hB.trans ⟨(t.2.2 : Int) * t.2.2 * u, by
    generalize p.x = x at *
    generalize p.y = y at *
    grind⟩
  have hD := (cg_S (fA (twZZ t) (twZZ t)) (twLess t) (fS_lt _ _)).trans (((cg_A (twZZ t) (twZZ t)).trans (hzz.add hzz)).sub hB2)
  have h := Rep.quot edw (p := p) (q := p) (W := (t.2.2 : Int) * t.2.2) (not_two n1 n1)
    (hA.trans (by rw [show p.x * (t.2.2 : Int) * (p.y * (t.2.2 : Int)) + p.x * (t.2.2 : Int) * (p.y * (t.2.2 : Int)) = (t.2.2 : Int) * t.2.2 * (p.x * p.y + p.x * p.y) by grind]; exact Cg.refl _))
    hB2
    (hC.trans (by rw [show p.y * (t.2.2 : Int) * (p.y * (t.2.2 : Int)) + p.x * (t.2.2 : Int) * (p.x * (t.2.2 : Int)) = (t.2.2 : Int) * t.2.2 * (p.y * p.y + p.x * p.x) by grind]; exact Cg.refl _))
    (hD.trans (by rw [show (t.2.2 : Int) * t.2.2 + (t.2.2 : Int) * t.2.2 - (t.2.2 : Int) * t.2.2 * (1 + (dE : Int) * p.x * p.x * p.y * p.y) = (t.2.2 : Int) * t.2.2 * (1 - (dE : Int) * p.x * p.x * p.y * p.y) by grind]; exact Cg.refl _))
  exact h.of (cg_M _ _) (cg_M _ _) (cg_M _ _)
theorem radT_rep {p q : Pt PP dE} {t : Tri} {a b : Nat} (r : RepN (edw.add (edw.mul p a) (edw.mul q b)) t) : RepN (edw.add (edw.mul p (16 * a)) (edw.mul q (16 * b))) (radT t) := by
  have one : ∀ {a b : Nat} {t : Tri}, RepN (edw.add (edw.mul p a) (edw.mul q b)) t → RepN (edw.add (edw.mul p (2 * a)) (edw.mul q (2 * b))) (twT t) := fun r => by
    have h := twT_rep r
    rw [four_sum, mul_two, mul_two] at h
    exact h
  have h := one (one (one (one r)))
  rw [show 2 * (2 * (2 * (2 * a))) = 16 * a by omega, show 2 * (2 * (2 * (2 * b))) = 16 * b by omega] at h
  exact h
theorem manyT_rep {p : Pt PP dE} {t : Tri} (r : RepN p t) : ∀ i, RepN (edw.mul p i) (manyT t i)
  | 0 => zeroT_rep
  | i + 1 => addT_rep (manyT_rep r i) r
/-- Two shares' sum. -/
theorem two_rep {p q : Pt PP dE} {t u : Tri} (r1 : RepN p t) (r2 : RepN q u) (h s : List UInt8) (f : Nat → Nat → Tri) (f0 : ∀ i, f i 0 = manyT t (dig h i)) (f1 : ∀ i, f i 1 = manyT u (dig s i)) : ∀ k, RepN (edw.add (edw.mul p (preD h k)) (edw.mul q (preD s k))) (outT 2 f k)
  | 0 => by
    show RepN (edw.add edw.zero edw.zero) _
    rw [edw.zero_add]
    exact zeroT_rep
  | k + 1 => by
    have ih := radT_rep (two_rep r1 r2 h s f f0 f1 k)
    have h1 := addT_rep ih (manyT_rep r1 (dig h (63 - k)))
    have h2 := addT_rep h1 (manyT_rep r2 (dig s (63 - k)))
    rw [edw.add_assoc (edw.mul p _), edw.add_comm (edw.mul q _) (edw.mul p _), ← edw.add_assoc (edw.mul p _), ← edw.mul_add, edw.add_assoc, ← edw.mul_add] at h2
    show RepN _ (addT (addT (radT (outT 2 f k)) (f (63 - k) 0)) (f (63 - k) 1))
    rw [f0, f1]
    exact h2
/-- One share's sum. -/
theorem one_rep {p : Pt PP dE} {t : Tri} (r1 : RepN p t) (h : List UInt8) (f : Nat → Nat → Tri) (f0 : ∀ i, f i 0 = manyT t (dig h i)) : ∀ k, RepN (edw.mul p (preD h k)) (outT 1 f k)
  | 0 => zeroT_rep
  | k + 1 => by
    have ih := one_rep r1 h f f0 k
    have e : edw.add (edw.mul p (preD h k)) (edw.mul p 0) = edw.mul p (preD h k) := edw.add_zero _
    rw [← e] at ih
    have i2 := radT_rep ih
    rw [show edw.mul p (16 * 0) = edw.zero from rfl, edw.add_zero] at i2
    have h1 := addT_rep i2 (manyT_rep r1 (dig h (63 - k)))
    rw [← edw.mul_add] at h1
    show RepN _ (addT (radT (outT 1 f k)) (f (63 - k) 0))
    rw [f0]
    exact h1
/-- They are the same just where their points are. -/
theorem cross_same {x y : Int} {a b c d : Nat} (hb : ¬ ((PP : Nat) : Int) ∣ (b : Int)) (hd : ¬ ((PP : Nat) : Int) ∣ (d : Int)) (ha : Cg ((PP : Nat) : Int) (a : Int) (x * b)) (hc : Cg ((PP : Nat) : Int) (c : Int) (y * d)) : fM a d = fM c b ↔ ((PP : Nat) : Int) ∣ x - y := by
  rw [fM, fM, show pp = PP from rfl, cg, Int.natCast_mul, Int.natCast_mul]
  have h1 := ha.mul (Cg.refl (d : Int))
  have h2 := hc.mul (Cg.refl (b : Int))
  have h3 := h1.sub h2
  have e : x * (b : Int) * d - y * d * b = (x - y) * (b * d) := by grind
  rw [e] at h3
  constructor
  · intro h
    exact (pr_P.int (h3.dvd h)).resolve_right (not_two hb hd)
  · intro h
    exact h3.swap.dvd (Int.dvd_trans h (Int.dvd_mul_right _ _))
theorem sameT_rep {p q : Pt PP dE} {s t : Tri} (r1 : RepN p s) (r2 : RepN q t) : sameT s t = true ↔ p = q := by
  obtain ⟨⟨n1, cx1, cy1⟩, -⟩ := r1
  obtain ⟨⟨n2, cx2, cy2⟩, -⟩ := r2
  rw [sameT, Bool.and_eq_true, decide_eq_true_eq, decide_eq_true_eq, cross_same n1 n2 cx1 cx2, cross_same n1 n2 cy1 cy2]
  constructor
  · rintro ⟨h1, h2⟩
    exact Pt.same h1 h2
  · rintro rfl
    rw [Int.sub_self, Int.sub_self]
    exact ⟨⟨0, (Int.mul_zero _).symm⟩, ⟨0, (Int.mul_zero _).symm⟩⟩
end NP
end Go.Proofs.YtagjbdhelfickaaDoor
namespace Go.Proofs.YtagjbdhelfickaaDoor
open Go.RowKit
theorem zero_tri : ∀ w, (zeroValue 40).run Tryd.prog w = .ok (.agg (dzeros 24).toArray) w := (zero_of_info (P := Tryd.prog) (t := 40) (v := .agg (dzeros 24).toArray) (n := 24) (by kernel_rfl)).1
theorem size_tri : (Tryd.prog.info? 40).map (·.size) = some 24 := by kernel_rfl
theorem list8 {l : List Nat} (h : l.length = 8) : ∃ a b c d e f g i, l = [a, b, c, d, e, f, g, i] := by
  match l, h with
  | [a, b, c, d, e, f, g, i], _ => exact ⟨a, b, c, d, e, f, g, i, rfl⟩
theorem build_tri (a b c : List Nat) (ha : a.length = 8) (hb : b.length = 8) (hc : c.length = 8) (w : World) : (Instr.build 40 #[(0, numD a), (1, numD b), (2, numD c)]).run Tryd.prog w = .ok (numD (a ++ b ++ c)) w := by
  obtain ⟨a0, a1, a2, a3, a4, a5, a6, a7, rfl⟩ := list8 ha
  obtain ⟨b0, b1, b2, b3, b4, b5, b6, b7, rfl⟩ := list8 hb
  obtain ⟨c0, c1, c2, c3, c4, c5, c6, c7, rfl⟩ := list8 hc
  kernel_rfl
theorem build_tri12 (b c : List Nat) (hb : b.length = 8) (hc : c.length = 8) (w : World) : (Instr.build 40 #[(1, numD b), (2, numD c)]).run Tryd.prog w = .ok (numD (nD 0 ++ b ++ c)) w := by
  obtain ⟨b0, b1, b2, b3, b4, b5, b6, b7, rfl⟩ := list8 hb
  obtain ⟨c0, c1, c2, c3, c4, c5, c6, c7, rfl⟩ := list8 hc
  kernel_rfl
theorem field_t0 (g : Nat) (w : World) : (Instr.fieldAt 40 (.pointer (some ⟨g, 0, none⟩)) 0).run Tryd.prog w = .ok (.pointer (some ⟨g, 0, none⟩)) w := by kernel_rfl
theorem field_t1 (g : Nat) (w : World) : (Instr.fieldAt 40 (.pointer (some ⟨g, 0, none⟩)) 1).run Tryd.prog w = .ok (.pointer (some ⟨g, 8, none⟩)) w := by kernel_rfl
theorem field_t2 (g : Nat) (w : World) : (Instr.fieldAt 40 (.pointer (some ⟨g, 0, none⟩)) 2).run Tryd.prog w = .ok (.pointer (some ⟨g, 16, none⟩)) w := by kernel_rfl
theorem tri_run {w : World} {g : Nat} {l : List Nat} {t' : TypeId} (hC : Cells w g (l.map dcell) t') (hl : l.length = 24) : (Instr.loadAt 40 (.pointer (some ⟨g, 0, none⟩))).run Tryd.prog w = .ok (numD l) w := by
  have h := run_loadVar_row (P := Tryd.prog) w g t' 40 (l.map dcell).toArray (0, 0) _ hC Tryd.underlying40 rfl (by rw [List.size_toArray, List.length_map, hl]; exact size_tri)
  simp only [Instr.loadAt, Instr.sureAddr, Sem.run_bind, Sem.run_pure, Result.andThen_ok]
  exact h
theorem load_tri {w : World} {g : Nat} {p : List Nat} {t' : TypeId} (hC : Cells w g (p.map dcell) t') (o : Nat) (x : List Nat) (hp : (p.drop o).take 8 = x) (hx : x.length = 8) : (Instr.loadAt 38 (.pointer (some ⟨g, o, none⟩))).run Tryd.prog w = .ok (numD x) w := by
  have hr := hC.range o 8
  rw [← List.map_drop, ← List.map_take, hp] at hr
  exact run_loadAt_mid w g o 38 (x.map dcell) _ hr Tryd.underlying38 rfl (by rw [List.length_map, hx]; exact size_ND)
theorem load_t0 {w : World} {g : Nat} {p x y z : List Nat} {t' : TypeId} (hC : Cells w g (p.map dcell) t') (hp : p = x ++ y ++ z) (hx : x.length = 8) : (Instr.loadAt 38 (.pointer (some ⟨g, 0, none⟩))).run Tryd.prog w = .ok (numD x) w :=
  load_tri hC 0 x (by rw [hp, List.drop_zero, List.append_assoc, List.take_append_of_le_length (by omega), List.take_of_length_le (by omega)]) hx
theorem load_t1 {w : World} {g : Nat} {p x y z : List Nat} {t' : TypeId} (hC : Cells w g (p.map dcell) t') (hp : p = x ++ y ++ z) (hx : x.length = 8) (hy : y.length = 8) : (Instr.loadAt 38 (.pointer (some ⟨g, 8, none⟩))).run Tryd.prog w = .ok (numD y) w :=
  load_tri hC 8 y (by rw [hp, List.append_assoc, List.drop_append_of_le_length (by omega), List.drop_of_length_le (by omega), List.nil_append, List.take_append_of_le_length (by omega), List.take_of_length_le (by omega)]) hy
theorem load_t2 {w : World} {g : Nat} {p x y z : List Nat} {t' : TypeId} (hC : Cells w g (p.map dcell) t') (hp : p = x ++ y ++ z) (hx : x.length = 8) (hy : y.length = 8) (hz : z.length = 8) : (Instr.loadAt 38 (.pointer (some ⟨g, 16, none⟩))).run Tryd.prog w = .ok (numD z) w :=
  load_tri hC 16 z (by rw [hp, List.drop_append_of_le_length (by rw [List.length_append]; omega), List.drop_of_length_le (by rw [List.length_append]; omega), List.nil_append, List.take_of_length_le (by omega)]) hz
/-- A point's value: the words of X, of Y, of Z. -/
def triL (t : Tri) : List Nat := nD t.1 ++ nD t.2.1 ++ nD t.2.2
end Go.Proofs.YtagjbdhelfickaaDoor
