/- Part 19 of what the laws of this seat share: ZSmall, ZJoined, YVals, YSmall, WNext, YChal, ZNumber. -/
import Derived.Deep.Cut
import Derived.IntWalk
import Derived.Test.YtoggkhjaghkpnaaDoorPart18
namespace Go.Proofs.YtoggkhjaghkpnaaDoor
open Go.RowKit
set_option maxRecDepth 100000 in
set_option maxHeartbeats 1000000 in
theorem sgHalves_over (wb lo hi : List UInt8) (w : World)
    (Hlo : Hid (lo.length = 32))
    (Hhi : Hid (hi.length = 32))
    (HLO : Hid ((wb.drop 0).take 32 = lo))
    (HHI : Hid ((wb.drop 32).take 32 = hi)) :
    Calls Tryd.prog 14 #[hashVal wb] w (gvn (.tuple #[hashVal lo, hashVal hi]) w) := by
  go_enter Tryd.func14, Tryd.ntmps14
  go_wp2_with (first
    | (refine vtake_step rfl 26 (.tmp 0) rfl (wb.map cellOf) rfl ?_
       intro w1 hb1 hvx1
       have hB1 := hb1
       have hgex : w.heap.size ≤ w.heap.size := Nat.le_refl _
       clear  hb1
       try simp only [putS]
       skip)
    | (refine vzero_step (o := ⟨some 2, _, _, _, _, _⟩) rfl 23 rfl kzeros zero_k32 ?_
       intro w2 hb2 hvr2
       have hB2 := below_then hB1 hb2
       have hger : w.heap.size ≤ w1.heap.size := hB1.size
       have hvx2 := hvx1.on hb2
       have hnexr := Nat.ne_of_lt hvx1.lt
       clear hB1 hvx1 hb2
       try simp only [putS]
       skip)
    | (refine vzero_step (o := ⟨some 3, _, _, _, _, _⟩) rfl 23 rfl kzeros zero_k32 ?_
       intro w3 hb3 hvt3
       have hB3 := below_then hB2 hb3
       have hget : w.heap.size ≤ w2.heap.size := hB2.size
       have hvx3 := hvx2.on hb3
       have hnext := Nat.ne_of_lt hvx2.lt
       have hvr3 := hvr2.on hb3
       have hnert := Nat.ne_of_lt hvr2.lt
       clear hB2 hvx2 hvr2 hb3
       try simp only [putS]
       skip))
  generalize hqr : w1.heap.size = gr at *
  clear hqr
  generalize hqt : w2.heap.size = gt at *
  clear hqt
  replace hvx3 := hvx3.drew
  replace hvr3 := hvr3.drew
  replace hvt3 := hvt3.drew
  rename_i K hKK
  have hB4 := (show Below w.heap.size w w3.drew from hB3.drew)
  clear hB3
  refine wp_region_any (by kernel_rfl) ?_
  refine wpAny_of_held (S := fun w' => Cells w' (w.heap.size) (wb.map cellOf) 26) _ _ _ _ ?_
  show wpAnyH _ _ _ _ _ _ _ _ w3.drew
  simp only [List.size_toArray, List.length_cons, List.length_nil, Nat.reduceAdd, Array.replicate_succ, Array.replicate_zero, List.push_toArray, List.nil_append, List.cons_append]
  generalize w3.drew = w4 at *
  refine wpAnyH_take (i := 0) (oi := ⟨some 4, _, _, _, _, _⟩) (v := (.slice (some ⟨w.heap.size, 0, none⟩) 32 64)) rfl (by kernel_rfl) (by kernel_rfl) (by kernel_rfl) (fun _ _ _ h => h) (Or.inl ⟨by rfl, ?_⟩) hvx3 ?_
  · intro w8 h8
    exact exec_sl _ _ _ _ _ _ _ rfl _ rfl _ w8 (k64_low _ w8)
  try simp only [putS]
  refine wpAnyH_take (i := 1) (oi := ⟨some 5, _, _, _, _, _⟩) (v := (.pointer (some ⟨w.heap.size, 0, none⟩))) rfl (by kernel_rfl) (by kernel_rfl) (by kernel_rfl) (fun _ _ _ h => h) (Or.inl ⟨by rfl, ?_⟩) hvx3 ?_
  · intro w8 h8
    exact exec_arr _ _ _ _ rfl _ rfl _ w8 (key_ptr _ _ _ w8)
  try simp only [putS]
  refine wpAnyH_take (i := 2) (oi := ⟨some 6, _, _, _, _, _⟩) (v := (hashVal lo)) rfl (by kernel_rfl) (by kernel_rfl) (by kernel_rfl) (fun _ _ _ h => h) (Or.inl ⟨by rfl, ?_⟩) hvx3 ?_
  · intro w8 h8
    exact exec_load _ _ _ _ rfl _ _ rfl w8 (key_mid h8 0 HLO.out Hlo.out)
  try simp only [putS]
  refine wpAnyH_take (i := 3) (oi := ⟨some 7, _, _, _, _, _⟩) (v := (.slice (some ⟨w.heap.size, 32, none⟩) 32 32)) rfl (by kernel_rfl) (by kernel_rfl) (by kernel_rfl) (fun _ _ _ h => h) (Or.inl ⟨by rfl, ?_⟩) hvx3 ?_
  · intro w8 h8
    exact exec_sl _ _ _ _ _ _ _ rfl _ rfl _ w8 (k64_high _ w8)
  try simp only [putS]
  refine wpAnyH_take (i := 4) (oi := ⟨some 8, _, _, _, _, _⟩) (v := (.pointer (some ⟨w.heap.size, 32, none⟩))) rfl (by kernel_rfl) (by kernel_rfl) (by kernel_rfl) (fun _ _ _ h => h) (Or.inl ⟨by rfl, ?_⟩) hvx3 ?_
  · intro w8 h8
    exact exec_arr _ _ _ _ rfl _ rfl _ w8 (key_ptr _ _ _ w8)
  try simp only [putS]
  refine wpAnyH_take (i := 5) (oi := ⟨some 9, _, _, _, _, _⟩) (v := (hashVal hi)) rfl (by kernel_rfl) (by kernel_rfl) (by kernel_rfl) (fun _ _ _ h => h) (Or.inl ⟨by rfl, ?_⟩) hvx3 ?_
  · intro w8 h8
    exact exec_load _ _ _ _ rfl _ _ rfl w8 (key_mid h8 32 HHI.out Hhi.out)
  try simp only [putS]
  refine wpAnyH_all (rs := [6]) (by kernel_rfl) (by decide) fun i hi => ?_
  obtain rfl := List.mem_singleton.1 hi
  clear hi
  refine wpOp_step rfl fun K1 hK1 => ?_
  rw [if_pos (by rfl)]
  refine wp_store_mid 23 (.tmp 2) (.tmp 6) rfl gr 0 (lo.map cellOf).toArray rfl rfl (by rw [List.size_toArray, List.length_map, Hlo.out]; exact hvr3.there 0 32 (by rw [show (kzeros).length = 32 from rfl]; decide)) (by rw [List.size_toArray, List.length_map, Hlo.out]; exact size_k32) (kcells_one _) (hK1 _ _ ?_)
  have hC2 := hvr3.setCells (cs := lo.map cellOf) (o := 0) (by rw [List.length_map, Hlo.out, show (kzeros).length = 32 from rfl]; decide)
  rw [splice_all _ _ (by rw [List.length_map, Hlo.out, show (kzeros).length = 32 from rfl])] at hC2
  have hb5 : But gr w4 (w4.setCells gr 0 (lo.map cellOf)) := (But.refl _ _).setCells _ _
  have hB5 : Below w.heap.size w (w4.setCells gr 0 (lo.map cellOf)) := hB4.trans (hb5.below hger hB4.size)
  change (Cells (w4.setCells gr 0 (lo.map cellOf)) (w.heap.size) (wb.map cellOf) 26) ∧ wpAnyH _ _ _ _ _ _ _ _ (w4.setCells gr 0 (lo.map cellOf))
  have hvx5 := hvx3.but hb5 hnexr
  have hvt5 := hvt3.but hb5 (Ne.symm hnert)
  have hvr5 := hC2
  clear hC2 hb5 hK1 K1 hB4 hvr3 hvx3 hvt3
  generalize w4.setCells gr 0 (lo.map cellOf) = w5 at *
  refine ⟨hvx5, ?_⟩
  refine wpAnyH_all (rs := [7]) (by kernel_rfl) (by decide) fun i hi => ?_
  obtain rfl := List.mem_singleton.1 hi
  clear hi
  refine wpOp_step rfl fun K1 hK1 => ?_
  rw [if_pos (by rfl)]
  refine wp_store_mid 23 (.tmp 3) (.tmp 9) rfl gt 0 (hi.map cellOf).toArray rfl rfl (by rw [List.size_toArray, List.length_map, Hhi.out]; exact hvt5.there 0 32 (by rw [show (kzeros).length = 32 from rfl]; decide)) (by rw [List.size_toArray, List.length_map, Hhi.out]; exact size_k32) (kcells_one _) (hK1 _ _ ?_)
  have hC2 := hvt5.setCells (cs := hi.map cellOf) (o := 0) (by rw [List.length_map, Hhi.out, show (kzeros).length = 32 from rfl]; decide)
  rw [splice_all _ _ (by rw [List.length_map, Hhi.out, show (kzeros).length = 32 from rfl])] at hC2
  have hb6 : But gt w5 (w5.setCells gt 0 (hi.map cellOf)) := (But.refl _ _).setCells _ _
  have hB6 : Below w.heap.size w (w5.setCells gt 0 (hi.map cellOf)) := hB5.trans (hb6.below hget hB5.size)
  change (Cells (w5.setCells gt 0 (hi.map cellOf)) (w.heap.size) (wb.map cellOf) 26) ∧ wpAnyH _ _ _ _ _ _ _ _ (w5.setCells gt 0 (hi.map cellOf))
  have hvx6 := hvx5.but hb6 hnext
  have hvr6 := hvr5.but hb6 hnert
  have hvt6 := hC2
  clear hC2 hb6 hK1 K1 hB5 hvt5 hvx5 hvr5
  generalize w5.setCells gt 0 (hi.map cellOf) = w6 at *
  refine ⟨hvx6, ?_⟩
  refine wpAnyH_done (by kernel_rfl) ?_ _
  show Exit.then K _ Exit.normal (⟨((hashVal wb) :: (.pointer (some ⟨w.heap.size, 0, none⟩)) :: (.pointer (some ⟨gr, 0, none⟩)) :: (.pointer (some ⟨gt, 0, none⟩)) :: (.slice (some ⟨w.heap.size, 0, none⟩) 32 64) :: (.pointer (some ⟨w.heap.size, 0, none⟩)) :: (hashVal lo) :: (.slice (some ⟨w.heap.size, 32, none⟩) 32 32) :: (.pointer (some ⟨w.heap.size, 32, none⟩)) :: (hashVal hi) :: []).toArray, []⟩ : Act) w6
  simp only [Exit.then]
  refine hKK _ _ ?_
  clear hKK K
  go_wp2
  exact sretC2 Tryd.results14 gr gt (lo.map cellOf) (hi.map cellOf) rfl rfl hvr6 hvt6 Tryd.underlying23 rfl size_k32 (by rw [List.length_map, Hlo.out]) Tryd.underlying23 rfl size_k32 (by rw [List.length_map, Hhi.out]) rfl ⟨rfl, hB6⟩
def sgMulVs1 (kb : List UInt8) (g_base : Nat) (gr : Nat) (b : List Nat) (t : List Nat) (o : List UInt8) : List Value :=
  (hashVal kb) :: ptr g_base :: ptr gr :: (numVal b) :: (hashVal kb) :: (numVal t) :: (hashVal o) :: []
set_option maxRecDepth 100000 in
set_option maxHeartbeats 1000000 in
theorem sgMul_over (b t : List Nat) (kb o : List UInt8) (E : Value) (w : World)
    (Hkb : Hid (kb.length = 32))
    (Ho : Hid (o.length = 32))
    (CB : Hid (∀ W, SgTabs E W → Calls Tryd.prog 24 #[] W (gvn (numVal b) W)))
    (CT : Hid (∀ W, SgTabs E W → Calls Tryd.prog 25 #[numVal b, hashVal kb] W (gvn (numVal t) W)))
    (CY : Hid (∀ W, Calls Tryd.prog 19 #[numVal t] W (gvn (hashVal o) W)))
    (hS : SgTabs E w) :
    Calls Tryd.prog 10 #[hashVal kb] w (gvn (hashVal o) w) := by
  go_enter Tryd.func10, Tryd.ntmps10
  go_wp2_with (first
    | (refine take_step rfl 23 (.tmp 0) rfl kb rfl ?_
       intro w1 hb1 hvk1 hz
       clear hz
       have hB1 := hb1
       have hgek : w.heap.size ≤ w.heap.size := Nat.le_refl _
       clear  hb1
       try simp only [putS]
       skip)
    | (refine vzero_step (o := ⟨some 2, _, _, _, _, _⟩) rfl 23 rfl kzeros zero_k32 ?_
       intro w2 hb2 hvr2
       have hB2 := below_then hB1 hb2
       have hger : w.heap.size ≤ w1.heap.size := hB1.size
       have hvk2 := hvk1.on hb2
       have hnekr := Nat.ne_of_lt hvk1.lt
       clear hB1 hvk1 hb2
       try simp only [putS]
       skip))
  generalize hqr : w1.heap.size = gr at *
  clear hqr
  replace hvk2 := hvk2.drew
  replace hvr2 := hvr2.drew
  have hBq := (show Below w.heap.size w w2.drew from hB2.drew)
  refine wp_region_any (by kernel_rfl) ?_
  refine wpAny_flatM (L := [0, 1, 2, 3]) (by kernel_rfl) _ _ (sgMulVs1 kb w.heap.size gr b t o) [] 23 kzeros [0, 1, 2] (by kernel_rfl) (by kernel_rfl) ?_ zero_k32 ?_ (by rfl) ?_ 1 (by kernel_rfl) ?_
  · intro p hp
    exact absurd hp List.not_mem_nil
  · exact all_cons rfl (all_cons rfl (all_cons rfl (all_nil)))
  · refine all_cons (.inr (mC 3 rfl Tryd.func24 fun w hb => CB.out w (hS.below (below_then hBq hb)))) ?_
    refine all_cons (.inr (mL 4 rfl fun w hb => key_run (hvk2.on hb) Hkb.out)) ?_
    refine all_cons (.inr (mC 5 rfl Tryd.func25 fun w hb => CT.out w (hS.below (below_then hBq hb)))) ?_
    refine all_cons (.inr (mC 6 rfl Tryd.func19 fun w hb => CY.out w)) ?_
    exact all_nil
  intro w3 g hb3 hN3 hap3
  clear hN3 hap3
  have hB3 := below_then (show Below w.heap.size w w2.drew from hB2.drew) hb3
  have hvk3 := hvk2.on hb3
  have hvr3 := hvr2.on hb3
  clear hB2 hvk2 hvr2 hb3 hBq
  refine wpAny_rest 4 rfl (by kernel_rfl) ?_
  refine vset_step rfl 23 (.tmp 2) (.tmp 6) rfl gr 32 kzeros (o.map cellOf) rfl rfl hvr3 rfl size_k32 (by rw [List.length_map, Ho.out]) (kcells_one _) ?_
  intro w4 hb4 hvr4 hz4
  have hB4 : Below w.heap.size w w4 := hB3.trans (hb4.below hger hB3.size)
  have hvk4 := hvk3.but hb4 hnekr
  clear hB3 hvr3 hb4 hz4 hvk3
  rename_i K hKK
  show Exit.then K _ Exit.normal (⟨(sgMulVs1 kb w.heap.size gr b t o).toArray, []⟩ : Act) w4
  simp only [Exit.then]
  refine hKK _ _ ?_
  clear hKK K g
  simp only [sgMulVs1, ptr]
  go_wp2
  exact sret Tryd.results10 gr (o.map cellOf) rfl hvr4 Tryd.underlying23 rfl size_k32 (by rw [List.length_map, Ho.out]) rfl ⟨rfl, hB4⟩
set_option maxRecDepth 100000 in
set_option maxHeartbeats 1000000 in
theorem sgSpread_over (ks wd lo hi ka : List UInt8) (E : Value) (w : World)
    (Hlo : Hid (lo.length = 32))
    (Hhi : Hid (hi.length = 32))
    (Hka : Hid (ka.length = 32))
    (CS : Hid (∀ gp gs W, Cells W gp ([.slice (some ⟨gs, 0, none⟩) 32 32].map anyc) 24 → Cells W gs (ks.map cellOf) 23 → SgTabs E W → Calls Tryd.prog 20 #[.slice (some ⟨gp, 0, none⟩) 1 1] W (gvn (hashVal wd) W)))
    (CH : Hid (∀ W, Calls Tryd.prog 14 #[hashVal wd] W (gvn (.tuple #[hashVal lo, hashVal hi]) W)))
    (CC : Hid (∀ W, Calls Tryd.prog 21 #[hashVal lo] W (gvn (hashVal ka) W)))
    (hS : SgTabs E w) :
    Calls Tryd.prog 8 #[hashVal ks] w (gvn (.tuple #[hashVal ka, hashVal hi]) w) := by
  go_enter Tryd.func8, Tryd.ntmps8
  go_wp2_with (first
    | (refine take_step rfl 23 (.tmp 0) rfl ks rfl ?_
       intro w1 hb1 hvs1 hz
       clear hz
       have hB1 := hb1
       have hges : w.heap.size ≤ w.heap.size := Nat.le_refl _
       clear  hb1
       try simp only [putS]
       skip)
    | (refine vzero_step (o := ⟨some 2, _, _, _, _, _⟩) rfl 23 rfl kzeros zero_k32 ?_
       intro w2 hb2 hvr2
       have hB2 := below_then hB1 hb2
       have hger : w.heap.size ≤ w1.heap.size := hB1.size
       have hvs2 := hvs1.on hb2
       have hnesr := Nat.ne_of_lt hvs1.lt
       clear hB1 hvs1 hb2
       try simp only [putS]
       skip)
    | (refine vzero_step (o := ⟨some 3, _, _, _, _, _⟩) rfl 23 rfl kzeros zero_k32 ?_
       intro w3 hb3 hvt3
       have hB3 := below_then hB2 hb3
       have hget : w.heap.size ≤ w2.heap.size := hB2.size
       have hvs3 := hvs2.on hb3
       have hnest := Nat.ne_of_lt hvs2.lt
       have hvr3 := hvr2.on hb3
       have hnert := Nat.ne_of_lt hvr2.lt
       clear hB2 hvs2 hvr2 hb3
       try simp only [putS]
       skip)
    | (refine ulit_step rfl 32 1 [(0, .tmp 7)] rfl [(0, .slice (some ⟨w.heap.size, 0, none⟩) 32 32)] rfl 24 ([.slice (some ⟨w.heap.size, 0, none⟩) 32 32].map anyc) (lit_parts1 _ _ _) ?_
       intro w4 hb4 hvl4
       have hB4 := below_then hB3 hb4
       have hgel : w.heap.size ≤ w3.heap.size := hB3.size
       have hvs4 := hvs3.on hb4
       have hnesl := Nat.ne_of_lt hvs3.lt
       have hvr4 := hvr3.on hb4
       have hnerl := Nat.ne_of_lt hvr3.lt
       have hvt4 := hvt3.on hb4
       have hnetl := Nat.ne_of_lt hvt3.lt
       clear hB3 hvs3 hvr3 hvt3 hb4
       try simp only [putS]
       skip))
  generalize hqr : w1.heap.size = gr at *
  clear hqr
  generalize hqt : w2.heap.size = gt at *
  clear hqt
  generalize hql : w3.heap.size = gl at *
  clear hql
  refine ((CS.out _ _) w4 hvl4 hvs4 (hS.below hB4)).mono ?_
  rintro e w5 ⟨rfl, hb5⟩
  have hB5 := below_then hB4 hb5
  have hvs5 := hvs4.on hb5
  have hvr5 := hvr4.on hb5
  have hvt5 := hvt4.on hb5
  have hvl5 := hvl4.on hb5
  clear hB4 hvs4 hvr4 hvt4 hvl4 hb5
  go_wp2_with fail
  refine (CH.out w5).mono ?_
  rintro e w6 ⟨rfl, hb6⟩
  have hB6 := below_then hB5 hb6
  have hvs6 := hvs5.on hb6
  have hvr6 := hvr5.on hb6
  have hvt6 := hvt5.on hb6
  have hvl6 := hvl5.on hb6
  clear hB5 hvs5 hvr5 hvt5 hvl5 hb6
  go_wp2_with (first
    | (refine vzero_step (o := ⟨some 4, _, _, _, _, _⟩) rfl 23 rfl kzeros zero_k32 ?_
       intro w7 hb7 hva7
       have hB7 := below_then hB6 hb7
       have hgea : w.heap.size ≤ w6.heap.size := hB6.size
       have hvs7 := hvs6.on hb7
       have hnesa := Nat.ne_of_lt hvs6.lt
       have hvr7 := hvr6.on hb7
       have hnera := Nat.ne_of_lt hvr6.lt
       have hvt7 := hvt6.on hb7
       have hneta := Nat.ne_of_lt hvt6.lt
       have hvl7 := hvl6.on hb7
       have hnela := Nat.ne_of_lt hvl6.lt
       clear hB6 hvs6 hvr6 hvt6 hvl6 hb7
       try simp only [putS]
       skip)
    | (refine vzero_step (o := ⟨some 5, _, _, _, _, _⟩) rfl 23 rfl kzeros zero_k32 ?_
       intro w8 hb8 hvp8
       have hB8 := below_then hB7 hb8
       have hgep : w.heap.size ≤ w7.heap.size := hB7.size
       have hvs8 := hvs7.on hb8
       have hnesp := Nat.ne_of_lt hvs7.lt
       have hvr8 := hvr7.on hb8
       have hnerp := Nat.ne_of_lt hvr7.lt
       have hvt8 := hvt7.on hb8
       have hnetp := Nat.ne_of_lt hvt7.lt
       have hvl8 := hvl7.on hb8
       have hnelp := Nat.ne_of_lt hvl7.lt
       have hva8 := hva7.on hb8
       have hneap := Nat.ne_of_lt hva7.lt
       clear hB7 hvs7 hvr7 hvt7 hvl7 hva7 hb8
       try simp only [putS]
       skip)
    | (refine vset_step rfl 23 (.tmp 4) (.tmp 11) rfl w6.heap.size 32 kzeros (lo.map cellOf) rfl rfl hva8 rfl size_k32 (by rw [List.length_map, Hlo.out]) (kcells_one _) ?_
       intro w9 hb9 hva9 hz9
       have hB9 : Below w.heap.size w w9 := hB8.trans (hb9.below hgea hB8.size)
       have hvs9 := hvs8.but hb9 hnesa
       have hvr9 := hvr8.but hb9 hnera
       have hvt9 := hvt8.but hb9 hneta
       have hvl9 := hvl8.but hb9 hnela
       have hvp9 := hvp8.but hb9 (Ne.symm hneap)
       clear hB8 hva8 hb9 hz9 hvs8 hvr8 hvt8 hvl8 hvp8
       skip)
    | (refine vset_step rfl 23 (.tmp 5) (.tmp 12) rfl w7.heap.size 32 kzeros (hi.map cellOf) rfl rfl hvp9 rfl size_k32 (by rw [List.length_map, Hhi.out]) (kcells_one _) ?_
       intro w10 hb10 hvp10 hz10
       have hB10 : Below w.heap.size w w10 := hB9.trans (hb10.below hgep hB9.size)
       have hvs10 := hvs9.but hb10 hnesp
       have hvr10 := hvr9.but hb10 hnerp
       have hvt10 := hvt9.but hb10 hnetp
       have hvl10 := hvl9.but hb10 hnelp
       have hva10 := hva9.but hb10 hneap
       clear hB9 hvp9 hb10 hz10 hvs9 hvr9 hvt9 hvl9 hva9
       skip))
  generalize hqa : w6.heap.size = ga at *
  clear hqa
  generalize hqp : w7.heap.size = gp at *
  clear hqp
  replace hvs10 := hvs10.drew
  replace hvr10 := hvr10.drew
  replace hvt10 := hvt10.drew
  replace hvl10 := hvl10.drew
  replace hva10 := hva10.drew
  replace hvp10 := hvp10.drew
  rename_i K hKK
  have hB11 := (show Below w.heap.size w w10.drew from hB10.drew)
  clear hB10
  refine wp_region_any (by kernel_rfl) ?_
  refine wpAny_of_held (S := fun w' => Cells w' gp (hi.map cellOf) 23) _ _ _ _ ?_
  show wpAnyH _ _ _ _ _ _ _ _ w10.drew
  simp only [List.size_toArray, List.length_cons, List.length_nil, Nat.reduceAdd, Array.replicate_succ, Array.replicate_zero, List.push_toArray, List.nil_append, List.cons_append]
  generalize w10.drew = w11 at *
  refine wpAnyH_take (i := 2) (oi := ⟨some 15, _, _, _, _, _⟩) (v := hashVal hi) rfl (by kernel_rfl) (by kernel_rfl) (by kernel_rfl) (fun _ _ _ h => h) (Or.inl ⟨by rfl, ?_⟩) hvp10 ?_
  · intro w8 h8
    exact exec_load _ _ _ _ rfl _ _ rfl _ (key_run h8 Hhi.out)
  refine wpAnyH_all (rs := [0]) (by kernel_rfl) (by decide) fun i hi => ?_
  obtain rfl := List.mem_singleton.1 hi
  clear hi
  refine wpOp_step rfl fun K1 hK1 => ?_
  rw [if_pos (by rfl)]
  refine flat_pure (hashVal lo) (exec_load _ _ _ _ rfl _ _ rfl _ (key_run hva10 Hlo.out)) (hK1 _ _ ⟨hvp10, ?_⟩)
  clear hK1 K1
  refine wpAnyH_all (rs := [1]) (by kernel_rfl) (by decide) fun i hi => ?_
  obtain rfl := List.mem_singleton.1 hi
  clear hi
  refine wpOp_step rfl fun K1 hK1 => ?_
  rw [if_pos (by rfl)]
  refine mCall (hashVal ka) 21 _ _ rfl [hashVal lo] rfl (enters Tryd.func21 rfl rfl) (CC.out w11) fun w12 hb12 => hK1 _ _ ⟨hvp10.on hb12, ?_⟩
  clear hK1 K1
  have hB12 := below_then hB11 hb12
  have hvs12 := hvs10.on hb12
  have hvr12 := hvr10.on hb12
  have hvt12 := hvt10.on hb12
  have hvl12 := hvl10.on hb12
  have hva12 := hva10.on hb12
  have hvp12 := hvp10.on hb12
  clear hB11 hvs10 hvr10 hvt10 hvl10 hva10 hvp10 hb12
  refine wpAnyH_all (rs := [3]) (by kernel_rfl) (by decide) fun i hi => ?_
  obtain rfl := List.mem_singleton.1 hi
  clear hi
  refine wpOp_step rfl fun K1 hK1 => ?_
  rw [if_pos (by rfl)]
  refine wp_store_mid 23 (.tmp 2) (.tmp 14) rfl gr 0 (ka.map cellOf).toArray rfl rfl (by rw [List.size_toArray, List.length_map, Hka.out]; exact hvr12.there 0 32 (by rw [show (kzeros).length = 32 from rfl]; decide)) (by rw [List.size_toArray, List.length_map, Hka.out]; exact size_k32) (kcells_one _) (hK1 _ _ ?_)
  have hC2 := hvr12.setCells (cs := ka.map cellOf) (o := 0) (by rw [List.length_map, Hka.out, show (kzeros).length = 32 from rfl]; decide)
  rw [splice_all _ _ (by rw [List.length_map, Hka.out, show (kzeros).length = 32 from rfl])] at hC2
  have hb13 : But gr w12 (w12.setCells gr 0 (ka.map cellOf)) := (But.refl _ _).setCells _ _
  have hB13 : Below w.heap.size w (w12.setCells gr 0 (ka.map cellOf)) := hB12.trans (hb13.below hger hB12.size)
  change Cells (w12.setCells gr 0 (ka.map cellOf)) gp (hi.map cellOf) 23 ∧ wpAnyH _ _ _ _ _ _ _ _ (w12.setCells gr 0 (ka.map cellOf))
  have hvs13 := hvs12.but hb13 hnesr
  have hvt13 := hvt12.but hb13 (Ne.symm hnert)
  have hvl13 := hvl12.but hb13 (Ne.symm hnerl)
  have hva13 := hva12.but hb13 (Ne.symm hnera)
  have hvp13 := hvp12.but hb13 (Ne.symm hnerp)
  have hvr13 := hC2
  clear hC2 hb13 hK1 K1 hB12 hvr12 hvs12 hvt12 hvl12 hva12 hvp12
  generalize w12.setCells gr 0 (ka.map cellOf) = w13 at *
  refine ⟨hvp13, ?_⟩
  refine wpAnyH_all (rs := [4]) (by kernel_rfl) (by decide) fun i hi => ?_
  obtain rfl := List.mem_singleton.1 hi
  clear hi
  refine wpOp_step rfl fun K1 hK1 => ?_
  rw [if_pos (by rfl)]
  refine wp_store_mid 23 (.tmp 3) (.tmp 15) rfl gt 0 (hi.map cellOf).toArray rfl rfl (by rw [List.size_toArray, List.length_map, Hhi.out]; exact hvt13.there 0 32 (by rw [show (kzeros).length = 32 from rfl]; decide)) (by rw [List.size_toArray, List.length_map, Hhi.out]; exact size_k32) (kcells_one _) (hK1 _ _ ?_)
  have hC2 := hvt13.setCells (cs := hi.map cellOf) (o := 0) (by rw [List.length_map, Hhi.out, show (kzeros).length = 32 from rfl]; decide)
  rw [splice_all _ _ (by rw [List.length_map, Hhi.out, show (kzeros).length = 32 from rfl])] at hC2
  have hb14 : But gt w13 (w13.setCells gt 0 (hi.map cellOf)) := (But.refl _ _).setCells _ _
  have hB14 : Below w.heap.size w (w13.setCells gt 0 (hi.map cellOf)) := hB13.trans (hb14.below hget hB13.size)
  change Cells (w13.setCells gt 0 (hi.map cellOf)) gp (hi.map cellOf) 23 ∧ wpAnyH _ _ _ _ _ _ _ _ (w13.setCells gt 0 (hi.map cellOf))
  have hvs14 := hvs13.but hb14 hnest
  have hvr14 := hvr13.but hb14 hnert
  have hvl14 := hvl13.but hb14 (Ne.symm hnetl)
  have hva14 := hva13.but hb14 (Ne.symm hneta)
  have hvp14 := hvp13.but hb14 (Ne.symm hnetp)
  have hvt14 := hC2
  clear hC2 hb14 hK1 K1 hB13 hvt13 hvs13 hvr13 hvl13 hva13 hvp13
  generalize w13.setCells gt 0 (hi.map cellOf) = w14 at *
  refine ⟨hvp14, ?_⟩
  refine wpAnyH_done (by kernel_rfl) ?_ _
  show Exit.then K _ Exit.normal (⟨((hashVal ks) :: (.pointer (some ⟨w.heap.size, 0, none⟩)) :: (.pointer (some ⟨gr, 0, none⟩)) :: (.pointer (some ⟨gt, 0, none⟩)) :: (.pointer (some ⟨ga, 0, none⟩)) :: (.pointer (some ⟨gp, 0, none⟩)) :: (.tuple #[hashVal lo, hashVal hi]) :: (.slice (some ⟨w.heap.size, 0, none⟩) 32 32) :: (.slice (some ⟨gl, 0, none⟩) 1 1) :: (hashVal wd) :: (.tuple #[hashVal lo, hashVal hi]) :: (hashVal lo) :: (hashVal hi) :: (hashVal lo) :: (hashVal ka) :: (hashVal hi) :: []).toArray, []⟩ : Act) w14
  simp only [Exit.then]
  refine hKK _ _ ?_
  clear hKK K
  go_wp2
  exact sretC2 Tryd.results8 gr gt (ka.map cellOf) (hi.map cellOf) rfl rfl hvr14 hvt14 Tryd.underlying23 rfl size_k32 (by rw [List.length_map, Hka.out]) Tryd.underlying23 rfl size_k32 (by rw [List.length_map, Hhi.out]) rfl ⟨rfl, hB14⟩
set_option maxRecDepth 100000 in
set_option maxHeartbeats 1000000 in
theorem sgPublic_over (ks ka kp o : List UInt8) (E : Value) (w : World)
    (Hks : Hid (ks.length = 32))
    (Hka : Hid (ka.length = 32))
    (Hkp : Hid (kp.length = 32))
    (Ho : Hid (o.length = 32))
    (CS : Hid (∀ W, SgTabs E W → Calls Tryd.prog 8 #[hashVal ks] W (gvn (.tuple #[hashVal ka, hashVal kp]) W)))
    (CB : Hid (∀ W, SgTabs E W → Calls Tryd.prog 10 #[hashVal ka] W (gvn (hashVal o) W)))
    (hS : SgTabs E w) :
    Calls Tryd.prog 7 #[hashVal ks] w (gvn (hashVal o) w) := by
  go_enter Tryd.func7, Tryd.ntmps7
  go_wp2_with (first
    | (refine take_step rfl 23 (.tmp 0) rfl ks rfl ?_
       intro w1 hb1 hvs1 hz
       clear hz
       have hB1 := hb1
       have hges : w.heap.size ≤ w.heap.size := Nat.le_refl _
       clear  hb1
       try simp only [putS]
       skip)
    | (refine vzero_step (o := ⟨some 2, _, _, _, _, _⟩) rfl 23 rfl kzeros zero_k32 ?_
       intro w2 hb2 hvr2
       have hB2 := below_then hB1 hb2
       have hger : w.heap.size ≤ w1.heap.size := hB1.size
       have hvs2 := hvs1.on hb2
       have hnesr := Nat.ne_of_lt hvs1.lt
       clear hB1 hvs1 hb2
       try simp only [putS]
       skip)
    | (refine get_step rfl 23 (.tmp 1) rfl w.heap.size 32 ks 5 rfl hvs2 Tryd.underlying23 size_k32 Hks.out ?_
       try simp only [putS]
       skip))
  generalize hqr : w1.heap.size = gr at *
  clear hqr
  refine (CS.out w2 (hS.below hB2)).mono ?_
  rintro e w3 ⟨rfl, hb3⟩
  have hB3 := below_then hB2 hb3
  have hvs3 := hvs2.on hb3
  have hvr3 := hvr2.on hb3
  clear hB2 hvs2 hvr2 hb3
  go_wp2_with (first
    | (refine vzero_step (o := ⟨some 3, _, _, _, _, _⟩) rfl 23 rfl kzeros zero_k32 ?_
       intro w4 hb4 hva4
       have hB4 := below_then hB3 hb4
       have hgea : w.heap.size ≤ w3.heap.size := hB3.size
       have hvs4 := hvs3.on hb4
       have hnesa := Nat.ne_of_lt hvs3.lt
       have hvr4 := hvr3.on hb4
       have hnera := Nat.ne_of_lt hvr3.lt
       clear hB3 hvs3 hvr3 hb4
       try simp only [putS]
       skip)
    | (refine vzero_step (o := ⟨some 4, _, _, _, _, _⟩) rfl 23 rfl kzeros zero_k32 ?_
       intro w5 hb5 hvp5
       have hB5 := below_then hB4 hb5
       have hgep : w.heap.size ≤ w4.heap.size := hB4.size
       have hvs5 := hvs4.on hb5
       have hnesp := Nat.ne_of_lt hvs4.lt
       have hvr5 := hvr4.on hb5
       have hnerp := Nat.ne_of_lt hvr4.lt
       have hva5 := hva4.on hb5
       have hneap := Nat.ne_of_lt hva4.lt
       clear hB4 hvs4 hvr4 hva4 hb5
       try simp only [putS]
       skip)
    | (refine vset_step rfl 23 (.tmp 3) (.tmp 8) rfl w3.heap.size 32 kzeros (ka.map cellOf) rfl rfl hva5 rfl size_k32 (by rw [List.length_map, Hka.out]) (kcells_one _) ?_
       intro w6 hb6 hva6 hz6
       have hB6 : Below w.heap.size w w6 := hB5.trans (hb6.below hgea hB5.size)
       have hvs6 := hvs5.but hb6 hnesa
       have hvr6 := hvr5.but hb6 hnera
       have hvp6 := hvp5.but hb6 (Ne.symm hneap)
       clear hB5 hva5 hb6 hz6 hvs5 hvr5 hvp5
       skip)
    | (refine vset_step rfl 23 (.tmp 4) (.tmp 9) rfl w4.heap.size 32 kzeros (kp.map cellOf) rfl rfl hvp6 rfl size_k32 (by rw [List.length_map, Hkp.out]) (kcells_one _) ?_
       intro w7 hb7 hvp7 hz7
       have hB7 : Below w.heap.size w w7 := hB6.trans (hb7.below hgep hB6.size)
       have hvs7 := hvs6.but hb7 hnesp
       have hvr7 := hvr6.but hb7 hnerp
       have hva7 := hva6.but hb7 hneap
       clear hB6 hvp6 hb7 hz7 hvs6 hvr6 hva6
       skip)
    | (refine get_step rfl 23 (.tmp 3) rfl w3.heap.size 32 ka 5 rfl hva7 Tryd.underlying23 size_k32 Hka.out ?_
       try simp only [putS]
       skip))
  generalize hqa : w3.heap.size = ga at *
  clear hqa
  generalize hqp : w4.heap.size = gp at *
  clear hqp
  refine (CB.out w7 (hS.below hB7)).mono ?_
  rintro e w8 ⟨rfl, hb8⟩
  have hB8 := below_then hB7 hb8
  have hvs8 := hvs7.on hb8
  have hvr8 := hvr7.on hb8
  have hva8 := hva7.on hb8
  have hvp8 := hvp7.on hb8
  clear hB7 hvs7 hvr7 hva7 hvp7 hb8
  go_wp2_with (first
    | (refine vset_step rfl 23 (.tmp 2) (.tmp 11) rfl gr 32 kzeros (o.map cellOf) rfl rfl hvr8 rfl size_k32 (by rw [List.length_map, Ho.out]) (kcells_one _) ?_
       intro w9 hb9 hvr9 hz9
       have hB9 : Below w.heap.size w w9 := hB8.trans (hb9.below hger hB8.size)
       have hvs9 := hvs8.but hb9 hnesr
       have hva9 := hva8.but hb9 (Ne.symm hnera)
       have hvp9 := hvp8.but hb9 (Ne.symm hnerp)
       clear hB8 hvr8 hb9 hz9 hvs8 hva8 hvp8
       skip))
  exact sret Tryd.results7 gr (o.map cellOf) rfl hvr9 Tryd.underlying23 rfl size_k32 (by rw [List.length_map, Ho.out]) rfl ⟨rfl, hB9⟩
set_option maxRecDepth 100000 in
theorem loose_frame11 (a : Act) (hs : a.tmps.size = 11) (hd : a.defers = []) : ∃ u : Nat → Value, a = ⟨(u 0 :: u 1 :: u 2 :: u 3 :: u 4 :: u 5 :: u 6 :: u 7 :: u 8 :: u 9 :: u 10 :: []).toArray, []⟩ := by
  obtain ⟨u, h⟩ := frame_of 11 a hs hd
  exact ⟨u, h⟩
theorem sig_ptr (g o c : Nat) (w : World) : (Instr.arrayAt 27 (.slice (some ⟨g, o, none⟩) 64 c)).run Tryd.prog w = .ok (.pointer (some ⟨g, o, none⟩)) w := by kernel_rfl
theorem parts_two_cells {w : World} {g : Nat} {v1 v2 : Value} {t : TypeId} {x y : List UInt8} (hC : Cells w g [v1, v2] t) (h1 : Part w w.heap.size v1 x) (h2 : Part w w.heap.size v2 y) : Parts w w.heap.size (some ⟨g, 0, none⟩) [x, y] :=
  parts_cells hC fun j us hu => by
    match j, hu with
    | 0, hu => cases hu; exact ⟨v1, rfl, h1⟩
    | 1, hu => cases hu; exact ⟨v2, rfl, h2⟩
    | j + 2, hu => simp at hu
/-- What the operations of joined yield. -/
def sgjYields (ga gb : Nat) (a b : List UInt8) (i : Nat) (v : Value) (w : World) : Prop := match i with
  | 0 => v = .slice (some ⟨ga, 0, none⟩) 32 32
  | 1 => v = .slice (some ⟨gb, 0, none⟩) 32 32
  | 2 => ∃ g, v = .slice (some ⟨g, 0, none⟩) 2 2 ∧ PartsAt (some ⟨g, 0, none⟩) [a, b] w
  | 3 => ∃ g o c, v = .slice (some ⟨g, o, none⟩) 64 c ∧ g < w.heap.size ∧ w.rangeAt g o ((a ++ b).map cellOf)
  | 4 => ∃ g o, v = .pointer (some ⟨g, o, none⟩) ∧ g < w.heap.size ∧ w.rangeAt g o ((a ++ b).map cellOf)
  | 5 => v = hashVal (a ++ b)
  | _ => True
theorem sgjYields_on {ga gb : Nat} {a b : List UInt8} {i : Nat} {v : Value} {w w' : World} (h : sgjYields ga gb a b i v w) (hb : Below w.heap.size w w') : sgjYields ga gb a b i v w' := by
  unfold sgjYields at h ⊢
  split
  all_goals first
    | exact h
    | trivial
    | (obtain ⟨g, h1, h2⟩ := h
       exact ⟨g, h1, h2.below hb⟩)
    | (obtain ⟨g, o, c, h1, h2, h3⟩ := h
       exact ⟨g, o, c, h1, Nat.lt_of_lt_of_le h2 hb.size, range_on h3 h2 hb⟩)
    | (obtain ⟨g, o, h1, h2, h3⟩ := h
       exact ⟨g, o, h1, Nat.lt_of_lt_of_le h2 hb.size, range_on h3 h2 hb⟩)
set_option maxRecDepth 100000 in
set_option maxHeartbeats 2000000 in
theorem joined_over (x y : List UInt8) (w : World) (Hx : Hid (x.length = 32)) (Hy : Hid (y.length = 32)) :
    Calls Tryd.prog 11 #[hashVal x, hashVal y] w (gvn (hashVal (x ++ y)) w) := by
  have HXY : Hid ((x ++ y).length = 64) := by show _ = _; rw [List.length_append, Hx.out, Hy.out]
  have HFL : Hid ([x, y].flatten.length = 64) := by show _ = _; simp [Hx.out, Hy.out]
  have HFE : Hid ([x, y].flatten = x ++ y) := by show _ = _; simp
  go_enter Tryd.func11, Tryd.ntmps11
  go_wp2_with (first
    | (refine take_step rfl 23 (.tmp 0) rfl x rfl ?_
       intro w1 hb1 hx1 hz
       clear hz
       have hB1 := hb1
       clear hb1
       try simp only [putS]
       skip)
    | (refine take_step rfl 23 (.tmp 1) rfl y rfl ?_
       intro w2 hb2 hy2 hz
       clear hz
       have hB2 := below_then hB1 hb2
       have hx2 := hx1.on hb2
       clear hB1 hx1 hb2
       try simp only [putS]
       skip)
    | (refine vzero_step (o := ⟨some 4, _, _, _, _, _⟩) rfl 27 rfl zsig zero_sig ?_
       intro w4 hb4 hr4
       have hB4 := below_then hB2 hb4
       have hge : w.heap.size ≤ w2.heap.size := hB2.size
       have hx4 := hx2.on hb4
       have hy4 := hy2.on hb4
       clear hB2 hx2 hy2 hb4
       try simp only [putS]
       skip))
  generalize hq2 : w2.heap.size = gr at *
  clear hq2
  generalize hq1 : w1.heap.size = gy at *
  clear hq1
  have hB5 : Below w.heap.size w w4.drew := hB4.drew
  have hx5 := hx4.drew
  have hy5 := hy4.drew
  have hr5 := hr4.drew
  refine wp_region_any (by kernel_rfl) ?_
  show wpAny _ _ _ _ _ _ _ w4.drew
  simp only [List.size_toArray, List.length_cons, List.length_nil, Nat.reduceAdd, Array.replicate_succ, Array.replicate_zero, List.push_toArray, List.nil_append, List.cons_append]
  clear hB4 hx4 hy4 hr4
  generalize w4.drew = w5 at *
  refine wpAny_loose (L := [0, 1, 2, 3, 4, 5]) (fins := [(#[true, true, true, true, true, true, false], 1)]) (LooseAt w5 _ [(0, 5), (1, 6), (2, 7), (3, 8), (4, 9), (5, 10)] (sgjYields w.heap.size gy x y)) ?_ ?_ 7 _ _ _ (by kernel_rfl) ⟨Below.refl _ _, rfl, rfl, fun _ _ => rfl, ?_⟩
  rotate_left 2
  · intro p hp hl
    simp only [List.mem_cons, List.not_mem_nil, or_false] at hp
    rcases hp with rfl | rfl | rfl | rfl | rfl | rfl
    all_goals cases hl
  · intro i hi
    simp only [List.mem_cons, List.not_mem_nil, or_false] at hi
    rcases hi with rfl | rfl | rfl | rfl | rfl | rfl
    · refine loose_step (slots := [(0, 5), (1, 6), (2, 7), (3, 8), (4, 9), (5, 10)]) (prop := sgjYields w.heap.size gy x y) (by decide) (by decide) 11 rfl (by decide) (fun _ _ _ _ h hb => sgjYields_on h hb) (i := 0) (s := 5) (by decide) rfl rfl ?_
      intro a w6 K hb hs hd hsame hfact hK
      exact quiet_op rfl _ (exec_sl _ _ _ _ _ _ _ rfl _ (hsame 2 (by decide)) _ w6 (key_all _ w6)) (hK _ _ (Below.refl _ _) rfl)
    · refine loose_step (slots := [(0, 5), (1, 6), (2, 7), (3, 8), (4, 9), (5, 10)]) (prop := sgjYields w.heap.size gy x y) (by decide) (by decide) 11 rfl (by decide) (fun _ _ _ _ h hb => sgjYields_on h hb) (i := 1) (s := 6) (by decide) rfl rfl ?_
      intro a w6 K hb hs hd hsame hfact hK
      exact quiet_op rfl _ (exec_sl _ _ _ _ _ _ _ rfl _ (hsame 3 (by decide)) _ w6 (key_all _ w6)) (hK _ _ (Below.refl _ _) rfl)
    · refine loose_step (slots := [(0, 5), (1, 6), (2, 7), (3, 8), (4, 9), (5, 10)]) (prop := sgjYields w.heap.size gy x y) (by decide) (by decide) 11 rfl (by decide) (fun _ _ _ _ h hb => sgjYields_on h hb) (i := 2) (s := 7) (by decide) rfl rfl ?_
      intro a w6 K hb hs hd hsame hfact hK
      have s5 : a.tmps.getD 5 undef = .slice (some ⟨w.heap.size, 0, none⟩) 32 32 := hfact (0, 5) (by decide) (by kernel_rfl)
      have s6 : a.tmps.getD 6 undef = .slice (some ⟨gy, 0, none⟩) 32 32 := hfact (1, 6) (by decide) (by kernel_rfl)
      have hx6 := hx5.on hb
      have hy6 := hy5.on hb
      refine lit_op rfl 32 2 [(0, .tmp 5), (1, .tmp 6)] rfl [(0, .slice (some ⟨w.heap.size, 0, none⟩) 32 32), (1, .slice (some ⟨gy, 0, none⟩) 32 32)] ?_ 24 ([.slice (some ⟨w.heap.size, 0, none⟩) 32 32, .slice (some ⟨gy, 0, none⟩) 32 32].map anyc) (lit_parts2 _ _ _ _ _ _) (fun w' hb' hc' => hK _ _ hb' ⟨_, rfl, parts_two_cells hc' (part_cells (hx6.on hb') 32 32 Hx.out (Nat.le_refl _) (by unfold maxLen; omega)) (part_cells (hy6.on hb') 32 32 Hy.out (Nat.le_refl _) (by unfold maxLen; omega))⟩)
      simp only [List.map_cons, List.map_nil]
      rw [show a.eval (.tmp 5) = _ from s5, show a.eval (.tmp 6) = _ from s6]
    · refine loose_step (slots := [(0, 5), (1, 6), (2, 7), (3, 8), (4, 9), (5, 10)]) (prop := sgjYields w.heap.size gy x y) (by decide) (by decide) 11 rfl (by decide) (fun _ _ _ _ h hb => sgjYields_on h hb) (i := 3) (s := 8) (by decide) rfl rfl ?_
      intro a w6 K hb hs hd hsame hfact hK
      obtain ⟨gl, s7, hl2⟩ := hfact (2, 7) (by decide) (by kernel_rfl)
      refine call_op rfl 26 [.tmp 7] _ rfl [.slice (some ⟨gl, 0, none⟩) 2 2] ?_ (enters Tryd.func26 (by kernel_rfl) (by kernel_rfl)) (concat_any (some ⟨gl, 0, none⟩) 2 2 64 [x, y] w6 rfl hl2 (by omega) HFL.out (by omega)) ?_
      · simp only [List.map_cons, List.map_nil]
        rw [show a.eval (.tmp 7) = .slice (some ⟨gl, 0, none⟩) 2 2 from s7]
      · rintro e w7 ⟨A7, c7, rfl, h1, h2, h3, hr7, hb7⟩
        rw [HFE.out] at hr7
        obtain ⟨b7, o7, rfl⟩ := hr7.some (by rw [HXY.out]; decide)
        have hlt7 : b7 < w7.heap.size := by
          obtain ⟨b8, o8, e8, hlt, _⟩ := hr7.at 0 (by rw [HXY.out]; decide)
          cases e8
          exact hlt
        exact ⟨_, rfl, hK _ _ hb7 ⟨b7, o7, c7, rfl, hlt7, hr7.rangeAll⟩⟩
    · refine loose_step (slots := [(0, 5), (1, 6), (2, 7), (3, 8), (4, 9), (5, 10)]) (prop := sgjYields w.heap.size gy x y) (by decide) (by decide) 11 rfl (by decide) (fun _ _ _ _ h hb => sgjYields_on h hb) (i := 4) (s := 9) (by decide) rfl rfl ?_
      intro a w6 K hb hs hd hsame hfact hK
      obtain ⟨g8, o8, c8, s8, hlt8, hr8⟩ := hfact (3, 8) (by decide) (by kernel_rfl)
      exact quiet_op rfl _ (exec_arr _ _ _ _ rfl _ (show a.eval (.tmp 8) = _ from s8) _ w6 (sig_ptr _ _ _ w6)) (hK _ _ (Below.refl _ _) ⟨g8, o8, rfl, hlt8, hr8⟩)
    · refine loose_step (slots := [(0, 5), (1, 6), (2, 7), (3, 8), (4, 9), (5, 10)]) (prop := sgjYields w.heap.size gy x y) (by decide) (by decide) 11 rfl (by decide) (fun _ _ _ _ h hb => sgjYields_on h hb) (i := 5) (s := 10) (by decide) rfl rfl ?_
      intro a w6 K hb hs hd hsame hfact hK
      obtain ⟨g9, o9, s9, hlt9, hr9⟩ := hfact (4, 9) (by decide) (by kernel_rfl)
      exact load_op rfl 27 (.tmp 9) rfl g9 o9 s9 ((x ++ y).map cellOf) _ hr9 Tryd.underlying27 rfl (by rw [List.length_map, HXY.out]; exact size_sig) (hK _ _ (Below.refl _ _) rfl)
  · intro f hf a w6 hA
    obtain rfl := List.mem_singleton.1 hf
    have hB6 := below_then hB5 hA.below
    have hr6 := hr5.on hA.below
    have s4 := hA.same 4 (by decide)
    have s10 : a.tmps.getD 10 undef = hashVal (x ++ y) := hA.fact (5, 10) (by decide) (by kernel_rfl)
    obtain ⟨u, rfl⟩ := loose_frame11 a hA.size hA.defers
    change u 4 = .pointer (some ⟨gr, 0, none⟩) at s4
    change u 10 = _ at s10
    rw [s4, s10]
    clear s4 s10 hA hB5 hx5 hy5 hr5
    refine wpAny_rest 6 rfl (by kernel_rfl) ?_
    simp only [List.drop_succ_cons, List.drop_zero]
    refine vset_step rfl 27 (.tmp 4) (.tmp 10) rfl gr 64 zsig ((x ++ y).map cellOf) rfl rfl hr6 rfl size_sig (by rw [List.length_map, HXY.out]) (kcells_one _) ?_
    intro w8 hb8 hr8 hz8
    have hB8 : Below w.heap.size w w8 := hB6.trans (hb8.below hge hB6.size)
    clear hB6 hr6 hb8 hz8
    rename_i K hKK
    show Exit.then K _ Exit.normal _ w8
    simp only [Exit.then]
    refine hKK _ _ ?_
    clear hKK K
    go_wp2
    exact sret Tryd.results11 gr ((x ++ y).map cellOf) rfl hr8 Tryd.underlying27 rfl size_sig (by rw [List.length_map, HXY.out]) rfl ⟨rfl, hB8⟩
/-- A text that comes in stands. -/
def TextAt (A : Option Addr) (n c : Nat) (text : List UInt8) (w : World) : Prop := text.length = n ∧ n ≤ c ∧ c ≤ maxLen ∧ (A = none → c = 0) ∧ Row w w.heap.size A text
theorem TextAt.below {A : Option Addr} {n c : Nat} {text : List UInt8} {w w' : World} (h : TextAt A n c text w) (hb : Below w.heap.size w w') : TextAt A n c text w' := ⟨h.1, h.2.1, h.2.2.1, h.2.2.2.1, h.2.2.2.2.on hb⟩
end Go.Proofs.YtoggkhjaghkpnaaDoor
namespace Go.Proofs.YtoggkhjaghkpnaaDoor
open Go.RowKit
section
variable {P : Program} {ops : Array Oper} {Q : Exit → Act → World → Prop} {md : Region.Mode}
/-- One operation can come up: a step law of the plain walk takes it. -/
theorem wpAny_by {i : Nat} {o : Oper} {fuel : Nat} {listed : Array Bool} {a : Act} {w : World} (hr : Region.ready md ops listed = [i]) (ho : ops[i]? = some o) (hgd : o.guard = none)
    (h : wpList P ops (fun e a' w' => e = .normal ∧ wpAny P md ops Q fuel (listed.setIfInBounds i true) a' w') [o] a w) : wpAny P md ops Q (fuel + 1) listed a w := by
  refine wpAny_one hr ho fun K hK => ?_
  rw [if_pos (by simp [Region.wanted, hgd])]
  unfold wpList at h
  rw [if_pos (by simp [Region.wanted, hgd])] at h
  rcases h with h | ⟨_, _, _, h, _⟩
  · have hn : ∀ a'' w'', wpList P ops (fun e a' w' => e = .normal ∧ wpAny P md ops Q fuel (listed.setIfInBounds i true) a' w') [] a'' w'' → K a'' w'' := fun a'' w'' hh => hK _ _ hh.2
    unfold Oper.wp at h ⊢
    revert h
    generalize (execOp a.eval o).run P w = r
    intro h
    cases r with
    | ok x w1 =>
      cases x with
      | value v => exact hn _ _ h
      | skip => exact hn _ _ h
      | defer d => exact hn _ _ h
      | enter f args =>
        refine Calls.mono h ?_
        intro e w1 he
        cases e with
        | returned v => exact hn _ _ he
        | panicked c => cases he.1
        | outgrown =>
          obtain ⟨_, _, he, _⟩ := he
          cases he
      | row r args => exact fun c cs => let ⟨v, w', r, s⟩ := h c cs; ⟨v, w', hn _ _ r, s⟩
      | round l f tmps assign body => exact h.elim
      | _ => exact h.elim
    | halt x w1 =>
      cases x with
      | panic v => cases h.1
      | _ => exact h.elim
  · cases h
end
/-- 'append(out, b...)', b a row of n bytes. -/
theorem append_given {w : World} {ops : Array Oper} {rest : List Oper} {o : Oper} {a : Act} {Q : Exit → Act → World → Prop} (hgd : o.guard = none) (s x : Operand)
    (ho : o.op = .call { callee := .builtin .append, args := #[s, x], argTypes := #[24, 24] }) (base : Nat)
    (v : Value) (bs us : List UInt8) (B : Nat) (A : Option Addr) (n c : Nat) (hs : a.eval s = v) (hown : Owns w base v bs) (hx : a.eval x = .slice A n c) (hn : us.length = n) (hA : A = none → c = 0) (hr : Row w B A us)
    (hlen : bs.length + us.length ≤ 1000000) (hbase : base ≤ w.heap.size)
    (h : ∀ v' w', Owns w' base v' (bs ++ us) → Below base w w' → wpList Tryd.prog ops Q rest (a.put o.dst v') w') : wpList Tryd.prog ops Q (o :: rest) a w := by
  subst hn
  exact append_row hgd s x ho base v bs us B A c hs hown hx hA hr hlen hbase h
theorem run_step {P : Program} {w : World} {ops : Array Oper} {rest : List Oper} {o : Oper} {a : Act} {Q : Exit → Act → World → Prop} (hgd : o.guard = none) (v : Value) (hr : (execOp a.eval o).run P w = .ok (.value v) w) (h : wpList P ops Q rest (a.put o.dst v) w) : wpList P ops Q (o :: rest) a w := by
  refine wpList_plain hgd fun K hK => ?_
  unfold Oper.wp
  rw [hr]
  exact hK _ _ h
theorem parts_rowv {w : World} {B : Nat} {D : Option Addr} {vs : List Value} {ps : List (List UInt8)} (hl : vs.length = ps.length) (hp : ∀ (j : Nat) (us : List UInt8) (v : Value), ps[j]? = some us → vs[j]? = some v → Part w B v us) (hr : RowV w B D vs) : Parts w B D ps := by
  rcases hr with rfl | ⟨b, off, hD, hb, hc⟩
  · exact .inl (List.eq_nil_of_length_eq_zero (by rw [← hl]; rfl))
  · refine .inr ⟨b, off, hD, hb, fun j us hu => ?_⟩
    have hj : j < vs.length := by rw [hl]; exact (List.getElem?_eq_some_iff.1 hu).1
    exact ⟨vs[j], hc j _ (List.getElem?_eq_getElem hj), hp j us _ hu (List.getElem?_eq_getElem hj)⟩
/-- A key out of a row of keys. -/
theorem key_of (ks : List UInt8) (n j : Nat) (hk : ks.length = 32 * n) (hj : j < n) : ((ks.drop (0 + j * 32)).take 32).length = 32 ∧ ks.take (32 * (j + 1)) = ks.take (32 * j) ++ (ks.drop (0 + j * 32)).take 32 := by
  have h1 : 32 * (j + 1) ≤ 32 * n := Nat.mul_le_mul_left _ hj
  have h2 : (ks.drop (0 + j * 32)).length = ks.length - (0 + j * 32) := List.length_drop
  refine ⟨by rw [List.length_take, h2]; omega, ?_⟩
  rw [show 0 + j * 32 = 32 * j by omega, show 32 * (j + 1) = 32 * j + 32 by omega, List.take_add]
set_option maxRecDepth 100000 in
set_option maxHeartbeats 2000000 in
theorem number_any (E : Value) (D : Option Addr) (m d n g : Nat) (ps : List (List UInt8)) (ks : List UInt8) (w : World) (hkl : ks.length = 32 * n) (hn : n ≤ 20) (hC : Cells w g (ks.map cellOf) 23) (hS : SgTabs E w) (hpl : ps.length = m) (hP : PartsAt D ps w) (hm : m ≤ 80000) (hf : ps.flatten.length ≤ 800000) (hmd : m ≤ d) (hdm : d ≤ maxLen) (hD : D = none → d = 0) :
    Calls Tryd.prog 9 #[.slice D m d, .slice (some ⟨g, 0, none⟩) n n] w (gvn (hashVal (putL (sgMod (ks ++ ps.flatten)) 32)) w) := by
  have HKL := Lib.hid hkl
  have HPL := Lib.hid hpl
  have HF := Lib.hid hf
  have HD := Lib.hid hD
  clear hkl hpl hf hD
  go_enter Tryd.func9, Tryd.ntmps9
  go_wp2_with (first
    | (refine vzero_step (o := ⟨some 4, _, _, _, _, _⟩) rfl 23 rfl kzeros zero_k32 ?_
       intro w1 hb1 hr1
       have hc1 := hC.on hb1
       try simp only [putS]
       skip))
  have HZ : Owns w1 w1.heap.size (.slice none 0 0) (ks.take (32 * 0)) := ⟨by simp, .inl ⟨rfl, by simp⟩⟩
  have hlt1 := hr1.lt
  generalize hgr : w.heap.size = gr at *
  go_loopw [5, 10] (fun v i wr => ∃ j : Nat, j ≤ n ∧ i = .int .i64 j ∧ Below w1.heap.size w1 wr ∧ Owns wr w1.heap.size v (ks.take (32 * j))) (fun _ i _ => n - (intOf i).toNat)
  case atStart => exact ⟨0, Nat.zero_le _, rfl, Below.refl _ _, HZ⟩
  case round =>
    obtain ⟨j, hj, rfl, hB, hO⟩ := hrel
    rename World => wr
    have hsz := hB.size
    by_cases hlt : j < n
    · have hko := key_of ks n j HKL.out hlt
      have HK1 := Lib.hid hko.1
      have HK2 := Lib.hid hko.2
      clear hko
      have hcr := hc1.on hB
      obtain ⟨k, hk⟩ := namedF ((ks.drop (0 + j * 32)).take 32)
      rw [hk.out] at HK1 HK2
      have HTL : Hid ((ks.take (32 * j)).length ≤ 700) := by
        show _ ≤ _
        rw [List.length_take, HKL.out]
        omega
      generalize ks.take (32 * j) = F at *
      go_wp2_with (first
        | (refine run_step rfl (.pointer (some ⟨g, 0 + j * 32, none⟩)) (exec_index _ _ _ _ _ rfl _ _ _ rfl rfl wr (index_slice (by kernel_rfl) size_k32 g 0 j hlt wr)) ?_
           try simp only [putS]
           skip)
        | (refine run_step rfl (hashVal k) (exec_load _ _ _ _ rfl _ _ rfl wr (key_mid hcr (0 + j * 32) hk.out HK1.out)) ?_
           try simp only [putS]
           skip)
        | (refine vput_step rfl rfl 23 (.tmp 7) (.tmp 13) rfl rfl 32 kzeros (k.map cellOf) rfl rfl zero_k32 rfl size_k32 (by rw [List.length_map, HK1.out]) (kcells_one _) ?_
           intro w3 hb3 hk3
           have hB3 := below_then hB hb3
           have hO3 := hO.on hb3
           have hsz3 := hB3.size
           clear hb3
           try simp only [putS]
           skip)
        | (at_builtin
           refine append_given rfl (.tmp 14) (.tmp 15) rfl w1.heap.size _ F k w3.heap.size (some ⟨wr.heap.size, 0, none⟩) 32 32 rfl hO3 rfl HK1.out (fun h => by cases h) (Cells.row (m := 32) hk3 (by rw [List.take_of_length_le (by rw [List.length_map, HK1.out]; decide)])) (by rw [HK1.out]; have := HTL.out; omega) hsz3 ?_
           intro v7 w7 hO7 hB7))
      go_roundw
      case rel => exact ⟨j + 1, by omega, by go_num, hB3.trans hB7, by rw [HK2.out]; exact hO7⟩
      case measure => simp [intOf]; omega
    · obtain rfl : j = n := by omega
      have e1 : ks.take (32 * j) = ks := List.take_of_length_le (by rw [HKL.out]; exact Nat.le_refl _)
      rw [e1] at hO
      obtain ⟨A', c', hv, h1, h2, h3, h4⟩ := hO.form2
      subst hv
      have hrr := hr1.on hB
      have hB1 : Below gr w wr := by
        have h := below_then (by rw [hgr]; exact hb1) hB
        rwa [hgr] at h
      have hS1 : SgTabs E wr := hS.below (by rw [hgr]; exact hB1)
      have hP1 : PartsAt D ps wr := hP.below (by rw [hgr]; exact hB1)
      have hgr2 : gr ≤ wr.heap.size := by rw [← hgr]; exact hB1.size
      clear hO hB hc1 hb1 hr1 hS hP hC hlt1 HZ e1
      obtain ⟨vs, hvl, hvp, hvr⟩ := Parts.vals hP1
      have HV1 : Hid (∀ u ∈ vs, u.oneCell' = true) := by
        show ∀ u ∈ vs, u.oneCell' = true
        intro u hu
        obtain ⟨i, hi, rfl⟩ := List.getElem_of_mem hu
        obtain ⟨A2, c2, e2, _⟩ := hvp i _ _ (List.getElem?_eq_getElem (by omega)) (List.getElem?_eq_getElem hi)
        rw [e2]
        rfl
      have HVL := Lib.hid hvl
      have HVP := Lib.hid hvp
      have hR0 : RowV wr wr.heap.size D vs := by
        rcases hvr with h | h
        · exact .inl (List.eq_nil_of_length_eq_zero (by rw [hvl, h]; rfl))
        · exact .inr h
      have hQ0 : Part wr wr.heap.size (.slice A' ks.length c') ks := ⟨A', c', rfl, h4, h1, h2, h3⟩
      clear hvl hvp hvr hP1 h1 h2 h3 h4
      have HR0 := Lib.hid hR0
      have HQ0 := Lib.hid hQ0
      clear hR0 hQ0
      obtain ⟨len, hlen⟩ := namedF ks.length
      rw [hlen.out]
      rw [hlen.out] at HQ0
      have hlen2 : len ≤ 640 := by have h1 := hlen.out; have h2 := HKL.out; omega
      go_wp2_with (first
        | (refine ulit_step rfl 32 1 [(0, .tmp 18)] rfl [(0, .slice A' len c')] rfl 24 ([.slice A' len c'].map anyc) (lit_parts1 _ _ _) ?_
           intro w4 hb4 hl4
           have hz4 := hb4.size
           try simp only [putS]
           skip)
        | (refine ulit_step rfl 93 2 [(0, .tmp 19), (1, .tmp 20)] rfl [(0, .slice (some ⟨wr.heap.size, 0, none⟩) 1 1), (1, .slice D m d)] rfl 32 ([.slice (some ⟨wr.heap.size, 0, none⟩) 1 1, .slice D m d].map anyc) (lit_rows2 _ _ _ _ _ _) ?_
           intro w5 hb5 hl5
           have hb45 := below_then hb4 hb5
           have hl45 := hl4.on hb5
           try simp only [putS]
           skip))
      have hPP : PartsP w5 w5.heap.size (some ⟨w4.heap.size, 0, none⟩) [[.slice A' len c'], vs] := by
        refine .inr ⟨w4.heap.size, 0, rfl, hl5.lt, fun i us hu => ?_⟩
        match i, hu with
        | 0, hu =>
          cases hu
          refine ⟨some ⟨wr.heap.size, 0, none⟩, 1, hl5.get (j := 0) rfl, .inr ⟨wr.heap.size, 0, rfl, hl45.lt, fun i v hv => ?_⟩, Nat.le_refl _, by unfold maxLen; omega, fun h => by cases h⟩
          rw [Nat.zero_add]
          exact hl45.get hv
        | 1, hu =>
          cases hu
          have hR5 := (HR0.out.on hb45)
          exact ⟨D, d, by rw [HVL.out, HPL.out]; exact hl5.get (j := 1) rfl, hR5, by rw [HVL.out, HPL.out]; exact hmd, hdm, HD.out⟩
        | i + 2, hu => simp at hu
      have HPP := Lib.hid hPP
      have HL2 : Hid ([[Value.slice A' len c'], vs].flatten.length = 1 + m) := by
        show _ = _
        rw [List.flatten_cons, List.flatten_cons, List.flatten_nil, List.append_nil, List.length_append, HVL.out, HPL.out]
        rfl
      have H1C : Hid (∀ us ∈ [[Value.slice A' len c'], vs], ∀ u ∈ us, u.oneCell' = true) := by
        show ∀ us ∈ _, _
        intro us hu u hu2
        rcases List.mem_cons.1 hu with rfl | hu
        · rw [List.mem_singleton.1 hu2]
          rfl
        · rw [List.mem_singleton.1 hu] at hu2
          exact HV1.out u hu2
      clear hPP hl5 hl45 hl4 hb4 hb5 hz4
      refine (concatP_any (some ⟨w4.heap.size, 0, none⟩) 2 2 (1 + m) [[.slice A' len c'], vs] w5 rfl H1C.out HPP.out (by omega) HL2.out (by omega)).mono ?_
      rintro e w6 ⟨A6, c6, rfl, hR6, h61, h62, h63, hb6⟩
      have hb46 := below_then hb45 hb6
      have hPS : Parts w6 w6.heap.size A6 (ks :: ps) := by
        refine parts_rowv (by rw [HL2.out, List.length_cons, HPL.out]; omega) (fun i us v hu hv => ?_) hR6
        rw [List.flatten_cons, List.flatten_cons, List.flatten_nil, List.append_nil] at hv
        match i, hu, hv with
        | 0, hu, hv =>
          cases hu
          cases hv
          exact (HQ0.out.below hb46).more hb46.size
        | i + 1, hu, hv => exact ((HVP.out i us v hu hv).below hb46).more hb46.size
      have HPS := Lib.hid hPS
      have HFL : Hid ((ks :: ps).flatten.length ≤ 900000) := by
        show _ ≤ _
        rw [List.flatten_cons, List.length_append, hlen.out]
        have := HF.out
        omega
      have hS6 := hS1.below hb46
      have hr6 := hrr.on hb46
      have hB6 := hB1.trans (hb46.mono hgr2)
      clear hPS hR6 hb45 hb6 hb46 HPP HR0 HQ0 HVP HVL HV1 HL2 H1C hS1 hrr hB1
      go_wp2_with fail
      refine (wideSum_any A6 c6 (1 + m) (ks :: ps) w6 hS6.1 (by rw [List.length_cons, HPL.out]; omega) HPS.out (by omega) HFL.out).mono ?_
      rintro e w7 ⟨rfl, hb7⟩
      have hS7 := hS6.below hb7
      have hr7 := hr6.on hb7
      have hB7 := below_then (by rw [hgr]; exact hB6) hb7
      clear hb7 hS6 hr6 hB6 HPS
      rw [List.flatten_cons]
      obtain ⟨wd, hwd⟩ := namedF (widSum (ks ++ ps.flatten))
      rw [hwd.out]
      have HWD : Hid (wd.length = 64) := by show _ = _; rw [← hwd.out]; exact widSum_length _
      go_wp2_with fail
      refine (scReduce_any wd w7 HWD.out hS7.2.1).mono ?_
      rintro e w8 ⟨rfl, hb8⟩
      have hr8 := hr7.on hb8
      have hB8 := below_then hB7 hb8
      have HRES : Hid (putL (lev wd % NP.LL) 32 = putL (sgMod (ks ++ ps.flatten)) 32) := by show _ = _; rw [← hwd.out]; rfl
      have HLEN := Lib.hid (putL_length (lev wd % NP.LL) 32)
      generalize putL (lev wd % NP.LL) 32 = res at *
      clear hb8 hr7 hB7 hS7
      go_wp2_with (first
        | (refine vset_step rfl 23 (.tmp 4) (.tmp 24) rfl gr 32 kzeros (res.map cellOf) rfl rfl hr8 rfl size_k32 (by rw [List.length_map, HLEN.out]) (kcells_one _) ?_
           intro w9 hb9 hr9 hz9))
      have hB9 : Below w.heap.size w w9 := hB8.trans (hb9.below (by rw [hgr]; exact Nat.le_refl _) hB8.size)
      exact sret Tryd.results9 gr (res.map cellOf) rfl hr9 Tryd.underlying23 rfl size_k32 (by rw [List.length_map, HLEN.out]) rfl ⟨by rw [← HRES.out]; rfl, by first | exact hB9 | (rw [← hgr]; exact hB9)⟩
end Go.Proofs.YtoggkhjaghkpnaaDoor
