/- Package onetime: a code on its way (coder), and its work. -/
import Derived.Test.YtiadgningbogmaaDoorOClamp
import Derived.Test.YtiadgningbogmaaDoorWLoose
namespace Go.Proofs.YtiadgningbogmaaDoor
open Go.RowKit
/-- A coder's cells. -/
def coderCells (r t : List Nat) (rest : List UInt8) (h : Nat) : List Value := r.map ncell ++ t.map ncell ++ rest.map cellOf ++ [.int .i64 (h : Int)]
/-- The coder in block g. -/
def CoderIs (w : World) (g : Nat) (r t : List Nat) (rest : List UInt8) (h : Nat) : Prop := r.length = 5 ∧ t.length = 5 ∧ rest.length = 16 ∧ Cells w g (coderCells r t rest h) 47
section
variable {w w' : World} {g : Nat} {r t : List Nat} {rest : List UInt8} {h : Nat}
theorem coderCells_length (hr : r.length = 5) (ht : t.length = 5) (hs : rest.length = 16) : (coderCells r t rest h).length = 27 := by simp [coderCells, hr, ht, hs]
theorem coder_held (hr : r.length = 5) (ht : t.length = 5) (hs : rest.length = 16) : (coderCells r t rest h)[26]? = some (.int .i64 (h : Int)) := by
  rw [coderCells, List.getElem?_append_right (by simp [hr, ht, hs])]
  simp [hr, ht, hs]
theorem coder_setHeld (hr : r.length = 5) (ht : t.length = 5) (hs : rest.length = 16) (k : Nat) : (coderCells r t rest h).set 26 (.int .i64 (k : Int)) = coderCells r t rest k := by
  rw [coderCells, List.set_append_right _ _ (by simp [hr, ht, hs])]
  simp [hr, ht, hs, coderCells]
theorem coder_r (hr : r.length = 5) : ((coderCells r t rest h).drop 0).take 5 = r.map ncell := by
  rw [List.drop_zero, coderCells, List.append_assoc, List.append_assoc, List.take_left' (by simp [hr])]
theorem coder_t (hr : r.length = 5) (ht : t.length = 5) : ((coderCells r t rest h).drop 5).take 5 = t.map ncell := by
  rw [coderCells, List.append_assoc, List.append_assoc, List.drop_left' (by simp [hr]), List.take_left' (by simp [ht])]
theorem coder_putT (hr : r.length = 5) (ht : t.length = 5) (u : List Nat) (hu : u.length = 5) : splice (coderCells r t rest h) 5 (u.map ncell) = coderCells r u rest h := by
  have e := splice_mid (r.map ncell) (t.map ncell) (rest.map cellOf ++ [.int .i64 (h : Int)]) (u.map ncell) 0 (by simp [ht, hu])
  rw [List.length_map, hr, Nat.add_zero] at e
  rw [coderCells, List.append_assoc, e, coderCells]
  simp [ht, hu]
theorem coder_putRest (hr : r.length = 5) (ht : t.length = 5) (us : List UInt8) (k : Nat) (hs : rest.length = 16) (hl : k + us.length ≤ 16) : splice (coderCells r t rest h) (10 + k) (us.map cellOf) = coderCells r t (restPut rest us k) h := by
  have e := splice_mid (r.map ncell ++ t.map ncell) (rest.map cellOf) [.int .i64 (h : Int)] (us.map cellOf) k (by simp; omega)
  rw [show (r.map ncell ++ t.map ncell).length = 10 by simp [hr, ht]] at e
  unfold coderCells restPut
  rw [e]
  simp [List.map_take, List.map_drop]
theorem CoderIs.held (c : CoderIs w g r t rest h) : w.cell? ⟨g, 26, none⟩ = some (.int .i64 (h : Int)) := c.2.2.2.get (coder_held c.1 c.2.1 c.2.2.1)
theorem CoderIs.row (c : CoderIs w g r t rest h) : Row w w.heap.size (some ⟨g, 10, none⟩) rest := by
  refine .inr ⟨g, 10, rfl, c.2.2.2.lt, fun j u hu => c.2.2.2.get ?_⟩
  have hj : j < rest.length := by
    rcases Nat.lt_or_ge j rest.length with hlt | hge
    · exact hlt
    · rw [List.getElem?_eq_none hge] at hu; cases hu
  rw [coderCells, List.append_assoc, List.getElem?_append_right (by simp [c.1, c.2.1])]
  simp [c.1, c.2.1]
  rw [List.getElem?_append_left (by simpa using hj), List.getElem?_map, hu]
  rfl
theorem CoderIs.on (c : CoderIs w g r t rest h) (hb : Below w.heap.size w w') : CoderIs w' g r t rest h := ⟨c.1, c.2.1, c.2.2.1, c.2.2.2.on hb⟩
theorem CoderIs.but (c : CoderIs w g r t rest h) {b : Nat} (hb : But b w w') (hg : g ≠ b) : CoderIs w' g r t rest h := ⟨c.1, c.2.1, c.2.2.1, c.2.2.2.but hb hg⟩
end
/-- The block that the held bytes make: the 1 behind them, noughts behind it. -/
def blockOf (rest : List UInt8) (h : Nat) : List UInt8 := rest.take h ++ [1] ++ List.replicate (16 - h) 0
theorem blockOf_length (rest : List UInt8) (h : Nat) (hr : rest.length = 16) (hh : h ≤ 16) : (blockOf rest h).length = 17 := by
  simp [blockOf, hr]; omega
theorem block_put (rest : List UInt8) (h : Nat) (hr : rest.length = 16) (hh : h ≤ 16) : (splice (List.replicate 17 (cellOf 0)) 0 ((rest.take h).map cellOf)).set h (cellOf 1) = (blockOf rest h).map cellOf := by
  have hl : ((rest.take h).map cellOf).length = h := by rw [List.length_map, List.length_take]; omega
  rw [splice, List.take_zero, List.nil_append, hl, Nat.zero_add, List.drop_replicate, List.set_append_right _ _ (by rw [hl]; exact Nat.le_refl _), hl, Nat.sub_self, show 17 - h = (16 - h) + 1 by omega, List.replicate_succ, blockOf]
  simp
/-- What the operations of work's last region yield. -/
def workYields (t n p r q : List Nat) (b : List UInt8) (i : Nat) (v : Value) (_ : World) : Prop := match i with
  | 4 => v = numVal t
  | 5 => v = hashVal b
  | 6 => v = numVal n
  | 7 => v = numVal p
  | 11 => v = numVal r
  | 12 => v = numVal q
  | _ => True
set_option maxRecDepth 100000 in
set_option maxHeartbeats 2000000 in
theorem work_over (g h : Nat) (r t n p q : List Nat) (rest b : List UInt8) (w : World) (hC : CoderIs w g r t rest h) (hh : h ≤ 16) (HB : Hid (b = blockOf rest h)) (HPL : Hid (q.length = 5))
    (CR : Hid (∀ W, Calls Tryd.prog 14 #[hashVal b] W fun e w' => e = .returned (numVal n) ∧ Below W.heap.size W w'))
    (CP : Hid (∀ W, Calls Tryd.prog 25 #[numVal t, numVal n] W fun e w' => e = .returned (numVal p) ∧ Below W.heap.size W w'))
    (CT : Hid (∀ W, Calls Tryd.prog 28 #[numVal p, numVal r] W fun e w' => e = .returned (numVal q) ∧ Below W.heap.size W w')) :
    Calls Tryd.prog 23 #[.pointer (some ⟨g, 0, none⟩)] w fun e w' => e = .returned (.tuple #[]) ∧ But g w w' ∧ CoderIs w' g r q rest 0 := by
  have hg := hC.2.2.2.lt
  have HRL := Lib.hid hC.2.2.1
  go_enter Tryd.func23, Tryd.ntmps23
  go_wp2_with (first
    | (refine zero_step rfl 44 rfl 17 zero_row17 ?_
       intro w1 hb1 hZ1 hz
       have hC1 := hC.on hb1
       have hB1 : But g w w1 := But.of_below hb1
       have hs1 := hb1.size
       clear hz))
  generalize hgb : w.heap.size = gb at *
  refine wp_region_tail 9 (by kernel_rfl) (by kernel_rfl) ?_
  intro w2 hw2
  have hB2 : But g w w2 := by rw [hw2]; exact hB1.drew
  have hC2 : CoderIs w2 g r t rest h := by rw [hw2]; exact hC1
  have hZ2 : Cells w2 gb (List.replicate 17 (cellOf 0)) 44 := by rw [hw2]; exact hZ1
  clear hw2 hB1 hC1 hZ1 hb1 hC
  have d2 := hC2.held
  have i1 : (h : Int) ≤ 16 := by omega
  have i2 : (0 : Int) ≤ (h : Int) := by omega
  simp only [List.take_succ_cons, List.take_zero, List.drop_succ_cons, List.drop_zero]
  repeat still_step
  refine wpStill_nil ?_
  have hT2 := hZ2.there 0 h (by rw [List.length_replicate]; omega)
  have HTL : Hid ((rest.take h).length = h) := by show _ = _; rw [List.length_take, HRL.out]; omega
  have hR2 := hC2.row.take h
  go_wp2_with (first
    | (refine copy_row rfl (.tmp 3) (.tmp 11) rfl gb 0 17 17 h 16 w2.heap.size h (some ⟨g, 10, none⟩) (rest.take h) rfl rfl HTL.out (by omega) hR2 hT2 ?_
       intro w3 hw3
       have hus : (rest.take h).take 17 = rest.take h := List.take_of_length_le (by rw [HTL.out]; omega)
       rw [hus] at hw3
       have hb3 : But gb w2 w3 := by rw [hw3]; exact (But.refl gb w2).setCells _ _
       have hZ3 : Cells w3 gb (splice (List.replicate 17 (cellOf 0)) 0 ((rest.take h).map cellOf)) 44 := by
         rw [hw3]; exact hZ2.setCells (by rw [List.length_map, HTL.out, List.length_replicate]; omega)
       have hB3 := hB2.new (by omega) hb3
       have hC3 := hC2.but hb3 (by omega)
       have d3 := hC3.held
       have hT3 := hZ3.there h 1 (by rw [splice_length _ _ _ (by rw [List.length_map, HTL.out, List.length_replicate]; omega), List.length_replicate]; omega)
       clear hw3 hus hb3 hB2 hC2 hZ2 d2 hT2 hR2)
    | (refine store_step rfl 5 _ _ rfl gb h .u8 _ rfl rfl size_u8 hT3 ?_
       intro w4 hw4
       have hb4 : But gb w3 w4 := by rw [hw4]; exact (But.refl gb w3).setCell _ _
       have hZ4 : Cells w4 gb (b.map cellOf) 44 := by
         rw [hw4, HB.out, ← block_put rest h HRL.out hh]; exact hZ3.set h _
       have hB4 := hB3.new (by omega) hb4
       have hC4 := hC3.but hb4 (by omega)
       clear hw4 hb4 hB3 hC3 hZ3 d3 hT3))
  have HBL : Hid (b.length = 17) := by show _ = _; rw [HB.out]; exact blockOf_length rest h HRL.out hh
  refine wp_region_any (by kernel_rfl) ?_
  show wpAny _ _ _ _ _ _ _ w4.drew
  simp only [List.size_toArray, List.length_cons, List.length_nil, Nat.reduceAdd, Array.replicate_succ, Array.replicate_zero, List.push_toArray, List.nil_append, List.cons_append]
  have hB5 : But g w w4.drew := hB4.drew
  have hC5 : CoderIs w4.drew g r t rest h := hC4
  have hZ5 : Cells w4.drew gb (b.map cellOf) 44 := hZ4
  clear hB4 hC4 hZ4
  generalize w4.drew = w5 at *
  refine wpAny_take (i := 0) (oi := ⟨some 18, _, _, _, _, _⟩) (v := ?_) rfl (by kernel_rfl) (by kernel_rfl) (by kernel_rfl) (fun _ _ _ h => h) (Or.inl ⟨by rfl, ?_⟩) ?_
  rotate_left
  · (intro w; go_simp; try with_reducible rfl)
  simp only [Act.put, List.setIfInBounds_toArray, List.set_cons_zero, List.set_cons_succ]
  refine wpAny_take (i := 1) (oi := ⟨some 19, _, _, _, _, _⟩) (v := ?_) rfl (by kernel_rfl) (by kernel_rfl) (by kernel_rfl) (fun _ _ _ h => h) (Or.inl ⟨by rfl, ?_⟩) ?_
  rotate_left
  · (intro w; go_simp; try with_reducible rfl)
  simp only [Act.put, List.setIfInBounds_toArray, List.set_cons_zero, List.set_cons_succ]
  refine wpAny_take (i := 2) (oi := ⟨some 20, _, _, _, _, _⟩) (v := ?_) rfl (by kernel_rfl) (by kernel_rfl) (by kernel_rfl) (fun _ _ _ h => h) (Or.inl ⟨by rfl, ?_⟩) ?_
  rotate_left
  · (intro w; go_simp; try with_reducible rfl)
  simp only [Act.put, List.setIfInBounds_toArray, List.set_cons_zero, List.set_cons_succ]
  refine wpAny_take (i := 3) (oi := ⟨some 21, _, _, _, _, _⟩) (v := ?_) rfl (by kernel_rfl) (by kernel_rfl) (by kernel_rfl) (fun _ _ _ h => h) (Or.inl ⟨by rfl, ?_⟩) ?_
  rotate_left
  · (intro w; go_simp; try with_reducible rfl)
  simp only [Act.put, List.setIfInBounds_toArray, List.set_cons_zero, List.set_cons_succ]
  refine wpAny_take (i := 8) (oi := ⟨some 26, _, _, _, _, _⟩) (v := ?_) rfl (by kernel_rfl) (by kernel_rfl) (by kernel_rfl) (fun _ _ _ h => h) (Or.inl ⟨by rfl, ?_⟩) ?_
  rotate_left
  · (intro w; go_simp; try with_reducible rfl)
  simp only [Act.put, List.setIfInBounds_toArray, List.set_cons_zero, List.set_cons_succ]
  refine wpAny_take (i := 9) (oi := ⟨some 27, _, _, _, _, _⟩) (v := ?_) rfl (by kernel_rfl) (by kernel_rfl) (by kernel_rfl) (fun _ _ _ h => h) (Or.inl ⟨by rfl, ?_⟩) ?_
  rotate_left
  · (intro w; go_simp; try with_reducible rfl)
  simp only [Act.put, List.setIfInBounds_toArray, List.set_cons_zero, List.set_cons_succ]
  refine wpAny_take (i := 10) (oi := ⟨some 28, _, _, _, _, _⟩) (v := ?_) rfl (by kernel_rfl) (by kernel_rfl) (by kernel_rfl) (fun _ _ _ h => h) (Or.inl ⟨by rfl, ?_⟩) ?_
  rotate_left
  · (intro w; go_simp; try with_reducible rfl)
  simp only [Act.put, List.setIfInBounds_toArray, List.set_cons_zero, List.set_cons_succ]
  have hr5 := hC5.2.2.2.range 0 5
  have ht5 := hC5.2.2.2.range 5 5
  have hb5 := hZ5.range 0 17
  rw [coder_r hC5.1] at hr5
  rw [coder_t hC5.1 hC5.2.1] at ht5
  rw [List.drop_zero, List.take_of_length_le (by rw [List.length_map, HBL.out]; omega)] at hb5
  have hgw : g < w5.heap.size := hC5.2.2.2.lt
  have hgbw : gb < w5.heap.size := hZ5.lt
  refine wpAny_loose (L := [4, 5, 6, 7, 11, 12]) (fins := [(#[true, true, true, true, true, true, true, true, true, true, true, true, true, false, false, false], 3)]) (LooseAt w5 _ [(4, 22), (5, 23), (6, 24), (7, 25), (11, 29), (12, 30)] (workYields t n p r q b)) ?_ ?_ 9 _ _ _ (by kernel_rfl) ⟨Below.refl _ _, rfl, rfl, fun _ _ => rfl, ?_⟩
  · intro i hi
    simp only [List.mem_cons, List.not_mem_nil, or_false] at hi
    rcases hi with rfl | rfl | rfl | rfl | rfl | rfl
    · refine loose_step (by decide) (by decide) 36 rfl (by decide) (fun _ _ _ _ h _ => h) (i := 4) (s := 22) (by decide) rfl rfl ?_
      intro a w6 K hb hs hd hsame hfact hK
      exact load_op rfl 41 (.tmp 21) rfl g 5 (hsame 21 (by decide)) (t.map ncell) _ (range_on ht5 hgw hb) Tryd.underlying41 rfl (by rw [List.length_map, hC5.2.1]; exact size_num) (hK _ _ (Below.refl _ _) rfl)
    · refine loose_step (by decide) (by decide) 36 rfl (by decide) (fun _ _ _ _ h _ => h) (i := 5) (s := 23) (by decide) rfl rfl ?_
      intro a w6 K hb hs hd hsame hfact hK
      exact load_op rfl 44 (.tmp 2) rfl gb 0 (hsame 2 (by decide)) (b.map cellOf) _ (range_on hb5 hgbw hb) Tryd.underlying44 rfl (by rw [List.length_map, HBL.out]; exact size_row17) (hK _ _ (Below.refl _ _) rfl)
    · refine loose_step (by decide) (by decide) 36 rfl (by decide) (fun _ _ _ _ h _ => h) (i := 6) (s := 24) (by decide) rfl rfl ?_
      intro a w6 K hb hs hd hsame hfact hK
      refine call_op rfl 14 [.tmp 23] _ rfl [hashVal b] ?_ (enters Tryd.func14 (by kernel_rfl) (by kernel_rfl)) (CR.out w6) ?_
      · simp only [List.map_cons, List.map_nil]
        rw [show a.eval (.tmp 23) = hashVal b from hfact (5, 23) (by decide) (by kernel_rfl)]
      · rintro e w7 ⟨rfl, hb7⟩
        exact ⟨_, rfl, hK _ _ hb7 rfl⟩
    · refine loose_step (by decide) (by decide) 36 rfl (by decide) (fun _ _ _ _ h _ => h) (i := 7) (s := 25) (by decide) rfl rfl ?_
      intro a w6 K hb hs hd hsame hfact hK
      refine call_op rfl 25 [.tmp 22, .tmp 24] _ rfl [numVal t, numVal n] ?_ (enters Tryd.func25 (by kernel_rfl) (by kernel_rfl)) (CP.out w6) ?_
      · simp only [List.map_cons, List.map_nil]
        rw [show a.eval (.tmp 22) = numVal t from hfact (4, 22) (by decide) (by kernel_rfl), show a.eval (.tmp 24) = numVal n from hfact (6, 24) (by decide) (by kernel_rfl)]
      · rintro e w7 ⟨rfl, hb7⟩
        exact ⟨_, rfl, hK _ _ hb7 rfl⟩
    · refine loose_step (by decide) (by decide) 36 rfl (by decide) (fun _ _ _ _ h _ => h) (i := 11) (s := 29) (by decide) rfl rfl ?_
      intro a w6 K hb hs hd hsame hfact hK
      exact load_op rfl 41 (.tmp 28) rfl g 0 (hsame 28 (by decide)) (r.map ncell) _ (range_on hr5 hgw hb) Tryd.underlying41 rfl (by rw [List.length_map, hC5.1]; exact size_num) (hK _ _ (Below.refl _ _) rfl)
    · refine loose_step (by decide) (by decide) 36 rfl (by decide) (fun _ _ _ _ h _ => h) (i := 12) (s := 30) (by decide) rfl rfl ?_
      intro a w6 K hb hs hd hsame hfact hK
      refine call_op rfl 28 [.tmp 25, .tmp 29] _ rfl [numVal p, numVal r] ?_ (enters Tryd.func28 (by kernel_rfl) (by kernel_rfl)) (CT.out w6) ?_
      · simp only [List.map_cons, List.map_nil]
        rw [show a.eval (.tmp 25) = numVal p from hfact (7, 25) (by decide) (by kernel_rfl), show a.eval (.tmp 29) = numVal r from hfact (11, 29) (by decide) (by kernel_rfl)]
      · rintro e w7 ⟨rfl, hb7⟩
        exact ⟨_, rfl, hK _ _ hb7 rfl⟩
  · intro f hf a w6 hA
    obtain rfl := List.mem_singleton.1 hf
    have hb6 := hA.below
    have hB6 := hB5.trans (But.of_below hb6)
    have hC6 := hC5.on hb6
    have s0 := hA.same 0 (by decide)
    have s18 := hA.same 18 (by decide)
    have s30 : a.tmps.getD 30 undef = numVal q := hA.fact (12, 30) (by decide) (by kernel_rfl)
    obtain ⟨u, rfl⟩ := loose_frame36 a hA.size hA.defers
    change u 0 = .pointer (some ⟨g, 0, none⟩) at s0
    change u 18 = .pointer (some ⟨g, 0, none⟩) at s18
    change u 30 = _ at s30
    rw [s0, s18, s30]
    clear hA hb6 hB5 hC5 hZ5 hr5 ht5 hb5 s0 s18 s30 CR CP CT
    refine wpAny_rest 13 rfl (by kernel_rfl) ?_
    simp only [List.drop_succ_cons, List.drop_zero]
    have hT6 := hC6.2.2.2.there 5 5 (by rw [coderCells_length hC6.1 hC6.2.1 hC6.2.2.1]; omega)
    have hq1 : (q.map ncell).toArray.size = 5 := by rw [List.size_toArray, List.length_map, HPL.out]
    have HQ := Lib.hid hq1
    clear hq1
    go_wp2_with (first
      | (refine wpList_store_mid rfl 41 _ _ rfl g 5 (q.map ncell).toArray rfl rfl (by rw [HQ.out]; exact hT6) (by rw [HQ.out]; exact size_num) (ncells_one q) ?_
         have hb7 := (But.refl g w6).setCells 5 (q.map ncell)
         have hC7 : CoderIs (w6.setCells g 5 (q.map ncell)) g r q rest h := by
           refine ⟨hC6.1, HPL.out, hC6.2.2.1, ?_⟩
           rw [← coder_putT hC6.1 hC6.2.1 q HPL.out]
           exact hC6.2.2.2.setCells (by rw [coderCells_length hC6.1 hC6.2.1 hC6.2.2.1, List.length_map, HPL.out]; omega)
         have hB7 := hB6.trans hb7
         change wpList _ _ _ _ _ (w6.setCells g 5 (q.map ncell))
         generalize w6.setCells g 5 (q.map ncell) = w7 at *
         have d7 := hC7.held
         have f7 := hC7.2.2.2.frozen 26
         clear hb7 hC6 hB6 hT6))
    go_end0
    refine ⟨rfl, hB7.setCell _ _, hC7.1, hC7.2.1, hC7.2.2.1, ?_⟩
    have h := hC7.2.2.2.set 26 (.int .i64 ((0 : Nat) : Int))
    rw [coder_setHeld hC7.1 hC7.2.1 hC7.2.2.1] at h
    exact h
  · intro p hp hl
    simp only [List.mem_cons, List.not_mem_nil, or_false] at hp
    rcases hp with rfl | rfl | rfl | rfl | rfl | rfl
    all_goals cases hl
theorem work_any (g h : Nat) (r t : List Nat) (rest : List UInt8) (w : World) (hC : CoderIs w g r t rest h) (hh : h ≤ 16) :
    Calls Tryd.prog 23 #[.pointer (some ⟨g, 0, none⟩)] w fun e w' => e = .returned (.tuple #[]) ∧ But g w w' ∧ CoderIs w' g r (timesN (plusN t (limbsOf (lev (blockOf rest h)))) r) rest 0 :=
  work_over g h r t (limbsOf (lev (blockOf rest h))) (plusN t (limbsOf (lev (blockOf rest h)))) _ rest (blockOf rest h) w hC hh rfl (timesN_length _ _) (fun W => read_any _ W (blockOf_length rest h hC.2.2.1 hh)) (fun W => plus_any _ _ W hC.2.1 (limbsOf_length _)) (fun W => times_any _ _ W ((plusN_length _ _).trans hC.2.1) hC.1)
end Go.Proofs.YtiadgningbogmaaDoor
