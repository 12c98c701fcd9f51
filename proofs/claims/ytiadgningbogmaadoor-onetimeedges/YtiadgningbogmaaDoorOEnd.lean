/- Package onetime: a coder's end. -/
import Derived.Test.YtiadgningbogmaaDoorOWrite
namespace Go.Proofs.YtiadgningbogmaaDoor
open Go.RowKit
/-- What the operations of end's last region yield. -/
def endYields (B : Nat) (t l n p c : List Nat) (o : Nat) (s : List UInt8) (i : Nat) (v : Value) (w : World) : Prop := match i with
  | 3 => v = numVal t
  | 4 => v = numVal l
  | 5 => v = hashVal s
  | 6 => v = numVal n
  | 7 => v = numVal p
  | 8 => v = .tuple #[numVal c, .int .u64 (o : Int)]
  | 9 => v = .tuple #[numVal c, .int .u64 (o : Int)]
  | 10 => v = numVal c
  | 11 => v = .int .u64 (o : Int)
  | 12 => ∃ gq, v = .pointer (some ⟨gq, 0, none⟩) ∧ B ≤ gq ∧ Cells w gq (nzeros 5) 41
  | _ => True
theorem endYields_on {B : Nat} {t l n p c : List Nat} {o : Nat} {s : List UInt8} {i : Nat} {v : Value} {w w' : World} (h : endYields B t l n p c o s i v w) (hb : Below w.heap.size w w') : endYields B t l n p c o s i v w' := by
  unfold endYields at h ⊢
  split
  all_goals first
    | exact h
    | trivial
    | (obtain ⟨gq, h1, h2, h3⟩ := h
       exact ⟨gq, h1, h2, h3.on hb⟩)
set_option maxRecDepth 100000 in
set_option maxHeartbeats 2000000 in
theorem end_over (g h o : Nat) (r t t1 l n p c : List Nat) (rest s key out : List UInt8) (w : World) (hC : CoderIs w g r t rest h) (hh : h ≤ 16) (HK : Hid (key.length = 32)) (HS : Hid (s = key.drop 16 ++ [0])) (HT1 : Hid (t1.length = 5)) (HCL : Hid (c.length = 5)) (HOL : Hid (out.length = 16))
    (H0 : Hid (h = 0 → t1 = t)) (CW : Hid (∀ W, CoderIs W g r t rest h → 0 < h → Calls Tryd.prog 23 #[.pointer (some ⟨g, 0, none⟩)] W fun e w' => e = .returned (.tuple #[]) ∧ But g W w' ∧ CoderIs w' g r t1 rest 0))
    (CL : Hid (∀ W, Calls Tryd.prog 26 #[numVal t1] W fun e w' => e = .returned (numVal l) ∧ Below W.heap.size W w'))
    (CR : Hid (∀ W, Calls Tryd.prog 14 #[hashVal s] W fun e w' => e = .returned (numVal n) ∧ Below W.heap.size W w'))
    (CP : Hid (∀ W, Calls Tryd.prog 25 #[numVal l, numVal n] W fun e w' => e = .returned (numVal p) ∧ Below W.heap.size W w'))
    (CC : Hid (∀ W, Calls Tryd.prog 24 #[numVal p] W fun e w' => e = .returned (.tuple #[numVal c, .int .u64 (o : Int)]) ∧ Below W.heap.size W w'))
    (CO : Hid (∀ W, Calls Tryd.prog 27 #[numVal c] W fun e w' => e = .returned (hashVal out) ∧ Below W.heap.size W w')) :
    Calls Tryd.prog 17 #[.pointer (some ⟨g, 0, none⟩), hashVal key] w fun e w' => e = .returned (hashVal out) ∧ But g w w' := by
  have hg := hC.2.2.2.lt
  go_enter Tryd.func17, Tryd.ntmps17
  have d0 := hC.held
  by_cases hpos : 0 < h
  · go_wp2_with (first
      | (refine take_step rfl 23 (.tmp 1) rfl key rfl ?_
         intro w1 hb1 hA1 hz
         have hB1 : But g w w1 := But.of_below hb1
         have hC1 := hC.on hb1
         have hs1 := hA1.lt
         clear hz hC hb1 d0)
      | (refine zero_step (o := ⟨some 4, _, _, _, _, _⟩) rfl 27 rfl 16 zero_b16 ?_
         intro w2 hb2 hZ2 hz
         have hB2 : But g w w2 := hB1.trans (But.of_below hb2)
         have hA2 := hA1.on hb2
         have hC2 := hC1.on hb2
         have d2 := hC2.held
         have hs2 := hZ2.lt
         clear hz hb2 hB1 hA1 hC1))
    generalize hgk : w.heap.size = gk at *
    generalize hgo : w1.heap.size = go at *
    refine (CW.out w2 hC2 hpos).mono ?_
    rintro e w3 ⟨rfl, hb3, hC3⟩
    have hB3 := hB2.trans hb3
    have hA3 := hA2.but hb3 (by omega)
    have hZ3 := hZ2.but hb3 (by omega)
    clear hb3 hB2 hA2 hZ2 hC2 d2 H0 CW
    obtain ⟨hx, hC3⟩ : ∃ hx, CoderIs w3 g r t1 rest hx := ⟨0, hC3⟩
    go_wp2_with (first
      | (refine zero_step (o := ⟨some 5, _, _, _, _, _⟩) rfl 44 rfl 17 zero_row17 ?_
         intro w4 hb4 hS4 hz
         have hB4 : But g w w4 := hB3.trans (But.of_below hb4)
         have hA4 := hA3.on hb4
         have hZ4 := hZ3.on hb4
         have hC4 := hC3.on hb4
         have hg1 := hZ3.lt
         have hg0 := hA3.lt
         clear hz hb4 hB3 hA3 hZ3 hC3))
    generalize hgr : w3.heap.size = gr at *
    refine wp_region_tail 2 (by kernel_rfl) (by kernel_rfl) ?_
    intro w5 hw5
    have hB5 : But g w w5 := by rw [hw5]; exact hB4.drew
    have hC5 : CoderIs w5 g r t1 rest hx := by rw [hw5]; exact hC4
    have hA5 : Cells w5 gk (key.map cellOf) 23 := by rw [hw5]; exact hA4
    have hZ5 : Cells w5 go (List.replicate 16 (cellOf 0)) 27 := by rw [hw5]; exact hZ4
    have hS5 : Cells w5 gr (List.replicate 17 (cellOf 0)) 44 := by rw [hw5]; exact hS4
    clear hw5 hB4 hC4 hA4 hZ4 hS4
    simp only [List.take_succ_cons, List.take_zero, List.drop_succ_cons, List.drop_zero]
    repeat still_step
    refine wpStill_nil ?_
    have HTL : Hid ((key.drop 16).length = 16) := by show _ = _; rw [List.length_drop, HK.out]
    have hR5 : Row w5 w5.heap.size (some ⟨gk, 16, none⟩) (key.drop 16) := by
      have h := hA5.all.piece 16 16
      rw [Nat.zero_add, List.take_of_length_le (by rw [HTL.out]; omega)] at h
      exact h
    go_wp2_with (first
      | (refine copy_row rfl (.tmp 15) (.tmp 16) rfl gr 0 17 17 16 16 w5.heap.size 16 (some ⟨gk, 16, none⟩) (key.drop 16) rfl rfl HTL.out (by omega) hR5 (hS5.there 0 16 (by rw [List.length_replicate]; omega)) ?_
         intro w6 hw6
         have hus : (key.drop 16).take 17 = key.drop 16 := List.take_of_length_le (by rw [HTL.out]; omega)
         rw [hus] at hw6
         have hb6 : But gr w5 w6 := by rw [hw6]; exact (But.refl gr w5).setCells _ _
         have hS6 : Cells w6 gr (s.map cellOf) 44 := by
           have h := hS5.setCells (cs := (key.drop 16).map cellOf) (o := 0) (by rw [List.length_map, HTL.out, List.length_replicate]; omega)
           rw [← hw6] at h
           have e : splice (List.replicate 17 (cellOf 0)) 0 ((key.drop 16).map cellOf) = s.map cellOf := by
             rw [HS.out, splice, List.length_map, HTL.out, List.map_append]
             rfl
           rw [e] at h
           exact h
         have hB6 := hB5.new (by omega) hb6
         have hC6 := hC5.but hb6 (by omega)
         have hZ6 := hZ5.but hb6 (by omega)
         clear hw6 hus hb6 hB5 hC5 hA5 hZ5 hS5 hR5))
    have HSL : Hid (s.length = 17) := by show _ = _; rw [HS.out, List.length_append, HTL.out]; rfl
    refine wp_region_any (by kernel_rfl) ?_
    show wpAny _ _ _ _ _ _ _ w6.drew
    simp only [List.size_toArray, List.length_cons, List.length_nil, Nat.reduceAdd, Array.replicate_succ, Array.replicate_zero, List.push_toArray, List.nil_append, List.cons_append]
    have hB7 : But g w w6.drew := hB6.drew
    have hC7 : CoderIs w6.drew g r t1 rest hx := hC6
    have hZ7 : Cells w6.drew go (List.replicate 16 (cellOf 0)) 27 := hZ6
    have hS7 : Cells w6.drew gr (s.map cellOf) 44 := hS6
    clear hB6 hC6 hZ6 hS6
    generalize w6.drew = w7 at *
    refine wpAny_take (i := 0) (oi := ⟨some 19, _, _, _, _, _⟩) (v := ?_) rfl (by kernel_rfl) (by kernel_rfl) (by kernel_rfl) (fun _ _ _ h => h) (Or.inl ⟨by rfl, ?_⟩) ?_
    rotate_left
    · (intro w; go_simp; try with_reducible rfl)
    simp only [Act.put, List.setIfInBounds_toArray, List.set_cons_zero, List.set_cons_succ]
    refine wpAny_take (i := 1) (oi := ⟨some 20, _, _, _, _, _⟩) (v := ?_) rfl (by kernel_rfl) (by kernel_rfl) (by kernel_rfl) (fun _ _ _ h => h) (Or.inl ⟨by rfl, ?_⟩) ?_
    rotate_left
    · (intro w; go_simp; try with_reducible rfl)
    simp only [Act.put, List.setIfInBounds_toArray, List.set_cons_zero, List.set_cons_succ]
    refine wpAny_take (i := 2) (oi := ⟨some 21, _, _, _, _, _⟩) (v := ?_) rfl (by kernel_rfl) (by kernel_rfl) (by kernel_rfl) (fun _ _ _ h => h) (Or.inl ⟨by rfl, ?_⟩) ?_
    rotate_left
    · (intro w; go_simp; try with_reducible rfl)
    simp only [Act.put, List.setIfInBounds_toArray, List.set_cons_zero, List.set_cons_succ]
    have ht7 := hC7.2.2.2.range 5 5
    have hs7 := hS7.range 0 17
    rw [coder_t hC7.1 hC7.2.1] at ht7
    rw [List.drop_zero, List.take_of_length_le (by rw [List.length_map, HSL.out]; omega)] at hs7
    have hgw : g < w7.heap.size := hC7.2.2.2.lt
    have hgrw : gr < w7.heap.size := hS7.lt
    refine wpAny_loose (L := [3, 4, 5, 6, 7, 8, 9, 10, 11, 12]) (fins := [(#[true, true, true, true, true, true, true, true, true, true, true, false, true, false, false], 3), (#[true, true, true, true, true, true, true, true, true, true, true, true, true, false, false], 2)]) (LooseAt w7 _ [(3, 22), (4, 23), (5, 24), (6, 25), (7, 26), (8, 27), (9, 18), (10, 28), (11, 29), (12, 6)] (endYields w7.heap.size t1 l n p c o s)) ?_ ?_ 12 _ _ _ (by kernel_rfl) ⟨Below.refl _ _, rfl, rfl, fun _ _ => rfl, ?_⟩
    · intro i hi
      simp only [List.mem_cons, List.not_mem_nil, or_false] at hi
      rcases hi with rfl | rfl | rfl | rfl | rfl | rfl | rfl | rfl | rfl | rfl
      · refine loose_step (slots := [(3, 22), (4, 23), (5, 24), (6, 25), (7, 26), (8, 27), (9, 18), (10, 28), (11, 29), (12, 6)]) (prop := endYields w7.heap.size t1 l n p c o s) (by decide) (by decide) 32 rfl (by decide) (fun _ _ _ _ h hb => endYields_on h hb) (i := 3) (s := 22) (by decide) rfl rfl ?_
        intro a w6 K hb hs hd hsame hfact hK
        exact load_op rfl 41 (.tmp 21) rfl g 5 (hsame 21 (by decide)) (t1.map ncell) _ (range_on ht7 hgw hb) Tryd.underlying41 rfl (by rw [List.length_map, HT1.out]; exact size_num) (hK _ _ (Below.refl _ _) rfl)
      · refine loose_step (slots := [(3, 22), (4, 23), (5, 24), (6, 25), (7, 26), (8, 27), (9, 18), (10, 28), (11, 29), (12, 6)]) (prop := endYields w7.heap.size t1 l n p c o s) (by decide) (by decide) 32 rfl (by decide) (fun _ _ _ _ h hb => endYields_on h hb) (i := 4) (s := 23) (by decide) rfl rfl ?_
        intro a w6 K hb hs hd hsame hfact hK
        refine call_op rfl 26 [.tmp 22] _ rfl [numVal t1] ?_ (enters Tryd.func26 (by kernel_rfl) (by kernel_rfl)) (CL.out w6) ?_
        · simp only [List.map_cons, List.map_nil]
          rw [show a.eval (.tmp 22) = numVal t1 from hfact (3, 22) (by decide) (by kernel_rfl)]
        · rintro e w7 ⟨rfl, hb7⟩
          exact ⟨_, rfl, hK _ _ hb7 rfl⟩
      · refine loose_step (slots := [(3, 22), (4, 23), (5, 24), (6, 25), (7, 26), (8, 27), (9, 18), (10, 28), (11, 29), (12, 6)]) (prop := endYields w7.heap.size t1 l n p c o s) (by decide) (by decide) 32 rfl (by decide) (fun _ _ _ _ h hb => endYields_on h hb) (i := 5) (s := 24) (by decide) rfl rfl ?_
        intro a w6 K hb hs hd hsame hfact hK
        exact load_op rfl 44 (.tmp 5) rfl gr 0 (hsame 5 (by decide)) (s.map cellOf) _ (range_on hs7 hgrw hb) Tryd.underlying44 rfl (by rw [List.length_map, HSL.out]; exact size_row17) (hK _ _ (Below.refl _ _) rfl)
      · refine loose_step (slots := [(3, 22), (4, 23), (5, 24), (6, 25), (7, 26), (8, 27), (9, 18), (10, 28), (11, 29), (12, 6)]) (prop := endYields w7.heap.size t1 l n p c o s) (by decide) (by decide) 32 rfl (by decide) (fun _ _ _ _ h hb => endYields_on h hb) (i := 6) (s := 25) (by decide) rfl rfl ?_
        intro a w6 K hb hs hd hsame hfact hK
        refine call_op rfl 14 [.tmp 24] _ rfl [hashVal s] ?_ (enters Tryd.func14 (by kernel_rfl) (by kernel_rfl)) (CR.out w6) ?_
        · simp only [List.map_cons, List.map_nil]
          rw [show a.eval (.tmp 24) = hashVal s from hfact (5, 24) (by decide) (by kernel_rfl)]
        · rintro e w7 ⟨rfl, hb7⟩
          exact ⟨_, rfl, hK _ _ hb7 rfl⟩
      · refine loose_step (slots := [(3, 22), (4, 23), (5, 24), (6, 25), (7, 26), (8, 27), (9, 18), (10, 28), (11, 29), (12, 6)]) (prop := endYields w7.heap.size t1 l n p c o s) (by decide) (by decide) 32 rfl (by decide) (fun _ _ _ _ h hb => endYields_on h hb) (i := 7) (s := 26) (by decide) rfl rfl ?_
        intro a w6 K hb hs hd hsame hfact hK
        refine call_op rfl 25 [.tmp 23, .tmp 25] _ rfl [numVal l, numVal n] ?_ (enters Tryd.func25 (by kernel_rfl) (by kernel_rfl)) (CP.out w6) ?_
        · simp only [List.map_cons, List.map_nil]
          rw [show a.eval (.tmp 23) = numVal l from hfact (4, 23) (by decide) (by kernel_rfl), show a.eval (.tmp 25) = numVal n from hfact (6, 25) (by decide) (by kernel_rfl)]
        · rintro e w7 ⟨rfl, hb7⟩
          exact ⟨_, rfl, hK _ _ hb7 rfl⟩
      · refine loose_step (slots := [(3, 22), (4, 23), (5, 24), (6, 25), (7, 26), (8, 27), (9, 18), (10, 28), (11, 29), (12, 6)]) (prop := endYields w7.heap.size t1 l n p c o s) (by decide) (by decide) 32 rfl (by decide) (fun _ _ _ _ h hb => endYields_on h hb) (i := 8) (s := 27) (by decide) rfl rfl ?_
        intro a w6 K hb hs hd hsame hfact hK
        refine call_op rfl 24 [.tmp 26] _ rfl [numVal p] ?_ (enters Tryd.func24 (by kernel_rfl) (by kernel_rfl)) (CC.out w6) ?_
        · simp only [List.map_cons, List.map_nil]
          rw [show a.eval (.tmp 26) = numVal p from hfact (7, 26) (by decide) (by kernel_rfl)]
        · rintro e w7 ⟨rfl, hb7⟩
          exact ⟨_, rfl, hK _ _ hb7 rfl⟩
      · refine loose_step (slots := [(3, 22), (4, 23), (5, 24), (6, 25), (7, 26), (8, 27), (9, 18), (10, 28), (11, 29), (12, 6)]) (prop := endYields w7.heap.size t1 l n p c o s) (by decide) (by decide) 32 rfl (by decide) (fun _ _ _ _ h hb => endYields_on h hb) (i := 9) (s := 18) (by decide) rfl rfl ?_
        intro a w6 K hb hs hd hsame hfact hK
        exact move_op rfl (.tmp 27) rfl _ (hfact (8, 27) (by decide) (by kernel_rfl)) (hK _ _ (Below.refl _ _) rfl)
      · refine loose_step (slots := [(3, 22), (4, 23), (5, 24), (6, 25), (7, 26), (8, 27), (9, 18), (10, 28), (11, 29), (12, 6)]) (prop := endYields w7.heap.size t1 l n p c o s) (by decide) (by decide) 32 rfl (by decide) (fun _ _ _ _ h hb => endYields_on h hb) (i := 10) (s := 28) (by decide) rfl rfl ?_
        intro a w6 K hb hs hd hsame hfact hK
        exact extract_op rfl (.tmp 18) 0 rfl _ (hfact (9, 18) (by decide) (by kernel_rfl)) _ rfl (hK _ _ (Below.refl _ _) rfl)
      · refine loose_step (slots := [(3, 22), (4, 23), (5, 24), (6, 25), (7, 26), (8, 27), (9, 18), (10, 28), (11, 29), (12, 6)]) (prop := endYields w7.heap.size t1 l n p c o s) (by decide) (by decide) 32 rfl (by decide) (fun _ _ _ _ h hb => endYields_on h hb) (i := 11) (s := 29) (by decide) rfl rfl ?_
        intro a w6 K hb hs hd hsame hfact hK
        exact extract_op rfl (.tmp 18) 1 rfl _ (hfact (9, 18) (by decide) (by kernel_rfl)) _ rfl (hK _ _ (Below.refl _ _) rfl)
      · refine loose_step (slots := [(3, 22), (4, 23), (5, 24), (6, 25), (7, 26), (8, 27), (9, 18), (10, 28), (11, 29), (12, 6)]) (prop := endYields w7.heap.size t1 l n p c o s) (by decide) (by decide) 32 rfl (by decide) (fun _ _ _ _ h hb => endYields_on h hb) (i := 12) (s := 6) (by decide) rfl rfl ?_
        intro a w6 K hb hs hd hsame hfact hK
        exact alloc_op rfl 41 rfl (nzeros 5) zero_num (fun w' hb' hc' => hK _ _ hb' ⟨_, rfl, hb.size, hc'⟩)
    · intro f hf
      simp only [List.mem_cons, List.not_mem_nil, or_false] at hf
      rcases hf with rfl | rfl
      · intro a w8 hA
        have hb8 := hA.below
        have hB8 := hB7.trans (But.of_below hb8)
        have hZ8 := hZ7.on hb8
        have s4 := hA.same 4 (by decide)
        obtain ⟨gq, s6, hq1, hq2⟩ := hA.fact (12, 6) (by decide) (by kernel_rfl)
        have s18 : a.tmps.getD 18 undef = .tuple #[numVal c, .int .u64 (o : Int)] := hA.fact (9, 18) (by decide) (by kernel_rfl)
        have s28 : a.tmps.getD 28 undef = numVal c := hA.fact (10, 28) (by decide) (by kernel_rfl)
        obtain ⟨u, rfl⟩ := loose_frame32 a hA.size hA.defers
        change u 4 = .pointer (some ⟨go, 0, none⟩) at s4
        change u 6 = _ at s6
        change u 18 = _ at s18
        change u 28 = _ at s28
        rw [s4, s6, s18, s28]
        have hgq : go < gq := Nat.lt_of_lt_of_le hZ7.lt hq1
        have hgq2 : gr < gq := Nat.lt_of_lt_of_le hgrw hq1
        have hgq3 : g < gq := Nat.lt_of_lt_of_le hgw hq1
        clear hA hb8 hB7 hC7 hZ7 hS7 ht7 hs7 s4 s6 s18 s28 CL CR CP CC hq1 hgw hgrw
        refine wpAny_take (i := 11) (oi := ⟨some 29, _, _, _, _, _⟩) (v := ?_) rfl (by kernel_rfl) (by kernel_rfl) (by kernel_rfl) (fun _ _ _ h => h) (Or.inl ⟨by rfl, ?_⟩) ?_
        rotate_left
        · (intro w; go_simp; try with_reducible rfl)
        simp only [Act.put, List.setIfInBounds_toArray, List.set_cons_zero, List.set_cons_succ]
        refine wpAny_rest 13 rfl (by kernel_rfl) ?_
        simp only [List.drop_succ_cons, List.drop_zero]
        go_wp2_with (first
          | (refine vset_step rfl 41 (.tmp 6) (.tmp 28) rfl gq 5 (nzeros 5) (c.map ncell) rfl rfl hq2 rfl size_num (by rw [List.length_map, HCL.out]) (ncells_one c) ?_
             intro w9 hb9 hQ9 _
             have hB9 := hB8.new (by omega) hb9
             have hZ9 := hZ8.but hb9 (by omega)
             clear hB8 hZ8 hq2 hb9)
          | (refine vget_step rfl 41 (.tmp 6) rfl gq 5 (c.map ncell) 39 rfl hQ9 Tryd.underlying41 size_num (by rw [List.length_map, HCL.out]) ?_))
        refine (CO.out w9).mono ?_
        rintro e w10 ⟨rfl, hb10⟩
        have hB10 := hB9.trans (But.of_below hb10)
        have hZ10 := hZ9.on hb10
        clear hB9 hZ9 hQ9 hb10 CO
        go_wp2_with (first
          | (refine set_step rfl 27 _ _ rfl go 16 (List.replicate 16 (cellOf 0)) out rfl rfl hZ10 (by rw [List.length_replicate]) size_b16 HOL.out ?_
             intro w11 hb11 hC11 _))
        refine ret_hash Tryd.results17 go out rfl hC11 Tryd.underlying27 size_b16 HOL.out rfl ⟨rfl, hB10.new (by omega) hb11⟩
      · intro a w8 hA
        have hb8 := hA.below
        have hB8 := hB7.trans (But.of_below hb8)
        have hZ8 := hZ7.on hb8
        have s4 := hA.same 4 (by decide)
        obtain ⟨gq, s6, hq1, hq2⟩ := hA.fact (12, 6) (by decide) (by kernel_rfl)
        have s18 : a.tmps.getD 18 undef = .tuple #[numVal c, .int .u64 (o : Int)] := hA.fact (9, 18) (by decide) (by kernel_rfl)
        have s28 : a.tmps.getD 28 undef = numVal c := hA.fact (10, 28) (by decide) (by kernel_rfl)
        have s29 : a.tmps.getD 29 undef = .int .u64 (o : Int) := hA.fact (11, 29) (by decide) (by kernel_rfl)
        obtain ⟨u, rfl⟩ := loose_frame32 a hA.size hA.defers
        change u 4 = .pointer (some ⟨go, 0, none⟩) at s4
        change u 6 = _ at s6
        change u 18 = _ at s18
        change u 28 = _ at s28
        change u 29 = _ at s29
        rw [s4, s6, s18, s28, s29]
        have hgq : go < gq := Nat.lt_of_lt_of_le hZ7.lt hq1
        have hgq2 : gr < gq := Nat.lt_of_lt_of_le hgrw hq1
        have hgq3 : g < gq := Nat.lt_of_lt_of_le hgw hq1
        clear hA hb8 hB7 hC7 hZ7 hS7 ht7 hs7 s4 s6 s18 s28 CL CR CP CC hq1 hgw hgrw
        refine wpAny_rest 13 rfl (by kernel_rfl) ?_
        simp only [List.drop_succ_cons, List.drop_zero]
        go_wp2_with (first
          | (refine vset_step rfl 41 (.tmp 6) (.tmp 28) rfl gq 5 (nzeros 5) (c.map ncell) rfl rfl hq2 rfl size_num (by rw [List.length_map, HCL.out]) (ncells_one c) ?_
             intro w9 hb9 hQ9 _
             have hB9 := hB8.new (by omega) hb9
             have hZ9 := hZ8.but hb9 (by omega)
             clear hB8 hZ8 hq2 hb9)
          | (refine vget_step rfl 41 (.tmp 6) rfl gq 5 (c.map ncell) 39 rfl hQ9 Tryd.underlying41 size_num (by rw [List.length_map, HCL.out]) ?_))
        refine (CO.out w9).mono ?_
        rintro e w10 ⟨rfl, hb10⟩
        have hB10 := hB9.trans (But.of_below hb10)
        have hZ10 := hZ9.on hb10
        clear hB9 hZ9 hQ9 hb10 CO
        go_wp2_with (first
          | (refine set_step rfl 27 _ _ rfl go 16 (List.replicate 16 (cellOf 0)) out rfl rfl hZ10 (by rw [List.length_replicate]) size_b16 HOL.out ?_
             intro w11 hb11 hC11 _))
        refine ret_hash Tryd.results17 go out rfl hC11 Tryd.underlying27 size_b16 HOL.out rfl ⟨rfl, hB10.new (by omega) hb11⟩
    · intro p hp hl
      simp only [List.mem_cons, List.not_mem_nil, or_false] at hp
      rcases hp with rfl | rfl | rfl | rfl | rfl | rfl | rfl | rfl | rfl | rfl
      all_goals cases hl
  · obtain rfl : h = 0 := by omega
    obtain rfl := H0.out rfl
    clear CW H0
    obtain ⟨hx, hC⟩ : ∃ hx, CoderIs w g r t1 rest hx := ⟨0, hC⟩
    go_wp2_with (first
      | (refine take_step rfl 23 (.tmp 1) rfl key rfl ?_
         intro w1 hb1 hA1 hz
         have hB1 : But g w w1 := But.of_below hb1
         have hC1 := hC.on hb1
         have hs1 := hA1.lt
         have d1 := (show w1.cell? ⟨g, 26, none⟩ = some (.int .i64 ((0 : Nat) : Int)) from (World.cell?_of_block (w := w) (hb1.block g hg)).trans d0)
         clear hz hC d0)
      | (refine zero_step (o := ⟨some 4, _, _, _, _, _⟩) rfl 27 rfl 16 zero_b16 ?_
         intro w3 hb2 hZ3 hz
         have hB3 : But g w w3 := hB1.trans (But.of_below hb2)
         have hA3 := hA1.on hb2
         have hC3 := hC1.on hb2
         have d3 := (show w3.cell? ⟨g, 26, none⟩ = some (.int .i64 ((0 : Nat) : Int)) from (World.cell?_of_block (w := w1) (hb2.block g (by omega))).trans d1)
         have hs2 := hZ3.lt
         clear hz hb1 hb2 hB1 hA1 hC1 d1)
      | (refine zero_step (o := ⟨some 5, _, _, _, _, _⟩) rfl 44 rfl 17 zero_row17 ?_
         intro w4 hb4 hS4 hz
         have hB4 : But g w w4 := hB3.trans (But.of_below hb4)
         have hA4 := hA3.on hb4
         have hZ4 := hZ3.on hb4
         have hC4 := hC3.on hb4
         have hg1 := hZ3.lt
         have hg0 := hA3.lt
         clear hz hb4 hB3 hA3 hZ3 hC3 d3))
    generalize hgk : w.heap.size = gk at *
    generalize hgo : w1.heap.size = go at *
    generalize hgr : w3.heap.size = gr at *
    refine wp_region_tail 2 (by kernel_rfl) (by kernel_rfl) ?_
    intro w5 hw5
    have hB5 : But g w w5 := by rw [hw5]; exact hB4.drew
    have hC5 : CoderIs w5 g r t1 rest hx := by rw [hw5]; exact hC4
    have hA5 : Cells w5 gk (key.map cellOf) 23 := by rw [hw5]; exact hA4
    have hZ5 : Cells w5 go (List.replicate 16 (cellOf 0)) 27 := by rw [hw5]; exact hZ4
    have hS5 : Cells w5 gr (List.replicate 17 (cellOf 0)) 44 := by rw [hw5]; exact hS4
    clear hw5 hB4 hC4 hA4 hZ4 hS4
    simp only [List.take_succ_cons, List.take_zero, List.drop_succ_cons, List.drop_zero]
    repeat still_step
    refine wpStill_nil ?_
    have HTL : Hid ((key.drop 16).length = 16) := by show _ = _; rw [List.length_drop, HK.out]
    have hR5 : Row w5 w5.heap.size (some ⟨gk, 16, none⟩) (key.drop 16) := by
      have h := hA5.all.piece 16 16
      rw [Nat.zero_add, List.take_of_length_le (by rw [HTL.out]; omega)] at h
      exact h
    go_wp2_with (first
      | (refine copy_row rfl (.tmp 15) (.tmp 16) rfl gr 0 17 17 16 16 w5.heap.size 16 (some ⟨gk, 16, none⟩) (key.drop 16) rfl rfl HTL.out (by omega) hR5 (hS5.there 0 16 (by rw [List.length_replicate]; omega)) ?_
         intro w6 hw6
         have hus : (key.drop 16).take 17 = key.drop 16 := List.take_of_length_le (by rw [HTL.out]; omega)
         rw [hus] at hw6
         have hb6 : But gr w5 w6 := by rw [hw6]; exact (But.refl gr w5).setCells _ _
         have hS6 : Cells w6 gr (s.map cellOf) 44 := by
           have h := hS5.setCells (cs := (key.drop 16).map cellOf) (o := 0) (by rw [List.length_map, HTL.out, List.length_replicate]; omega)
           rw [← hw6] at h
           have e : splice (List.replicate 17 (cellOf 0)) 0 ((key.drop 16).map cellOf) = s.map cellOf := by
             rw [HS.out, splice, List.length_map, HTL.out, List.map_append]
             rfl
           rw [e] at h
           exact h
         have hB6 := hB5.new (by omega) hb6
         have hC6 := hC5.but hb6 (by omega)
         have hZ6 := hZ5.but hb6 (by omega)
         clear hw6 hus hb6 hB5 hC5 hA5 hZ5 hS5 hR5))
    have HSL : Hid (s.length = 17) := by show _ = _; rw [HS.out, List.length_append, HTL.out]; rfl
    refine wp_region_any (by kernel_rfl) ?_
    show wpAny _ _ _ _ _ _ _ w6.drew
    simp only [List.size_toArray, List.length_cons, List.length_nil, Nat.reduceAdd, Array.replicate_succ, Array.replicate_zero, List.push_toArray, List.nil_append, List.cons_append]
    have hB7 : But g w w6.drew := hB6.drew
    have hC7 : CoderIs w6.drew g r t1 rest hx := hC6
    have hZ7 : Cells w6.drew go (List.replicate 16 (cellOf 0)) 27 := hZ6
    have hS7 : Cells w6.drew gr (s.map cellOf) 44 := hS6
    clear hB6 hC6 hZ6 hS6
    generalize w6.drew = w7 at *
    refine wpAny_take (i := 0) (oi := ⟨some 19, _, _, _, _, _⟩) (v := ?_) rfl (by kernel_rfl) (by kernel_rfl) (by kernel_rfl) (fun _ _ _ h => h) (Or.inl ⟨by rfl, ?_⟩) ?_
    rotate_left
    · (intro w; go_simp; try with_reducible rfl)
    simp only [Act.put, List.setIfInBounds_toArray, List.set_cons_zero, List.set_cons_succ]
    refine wpAny_take (i := 1) (oi := ⟨some 20, _, _, _, _, _⟩) (v := ?_) rfl (by kernel_rfl) (by kernel_rfl) (by kernel_rfl) (fun _ _ _ h => h) (Or.inl ⟨by rfl, ?_⟩) ?_
    rotate_left
    · (intro w; go_simp; try with_reducible rfl)
    simp only [Act.put, List.setIfInBounds_toArray, List.set_cons_zero, List.set_cons_succ]
    refine wpAny_take (i := 2) (oi := ⟨some 21, _, _, _, _, _⟩) (v := ?_) rfl (by kernel_rfl) (by kernel_rfl) (by kernel_rfl) (fun _ _ _ h => h) (Or.inl ⟨by rfl, ?_⟩) ?_
    rotate_left
    · (intro w; go_simp; try with_reducible rfl)
    simp only [Act.put, List.setIfInBounds_toArray, List.set_cons_zero, List.set_cons_succ]
    have ht7 := hC7.2.2.2.range 5 5
    have hs7 := hS7.range 0 17
    rw [coder_t hC7.1 hC7.2.1] at ht7
    rw [List.drop_zero, List.take_of_length_le (by rw [List.length_map, HSL.out]; omega)] at hs7
    have hgw : g < w7.heap.size := hC7.2.2.2.lt
    have hgrw : gr < w7.heap.size := hS7.lt
    refine wpAny_loose (L := [3, 4, 5, 6, 7, 8, 9, 10, 11, 12]) (fins := [(#[true, true, true, true, true, true, true, true, true, true, true, false, true, false, false], 3), (#[true, true, true, true, true, true, true, true, true, true, true, true, true, false, false], 2)]) (LooseAt w7 _ [(3, 22), (4, 23), (5, 24), (6, 25), (7, 26), (8, 27), (9, 18), (10, 28), (11, 29), (12, 6)] (endYields w7.heap.size t1 l n p c o s)) ?_ ?_ 12 _ _ _ (by kernel_rfl) ⟨Below.refl _ _, rfl, rfl, fun _ _ => rfl, ?_⟩
    · intro i hi
      simp only [List.mem_cons, List.not_mem_nil, or_false] at hi
      rcases hi with rfl | rfl | rfl | rfl | rfl | rfl | rfl | rfl | rfl | rfl
      · refine loose_step (slots := [(3, 22), (4, 23), (5, 24), (6, 25), (7, 26), (8, 27), (9, 18), (10, 28), (11, 29), (12, 6)]) (prop := endYields w7.heap.size t1 l n p c o s) (by decide) (by decide) 32 rfl (by decide) (fun _ _ _ _ h hb => endYields_on h hb) (i := 3) (s := 22) (by decide) rfl rfl ?_
        intro a w6 K hb hs hd hsame hfact hK
        exact load_op rfl 41 (.tmp 21) rfl g 5 (hsame 21 (by decide)) (t1.map ncell) _ (range_on ht7 hgw hb) Tryd.underlying41 rfl (by rw [List.length_map, HT1.out]; exact size_num) (hK _ _ (Below.refl _ _) rfl)
      · refine loose_step (slots := [(3, 22), (4, 23), (5, 24), (6, 25), (7, 26), (8, 27), (9, 18), (10, 28), (11, 29), (12, 6)]) (prop := endYields w7.heap.size t1 l n p c o s) (by decide) (by decide) 32 rfl (by decide) (fun _ _ _ _ h hb => endYields_on h hb) (i := 4) (s := 23) (by decide) rfl rfl ?_
        intro a w6 K hb hs hd hsame hfact hK
        refine call_op rfl 26 [.tmp 22] _ rfl [numVal t1] ?_ (enters Tryd.func26 (by kernel_rfl) (by kernel_rfl)) (CL.out w6) ?_
        · simp only [List.map_cons, List.map_nil]
          rw [show a.eval (.tmp 22) = numVal t1 from hfact (3, 22) (by decide) (by kernel_rfl)]
        · rintro e w7 ⟨rfl, hb7⟩
          exact ⟨_, rfl, hK _ _ hb7 rfl⟩
      · refine loose_step (slots := [(3, 22), (4, 23), (5, 24), (6, 25), (7, 26), (8, 27), (9, 18), (10, 28), (11, 29), (12, 6)]) (prop := endYields w7.heap.size t1 l n p c o s) (by decide) (by decide) 32 rfl (by decide) (fun _ _ _ _ h hb => endYields_on h hb) (i := 5) (s := 24) (by decide) rfl rfl ?_
        intro a w6 K hb hs hd hsame hfact hK
        exact load_op rfl 44 (.tmp 5) rfl gr 0 (hsame 5 (by decide)) (s.map cellOf) _ (range_on hs7 hgrw hb) Tryd.underlying44 rfl (by rw [List.length_map, HSL.out]; exact size_row17) (hK _ _ (Below.refl _ _) rfl)
      · refine loose_step (slots := [(3, 22), (4, 23), (5, 24), (6, 25), (7, 26), (8, 27), (9, 18), (10, 28), (11, 29), (12, 6)]) (prop := endYields w7.heap.size t1 l n p c o s) (by decide) (by decide) 32 rfl (by decide) (fun _ _ _ _ h hb => endYields_on h hb) (i := 6) (s := 25) (by decide) rfl rfl ?_
        intro a w6 K hb hs hd hsame hfact hK
        refine call_op rfl 14 [.tmp 24] _ rfl [hashVal s] ?_ (enters Tryd.func14 (by kernel_rfl) (by kernel_rfl)) (CR.out w6) ?_
        · simp only [List.map_cons, List.map_nil]
          rw [show a.eval (.tmp 24) = hashVal s from hfact (5, 24) (by decide) (by kernel_rfl)]
        · rintro e w7 ⟨rfl, hb7⟩
          exact ⟨_, rfl, hK _ _ hb7 rfl⟩
      · refine loose_step (slots := [(3, 22), (4, 23), (5, 24), (6, 25), (7, 26), (8, 27), (9, 18), (10, 28), (11, 29), (12, 6)]) (prop := endYields w7.heap.size t1 l n p c o s) (by decide) (by decide) 32 rfl (by decide) (fun _ _ _ _ h hb => endYields_on h hb) (i := 7) (s := 26) (by decide) rfl rfl ?_
        intro a w6 K hb hs hd hsame hfact hK
        refine call_op rfl 25 [.tmp 23, .tmp 25] _ rfl [numVal l, numVal n] ?_ (enters Tryd.func25 (by kernel_rfl) (by kernel_rfl)) (CP.out w6) ?_
        · simp only [List.map_cons, List.map_nil]
          rw [show a.eval (.tmp 23) = numVal l from hfact (4, 23) (by decide) (by kernel_rfl), show a.eval (.tmp 25) = numVal n from hfact (6, 25) (by decide) (by kernel_rfl)]
        · rintro e w7 ⟨rfl, hb7⟩
          exact ⟨_, rfl, hK _ _ hb7 rfl⟩
      · refine loose_step (slots := [(3, 22), (4, 23), (5, 24), (6, 25), (7, 26), (8, 27), (9, 18), (10, 28), (11, 29), (12, 6)]) (prop := endYields w7.heap.size t1 l n p c o s) (by decide) (by decide) 32 rfl (by decide) (fun _ _ _ _ h hb => endYields_on h hb) (i := 8) (s := 27) (by decide) rfl rfl ?_
        intro a w6 K hb hs hd hsame hfact hK
        refine call_op rfl 24 [.tmp 26] _ rfl [numVal p] ?_ (enters Tryd.func24 (by kernel_rfl) (by kernel_rfl)) (CC.out w6) ?_
        · simp only [List.map_cons, List.map_nil]
          rw [show a.eval (.tmp 26) = numVal p from hfact (7, 26) (by decide) (by kernel_rfl)]
        · rintro e w7 ⟨rfl, hb7⟩
          exact ⟨_, rfl, hK _ _ hb7 rfl⟩
      · refine loose_step (slots := [(3, 22), (4, 23), (5, 24), (6, 25), (7, 26), (8, 27), (9, 18), (10, 28), (11, 29), (12, 6)]) (prop := endYields w7.heap.size t1 l n p c o s) (by decide) (by decide) 32 rfl (by decide) (fun _ _ _ _ h hb => endYields_on h hb) (i := 9) (s := 18) (by decide) rfl rfl ?_
        intro a w6 K hb hs hd hsame hfact hK
        exact move_op rfl (.tmp 27) rfl _ (hfact (8, 27) (by decide) (by kernel_rfl)) (hK _ _ (Below.refl _ _) rfl)
      · refine loose_step (slots := [(3, 22), (4, 23), (5, 24), (6, 25), (7, 26), (8, 27), (9, 18), (10, 28), (11, 29), (12, 6)]) (prop := endYields w7.heap.size t1 l n p c o s) (by decide) (by decide) 32 rfl (by decide) (fun _ _ _ _ h hb => endYields_on h hb) (i := 10) (s := 28) (by decide) rfl rfl ?_
        intro a w6 K hb hs hd hsame hfact hK
        exact extract_op rfl (.tmp 18) 0 rfl _ (hfact (9, 18) (by decide) (by kernel_rfl)) _ rfl (hK _ _ (Below.refl _ _) rfl)
      · refine loose_step (slots := [(3, 22), (4, 23), (5, 24), (6, 25), (7, 26), (8, 27), (9, 18), (10, 28), (11, 29), (12, 6)]) (prop := endYields w7.heap.size t1 l n p c o s) (by decide) (by decide) 32 rfl (by decide) (fun _ _ _ _ h hb => endYields_on h hb) (i := 11) (s := 29) (by decide) rfl rfl ?_
        intro a w6 K hb hs hd hsame hfact hK
        exact extract_op rfl (.tmp 18) 1 rfl _ (hfact (9, 18) (by decide) (by kernel_rfl)) _ rfl (hK _ _ (Below.refl _ _) rfl)
      · refine loose_step (slots := [(3, 22), (4, 23), (5, 24), (6, 25), (7, 26), (8, 27), (9, 18), (10, 28), (11, 29), (12, 6)]) (prop := endYields w7.heap.size t1 l n p c o s) (by decide) (by decide) 32 rfl (by decide) (fun _ _ _ _ h hb => endYields_on h hb) (i := 12) (s := 6) (by decide) rfl rfl ?_
        intro a w6 K hb hs hd hsame hfact hK
        exact alloc_op rfl 41 rfl (nzeros 5) zero_num (fun w' hb' hc' => hK _ _ hb' ⟨_, rfl, hb.size, hc'⟩)
    · intro f hf
      simp only [List.mem_cons, List.not_mem_nil, or_false] at hf
      rcases hf with rfl | rfl
      · intro a w8 hA
        have hb8 := hA.below
        have hB8 := hB7.trans (But.of_below hb8)
        have hZ8 := hZ7.on hb8
        have s4 := hA.same 4 (by decide)
        obtain ⟨gq, s6, hq1, hq2⟩ := hA.fact (12, 6) (by decide) (by kernel_rfl)
        have s18 : a.tmps.getD 18 undef = .tuple #[numVal c, .int .u64 (o : Int)] := hA.fact (9, 18) (by decide) (by kernel_rfl)
        have s28 : a.tmps.getD 28 undef = numVal c := hA.fact (10, 28) (by decide) (by kernel_rfl)
        obtain ⟨u, rfl⟩ := loose_frame32 a hA.size hA.defers
        change u 4 = .pointer (some ⟨go, 0, none⟩) at s4
        change u 6 = _ at s6
        change u 18 = _ at s18
        change u 28 = _ at s28
        rw [s4, s6, s18, s28]
        have hgq : go < gq := Nat.lt_of_lt_of_le hZ7.lt hq1
        have hgq2 : gr < gq := Nat.lt_of_lt_of_le hgrw hq1
        have hgq3 : g < gq := Nat.lt_of_lt_of_le hgw hq1
        clear hA hb8 hB7 hC7 hZ7 hS7 ht7 hs7 s4 s6 s18 s28 CL CR CP CC hq1 hgw hgrw
        refine wpAny_take (i := 11) (oi := ⟨some 29, _, _, _, _, _⟩) (v := ?_) rfl (by kernel_rfl) (by kernel_rfl) (by kernel_rfl) (fun _ _ _ h => h) (Or.inl ⟨by rfl, ?_⟩) ?_
        rotate_left
        · (intro w; go_simp; try with_reducible rfl)
        simp only [Act.put, List.setIfInBounds_toArray, List.set_cons_zero, List.set_cons_succ]
        refine wpAny_rest 13 rfl (by kernel_rfl) ?_
        simp only [List.drop_succ_cons, List.drop_zero]
        go_wp2_with (first
          | (refine vset_step rfl 41 (.tmp 6) (.tmp 28) rfl gq 5 (nzeros 5) (c.map ncell) rfl rfl hq2 rfl size_num (by rw [List.length_map, HCL.out]) (ncells_one c) ?_
             intro w9 hb9 hQ9 _
             have hB9 := hB8.new (by omega) hb9
             have hZ9 := hZ8.but hb9 (by omega)
             clear hB8 hZ8 hq2 hb9)
          | (refine vget_step rfl 41 (.tmp 6) rfl gq 5 (c.map ncell) 39 rfl hQ9 Tryd.underlying41 size_num (by rw [List.length_map, HCL.out]) ?_))
        refine (CO.out w9).mono ?_
        rintro e w10 ⟨rfl, hb10⟩
        have hB10 := hB9.trans (But.of_below hb10)
        have hZ10 := hZ9.on hb10
        clear hB9 hZ9 hQ9 hb10 CO
        go_wp2_with (first
          | (refine set_step rfl 27 _ _ rfl go 16 (List.replicate 16 (cellOf 0)) out rfl rfl hZ10 (by rw [List.length_replicate]) size_b16 HOL.out ?_
             intro w11 hb11 hC11 _))
        refine ret_hash Tryd.results17 go out rfl hC11 Tryd.underlying27 size_b16 HOL.out rfl ⟨rfl, hB10.new (by omega) hb11⟩
      · intro a w8 hA
        have hb8 := hA.below
        have hB8 := hB7.trans (But.of_below hb8)
        have hZ8 := hZ7.on hb8
        have s4 := hA.same 4 (by decide)
        obtain ⟨gq, s6, hq1, hq2⟩ := hA.fact (12, 6) (by decide) (by kernel_rfl)
        have s18 : a.tmps.getD 18 undef = .tuple #[numVal c, .int .u64 (o : Int)] := hA.fact (9, 18) (by decide) (by kernel_rfl)
        have s28 : a.tmps.getD 28 undef = numVal c := hA.fact (10, 28) (by decide) (by kernel_rfl)
        have s29 : a.tmps.getD 29 undef = .int .u64 (o : Int) := hA.fact (11, 29) (by decide) (by kernel_rfl)
        obtain ⟨u, rfl⟩ := loose_frame32 a hA.size hA.defers
        change u 4 = .pointer (some ⟨go, 0, none⟩) at s4
        change u 6 = _ at s6
        change u 18 = _ at s18
        change u 28 = _ at s28
        change u 29 = _ at s29
        rw [s4, s6, s18, s28, s29]
        have hgq : go < gq := Nat.lt_of_lt_of_le hZ7.lt hq1
        have hgq2 : gr < gq := Nat.lt_of_lt_of_le hgrw hq1
        have hgq3 : g < gq := Nat.lt_of_lt_of_le hgw hq1
        clear hA hb8 hB7 hC7 hZ7 hS7 ht7 hs7 s4 s6 s18 s28 CL CR CP CC hq1 hgw hgrw
        refine wpAny_rest 13 rfl (by kernel_rfl) ?_
        simp only [List.drop_succ_cons, List.drop_zero]
        go_wp2_with (first
          | (refine vset_step rfl 41 (.tmp 6) (.tmp 28) rfl gq 5 (nzeros 5) (c.map ncell) rfl rfl hq2 rfl size_num (by rw [List.length_map, HCL.out]) (ncells_one c) ?_
             intro w9 hb9 hQ9 _
             have hB9 := hB8.new (by omega) hb9
             have hZ9 := hZ8.but hb9 (by omega)
             clear hB8 hZ8 hq2 hb9)
          | (refine vget_step rfl 41 (.tmp 6) rfl gq 5 (c.map ncell) 39 rfl hQ9 Tryd.underlying41 size_num (by rw [List.length_map, HCL.out]) ?_))
        refine (CO.out w9).mono ?_
        rintro e w10 ⟨rfl, hb10⟩
        have hB10 := hB9.trans (But.of_below hb10)
        have hZ10 := hZ9.on hb10
        clear hB9 hZ9 hQ9 hb10 CO
        go_wp2_with (first
          | (refine set_step rfl 27 _ _ rfl go 16 (List.replicate 16 (cellOf 0)) out rfl rfl hZ10 (by rw [List.length_replicate]) size_b16 HOL.out ?_
             intro w11 hb11 hC11 _))
        refine ret_hash Tryd.results17 go out rfl hC11 Tryd.underlying27 size_b16 HOL.out rfl ⟨rfl, hB10.new (by omega) hb11⟩
    · intro p hp hl
      simp only [List.mem_cons, List.not_mem_nil, or_false] at hp
      rcases hp with rfl | rfl | rfl | rfl | rfl | rfl | rfl | rfl | rfl | rfl
      all_goals cases hl
theorem end_any (g : Nat) (bs key : List UInt8) (w : World) (hk : key.length = 32) (hC : CoderOf w g (polyR key) bs) :
    Calls Tryd.prog 17 #[.pointer (some ⟨g, 0, none⟩), hashVal key] w fun e w' => e = .returned (hashVal (polySum key bs)) ∧ But g w w' := by
  obtain ⟨t, rest, hI, hh⟩ := hC
  have hm := Nat.mod_lt bs.length (show 16 > 0 by omega)
  obtain ⟨t1, hF, hV, h0, hW⟩ : ∃ t1, Fine t1 ∧ lval t1 % polyP = polyH (polyR key) bs ((bs.length + 15) / 16) ∧ (bs.length % 16 = 0 → t1 = t) ∧ ∀ W, CoderIs W g (limbsOf (polyR key)) t rest (bs.length % 16) → 0 < bs.length % 16 → Calls Tryd.prog 23 #[.pointer (some ⟨g, 0, none⟩)] W fun e w' => e = .returned (.tuple #[]) ∧ But g W w' ∧ CoderIs w' g (limbsOf (polyR key)) t1 rest 0 := by
    rcases Nat.eq_zero_or_pos (bs.length % 16) with h | h
    · exact ⟨t, (took_even hh h).1, (took_even hh h).2, fun _ => rfl, fun _ _ h' => by omega⟩
    · exact ⟨_, (took_end hh (polyR_lt key hk) h).1, (took_end hh (polyR_lt key hk) h).2, fun h' => by omega, fun W hc _ => work_any g _ _ t rest W hc (by omega)⟩
  obtain ⟨e1, e2, e3⟩ := ended_val key bs t1 _ hk rfl hF hV
  rw [← e3]
  exact end_over g (bs.length % 16) (overN (plusN (leastN t1) (limbsOf (lev (key.drop 16 ++ [0]))))) _ t t1 (leastN t1) (limbsOf (lev (key.drop 16 ++ [0]))) (plusN (leastN t1) (limbsOf (lev (key.drop 16 ++ [0])))) (carN (plusN (leastN t1) (limbsOf (lev (key.drop 16 ++ [0]))))) rest (key.drop 16 ++ [0]) key _ w hI (by omega) hk (show key.drop 16 ++ [0] = key.drop 16 ++ [0] from rfl) hF.1 ((carN_length _).trans e1) (putL_length _ _) h0 hW (fun W => least_any t1 W hF.1) (fun W => read_any _ W (by rw [List.length_append, List.length_drop, hk]; rfl)) (fun W => plus_any _ _ W ((leastN_length _).trans hF.1) (limbsOf_length _)) (fun W => carried_any _ W e1) (fun W => written_any _ W ((carN_length _).trans e1) e2)
end Go.Proofs.YtiadgningbogmaaDoor
