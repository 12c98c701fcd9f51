/- Part 9 of what the laws of this seat share: OEnd, OSum, OLaw, EMath. -/
import Derived.Stop.BytesEq
import Derived.Test.YtdaieklimdhkoaaDoorPart8
namespace Go.Proofs.YtdaieklimdhkoaaDoor
open Go.RowKit
/-- What the operations of end's last region yield. -/
def endYields (B : Nat) (t l n p c : List Nat) (o : Nat) (s : List UInt8) (i : Nat) (v : Value) (w : World) : Prop := match i with
  | 3 => v = numVal t
  | 4 => v = numVal l
  | 5 => v = hashVal s
  | 6 => v = numVal n
  | 7 => v = numVal p
  | 8 => v = .tuple #[numVal c, .int .u64 (o : Int)]
  | 9 => v = .tuple #[numVal c, .int .u64 (o : Int)]
  | 10 => v = numVal c
  | 11 => v = .int .u64 (o : Int)
  | 12 => ∃ gq, v = .pointer (some ⟨gq, 0, none⟩) ∧ B ≤ gq ∧ Cells w gq (nzeros 5) 61
  | _ => True
theorem endYields_on {B : Nat} {t l n p c : List Nat} {o : Nat} {s : List UInt8} {i : Nat} {v : Value} {w w' : World} (h : endYields B t l n p c o s i v w) (hb : Below w.heap.size w w') : endYields B t l n p c o s i v w' := by
  unfold endYields at h ⊢
  split
  all_goals first
    | exact h
    | trivial
    | (obtain ⟨gq, h1, h2, h3⟩ := h
       exact ⟨gq, h1, h2, h3.on hb⟩)
set_option maxRecDepth 100000 in
set_option maxHeartbeats 2000000 in
theorem end_over (g h o : Nat) (r t t1 l n p c : List Nat) (rest s key out : List UInt8) (w : World) (hC : CoderIs w g r t rest h) (hh : h ≤ 16) (HK : Hid (key.length = 32)) (HS : Hid (s = key.drop 16 ++ [0])) (HT1 : Hid (t1.length = 5)) (HCL : Hid (c.length = 5)) (HOL : Hid (out.length = 16))
    (H0 : Hid (h = 0 → t1 = t)) (CW : Hid (∀ W, CoderIs W g r t rest h → 0 < h → Calls Tryd.prog 44 #[.pointer (some ⟨g, 0, none⟩)] W fun e w' => e = .returned (.tuple #[]) ∧ But g W w' ∧ CoderIs w' g r t1 rest 0))
    (CL : Hid (∀ W, Calls Tryd.prog 47 #[numVal t1] W fun e w' => e = .returned (numVal l) ∧ Below W.heap.size W w'))
    (CR : Hid (∀ W, Calls Tryd.prog 26 #[hashVal s] W fun e w' => e = .returned (numVal n) ∧ Below W.heap.size W w'))
    (CP : Hid (∀ W, Calls Tryd.prog 46 #[numVal l, numVal n] W fun e w' => e = .returned (numVal p) ∧ Below W.heap.size W w'))
    (CC : Hid (∀ W, Calls Tryd.prog 45 #[numVal p] W fun e w' => e = .returned (.tuple #[numVal c, .int .u64 (o : Int)]) ∧ Below W.heap.size W w'))
    (CO : Hid (∀ W, Calls Tryd.prog 48 #[numVal c] W fun e w' => e = .returned (hashVal out) ∧ Below W.heap.size W w')) :
    Calls Tryd.prog 29 #[.pointer (some ⟨g, 0, none⟩), hashVal key] w fun e w' => e = .returned (hashVal out) ∧ But g w w' := by
  have hg := hC.2.2.2.lt
  go_enter Tryd.func29, Tryd.ntmps29
  have d0 := hC.held
  by_cases hpos : 0 < h
  · go_wp2_with (first
      | (refine take_step rfl 23 (.tmp 1) rfl key rfl ?_
         intro w1 hb1 hA1 hz
         have hB1 : But g w w1 := But.of_below hb1
         have hC1 := hC.on hb1
         have hs1 := hA1.lt
         clear hz hC hb1 d0)
      | (refine zero_step (o := ⟨some 4, _, _, _, _, _⟩) rfl 45 rfl 16 zero_b16 ?_
         intro w2 hb2 hZ2 hz
         have hB2 : But g w w2 := hB1.trans (But.of_below hb2)
         have hA2 := hA1.on hb2
         have hC2 := hC1.on hb2
         have d2 := hC2.held
         have hs2 := hZ2.lt
         clear hz hb2 hB1 hA1 hC1))
    generalize hgk : w.heap.size = gk at *
    generalize hgo : w1.heap.size = go at *
    refine (CW.out w2 hC2 hpos).mono ?_
    rintro e w3 ⟨rfl, hb3, hC3⟩
    have hB3 := hB2.trans hb3
    have hA3 := hA2.but hb3 (by omega)
    have hZ3 := hZ2.but hb3 (by omega)
    clear hb3 hB2 hA2 hZ2 hC2 d2 H0 CW
    obtain ⟨hx, hC3⟩ : ∃ hx, CoderIs w3 g r t1 rest hx := ⟨0, hC3⟩
    go_wp2_with (first
      | (refine zero_step (o := ⟨some 5, _, _, _, _, _⟩) rfl 64 rfl 17 zero_row17 ?_
         intro w4 hb4 hS4 hz
         have hB4 : But g w w4 := hB3.trans (But.of_below hb4)
         have hA4 := hA3.on hb4
         have hZ4 := hZ3.on hb4
         have hC4 := hC3.on hb4
         have hg1 := hZ3.lt
         have hg0 := hA3.lt
         clear hz hb4 hB3 hA3 hZ3 hC3))
    generalize hgr : w3.heap.size = gr at *
    refine wp_region_tail 2 (by kernel_rfl) (by kernel_rfl) ?_
    intro w5 hw5
    have hB5 : But g w w5 := by rw [hw5]; exact hB4.drew
    have hC5 : CoderIs w5 g r t1 rest hx := by rw [hw5]; exact hC4
    have hA5 : Cells w5 gk (key.map cellOf) 23 := by rw [hw5]; exact hA4
    have hZ5 : Cells w5 go (List.replicate 16 (cellOf 0)) 45 := by rw [hw5]; exact hZ4
    have hS5 : Cells w5 gr (List.replicate 17 (cellOf 0)) 64 := by rw [hw5]; exact hS4
    clear hw5 hB4 hC4 hA4 hZ4 hS4
    simp only [List.take_succ_cons, List.take_zero, List.drop_succ_cons, List.drop_zero]
    repeat still_step
    refine wpStill_nil ?_
    have HTL : Hid ((key.drop 16).length = 16) := by show _ = _; rw [List.length_drop, HK.out]
    have hR5 : Row w5 w5.heap.size (some ⟨gk, 16, none⟩) (key.drop 16) := by
      have h := hA5.all.piece 16 16
      rw [Nat.zero_add, List.take_of_length_le (by rw [HTL.out]; omega)] at h
      exact h
    go_wp2_with (first
      | (refine copy_row rfl (.tmp 15) (.tmp 16) rfl gr 0 17 17 16 16 w5.heap.size 16 (some ⟨gk, 16, none⟩) (key.drop 16) rfl rfl HTL.out (by omega) hR5 (hS5.there 0 16 (by rw [List.length_replicate]; omega)) ?_
         intro w6 hw6
         have hus : (key.drop 16).take 17 = key.drop 16 := List.take_of_length_le (by rw [HTL.out]; omega)
         rw [hus] at hw6
         have hb6 : But gr w5 w6 := by rw [hw6]; exact (But.refl gr w5).setCells _ _
         have hS6 : Cells w6 gr (s.map cellOf) 64 := by
           have h := hS5.setCells (cs := (key.drop 16).map cellOf) (o := 0) (by rw [List.length_map, HTL.out, List.length_replicate]; omega)
           rw [← hw6] at h
           have e : splice (List.replicate 17 (cellOf 0)) 0 ((key.drop 16).map cellOf) = s.map cellOf := by
             rw [HS.out, splice, List.length_map, HTL.out, List.map_append]
             rfl
           rw [e] at h
           exact h
         have hB6 := hB5.new (by omega) hb6
         have hC6 := hC5.but hb6 (by omega)
         have hZ6 := hZ5.but hb6 (by omega)
         clear hw6 hus hb6 hB5 hC5 hA5 hZ5 hS5 hR5))
    have HSL : Hid (s.length = 17) := by show _ = _; rw [HS.out, List.length_append, HTL.out]; rfl
    refine wp_region_any (by kernel_rfl) ?_
    show wpAny _ _ _ _ _ _ _ w6.drew
    simp only [List.size_toArray, List.length_cons, List.length_nil, Nat.reduceAdd, Array.replicate_succ, Array.replicate_zero, List.push_toArray, List.nil_append, List.cons_append]
    have hB7 : But g w w6.drew := hB6.drew
    have hC7 : CoderIs w6.drew g r t1 rest hx := hC6
    have hZ7 : Cells w6.drew go (List.replicate 16 (cellOf 0)) 45 := hZ6
    have hS7 : Cells w6.drew gr (s.map cellOf) 64 := hS6
    clear hB6 hC6 hZ6 hS6
    generalize w6.drew = w7 at *
    refine wpAny_take (i := 0) (oi := ⟨some 19, _, _, _, _, _⟩) (v := ?_) rfl (by kernel_rfl) (by kernel_rfl) (by kernel_rfl) (fun _ _ _ h => h) (Or.inl ⟨by rfl, ?_⟩) ?_
    rotate_left
    · (intro w; go_simp; try with_reducible rfl)
    simp only [Act.put, List.setIfInBounds_toArray, List.set_cons_zero, List.set_cons_succ]
    refine wpAny_take (i := 1) (oi := ⟨some 20, _, _, _, _, _⟩) (v := ?_) rfl (by kernel_rfl) (by kernel_rfl) (by kernel_rfl) (fun _ _ _ h => h) (Or.inl ⟨by rfl, ?_⟩) ?_
    rotate_left
    · (intro w; go_simp; try with_reducible rfl)
    simp only [Act.put, List.setIfInBounds_toArray, List.set_cons_zero, List.set_cons_succ]
    refine wpAny_take (i := 2) (oi := ⟨some 21, _, _, _, _, _⟩) (v := ?_) rfl (by kernel_rfl) (by kernel_rfl) (by kernel_rfl) (fun _ _ _ h => h) (Or.inl ⟨by rfl, ?_⟩) ?_
    rotate_left
    · (intro w; go_simp; try with_reducible rfl)
    simp only [Act.put, List.setIfInBounds_toArray, List.set_cons_zero, List.set_cons_succ]
    have ht7 := hC7.2.2.2.range 5 5
    have hs7 := hS7.range 0 17
    rw [coder_t hC7.1 hC7.2.1] at ht7
    rw [List.drop_zero, List.take_of_length_le (by rw [List.length_map, HSL.out]; omega)] at hs7
    have hgw : g < w7.heap.size := hC7.2.2.2.lt
    have hgrw : gr < w7.heap.size := hS7.lt
    refine wpAny_loose (L := [3, 4, 5, 6, 7, 8, 9, 10, 11, 12]) (fins := [(#[true, true, true, true, true, true, true, true, true, true, true, false, true, false, false], 3), (#[true, true, true, true, true, true, true, true, true, true, true, true, true, false, false], 2)]) (LooseAt w7 _ [(3, 22), (4, 23), (5, 24), (6, 25), (7, 26), (8, 27), (9, 18), (10, 28), (11, 29), (12, 6)] (endYields w7.heap.size t1 l n p c o s)) ?_ ?_ 12 _ _ _ (by kernel_rfl) ⟨Below.refl _ _, rfl, rfl, fun _ _ => rfl, ?_⟩
    · intro i hi
      simp only [List.mem_cons, List.not_mem_nil, or_false] at hi
      rcases hi with rfl | rfl | rfl | rfl | rfl | rfl | rfl | rfl | rfl | rfl
      · refine loose_step (slots := [(3, 22), (4, 23), (5, 24), (6, 25), (7, 26), (8, 27), (9, 18), (10, 28), (11, 29), (12, 6)]) (prop := endYields w7.heap.size t1 l n p c o s) (by decide) (by decide) 32 rfl (by decide) (fun _ _ _ _ h hb => endYields_on h hb) (i := 3) (s := 22) (by decide) rfl rfl ?_
        intro a w6 K hb hs hd hsame hfact hK
        exact load_op rfl 61 (.tmp 21) rfl g 5 (hsame 21 (by decide)) (t1.map ncell) _ (range_on ht7 hgw hb) Tryd.underlying61 rfl (by rw [List.length_map, HT1.out]; exact size_num) (hK _ _ (Below.refl _ _) rfl)
      · refine loose_step (slots := [(3, 22), (4, 23), (5, 24), (6, 25), (7, 26), (8, 27), (9, 18), (10, 28), (11, 29), (12, 6)]) (prop := endYields w7.heap.size t1 l n p c o s) (by decide) (by decide) 32 rfl (by decide) (fun _ _ _ _ h hb => endYields_on h hb) (i := 4) (s := 23) (by decide) rfl rfl ?_
        intro a w6 K hb hs hd hsame hfact hK
        refine call_op rfl 47 [.tmp 22] _ rfl [numVal t1] ?_ (enters Tryd.func47 (by kernel_rfl) (by kernel_rfl)) (CL.out w6) ?_
        · simp only [List.map_cons, List.map_nil]
          rw [show a.eval (.tmp 22) = numVal t1 from hfact (3, 22) (by decide) (by kernel_rfl)]
        · rintro e w7 ⟨rfl, hb7⟩
          exact ⟨_, rfl, hK _ _ hb7 rfl⟩
      · refine loose_step (slots := [(3, 22), (4, 23), (5, 24), (6, 25), (7, 26), (8, 27), (9, 18), (10, 28), (11, 29), (12, 6)]) (prop := endYields w7.heap.size t1 l n p c o s) (by decide) (by decide) 32 rfl (by decide) (fun _ _ _ _ h hb => endYields_on h hb) (i := 5) (s := 24) (by decide) rfl rfl ?_
        intro a w6 K hb hs hd hsame hfact hK
        exact load_op rfl 64 (.tmp 5) rfl gr 0 (hsame 5 (by decide)) (s.map cellOf) _ (range_on hs7 hgrw hb) Tryd.underlying64 rfl (by rw [List.length_map, HSL.out]; exact size_row17) (hK _ _ (Below.refl _ _) rfl)
      · refine loose_step (slots := [(3, 22), (4, 23), (5, 24), (6, 25), (7, 26), (8, 27), (9, 18), (10, 28), (11, 29), (12, 6)]) (prop := endYields w7.heap.size t1 l n p c o s) (by decide) (by decide) 32 rfl (by decide) (fun _ _ _ _ h hb => endYields_on h hb) (i := 6) (s := 25) (by decide) rfl rfl ?_
        intro a w6 K hb hs hd hsame hfact hK
        refine call_op rfl 26 [.tmp 24] _ rfl [hashVal s] ?_ (enters Tryd.func26 (by kernel_rfl) (by kernel_rfl)) (CR.out w6) ?_
        · simp only [List.map_cons, List.map_nil]
          rw [show a.eval (.tmp 24) = hashVal s from hfact (5, 24) (by decide) (by kernel_rfl)]
        · rintro e w7 ⟨rfl, hb7⟩
          exact ⟨_, rfl, hK _ _ hb7 rfl⟩
      · refine loose_step (slots := [(3, 22), (4, 23), (5, 24), (6, 25), (7, 26), (8, 27), (9, 18), (10, 28), (11, 29), (12, 6)]) (prop := endYields w7.heap.size t1 l n p c o s) (by decide) (by decide) 32 rfl (by decide) (fun _ _ _ _ h hb => endYields_on h hb) (i := 7) (s := 26) (by decide) rfl rfl ?_
        intro a w6 K hb hs hd hsame hfact hK
        refine call_op rfl 46 [.tmp 23, .tmp 25] _ rfl [numVal l, numVal n] ?_ (enters Tryd.func46 (by kernel_rfl) (by kernel_rfl)) (CP.out w6) ?_
        · simp only [List.map_cons, List.map_nil]
          rw [show a.eval (.tmp 23) = numVal l from hfact (4, 23) (by decide) (by kernel_rfl), show a.eval (.tmp 25) = numVal n from hfact (6, 25) (by decide) (by kernel_rfl)]
        · rintro e w7 ⟨rfl, hb7⟩
          exact ⟨_, rfl, hK _ _ hb7 rfl⟩
      · refine loose_step (slots := [(3, 22), (4, 23), (5, 24), (6, 25), (7, 26), (8, 27), (9, 18), (10, 28), (11, 29), (12, 6)]) (prop := endYields w7.heap.size t1 l n p c o s) (by decide) (by decide) 32 rfl (by decide) (fun _ _ _ _ h hb => endYields_on h hb) (i := 8) (s := 27) (by decide) rfl rfl ?_
        intro a w6 K hb hs hd hsame hfact hK
        refine call_op rfl 45 [.tmp 26] _ rfl [numVal p] ?_ (enters Tryd.func45 (by kernel_rfl) (by kernel_rfl)) (CC.out w6) ?_
        · simp only [List.map_cons, List.map_nil]
          rw [show a.eval (.tmp 26) = numVal p from hfact (7, 26) (by decide) (by kernel_rfl)]
        · rintro e w7 ⟨rfl, hb7⟩
          exact ⟨_, rfl, hK _ _ hb7 rfl⟩
      · refine loose_step (slots := [(3, 22), (4, 23), (5, 24), (6, 25), (7, 26), (8, 27), (9, 18), (10, 28), (11, 29), (12, 6)]) (prop := endYields w7.heap.size t1 l n p c o s) (by decide) (by decide) 32 rfl (by decide) (fun _ _ _ _ h hb => endYields_on h hb) (i := 9) (s := 18) (by decide) rfl rfl ?_
        intro a w6 K hb hs hd hsame hfact hK
        exact move_op rfl (.tmp 27) rfl _ (hfact (8, 27) (by decide) (by kernel_rfl)) (hK _ _ (Below.refl _ _) rfl)
      · refine loose_step (slots := [(3, 22), (4, 23), (5, 24), (6, 25), (7, 26), (8, 27), (9, 18), (10, 28), (11, 29), (12, 6)]) (prop := endYields w7.heap.size t1 l n p c o s) (by decide) (by decide) 32 rfl (by decide) (fun _ _ _ _ h hb => endYields_on h hb) (i := 10) (s := 28) (by decide) rfl rfl ?_
        intro a w6 K hb hs hd hsame hfact hK
        exact extract_op rfl (.tmp 18) 0 rfl _ (hfact (9, 18) (by decide) (by kernel_rfl)) _ rfl (hK _ _ (Below.refl _ _) rfl)
      · refine loose_step (slots := [(3, 22), (4, 23), (5, 24), (6, 25), (7, 26), (8, 27), (9, 18), (10, 28), (11, 29), (12, 6)]) (prop := endYields w7.heap.size t1 l n p c o s) (by decide) (by decide) 32 rfl (by decide) (fun _ _ _ _ h hb => endYields_on h hb) (i := 11) (s := 29) (by decide) rfl rfl ?_
        intro a w6 K hb hs hd hsame hfact hK
        exact extract_op rfl (.tmp 18) 1 rfl _ (hfact (9, 18) (by decide) (by kernel_rfl)) _ rfl (hK _ _ (Below.refl _ _) rfl)
      · refine loose_step (slots := [(3, 22), (4, 23), (5, 24), (6, 25), (7, 26), (8, 27), (9, 18), (10, 28), (11, 29), (12, 6)]) (prop := endYields w7.heap.size t1 l n p c o s) (by decide) (by decide) 32 rfl (by decide) (fun _ _ _ _ h hb => endYields_on h hb) (i := 12) (s := 6) (by decide) rfl rfl ?_
        intro a w6 K hb hs hd hsame hfact hK
        exact alloc_op rfl 61 rfl (nzeros 5) zero_num (fun w' hb' hc' => hK _ _ hb' ⟨_, rfl, hb.size, hc'⟩)
    · intro f hf
      simp only [List.mem_cons, List.not_mem_nil, or_false] at hf
      rcases hf with rfl | rfl
      · intro a w8 hA
        have hb8 := hA.below
        have hB8 := hB7.trans (But.of_below hb8)
        have hZ8 := hZ7.on hb8
        have s4 := hA.same 4 (by decide)
        obtain ⟨gq, s6, hq1, hq2⟩ := hA.fact (12, 6) (by decide) (by kernel_rfl)
        have s18 : a.tmps.getD 18 undef = .tuple #[numVal c, .int .u64 (o : Int)] := hA.fact (9, 18) (by decide) (by kernel_rfl)
        have s28 : a.tmps.getD 28 undef = numVal c := hA.fact (10, 28) (by decide) (by kernel_rfl)
        obtain ⟨u, rfl⟩ := loose_frame32 a hA.size hA.defers
        change u 4 = .pointer (some ⟨go, 0, none⟩) at s4
        change u 6 = _ at s6
        change u 18 = _ at s18
        change u 28 = _ at s28
        rw [s4, s6, s18, s28]
        have hgq : go < gq := Nat.lt_of_lt_of_le hZ7.lt hq1
        have hgq2 : gr < gq := Nat.lt_of_lt_of_le hgrw hq1
        have hgq3 : g < gq := Nat.lt_of_lt_of_le hgw hq1
        clear hA hb8 hB7 hC7 hZ7 hS7 ht7 hs7 s4 s6 s18 s28 CL CR CP CC hq1 hgw hgrw
        refine wpAny_take (i := 11) (oi := ⟨some 29, _, _, _, _, _⟩) (v := ?_) rfl (by kernel_rfl) (by kernel_rfl) (by kernel_rfl) (fun _ _ _ h => h) (Or.inl ⟨by rfl, ?_⟩) ?_
        rotate_left
        · (intro w; go_simp; try with_reducible rfl)
        simp only [Act.put, List.setIfInBounds_toArray, List.set_cons_zero, List.set_cons_succ]
        refine wpAny_rest 13 rfl (by kernel_rfl) ?_
        simp only [List.drop_succ_cons, List.drop_zero]
        go_wp2_with (first
          | (refine vset_step rfl 61 (.tmp 6) (.tmp 28) rfl gq 5 (nzeros 5) (c.map ncell) rfl rfl hq2 rfl size_num (by rw [List.length_map, HCL.out]) (ncells_one c) ?_
             intro w9 hb9 hQ9 _
             have hB9 := hB8.new (by omega) hb9
             have hZ9 := hZ8.but hb9 (by omega)
             clear hB8 hZ8 hq2 hb9)
          | (refine vget_step rfl 61 (.tmp 6) rfl gq 5 (c.map ncell) 59 rfl hQ9 Tryd.underlying61 size_num (by rw [List.length_map, HCL.out]) ?_))
        refine (CO.out w9).mono ?_
        rintro e w10 ⟨rfl, hb10⟩
        have hB10 := hB9.trans (But.of_below hb10)
        have hZ10 := hZ9.on hb10
        clear hB9 hZ9 hQ9 hb10 CO
        go_wp2_with (first
          | (refine set_step rfl 45 _ _ rfl go 16 (List.replicate 16 (cellOf 0)) out rfl rfl hZ10 (by rw [List.length_replicate]) size_b16 HOL.out ?_
             intro w11 hb11 hC11 _))
        refine ret_hash Tryd.results29 go out rfl hC11 Tryd.underlying45 size_b16 HOL.out rfl ⟨rfl, hB10.new (by omega) hb11⟩
      · intro a w8 hA
        have hb8 := hA.below
        have hB8 := hB7.trans (But.of_below hb8)
        have hZ8 := hZ7.on hb8
        have s4 := hA.same 4 (by decide)
        obtain ⟨gq, s6, hq1, hq2⟩ := hA.fact (12, 6) (by decide) (by kernel_rfl)
        have s18 : a.tmps.getD 18 undef = .tuple #[numVal c, .int .u64 (o : Int)] := hA.fact (9, 18) (by decide) (by kernel_rfl)
        have s28 : a.tmps.getD 28 undef = numVal c := hA.fact (10, 28) (by decide) (by kernel_rfl)
        have s29 : a.tmps.getD 29 undef = .int .u64 (o : Int) := hA.fact (11, 29) (by decide) (by kernel_rfl)
        obtain ⟨u, rfl⟩ := loose_frame32 a hA.size hA.defers
        change u 4 = .pointer (some ⟨go, 0, none⟩) at s4
        change u 6 = _ at s6
        change u 18 = _ at s18
        change u 28 = _ at s28
        change u 29 = _ at s29
        rw [s4, s6, s18, s28, s29]
        have hgq : go < gq := Nat.lt_of_lt_of_le hZ7.lt hq1
        have hgq2 : gr < gq := Nat.lt_of_lt_of_le hgrw hq1
        have hgq3 : g < gq := Nat.lt_of_lt_of_le hgw hq1
        clear hA hb8 hB7 hC7 hZ7 hS7 ht7 hs7 s4 s6 s18 s28 CL CR CP CC hq1 hgw hgrw
        refine wpAny_rest 13 rfl (by kernel_rfl) ?_
        simp only [List.drop_succ_cons, List.drop_zero]
        go_wp2_with (first
          | (refine vset_step rfl 61 (.tmp 6) (.tmp 28) rfl gq 5 (nzeros 5) (c.map ncell) rfl rfl hq2 rfl size_num (by rw [List.length_map, HCL.out]) (ncells_one c) ?_
             intro w9 hb9 hQ9 _
             have hB9 := hB8.new (by omega) hb9
             have hZ9 := hZ8.but hb9 (by omega)
             clear hB8 hZ8 hq2 hb9)
          | (refine vget_step rfl 61 (.tmp 6) rfl gq 5 (c.map ncell) 59 rfl hQ9 Tryd.underlying61 size_num (by rw [List.length_map, HCL.out]) ?_))
        refine (CO.out w9).mono ?_
        rintro e w10 ⟨rfl, hb10⟩
        have hB10 := hB9.trans (But.of_below hb10)
        have hZ10 := hZ9.on hb10
        clear hB9 hZ9 hQ9 hb10 CO
        go_wp2_with (first
          | (refine set_step rfl 45 _ _ rfl go 16 (List.replicate 16 (cellOf 0)) out rfl rfl hZ10 (by rw [List.length_replicate]) size_b16 HOL.out ?_
             intro w11 hb11 hC11 _))
        refine ret_hash Tryd.results29 go out rfl hC11 Tryd.underlying45 size_b16 HOL.out rfl ⟨rfl, hB10.new (by omega) hb11⟩
    · intro p hp hl
      simp only [List.mem_cons, List.not_mem_nil, or_false] at hp
      rcases hp with rfl | rfl | rfl | rfl | rfl | rfl | rfl | rfl | rfl | rfl
      all_goals cases hl
  · obtain rfl : h = 0 := by omega
    obtain rfl := H0.out rfl
    clear CW H0
    obtain ⟨hx, hC⟩ : ∃ hx, CoderIs w g r t1 rest hx := ⟨0, hC⟩
    go_wp2_with (first
      | (refine take_step rfl 23 (.tmp 1) rfl key rfl ?_
         intro w1 hb1 hA1 hz
         have hB1 : But g w w1 := But.of_below hb1
         have hC1 := hC.on hb1
         have hs1 := hA1.lt
         have d1 := (show w1.cell? ⟨g, 26, none⟩ = some (.int .i64 ((0 : Nat) : Int)) from (World.cell?_of_block (w := w) (hb1.block g hg)).trans d0)
         clear hz hC d0)
      | (refine zero_step (o := ⟨some 4, _, _, _, _, _⟩) rfl 45 rfl 16 zero_b16 ?_
         intro w3 hb2 hZ3 hz
         have hB3 : But g w w3 := hB1.trans (But.of_below hb2)
         have hA3 := hA1.on hb2
         have hC3 := hC1.on hb2
         have d3 := (show w3.cell? ⟨g, 26, none⟩ = some (.int .i64 ((0 : Nat) : Int)) from (World.cell?_of_block (w := w1) (hb2.block g (by omega))).trans d1)
         have hs2 := hZ3.lt
         clear hz hb1 hb2 hB1 hA1 hC1 d1)
      | (refine zero_step (o := ⟨some 5, _, _, _, _, _⟩) rfl 64 rfl 17 zero_row17 ?_
         intro w4 hb4 hS4 hz
         have hB4 : But g w w4 := hB3.trans (But.of_below hb4)
         have hA4 := hA3.on hb4
         have hZ4 := hZ3.on hb4
         have hC4 := hC3.on hb4
         have hg1 := hZ3.lt
         have hg0 := hA3.lt
         clear hz hb4 hB3 hA3 hZ3 hC3 d3))
    generalize hgk : w.heap.size = gk at *
    generalize hgo : w1.heap.size = go at *
    generalize hgr : w3.heap.size = gr at *
    refine wp_region_tail 2 (by kernel_rfl) (by kernel_rfl) ?_
    intro w5 hw5
    have hB5 : But g w w5 := by rw [hw5]; exact hB4.drew
    have hC5 : CoderIs w5 g r t1 rest hx := by rw [hw5]; exact hC4
    have hA5 : Cells w5 gk (key.map cellOf) 23 := by rw [hw5]; exact hA4
    have hZ5 : Cells w5 go (List.replicate 16 (cellOf 0)) 45 := by rw [hw5]; exact hZ4
    have hS5 : Cells w5 gr (List.replicate 17 (cellOf 0)) 64 := by rw [hw5]; exact hS4
    clear hw5 hB4 hC4 hA4 hZ4 hS4
    simp only [List.take_succ_cons, List.take_zero, List.drop_succ_cons, List.drop_zero]
    repeat still_step
    refine wpStill_nil ?_
    have HTL : Hid ((key.drop 16).length = 16) := by show _ = _; rw [List.length_drop, HK.out]
    have hR5 : Row w5 w5.heap.size (some ⟨gk, 16, none⟩) (key.drop 16) := by
      have h := hA5.all.piece 16 16
      rw [Nat.zero_add, List.take_of_length_le (by rw [HTL.out]; omega)] at h
      exact h
    go_wp2_with (first
      | (refine copy_row rfl (.tmp 15) (.tmp 16) rfl gr 0 17 17 16 16 w5.heap.size 16 (some ⟨gk, 16, none⟩) (key.drop 16) rfl rfl HTL.out (by omega) hR5 (hS5.there 0 16 (by rw [List.length_replicate]; omega)) ?_
         intro w6 hw6
         have hus : (key.drop 16).take 17 = key.drop 16 := List.take_of_length_le (by rw [HTL.out]; omega)
         rw [hus] at hw6
         have hb6 : But gr w5 w6 := by rw [hw6]; exact (But.refl gr w5).setCells _ _
         have hS6 : Cells w6 gr (s.map cellOf) 64 := by
           have h := hS5.setCells (cs := (key.drop 16).map cellOf) (o := 0) (by rw [List.length_map, HTL.out, List.length_replicate]; omega)
           rw [← hw6] at h
           have e : splice (List.replicate 17 (cellOf 0)) 0 ((key.drop 16).map cellOf) = s.map cellOf := by
             rw [HS.out, splice, List.length_map, HTL.out, List.map_append]
             rfl
           rw [e] at h
           exact h
         have hB6 := hB5.new (by omega) hb6
         have hC6 := hC5.but hb6 (by omega)
         have hZ6 := hZ5.but hb6 (by omega)
         clear hw6 hus hb6 hB5 hC5 hA5 hZ5 hS5 hR5))
    have HSL : Hid (s.length = 17) := by show _ = _; rw [HS.out, List.length_append, HTL.out]; rfl
    refine wp_region_any (by kernel_rfl) ?_
    show wpAny _ _ _ _ _ _ _ w6.drew
    simp only [List.size_toArray, List.length_cons, List.length_nil, Nat.reduceAdd, Array.replicate_succ, Array.replicate_zero, List.push_toArray, List.nil_append, List.cons_append]
    have hB7 : But g w w6.drew := hB6.drew
    have hC7 : CoderIs w6.drew g r t1 rest hx := hC6
    have hZ7 : Cells w6.drew go (List.replicate 16 (cellOf 0)) 45 := hZ6
    have hS7 : Cells w6.drew gr (s.map cellOf) 64 := hS6
    clear hB6 hC6 hZ6 hS6
    generalize w6.drew = w7 at *
    refine wpAny_take (i := 0) (oi := ⟨some 19, _, _, _, _, _⟩) (v := ?_) rfl (by kernel_rfl) (by kernel_rfl) (by kernel_rfl) (fun _ _ _ h => h) (Or.inl ⟨by rfl, ?_⟩) ?_
    rotate_left
    · (intro w; go_simp; try with_reducible rfl)
    simp only [Act.put, List.setIfInBounds_toArray, List.set_cons_zero, List.set_cons_succ]
    refine wpAny_take (i := 1) (oi := ⟨some 20, _, _, _, _, _⟩) (v := ?_) rfl (by kernel_rfl) (by kernel_rfl) (by kernel_rfl) (fun _ _ _ h => h) (Or.inl ⟨by rfl, ?_⟩) ?_
    rotate_left
    · (intro w; go_simp; try with_reducible rfl)
    simp only [Act.put, List.setIfInBounds_toArray, List.set_cons_zero, List.set_cons_succ]
    refine wpAny_take (i := 2) (oi := ⟨some 21, _, _, _, _, _⟩) (v := ?_) rfl (by kernel_rfl) (by kernel_rfl) (by kernel_rfl) (fun _ _ _ h => h) (Or.inl ⟨by rfl, ?_⟩) ?_
    rotate_left
    · (intro w; go_simp; try with_reducible rfl)
    simp only [Act.put, List.setIfInBounds_toArray, List.set_cons_zero, List.set_cons_succ]
    have ht7 := hC7.2.2.2.range 5 5
    have hs7 := hS7.range 0 17
    rw [coder_t hC7.1 hC7.2.1] at ht7
    rw [List.drop_zero, List.take_of_length_le (by rw [List.length_map, HSL.out]; omega)] at hs7
    have hgw : g < w7.heap.size := hC7.2.2.2.lt
    have hgrw : gr < w7.heap.size := hS7.lt
    refine wpAny_loose (L := [3, 4, 5, 6, 7, 8, 9, 10, 11, 12]) (fins := [(#[true, true, true, true, true, true, true, true, true, true, true, false, true, false, false], 3), (#[true, true, true, true, true, true, true, true, true, true, true, true, true, false, false], 2)]) (LooseAt w7 _ [(3, 22), (4, 23), (5, 24), (6, 25), (7, 26), (8, 27), (9, 18), (10, 28), (11, 29), (12, 6)] (endYields w7.heap.size t1 l n p c o s)) ?_ ?_ 12 _ _ _ (by kernel_rfl) ⟨Below.refl _ _, rfl, rfl, fun _ _ => rfl, ?_⟩
    · intro i hi
      simp only [List.mem_cons, List.not_mem_nil, or_false] at hi
      rcases hi with rfl | rfl | rfl | rfl | rfl | rfl | rfl | rfl | rfl | rfl
      · refine loose_step (slots := [(3, 22), (4, 23), (5, 24), (6, 25), (7, 26), (8, 27), (9, 18), (10, 28), (11, 29), (12, 6)]) (prop := endYields w7.heap.size t1 l n p c o s) (by decide) (by decide) 32 rfl (by decide) (fun _ _ _ _ h hb => endYields_on h hb) (i := 3) (s := 22) (by decide) rfl rfl ?_
        intro a w6 K hb hs hd hsame hfact hK
        exact load_op rfl 61 (.tmp 21) rfl g 5 (hsame 21 (by decide)) (t1.map ncell) _ (range_on ht7 hgw hb) Tryd.underlying61 rfl (by rw [List.length_map, HT1.out]; exact size_num) (hK _ _ (Below.refl _ _) rfl)
      · refine loose_step (slots := [(3, 22), (4, 23), (5, 24), (6, 25), (7, 26), (8, 27), (9, 18), (10, 28), (11, 29), (12, 6)]) (prop := endYields w7.heap.size t1 l n p c o s) (by decide) (by decide) 32 rfl (by decide) (fun _ _ _ _ h hb => endYields_on h hb) (i := 4) (s := 23) (by decide) rfl rfl ?_
        intro a w6 K hb hs hd hsame hfact hK
        refine call_op rfl 47 [.tmp 22] _ rfl [numVal t1] ?_ (enters Tryd.func47 (by kernel_rfl) (by kernel_rfl)) (CL.out w6) ?_
        · simp only [List.map_cons, List.map_nil]
          rw [show a.eval (.tmp 22) = numVal t1 from hfact (3, 22) (by decide) (by kernel_rfl)]
        · rintro e w7 ⟨rfl, hb7⟩
          exact ⟨_, rfl, hK _ _ hb7 rfl⟩
      · refine loose_step (slots := [(3, 22), (4, 23), (5, 24), (6, 25), (7, 26), (8, 27), (9, 18), (10, 28), (11, 29), (12, 6)]) (prop := endYields w7.heap.size t1 l n p c o s) (by decide) (by decide) 32 rfl (by decide) (fun _ _ _ _ h hb => endYields_on h hb) (i := 5) (s := 24) (by decide) rfl rfl ?_
        intro a w6 K hb hs hd hsame hfact hK
        exact load_op rfl 64 (.tmp 5) rfl gr 0 (hsame 5 (by decide)) (s.map cellOf) _ (range_on hs7 hgrw hb) Tryd.underlying64 rfl (by rw [List.length_map, HSL.out]; exact size_row17) (hK _ _ (Below.refl _ _) rfl)
      · refine loose_step (slots := [(3, 22), (4, 23), (5, 24), (6, 25), (7, 26), (8, 27), (9, 18), (10, 28), (11, 29), (12, 6)]) (prop := endYields w7.heap.size t1 l n p c o s) (by decide) (by decide) 32 rfl (by decide) (fun _ _ _ _ h hb => endYields_on h hb) (i := 6) (s := 25) (by decide) rfl rfl ?_
        intro a w6 K hb hs hd hsame hfact hK
        refine call_op rfl 26 [.tmp 24] _ rfl [hashVal s] ?_ (enters Tryd.func26 (by kernel_rfl) (by kernel_rfl)) (CR.out w6) ?_
        · simp only [List.map_cons, List.map_nil]
          rw [show a.eval (.tmp 24) = hashVal s from hfact (5, 24) (by decide) (by kernel_rfl)]
        · rintro e w7 ⟨rfl, hb7⟩
          exact ⟨_, rfl, hK _ _ hb7 rfl⟩
      · refine loose_step (slots := [(3, 22), (4, 23), (5, 24), (6, 25), (7, 26), (8, 27), (9, 18), (10, 28), (11, 29), (12, 6)]) (prop := endYields w7.heap.size t1 l n p c o s) (by decide) (by decide) 32 rfl (by decide) (fun _ _ _ _ h hb => endYields_on h hb) (i := 7) (s := 26) (by decide) rfl rfl ?_
        intro a w6 K hb hs hd hsame hfact hK
        refine call_op rfl 46 [.tmp 23, .tmp 25] _ rfl [numVal l, numVal n] ?_ (enters Tryd.func46 (by kernel_rfl) (by kernel_rfl)) (CP.out w6) ?_
        · simp only [List.map_cons, List.map_nil]
          rw [show a.eval (.tmp 23) = numVal l from hfact (4, 23) (by decide) (by kernel_rfl), show a.eval (.tmp 25) = numVal n from hfact (6, 25) (by decide) (by kernel_rfl)]
        · rintro e w7 ⟨rfl, hb7⟩
          exact ⟨_, rfl, hK _ _ hb7 rfl⟩
      · refine loose_step (slots := [(3, 22), (4, 23), (5, 24), (6, 25), (7, 26), (8, 27), (9, 18), (10, 28), (11, 29), (12, 6)]) (prop := endYields w7.heap.size t1 l n p c o s) (by decide) (by decide) 32 rfl (by decide) (fun _ _ _ _ h hb => endYields_on h hb) (i := 8) (s := 27) (by decide) rfl rfl ?_
        intro a w6 K hb hs hd hsame hfact hK
        refine call_op rfl 45 [.tmp 26] _ rfl [numVal p] ?_ (enters Tryd.func45 (by kernel_rfl) (by kernel_rfl)) (CC.out w6) ?_
        · simp only [List.map_cons, List.map_nil]
          rw [show a.eval (.tmp 26) = numVal p from hfact (7, 26) (by decide) (by kernel_rfl)]
        · rintro e w7 ⟨rfl, hb7⟩
          exact ⟨_, rfl, hK _ _ hb7 rfl⟩
      · refine loose_step (slots := [(3, 22), (4, 23), (5, 24), (6, 25), (7, 26), (8, 27), (9, 18), (10, 28), (11, 29), (12, 6)]) (prop := endYields w7.heap.size t1 l n p c o s) (by decide) (by decide) 32 rfl (by decide) (fun _ _ _ _ h hb => endYields_on h hb) (i := 9) (s := 18) (by decide) rfl rfl ?_
        intro a w6 K hb hs hd hsame hfact hK
        exact move_op rfl (.tmp 27) rfl _ (hfact (8, 27) (by decide) (by kernel_rfl)) (hK _ _ (Below.refl _ _) rfl)
      · refine loose_step (slots := [(3, 22), (4, 23), (5, 24), (6, 25), (7, 26), (8, 27), (9, 18), (10, 28), (11, 29), (12, 6)]) (prop := endYields w7.heap.size t1 l n p c o s) (by decide) (by decide) 32 rfl (by decide) (fun _ _ _ _ h hb => endYields_on h hb) (i := 10) (s := 28) (by decide) rfl rfl ?_
        intro a w6 K hb hs hd hsame hfact hK
        exact extract_op rfl (.tmp 18) 0 rfl _ (hfact (9, 18) (by decide) (by kernel_rfl)) _ rfl (hK _ _ (Below.refl _ _) rfl)
      · refine loose_step (slots := [(3, 22), (4, 23), (5, 24), (6, 25), (7, 26), (8, 27), (9, 18), (10, 28), (11, 29), (12, 6)]) (prop := endYields w7.heap.size t1 l n p c o s) (by decide) (by decide) 32 rfl (by decide) (fun _ _ _ _ h hb => endYields_on h hb) (i := 11) (s := 29) (by decide) rfl rfl ?_
        intro a w6 K hb hs hd hsame hfact hK
        exact extract_op rfl (.tmp 18) 1 rfl _ (hfact (9, 18) (by decide) (by kernel_rfl)) _ rfl (hK _ _ (Below.refl _ _) rfl)
      · refine loose_step (slots := [(3, 22), (4, 23), (5, 24), (6, 25), (7, 26), (8, 27), (9, 18), (10, 28), (11, 29), (12, 6)]) (prop := endYields w7.heap.size t1 l n p c o s) (by decide) (by decide) 32 rfl (by decide) (fun _ _ _ _ h hb => endYields_on h hb) (i := 12) (s := 6) (by decide) rfl rfl ?_
        intro a w6 K hb hs hd hsame hfact hK
        exact alloc_op rfl 61 rfl (nzeros 5) zero_num (fun w' hb' hc' => hK _ _ hb' ⟨_, rfl, hb.size, hc'⟩)
    · intro f hf
      simp only [List.mem_cons, List.not_mem_nil, or_false] at hf
      rcases hf with rfl | rfl
      · intro a w8 hA
        have hb8 := hA.below
        have hB8 := hB7.trans (But.of_below hb8)
        have hZ8 := hZ7.on hb8
        have s4 := hA.same 4 (by decide)
        obtain ⟨gq, s6, hq1, hq2⟩ := hA.fact (12, 6) (by decide) (by kernel_rfl)
        have s18 : a.tmps.getD 18 undef = .tuple #[numVal c, .int .u64 (o : Int)] := hA.fact (9, 18) (by decide) (by kernel_rfl)
        have s28 : a.tmps.getD 28 undef = numVal c := hA.fact (10, 28) (by decide) (by kernel_rfl)
        obtain ⟨u, rfl⟩ := loose_frame32 a hA.size hA.defers
        change u 4 = .pointer (some ⟨go, 0, none⟩) at s4
        change u 6 = _ at s6
        change u 18 = _ at s18
        change u 28 = _ at s28
        rw [s4, s6, s18, s28]
        have hgq : go < gq := Nat.lt_of_lt_of_le hZ7.lt hq1
        have hgq2 : gr < gq := Nat.lt_of_lt_of_le hgrw hq1
        have hgq3 : g < gq := Nat.lt_of_lt_of_le hgw hq1
        clear hA hb8 hB7 hC7 hZ7 hS7 ht7 hs7 s4 s6 s18 s28 CL CR CP CC hq1 hgw hgrw
        refine wpAny_take (i := 11) (oi := ⟨some 29, _, _, _, _, _⟩) (v := ?_) rfl (by kernel_rfl) (by kernel_rfl) (by kernel_rfl) (fun _ _ _ h => h) (Or.inl ⟨by rfl, ?_⟩) ?_
        rotate_left
        · (intro w; go_simp; try with_reducible rfl)
        simp only [Act.put, List.setIfInBounds_toArray, List.set_cons_zero, List.set_cons_succ]
        refine wpAny_rest 13 rfl (by kernel_rfl) ?_
        simp only [List.drop_succ_cons, List.drop_zero]
        go_wp2_with (first
          | (refine vset_step rfl 61 (.tmp 6) (.tmp 28) rfl gq 5 (nzeros 5) (c.map ncell) rfl rfl hq2 rfl size_num (by rw [List.length_map, HCL.out]) (ncells_one c) ?_
             intro w9 hb9 hQ9 _
             have hB9 := hB8.new (by omega) hb9
             have hZ9 := hZ8.but hb9 (by omega)
             clear hB8 hZ8 hq2 hb9)
          | (refine vget_step rfl 61 (.tmp 6) rfl gq 5 (c.map ncell) 59 rfl hQ9 Tryd.underlying61 size_num (by rw [List.length_map, HCL.out]) ?_))
        refine (CO.out w9).mono ?_
        rintro e w10 ⟨rfl, hb10⟩
        have hB10 := hB9.trans (But.of_below hb10)
        have hZ10 := hZ9.on hb10
        clear hB9 hZ9 hQ9 hb10 CO
        go_wp2_with (first
          | (refine set_step rfl 45 _ _ rfl go 16 (List.replicate 16 (cellOf 0)) out rfl rfl hZ10 (by rw [List.length_replicate]) size_b16 HOL.out ?_
             intro w11 hb11 hC11 _))
        refine ret_hash Tryd.results29 go out rfl hC11 Tryd.underlying45 size_b16 HOL.out rfl ⟨rfl, hB10.new (by omega) hb11⟩
      · intro a w8 hA
        have hb8 := hA.below
        have hB8 := hB7.trans (But.of_below hb8)
        have hZ8 := hZ7.on hb8
        have s4 := hA.same 4 (by decide)
        obtain ⟨gq, s6, hq1, hq2⟩ := hA.fact (12, 6) (by decide) (by kernel_rfl)
        have s18 : a.tmps.getD 18 undef = .tuple #[numVal c, .int .u64 (o : Int)] := hA.fact (9, 18) (by decide) (by kernel_rfl)
        have s28 : a.tmps.getD 28 undef = numVal c := hA.fact (10, 28) (by decide) (by kernel_rfl)
        have s29 : a.tmps.getD 29 undef = .int .u64 (o : Int) := hA.fact (11, 29) (by decide) (by kernel_rfl)
        obtain ⟨u, rfl⟩ := loose_frame32 a hA.size hA.defers
        change u 4 = .pointer (some ⟨go, 0, none⟩) at s4
        change u 6 = _ at s6
        change u 18 = _ at s18
        change u 28 = _ at s28
        change u 29 = _ at s29
        rw [s4, s6, s18, s28, s29]
        have hgq : go < gq := Nat.lt_of_lt_of_le hZ7.lt hq1
        have hgq2 : gr < gq := Nat.lt_of_lt_of_le hgrw hq1
        have hgq3 : g < gq := Nat.lt_of_lt_of_le hgw hq1
        clear hA hb8 hB7 hC7 hZ7 hS7 ht7 hs7 s4 s6 s18 s28 CL CR CP CC hq1 hgw hgrw
        refine wpAny_rest 13 rfl (by kernel_rfl) ?_
        simp only [List.drop_succ_cons, List.drop_zero]
        go_wp2_with (first
          | (refine vset_step rfl 61 (.tmp 6) (.tmp 28) rfl gq 5 (nzeros 5) (c.map ncell) rfl rfl hq2 rfl size_num (by rw [List.length_map, HCL.out]) (ncells_one c) ?_
             intro w9 hb9 hQ9 _
             have hB9 := hB8.new (by omega) hb9
             have hZ9 := hZ8.but hb9 (by omega)
             clear hB8 hZ8 hq2 hb9)
          | (refine vget_step rfl 61 (.tmp 6) rfl gq 5 (c.map ncell) 59 rfl hQ9 Tryd.underlying61 size_num (by rw [List.length_map, HCL.out]) ?_))
        refine (CO.out w9).mono ?_
        rintro e w10 ⟨rfl, hb10⟩
        have hB10 := hB9.trans (But.of_below hb10)
        have hZ10 := hZ9.on hb10
        clear hB9 hZ9 hQ9 hb10 CO
        go_wp2_with (first
          | (refine set_step rfl 45 _ _ rfl go 16 (List.replicate 16 (cellOf 0)) out rfl rfl hZ10 (by rw [List.length_replicate]) size_b16 HOL.out ?_
             intro w11 hb11 hC11 _))
        refine ret_hash Tryd.results29 go out rfl hC11 Tryd.underlying45 size_b16 HOL.out rfl ⟨rfl, hB10.new (by omega) hb11⟩
    · intro p hp hl
      simp only [List.mem_cons, List.not_mem_nil, or_false] at hp
      rcases hp with rfl | rfl | rfl | rfl | rfl | rfl | rfl | rfl | rfl | rfl
      all_goals cases hl
theorem end_any (g : Nat) (bs key : List UInt8) (w : World) (hk : key.length = 32) (hC : CoderOf w g (polyR key) bs) :
    Calls Tryd.prog 29 #[.pointer (some ⟨g, 0, none⟩), hashVal key] w fun e w' => e = .returned (hashVal (polySum key bs)) ∧ But g w w' := by
  obtain ⟨t, rest, hI, hh⟩ := hC
  have hm := Nat.mod_lt bs.length (show 16 > 0 by omega)
  obtain ⟨t1, hF, hV, h0, hW⟩ : ∃ t1, Fine t1 ∧ lval t1 % polyP = polyH (polyR key) bs ((bs.length + 15) / 16) ∧ (bs.length % 16 = 0 → t1 = t) ∧ ∀ W, CoderIs W g (limbsOf (polyR key)) t rest (bs.length % 16) → 0 < bs.length % 16 → Calls Tryd.prog 44 #[.pointer (some ⟨g, 0, none⟩)] W fun e w' => e = .returned (.tuple #[]) ∧ But g W w' ∧ CoderIs w' g (limbsOf (polyR key)) t1 rest 0 := by
    rcases Nat.eq_zero_or_pos (bs.length % 16) with h | h
    · exact ⟨t, (took_even hh h).1, (took_even hh h).2, fun _ => rfl, fun _ _ h' => by omega⟩
    · exact ⟨_, (took_end hh (polyR_lt key hk) h).1, (took_end hh (polyR_lt key hk) h).2, fun h' => by omega, fun W hc _ => work_any g _ _ t rest W hc (by omega)⟩
  obtain ⟨e1, e2, e3⟩ := ended_val key bs t1 _ hk rfl hF hV
  rw [← e3]
  exact end_over g (bs.length % 16) (overN (plusN (leastN t1) (limbsOf (lev (key.drop 16 ++ [0]))))) _ t t1 (leastN t1) (limbsOf (lev (key.drop 16 ++ [0]))) (plusN (leastN t1) (limbsOf (lev (key.drop 16 ++ [0])))) (carN (plusN (leastN t1) (limbsOf (lev (key.drop 16 ++ [0]))))) rest (key.drop 16 ++ [0]) key _ w hI (by omega) hk (show key.drop 16 ++ [0] = key.drop 16 ++ [0] from rfl) hF.1 ((carN_length _).trans e1) (putL_length _ _) h0 hW (fun W => least_any t1 W hF.1) (fun W => read_any _ W (by rw [List.length_append, List.length_drop, hk]; rfl)) (fun W => plus_any _ _ W ((leastN_length _).trans hF.1) (limbsOf_length _)) (fun W => carried_any _ W e1) (fun W => written_any _ W ((carN_length _).trans e1) e2)
end Go.Proofs.YtdaieklimdhkoaaDoor
namespace Go.Proofs.YtdaieklimdhkoaaDoor
open Go.RowKit
theorem coder_new (r0 r1 r2 r3 r4 : Nat) (w : World) : (Instr.build 67 #[(0, numVal [r0, r1, r2, r3, r4])]).run Tryd.prog w = .ok (.agg (coderCells [r0, r1, r2, r3, r4] [0, 0, 0, 0, 0] (List.replicate 16 0) 0).toArray) w := by kernel_rfl
theorem zero_coder : ∀ w, (zeroValue 67).run Tryd.prog w = .ok (.agg (coderCells [0, 0, 0, 0, 0] [0, 0, 0, 0, 0] (List.replicate 16 0) 0).toArray) w := (zero_of_info (P := Tryd.prog) (t := 67) (v := .agg (coderCells [0, 0, 0, 0, 0] [0, 0, 0, 0, 0] (List.replicate 16 0) 0).toArray) (n := 27) (by kernel_rfl)).1
theorem size_coder : (Tryd.prog.info? 67).map (·.size) = some 27 := by kernel_rfl
theorem coder_one (r t : List Nat) (rest : List UInt8) (h : Nat) : (coderCells r t rest h).toArray.all (·.oneCell') = true := by
  refine all_oneCell_toArray fun v hv => ?_
  simp only [coderCells, List.mem_append, List.mem_map, List.mem_singleton] at hv
  rcases hv with ((⟨x, _, rfl⟩ | ⟨x, _, rfl⟩) | ⟨x, _, rfl⟩) | rfl <;> rfl
theorem limbs_five (x : Nat) : ∃ r0 r1 r2 r3 r4, limbsOf x = [r0, r1, r2, r3, r4] := ⟨_, _, _, _, _, rfl⟩
set_option maxRecDepth 100000 in
set_option maxHeartbeats 2000000 in
theorem onetimeSum_over (D : Option Addr) (d n R : Nat) (ps : List (List UInt8)) (key kc out : List UInt8) (w : World) (HK : Hid (key.length = 32)) (HL : Hid (ps.length = n)) (hP : Parts w w.heap.size D ps) (hn1 : n ≤ 1000000) (hR : R < 1361129467683753853853498429727072845824) (HOL : Hid (out.length = 16))
    (CC : Hid (∀ W, Calls Tryd.prog 27 #[hashVal key] W fun e w' => e = .returned (hashVal kc) ∧ Below W.heap.size W w'))
    (CR : Hid (∀ W, Calls Tryd.prog 26 #[hashVal kc] W fun e w' => e = .returned (numVal (limbsOf R)) ∧ Below W.heap.size W w'))
    (CE : Hid (∀ g W, CoderOf W g R ps.flatten → Calls Tryd.prog 29 #[.pointer (some ⟨g, 0, none⟩), hashVal key] W fun e w' => e = .returned (hashVal out) ∧ But g W w')) :
    Calls Tryd.prog 17 #[hashVal key, .slice D n d] w fun e w' => e = .returned (hashVal out) ∧ Below w.heap.size w w' := by
  go_enter Tryd.func17, Tryd.ntmps17
  go_wp2_with (first
    | (refine take_step rfl 23 (.tmp 0) rfl key rfl ?_
       intro w1 hB1 hA1 hz
       clear hz)
    | (refine zero_step (o := ⟨some 4, _, _, _, _, _⟩) rfl 45 rfl 16 zero_b16 ?_
       intro w2 hb2 hZ2 hz
       have hB2 := below_then hB1 hb2
       have hA2 := hA1.on hb2
       have hg1 := hA1.lt
       clear hB1 hA1 hb2 hz)
    | (refine get_step rfl 23 _ rfl w.heap.size 32 key 5 rfl hA2 Tryd.underlying23 size_key HK.out ?_))
  refine (CC.out w2).mono ?_
  rintro e w3 ⟨rfl, hb3⟩
  have hB3 := below_then hB2 hb3
  have hA3 := hA2.on hb3
  have hZ3 := hZ2.on hb3
  clear CC hB2 hA2 hZ2 hb3
  go_wp2_with fail
  refine (CR.out w3).mono ?_
  rintro e w4 ⟨rfl, hb4⟩
  have hB4 := below_then hB3 hb4
  have hA4 := hA3.on hb4
  have hZ4 := hZ3.on hb4
  have hg2 := hZ4.lt
  clear CR hB3 hA3 hZ3 hb4
  generalize hgz : w1.heap.size = gz at *
  have HC0 : Hid (∀ W, CoderIs W w4.heap.size (limbsOf R) [0, 0, 0, 0, 0] (List.replicate 16 0) 0 → CoderOf W w4.heap.size R (ps.take 0).flatten) := fun W hc => ⟨_, _, hc, took_none _ _⟩
  have HRL : Hid ((limbsOf R).length = 5) := limbsOf_length R
  obtain ⟨r0, r1, r2, r3, r4, he⟩ := limbs_five R
  rw [he] at HC0 HRL ⊢
  have HE := Lib.hid he
  clear he
  have HCN : Hid ((coderCells [r0, r1, r2, r3, r4] [0, 0, 0, 0, 0] (List.replicate 16 0) 0).length = 27) := coderCells_length rfl rfl rfl
  have HCO := Lib.hid (coder_one [r0, r1, r2, r3, r4] [0, 0, 0, 0, 0] (List.replicate 16 0) 0)
  have HCW := Lib.hid (coder_new r0 r1 r2 r3 r4)
  have HCI : Hid (∀ W, Cells W w4.heap.size (coderCells [r0, r1, r2, r3, r4] [0, 0, 0, 0, 0] (List.replicate 16 0) 0) 67 → CoderIs W w4.heap.size [r0, r1, r2, r3, r4] [0, 0, 0, 0, 0] (List.replicate 16 0) 0) := fun W hc => ⟨rfl, rfl, rfl, hc⟩
  generalize coderCells [r0, r1, r2, r3, r4] [0, 0, 0, 0, 0] (List.replicate 16 0) 0 = cc at *
  go_wp2_with (first
    | (refine build_step rfl 67 _ rfl [(0, numVal [r0, r1, r2, r3, r4])] rfl _ HCW.out ?_)
    | (refine vput_step rfl rfl 67 (.tmp 5) (.tmp 11) rfl rfl 27 _ cc rfl rfl zero_coder rfl size_coder HCN.out HCO.out ?_
       intro w5 hb5 hc5
       have hB5 := below_then hB4 hb5
       have hA5 := hA4.on hb5
       have hZ5 := hZ4.on hb5
       have hC5 := HC0.out _ (HCI.out _ hc5)
       have hg4 : w4.heap.size < w5.heap.size := hc5.lt
       clear hB4 hA4 hZ4 hb5 hc5))
  clear HC0 HRL HE HCN HCO HCW HCI
  generalize hgc : w4.heap.size = gc at *
  go_loopw [14] (fun i wr => ∃ k : Nat, k ≤ n ∧ i = .int .i64 k ∧ Below w.heap.size w wr ∧ Cells wr w.heap.size (key.map cellOf) 23 ∧ Cells wr gz (List.replicate 16 (cellOf 0)) 45 ∧ CoderOf wr gc R (ps.take k).flatten) (fun i _ => n - (intOf i).toNat)
  case atStart => exact ⟨0, Nat.zero_le _, rfl, hB5, hA5, hZ5, hC5⟩
  case round =>
    clear hB5 hA5 hZ5 hC5
    obtain ⟨k, hk, rfl, hB, hA, hZ, hC⟩ := hrel
    by_cases hlt : k < n
    · have hlt2 : k < ps.length := by rw [HL.out]; exact hlt
      obtain ⟨b, off, A, c, rfl, hc1, hr1, h1, h2, _⟩ := (hP.below hB).at k hlt2
      have HS := Lib.hid (show (ps.take (k + 1)).flatten = (ps.take k).flatten ++ ps[k] by rw [take_snoc ps k hlt2, List.flatten_append]; simp)
      generalize ps[k] = us at *
      generalize hul : us.length = m at *
      replace hul := Lib.hid hul
      clear CE
      go_wp2_with fail
      refine (cwrite_any gc R _ us A m c wr hR hC hul.out (hr1.more hB.size) (hr1.apart (by omega)) h1 h2).mono ?_
      rintro e w6 ⟨rfl, hb6, hC6⟩
      go_wp2_with fail
      go_roundw
      case rel => exact ⟨k + 1, by omega, by go_num, hB.trans (hb6.below (by omega) hB.size), hA.but hb6 (by omega), hZ.but hb6 (by omega), by rw [HS.out]; exact hC6⟩
      case measure => simp [intOf]; omega
    · have e : ps.take k = ps := List.take_of_length_le (by rw [HL.out]; omega)
      rw [e] at hC
      clear e
      have CE2 := Lib.hid (CE.out gc wr hC)
      clear CE
      go_wp2_with (first
        | (refine get_step rfl 23 _ rfl w.heap.size 32 key 5 rfl hA Tryd.underlying23 size_key HK.out ?_))
      refine CE2.out.mono ?_
      rintro e w7 ⟨rfl, hb7⟩
      have hB7 := hB.trans (hb7.below (by omega) hB.size)
      have hZ7 := hZ.but hb7 (by omega)
      clear CE2 hB hA hZ hC hb7
      go_wp2_with (first
        | (refine set_step rfl 45 _ _ rfl gz 16 (List.replicate 16 (cellOf 0)) out rfl rfl hZ7 (by rw [List.length_replicate]) size_b16 HOL.out ?_
           intro w8 hb8 hC8 _))
      refine ret_hash Tryd.results17 gz out rfl hC8 Tryd.underlying45 size_b16 HOL.out rfl ⟨rfl, hB7.trans (hb8.below (by omega) hB7.size)⟩
theorem onetimeSum_any (D : Option Addr) (d n : Nat) (ps : List (List UInt8)) (key : List UInt8) (w : World) (hk : key.length = 32) (hl : ps.length = n) (hP : Parts w w.heap.size D ps) (hn1 : n ≤ 1000000) :
    Calls Tryd.prog 17 #[hashVal key, .slice D n d] w fun e w' => e = .returned (hashVal (polySum key ps.flatten)) ∧ Below w.heap.size w w' :=
  onetimeSum_over D d n (polyR key) ps key (polyClamp (key.take 16) ++ [0]) _ w hk hl hP hn1 (polyR_lt key hk) (polySum_length _ _) (fun W => clamped_any key W hk)
    (fun W => by
      have h := read_any (polyClamp (key.take 16) ++ [0]) W (by rw [List.length_append, polyClamp_length, List.length_take, hk]; rfl)
      rw [polyR_row] at h
      exact h)
    (fun g W hc => end_any g _ key W hk hc)
end Go.Proofs.YtdaieklimdhkoaaDoor
namespace Go.Proofs.YtdaieklimdhkoaaDoor
open Go.RowKit
set_option maxRecDepth 100000 in
theorem right_any7 (T D : Option Addr) (tc tl d m : Nat) (key tag : List UInt8) (ps : List (List UInt8)) (w : World) (hk : key.length = 32) (htl : tag.length = tl) (ht : Row w w.heap.size T tag) (hpl : ps.length = m) (hP : Parts w w.heap.size D ps) (hn1 : m ≤ 1000000) (r : Bool) (hres : (polySum key ps.flatten == tag) = r) :
    Calls Tryd.prog 22 #[hashVal key, .slice T tl tc, .slice D m d] w fun e w' => e = .returned (.bool r) ∧ Below w.heap.size w w' := by
  have HK := Lib.hid hk
  have HTL := Lib.hid htl
  have HRES := Lib.hid hres
  have HSL := Lib.hid (polySum_length key ps.flatten)
  have CS := Lib.hid (fun W (hW : Below w.heap.size w W) => onetimeSum_any D d m ps key W hk hpl ((hP.below hW).more hW.size) hn1)
  clear htl hres hk
  go_enter Tryd.func22, Tryd.ntmps22
  generalize polySum key ps.flatten = ds at *
  go_wp2_with (first
    | (refine take_step rfl 23 (.tmp 0) rfl key rfl ?_
       intro w0 hB0 hA0 hz
       clear hz)
    | (refine get_step rfl 23 _ rfl w.heap.size 32 key 5 rfl hA0 Tryd.underlying23 size_key HK.out ?_))
  refine (CS.out w0 hB0).mono ?_
  rintro e w1 ⟨rfl, hb1⟩
  have hB1 := below_then hB0 hb1
  clear CS hA0 hB0 hb1
  go_wp2_with (first
    | (refine put_step rfl rfl 45 (.tmp 7) (.tmp 10) rfl rfl 16 ds rfl rfl zero_b16 size_b16 HSL.out ?_
       intro w2 hb2 hC2 _
       have hB2 := below_then hB1 hb2
       generalize w1.heap.size = gd at *
       clear hb2))
  by_cases h16 : tl = 16
  · subst h16
    refine (equal_n HSL.out HTL.out hC2.all (ht.on hB2) (by omega)).mono ?_
    rintro e w3 ⟨rfl, nk, rfl⟩
    rw [HRES.out]
    go_wp2
    go_ret
    exact ⟨rfl, below_drewN hB2 nk⟩
  · have hne : r = false := by
      rw [← HRES.out, beq_eq_false_iff_ne]
      rintro rfl
      exact h16 (HTL.out.symm.trans HSL.out)
    subst hne
    refine (equal_other _ _ _ _ _ _ _ (fun h => h16 h.symm)).mono ?_
    rintro e w3 ⟨rfl, rfl⟩
    go_wp2
    go_ret
    exact ⟨rfl, hB2⟩
theorem parts_of_lit {w : World} {g m d : Nat} {B : Option Addr} {b : List UInt8} (hC : Cells w g [.slice B m d] 24) (hbl : b.length = m) (hb : Row w w.heap.size B b) (hB : B = none → d = 0) (hd : m ≤ d) (hd2 : d ≤ maxLen) : Parts w w.heap.size (some ⟨g, 0, none⟩) [b] :=
  .inr ⟨g, 0, rfl, hC.lt, fun j us hu => by
    match j, hu with
    | 0, hu =>
      cases hu
      exact ⟨.slice B m d, by rw [Nat.zero_add]; exact hC.get rfl, B, d, by rw [hbl], hb, by omega, hd2, hB⟩
    | j + 1, hu => simp at hu⟩
/-- Sum of one part in a literal. -/
theorem onetimeSum_lit {w : World} {g m d : Nat} {B : Option Addr} {key b : List UInt8} (hk : key.length = 32) (hC : Cells w g [.slice B m d] 24) (hbl : b.length = m) (hb : Row w w.heap.size B b) (hB : B = none → d = 0) (hd : m ≤ d) (hd2 : d ≤ maxLen) :
    Calls Tryd.prog 17 #[hashVal key, .slice (some ⟨g, 0, none⟩) 1 1] w fun e w' => e = .returned (hashVal (polySum key b)) ∧ Below w.heap.size w w' := by
  have h := onetimeSum_any (some ⟨g, 0, none⟩) 1 1 [b] key w hk rfl (parts_of_lit hC hbl hb hB hd hd2) (by omega)
  simpa using h
/-- Right of one part in a literal. -/
theorem right_lit7 {w : World} {g m d tc tl : Nat} {B T : Option Addr} {key b tag : List UInt8} (hk : key.length = 32) (hC : Cells w g [.slice B m d] 24) (hbl : b.length = m) (hb : Row w w.heap.size B b) (hB : B = none → d = 0) (hd : m ≤ d) (hd2 : d ≤ maxLen) (htl : tag.length = tl) (ht : Row w w.heap.size T tag) (r : Bool) (hres : (polySum key b == tag) = r) :
    Calls Tryd.prog 22 #[hashVal key, .slice T tl tc, .slice (some ⟨g, 0, none⟩) 1 1] w fun e w' => e = .returned (.bool r) ∧ Below w.heap.size w w' :=
  right_any7 T (some ⟨g, 0, none⟩) tc tl 1 1 key tag [b] w hk htl ht rfl (parts_of_lit hC hbl hb hB hd hd2) (by omega) r (by simpa using hres)
/-- The example's key. -/
def aliveKey : List UInt8 := [1, 2, 3, 0, 0, 0, 0, 0, 0, 0, 0, 0, 0, 0, 0, 0, 7, 0, 0, 0, 0, 0, 0, 0, 0, 0, 0, 0, 0, 0, 0, 9]
def aliveKey0 : List UInt8 := [1, 2, 3, 0, 0, 0, 0, 0, 0, 0, 0, 0, 0, 0, 0, 0, 0, 0, 0, 0, 0, 0, 0, 0, 0, 0, 0, 0, 0, 0, 0, 0]
theorem aliveKey_set : ((aliveKey0.map cellOf).set 16 (.int .u8 7)).set 31 (.int .u8 9) = aliveKey.map cellOf := rfl
theorem build_aliveKey (w : World) : (Instr.build 23 #[(0, .int .u8 1), (1, .int .u8 2), (2, .int .u8 3)]).run Tryd.prog w = .ok (hashVal aliveKey0) w := by kernel_rfl
theorem alive_code : polySum aliveKey [] = [7, 0, 0, 0, 0, 0, 0, 0, 0, 0, 0, 0, 0, 0, 0, 9] := by decide +kernel
end Go.Proofs.YtdaieklimdhkoaaDoor
namespace Go.Proofs.YtdaieklimdhkoaaDoor
open Go.RowKit
/-- So many, or the next number above that is so many whole blocks. -/
def wholeN (n : Nat) : Nat := (n + 15) / 16 * 16
theorem wholeN_ge (n : Nat) : n ≤ wholeN n := by unfold wholeN; omega
theorem wholeN_lt (n : Nat) : wholeN n < n + 16 := by unfold wholeN; omega
/-- Bytes with noughts up to a whole 16. -/
def fillL (bs : List UInt8) : List UInt8 := bs ++ List.replicate (wholeN bs.length - bs.length) 0
theorem fillL_length (bs : List UInt8) : (fillL bs).length = wholeN bs.length := by
  have := wholeN_ge bs.length
  simp [fillL]; omega
/-- The row that a code is made of. -/
def codedL (a t : List UInt8) : List UInt8 := fillL a ++ fillL t ++ putL a.length 8 ++ putL t.length 8
theorem codedL_length (a t : List UInt8) : (codedL a t).length = wholeN a.length + wholeN t.length + 16 := by
  simp only [codedL, List.length_append, fillL_length, putL_length]
/-- The key of one nonce's code. -/
def onceL (key nonce : List UInt8) : List UInt8 := (chBlock key 0 nonce).take 32
theorem onceL_length (key nonce : List UInt8) : (onceL key nonce).length = 32 := by rw [onceL, List.length_take, chBlock_length]; rfl
def sealCode (key nonce a t : List UInt8) : List UInt8 := polySum (onceL key nonce) (codedL a t)
theorem sealCode_length (key nonce a t : List UInt8) : (sealCode key nonce a t).length = 16 := polySum_length _ _
/-- What bytes are sealed to. -/
def sealL (key nonce a p : List UInt8) : List UInt8 := chTurn key 1 nonce p ++ sealCode key nonce a (chTurn key 1 nonce p)
theorem sealL_length (key nonce a p : List UInt8) : (sealL key nonce a p).length = p.length + 16 := by rw [sealL, List.length_append, chTurn_length, sealCode_length]
theorem filledTo_more (F : List UInt8) (n k : Nat) (h : k ≤ n) : filledTo F n = filledTo (F ++ List.replicate k 0) (n - k) := by
  obtain ⟨m, rfl⟩ : ∃ m, n = k + m := ⟨n - k, by omega⟩
  rw [Nat.add_sub_cancel_left]
  simp [filledTo, List.append_assoc, ← List.replicate_append_replicate]
theorem filledTo_fill (F a : List UInt8) (n m : Nat) (h : n = wholeN a.length - a.length + m) : filledTo (F ++ a) n = filledTo (F ++ fillL a) m := by
  rw [filledTo_more (F ++ a) n (wholeN a.length - a.length) (by omega), List.append_assoc]
  subst h
  rw [Nat.add_sub_cancel_left]
  rfl
end Go.Proofs.YtdaieklimdhkoaaDoor
