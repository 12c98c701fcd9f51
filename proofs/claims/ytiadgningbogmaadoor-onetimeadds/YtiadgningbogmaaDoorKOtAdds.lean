/- OnetimeAdds: the walk. -/
import Derived.Test.YtiadgningbogmaaDoorOLaw
import Derived.IntWalk
namespace Go.Proofs.YtiadgningbogmaaDoor
open Go.RowKit
/-- What the operations of the statement's two calls yield. -/
def addsYields (B : Nat) (ka kd X Y : List UInt8) (T : Option Addr) (n c : Nat) (i : Nat) (v : Value) (w : World) : Prop := match i with
  | 0 => v = hashVal ka
  | 2 => ∃ g, v = .slice (some ⟨g, 0, none⟩) 1 1 ∧ Cells w g [.slice T n c] 25
  | 3 => v = hashVal X
  | 4 => v = hashVal kd
  | 6 => ∃ g, v = .slice (some ⟨g, 0, none⟩) 1 1 ∧ Cells w g [.slice T n c] 25
  | 7 => v = hashVal Y
  | 8 => ∃ g, v = .pointer (some ⟨g, 0, none⟩) ∧ B ≤ g ∧ Cells w g (List.replicate 16 (cellOf 0)) 27
  | 9 => ∃ g, v = .pointer (some ⟨g, 0, none⟩) ∧ B ≤ g ∧ Cells w g (List.replicate 16 (cellOf 0)) 27
  | _ => True
theorem addsYields_on {B : Nat} {ka kd X Y : List UInt8} {T : Option Addr} {n c i : Nat} {v : Value} {w w' : World} (h : addsYields B ka kd X Y T n c i v w) (hb : Below w.heap.size w w') : addsYields B ka kd X Y T n c i v w' := by
  unfold addsYields at h ⊢
  split
  all_goals first
    | exact h
    | trivial
    | (obtain ⟨gq, h1, h2, h3⟩ := h
       exact ⟨gq, h1, h2, h3.on hb⟩)
    | (obtain ⟨gq, h1, h3⟩ := h
       exact ⟨gq, h1, h3.on hb⟩)
theorem addsYields_lt {B : Nat} {ka kd X Y : List UInt8} {T : Option Addr} {n c : Nat} : ∀ i ∈ [8, 9], ∀ v w, addsYields B ka kd X Y T n c i v w → blk v < w.heap.size := by
  intro i hi v w h
  simp only [List.mem_cons, List.not_mem_nil, or_false] at hi
  rcases hi with rfl | rfl
  all_goals
    obtain ⟨g, rfl, _, h3⟩ := h
    exact h3.lt
set_option maxRecDepth 100000 in
set_option maxHeartbeats 2000000 in
theorem adds_over (T : Option Addr) (n c : Nat) (ka kb kd X Y : List UInt8) (O U Z V : Nat → Nat) (w : World) (HA : Hid (ka.length = 32)) (HB : Hid (kb.length = 32)) (HD : Hid (kd = ka.take 16 ++ kb.drop 16)) (HX : Hid (X.length = 16)) (HY : Hid (Y.length = 16)) (hn : n ≤ 300)
    (HO0 : Hid (O 0 = 0 ∧ U 0 = 0)) (HZ : Hid (∀ k, k < 16 → O k + ((X.getD k 0).toNat + (kd.getD (16 + k) 0).toNat) = Z k)) (HV : Hid (∀ k, k < 16 → U k + ((Y.getD k 0).toNat + (ka.getD (16 + k) 0).toNat) = V k)) (HM : Hid (∀ k, k < 16 → Z k % 256 = V k % 256)) (HN : Hid (∀ k, k < 16 → Z k / 256 = O (k + 1) ∧ V k / 256 = U (k + 1))) (HQ : Hid (∀ k, k < 16 → Z k < 1000000 ∧ V k < 1000000))
    (CA : Hid (∀ W, Calls Tryd.prog 6 #[] W fun e w' => e = .returned (.bool true) ∧ Below W.heap.size W w'))
    (CX : Hid (∀ g W, Below w.heap.size w W → Cells W g [.slice T n c] 25 → Calls Tryd.prog 8 #[hashVal ka, .slice (some ⟨g, 0, none⟩) 1 1] W fun e w' => e = .returned (hashVal X) ∧ Below W.heap.size W w'))
    (CY : Hid (∀ g W, Below w.heap.size w W → Cells W g [.slice T n c] 25 → Calls Tryd.prog 8 #[hashVal kd, .slice (some ⟨g, 0, none⟩) 1 1] W fun e w' => e = .returned (hashVal Y) ∧ Below W.heap.size W w')) :
    Calls Tryd.prog 5 #[hashVal ka, hashVal kb, .slice T n c] w fun e w' => e = .returned (.bool true) ∧ Below w.heap.size w w' := by
  go_enter Tryd.func5, Tryd.ntmps5
  have hnI : ¬ (300 : Int) < (n : Int) := by omega
  go_wp2_with (first
    | (refine take_step rfl 23 (.tmp 0) rfl ka rfl ?_
       intro w1 hB1 hA1 hz
       clear hz)
    | (refine take_step rfl 23 (.tmp 1) rfl kb rfl ?_
       intro w2 hb2 hD2 hz
       have hB2 := below_then hB1 hb2
       have hA2 := hA1.on hb2
       have hg1 := hA1.lt
       clear hB1 hA1 hb2 hz))
  generalize hgd : w1.heap.size = gd at *
  clear hgd
  refine (CA.out w2).mono ?_
  rintro e w3 ⟨rfl, hb3⟩
  have hB3 := below_then hB2 hb3
  have hA3 := hA2.on hb3
  have hD3 := hD2.on hb3
  clear CA hB2 hA2 hD2 hb3
  go_wp2_with fail
  refine wp_region_tail 2 (by kernel_rfl) (by kernel_rfl) ?_
  intro w4 hw4
  have hB4 : Below w.heap.size w w4 := by rw [hw4]; exact hB3.drew
  have hA4 : Cells w4 w.heap.size (ka.map cellOf) 23 := by rw [hw4]; exact hA3
  have hD4 : Cells w4 gd (kb.map cellOf) 23 := by rw [hw4]; exact hD3
  clear hw4 hB3 hA3 hD3
  simp only [List.take_succ_cons, List.take_zero, List.drop_succ_cons, List.drop_zero]
  repeat still_step
  refine wpStill_nil ?_
  have HTL : Hid ((ka.take 16).length = 16) := by show _ = _; rw [List.length_take, HA.out]; rfl
  have HDL : Hid (kd.length = 32) := by show _ = _; rw [HD.out, List.length_append, HTL.out, List.length_drop, HB.out]
  have hR4 := hA4.all.take 16
  go_wp2_with (first
    | (refine copy_row rfl (.tmp 17) (.tmp 18) rfl gd 0 16 32 16 32 w4.heap.size 16 (some ⟨w.heap.size, 0, none⟩) (ka.take 16) rfl rfl HTL.out (by omega) hR4 (hD4.there 0 16 (by rw [List.length_map, HB.out]; omega)) ?_
       intro w5 hw5
       have hus : (ka.take 16).take 16 = ka.take 16 := List.take_of_length_le (by rw [HTL.out]; omega)
       rw [hus] at hw5
       have hb5 : But gd w4 w5 := by rw [hw5]; exact (But.refl gd w4).setCells _ _
       have hD5 : Cells w5 gd (kd.map cellOf) 23 := by
         have h := hD4.setCells (cs := (ka.take 16).map cellOf) (o := 0) (by rw [List.length_map, HTL.out, List.length_map, HB.out]; omega)
         rw [← hw5] at h
         have e : splice (kb.map cellOf) 0 ((ka.take 16).map cellOf) = kd.map cellOf := by
           rw [HD.out, splice, List.length_map, HTL.out, List.map_append, List.map_drop]
           rfl
         rw [e] at h
         exact h
       have hB5 := hB4.trans (hb5.below (by omega) hB4.size)
       have hA5 := hA4.but hb5 (by omega)
       clear hw5 hus hb5 hB4 hA4 hD4 hR4))
  refine wp_region_any (by kernel_rfl) ?_
  show wpAny _ _ _ _ _ _ _ w5.drew
  simp only [List.size_toArray, List.length_cons, List.length_nil, Nat.reduceAdd, Array.replicate_succ, Array.replicate_zero, List.push_toArray, List.nil_append, List.cons_append]
  have hB6 : Below w.heap.size w w5.drew := hB5.drew
  have hA6 : Cells w5.drew w.heap.size (ka.map cellOf) 23 := hA5
  have hD6 : Cells w5.drew gd (kd.map cellOf) 23 := hD5
  clear hB5 hA5 hD5
  generalize w5.drew = w5 at *
  refine wpAny_take (i := 1) (oi := ⟨some 21, _, _, _, _, _⟩) (v := ?_) rfl (by kernel_rfl) (by kernel_rfl) (by kernel_rfl) (fun _ _ _ h => h) (Or.inl ⟨by rfl, ?_⟩) ?_
  rotate_left
  · (intro w; go_simp; try with_reducible rfl)
  simp only [Act.put, List.setIfInBounds_toArray, List.set_cons_zero, List.set_cons_succ]
  refine wpAny_take (i := 5) (oi := ⟨some 25, _, _, _, _, _⟩) (v := ?_) rfl (by kernel_rfl) (by kernel_rfl) (by kernel_rfl) (fun _ _ _ h => h) (Or.inl ⟨by rfl, ?_⟩) ?_
  rotate_left
  · (intro w; go_simp; try with_reducible rfl)
  simp only [Act.put, List.setIfInBounds_toArray, List.set_cons_zero, List.set_cons_succ]
  have ha6 := hA6.range 0 32
  have hd6 := hD6.range 0 32
  rw [List.drop_zero, List.take_of_length_le (by rw [List.length_map, HA.out]; omega)] at ha6
  rw [List.drop_zero, List.take_of_length_le (by rw [List.length_map, HDL.out]; omega)] at hd6
  have hgw : w.heap.size < w5.heap.size := hA6.lt
  have hgdw : gd < w5.heap.size := hD6.lt
  have CX6 := Lib.hid (fun g W (hW : Below w5.heap.size w5 W) => CX.out g W (below_then hB6 hW))
  have CY6 := Lib.hid (fun g W (hW : Below w5.heap.size w5 W) => CY.out g W (below_then hB6 hW))
  clear CX CY
  refine wpAny_of_until (S := fun w' => w'.rangeAt w.heap.size 0 (ka.map cellOf) ∧ w'.rangeAt gd 0 (kd.map cellOf)) (c := 11) _ _ _ _ ?_
  refine wpAnyU_take (i := 0) (oi := ⟨some 20, _, _, _, _, _⟩) (v := _) rfl (by decide) (by kernel_rfl) (by kernel_rfl) (by kernel_rfl) (by kernel_rfl) (fun _ _ _ h => h) (yieldsIf_load_mid (by rfl) _ _ rfl w.heap.size 0 rfl (ka.map cellOf) _ (fun _ h => h.1) Tryd.underlying23 rfl (by rw [List.length_map, HA.out]; exact size_key)) ⟨ha6, hd6⟩ ?_
  simp only [Act.put, List.setIfInBounds_toArray, List.set_cons_zero, List.set_cons_succ]
  refine wpAnyU_take (i := 4) (oi := ⟨some 24, _, _, _, _, _⟩) (v := _) rfl (by decide) (by kernel_rfl) (by kernel_rfl) (by kernel_rfl) (by kernel_rfl) (fun _ _ _ h => h) (yieldsIf_load_mid (by rfl) _ _ rfl gd 0 rfl (kd.map cellOf) _ (fun _ h => h.2) Tryd.underlying23 rfl (by rw [List.length_map, HDL.out]; exact size_key)) ⟨ha6, hd6⟩ ?_
  simp only [Act.put, List.setIfInBounds_toArray, List.set_cons_zero, List.set_cons_succ]
  refine wpAnyU_loose (L := [2, 3, 6, 7, 8, 9]) (fins := [(#[true, true, true, true, true, true, true, true, true, true, false, false], 2)]) (LooseAp w5 _ [(2, 22), (3, 23), (6, 26), (7, 27), (8, 7), (9, 8)] (addsYields w5.heap.size ka kd X Y T n c) [8, 9]) (fun _ _ _ h => ⟨range_on ha6 hgw h.base.below, range_on hd6 hgdw h.base.below⟩) (by decide) ?_ ?_ 8 _ _ _ (by kernel_rfl) ⟨⟨Below.refl _ _, rfl, rfl, fun _ _ => rfl, ?_⟩, ?_⟩
  · intro i hi
    simp only [List.mem_cons, List.not_mem_nil, or_false] at hi
    rcases hi with rfl | rfl | rfl | rfl | rfl | rfl
    · refine loose_step_ap (slots := [(2, 22), (3, 23), (6, 26), (7, 27), (8, 7), (9, 8)]) (prop := addsYields w5.heap.size ka kd X Y T n c) (fresh := [8, 9]) (by decide) (by decide) 65 rfl (by decide) (fun _ _ _ _ h hb => addsYields_on h hb) addsYields_lt (i := 2) (s := 22) (by decide) rfl rfl ?_
      intro a w6 K hb hs hd hsame hfact hK
      refine lit_op rfl 24 1 [(0, .tmp 21)] rfl [(0, .slice T n c)] ?_ 25 [.slice T n c] (fun w => by kernel_rfl) (fun w' hb' hc' => hK _ _ hb' ⟨_, rfl, hc'⟩ (fun h => absurd h (by decide)))
      simp only [List.map_cons, List.map_nil]
      rw [show a.eval (.tmp 21) = .slice T n c from hsame 21 (by decide)]
    · refine loose_step_ap (slots := [(2, 22), (3, 23), (6, 26), (7, 27), (8, 7), (9, 8)]) (prop := addsYields w5.heap.size ka kd X Y T n c) (fresh := [8, 9]) (by decide) (by decide) 65 rfl (by decide) (fun _ _ _ _ h hb => addsYields_on h hb) addsYields_lt (i := 3) (s := 23) (by decide) rfl rfl ?_
      intro a w6 K hb hs hd hsame hfact hK
      obtain ⟨gl, hl1, hl2⟩ := hfact (2, 22) (by decide) (by kernel_rfl)
      refine call_op rfl 8 [.tmp 20, .tmp 22] _ rfl [hashVal ka, .slice (some ⟨gl, 0, none⟩) 1 1] ?_ (enters Tryd.func8 (by kernel_rfl) (by kernel_rfl)) (CX6.out gl w6 hb hl2) ?_
      · simp only [List.map_cons, List.map_nil]
        rw [show a.eval (.tmp 20) = hashVal ka from hsame 20 (by decide), show a.eval (.tmp 22) = .slice (some ⟨gl, 0, none⟩) 1 1 from hl1]
      · rintro e w7 ⟨rfl, hb7⟩
        exact ⟨_, rfl, hK _ _ hb7 rfl (fun h => absurd h (by decide))⟩
    · refine loose_step_ap (slots := [(2, 22), (3, 23), (6, 26), (7, 27), (8, 7), (9, 8)]) (prop := addsYields w5.heap.size ka kd X Y T n c) (fresh := [8, 9]) (by decide) (by decide) 65 rfl (by decide) (fun _ _ _ _ h hb => addsYields_on h hb) addsYields_lt (i := 6) (s := 26) (by decide) rfl rfl ?_
      intro a w6 K hb hs hd hsame hfact hK
      refine lit_op rfl 24 1 [(0, .tmp 25)] rfl [(0, .slice T n c)] ?_ 25 [.slice T n c] (fun w => by kernel_rfl) (fun w' hb' hc' => hK _ _ hb' ⟨_, rfl, hc'⟩ (fun h => absurd h (by decide)))
      simp only [List.map_cons, List.map_nil]
      rw [show a.eval (.tmp 25) = .slice T n c from hsame 25 (by decide)]
    · refine loose_step_ap (slots := [(2, 22), (3, 23), (6, 26), (7, 27), (8, 7), (9, 8)]) (prop := addsYields w5.heap.size ka kd X Y T n c) (fresh := [8, 9]) (by decide) (by decide) 65 rfl (by decide) (fun _ _ _ _ h hb => addsYields_on h hb) addsYields_lt (i := 7) (s := 27) (by decide) rfl rfl ?_
      intro a w6 K hb hs hd hsame hfact hK
      obtain ⟨gl, hl1, hl2⟩ := hfact (6, 26) (by decide) (by kernel_rfl)
      refine call_op rfl 8 [.tmp 24, .tmp 26] _ rfl [hashVal kd, .slice (some ⟨gl, 0, none⟩) 1 1] ?_ (enters Tryd.func8 (by kernel_rfl) (by kernel_rfl)) (CY6.out gl w6 hb hl2) ?_
      · simp only [List.map_cons, List.map_nil]
        rw [show a.eval (.tmp 24) = hashVal kd from hsame 24 (by decide), show a.eval (.tmp 26) = .slice (some ⟨gl, 0, none⟩) 1 1 from hl1]
      · rintro e w7 ⟨rfl, hb7⟩
        exact ⟨_, rfl, hK _ _ hb7 rfl (fun h => absurd h (by decide))⟩
    · refine loose_step_ap (slots := [(2, 22), (3, 23), (6, 26), (7, 27), (8, 7), (9, 8)]) (prop := addsYields w5.heap.size ka kd X Y T n c) (fresh := [8, 9]) (by decide) (by decide) 65 rfl (by decide) (fun _ _ _ _ h hb => addsYields_on h hb) addsYields_lt (i := 8) (s := 7) (by decide) rfl rfl ?_
      intro a w6 K hb hs hd hsame hfact hK
      exact alloc_op rfl 27 rfl (List.replicate 16 (cellOf 0)) zero_b16 (fun w' hb' hc' => hK _ _ hb' ⟨_, rfl, hb.size, hc'⟩ (fun _ => Nat.le_refl _))
    · refine loose_step_ap (slots := [(2, 22), (3, 23), (6, 26), (7, 27), (8, 7), (9, 8)]) (prop := addsYields w5.heap.size ka kd X Y T n c) (fresh := [8, 9]) (by decide) (by decide) 65 rfl (by decide) (fun _ _ _ _ h hb => addsYields_on h hb) addsYields_lt (i := 9) (s := 8) (by decide) rfl rfl ?_
      intro a w6 K hb hs hd hsame hfact hK
      exact alloc_op rfl 27 rfl (List.replicate 16 (cellOf 0)) zero_b16 (fun w' hb' hc' => hK _ _ hb' ⟨_, rfl, hb.size, hc'⟩ (fun _ => Nat.le_refl _))
  · intro f hf a w6 hL
    obtain rfl := List.mem_singleton.1 hf
    have hA := hL.base
    have hb6 := hA.below
    have hB7 := below_then hB6 hb6
    have hA7 := hA6.on hb6
    have hD7 := hD6.on hb6
    have s3 := hA.same 3 (by decide)
    have s4 := hA.same 4 (by decide)
    obtain ⟨gx, s7, hx1, hx2⟩ := hA.fact (8, 7) (by decide) (by kernel_rfl)
    obtain ⟨gy, s8, hy1, hy2⟩ := hA.fact (9, 8) (by decide) (by kernel_rfl)
    have s23 : a.tmps.getD 23 undef = hashVal X := hA.fact (3, 23) (by decide) (by kernel_rfl)
    have s27 : a.tmps.getD 27 undef = hashVal Y := hA.fact (7, 27) (by decide) (by kernel_rfl)
    have hne := hL.apart (8, 7) (by decide) (9, 8) (by decide) (by decide) (by decide) (by decide) (by kernel_rfl) (by kernel_rfl)
    dsimp only at s7 s8 hne
    rw [s7, s8] at hne
    replace hne : gx ≠ gy := hne
    obtain ⟨u, rfl⟩ := loose_frame65 a hA.size hA.defers
    change u 3 = .pointer (some ⟨w.heap.size, 0, none⟩) at s3
    change u 4 = .pointer (some ⟨gd, 0, none⟩) at s4
    change u 7 = _ at s7
    change u 8 = _ at s8
    change u 23 = _ at s23
    change u 27 = _ at s27
    rw [s3, s4, s7, s8, s23, s27]
    have hgx : gd < gx := Nat.lt_of_lt_of_le hgdw hx1
    have hgy : gd < gy := Nat.lt_of_lt_of_le hgdw hy1
    clear hL hA hb6 hB6 hA6 hD6 ha6 hd6 s3 s4 s7 s8 s23 s27 CX6 CY6 hx1 hy1 hgw hgdw
    have HXS : Hid ((X.map cellOf).toArray.size = 16) := by show _ = _; rw [List.size_toArray, List.length_map, HX.out]
    have HYS : Hid ((Y.map cellOf).toArray.size = 16) := by show _ = _; rw [List.size_toArray, List.length_map, HY.out]
    refine wpAnyU_one (i := 10) (by kernel_rfl) (by decide) rfl (fun K hK => ?_)
    refine store_op rfl 27 (.tmp 7) (.tmp 23) rfl gx 0 (X.map cellOf).toArray rfl rfl (by rw [HXS.out]; exact hx2.there 0 16 (by rw [List.length_replicate]; omega)) (by rw [HXS.out]; exact size_b16) (all_oneCell_toArray (cells8_one X)) ?_
    have hb7 := (But.refl gx w6).setCells 0 (X.map cellOf)
    have hX7 := hx2.setCells (cs := X.map cellOf) (o := 0) (by rw [List.length_map, HX.out, List.length_replicate]; omega)
    rw [splice_all _ _ (by rw [List.length_map, HX.out, List.length_replicate])] at hX7
    change K _ (w6.setCells gx 0 (X.map cellOf))
    generalize w6.setCells gx 0 (X.map cellOf) = w7 at *
    have hB8 := hB7.trans (hb7.below (by omega) hB7.size)
    have hA8 := hA7.but hb7 (by omega)
    have hD8 := hD7.but hb7 (by omega)
    have hy8 := hy2.but hb7 hne.symm
    have ha8 := hA8.range 0 32
    have hd8 := hD8.range 0 32
    rw [List.drop_zero, List.take_of_length_le (by rw [List.length_map, HA.out]; omega)] at ha8
    rw [List.drop_zero, List.take_of_length_le (by rw [List.length_map, HDL.out]; omega)] at hd8
    refine hK.out _ _ ⟨ha8, hd8⟩ ?_
    clear hK K ha8 hd8 hb7 hB7 hA7 hD7 hx2 hy2
    refine wpAnyU_end (by kernel_rfl) rfl (fun K hK => ?_)
    refine store_op rfl 27 (.tmp 8) (.tmp 27) rfl gy 0 (Y.map cellOf).toArray rfl rfl (by rw [HYS.out]; exact hy8.there 0 16 (by rw [List.length_replicate]; omega)) (by rw [HYS.out]; exact size_b16) (all_oneCell_toArray (cells8_one Y)) ?_
    have hb8 := (But.refl gy w7).setCells 0 (Y.map cellOf)
    have hY9 := hy8.setCells (cs := Y.map cellOf) (o := 0) (by rw [List.length_map, HY.out, List.length_replicate]; omega)
    rw [splice_all _ _ (by rw [List.length_map, HY.out, List.length_replicate])] at hY9
    change K _ (w7.setCells gy 0 (Y.map cellOf))
    generalize w7.setCells gy 0 (Y.map cellOf) = w8 at *
    have hB9 := hB8.trans (hb8.below (by omega) hB8.size)
    have hA9 := hA8.but hb8 (by omega)
    have hD9 := hD8.but hb8 (by omega)
    have hX9 := hX7.but hb8 hne
    refine hK.out _ _ ?_
    clear hK K hb8 hB8 hA8 hD8 hX7 hy8 HXS HYS
    refine wpAny_done (by kernel_rfl) ?_ _
    simp only [Act.put]
    go_wp2_with fail
    go_loopw [9, 10, 28] (fun o u i wr => ∃ k : Nat, k ≤ 16 ∧ i = .int .i64 k ∧ o = .int .i64 (O k : Int) ∧ u = .int .i64 (U k : Int) ∧ Below w.heap.size w wr ∧ Cells wr w.heap.size (ka.map cellOf) 23 ∧ Cells wr gd (kd.map cellOf) 23 ∧ Cells wr gx (X.map cellOf) 27 ∧ Cells wr gy (Y.map cellOf) 27) (fun _ _ i _ => 16 - (intOf i).toNat)
    case atStart => exact ⟨0, Nat.zero_le _, rfl, by rw [HO0.out.1]; rfl, by rw [HO0.out.2]; rfl, hB9, hA9, hD9, hX9, hY9⟩
    case round =>
      clear hB9 hA9 hD9 hX9 hY9
      obtain ⟨k, hk, rfl, rfl, rfl, hB, hA, hD, hX, hY⟩ := hrel
      by_cases hlt : k < 16
      · have getd : ∀ (l : List UInt8) (j : Nat), j < l.length → (l.map cellOf)[j]? = some (cellOf (l.getD j 0)) := fun l j hj => by
          rw [List.getElem?_map, List.getD_eq_getElem?_getD, List.getElem?_eq_getElem hj]
          rfl
        have GX := Lib.hid (getd X k (by rw [HX.out]; exact hlt))
        have GY := Lib.hid (getd Y k (by rw [HY.out]; exact hlt))
        have GA := Lib.hid (getd ka (16 + k) (by rw [HA.out]; omega))
        have GD := Lib.hid (getd kd (16 + k) (by rw [HDL.out]; omega))
        clear getd
        have e1 := Lib.hid (HZ.out k hlt)
        have e2 := Lib.hid (HV.out k hlt)
        have e3 := Lib.hid (HM.out k hlt)
        have e4 := Lib.hid (HN.out k hlt)
        have e5 := HQ.out k hlt
        clear HZ HV HM HN HQ HO0
        generalize X.getD k 0 = xk at *
        generalize Y.getD k 0 = yk at *
        generalize ka.getD (16 + k) 0 = ak at *
        generalize kd.getD (16 + k) 0 = dk at *
        generalize Z k = zk at *
        generalize V k = vk at *
        obtain ⟨o1, u1, E4, E5⟩ : ∃ o1 u1, Hid (zk / 256 = o1 ∧ vk / 256 = u1) ∧ Hid (O (k + 1) = o1 ∧ U (k + 1) = u1) := ⟨_, _, e4.out, ⟨rfl, rfl⟩⟩
        clear e4
        generalize O k = ok at *
        generalize U k = uk at *
        have i1 : (0 : Int) ≤ (k : Int) := by omega
        have i2 : (k : Int) < 16 := by omega
        have i3 : (16 : Int) + (k : Int) < 32 := by omega
        have i4 : (0 : Int) ≤ (16 : Int) + (k : Int) := by omega
        have i5 : ((16 : Int) + (k : Int)).toNat = 16 + k := by omega
        have q1 := hX.get GX.out
        have q2 := hD.get GD.out
        have q3 := hY.get GY.out
        have q4 := hA.get GA.out
        have b1 := xk.toNat_lt
        have b2 := yk.toNat_lt
        have b3 := ak.toNat_lt
        have b4 := dk.toNat_lt
        have b5 : ok < 1000000 := by have := e1.out; omega
        have b6 : uk < 1000000 := by have := e2.out; omega
        have E1 := e1.out
        have E2 := e2.out
        have f1 : (ok : Int) + ((xk.toNat : Int) + (dk.toNat : Int)) = (zk : Int) := by omega
        have f2 : (uk : Int) + ((yk.toNat : Int) + (ak.toNat : Int)) = (vk : Int) := by omega
        have F3 : Hid (((zk : Int) % 256 == (vk : Int) % 256) = true) := by
          show _ = true
          have h := e3.out
          rw [beq_iff_eq]
          omega
        have j1 : IntKind.i64.wrap ((16 : Int) + (k : Int)) = 16 + (k : Int) := IntWalk.i64_in _ (by omega)
        have j2 : IntKind.i64.wrap (xk.toNat : Int) = (xk.toNat : Int) := IntWalk.i64_in _ (by omega)
        have j3 : IntKind.i64.wrap (dk.toNat : Int) = (dk.toNat : Int) := IntWalk.i64_in _ (by omega)
        have j4 : IntKind.i64.wrap (yk.toNat : Int) = (yk.toNat : Int) := IntWalk.i64_in _ (by omega)
        have j5 : IntKind.i64.wrap (ak.toNat : Int) = (ak.toNat : Int) := IntWalk.i64_in _ (by omega)
        have j6 : IntKind.i64.wrap ((xk.toNat : Int) + (dk.toNat : Int)) = (xk.toNat : Int) + (dk.toNat : Int) := IntWalk.i64_in _ (by omega)
        have j7 : IntKind.i64.wrap ((yk.toNat : Int) + (ak.toNat : Int)) = (yk.toNat : Int) + (ak.toNat : Int) := IntWalk.i64_in _ (by omega)
        have j8 : IntKind.i64.wrap ((ok : Int) + ((xk.toNat : Int) + (dk.toNat : Int))) = (zk : Int) := by rw [← f1]; exact IntWalk.i64_in _ (by omega)
        have j9 : IntKind.i64.wrap ((uk : Int) + ((yk.toNat : Int) + (ak.toNat : Int))) = (vk : Int) := by rw [← f2]; exact IntWalk.i64_in _ (by omega)
        clear E1 E2 f1 f2
        go_wp2_with fail
        refine wp_region_tail 12 (by kernel_rfl) (by kernel_rfl) ?_
        intro w9 hw9
        have hB9 : Below w.heap.size w w9 := by rw [hw9]; exact hB.drew
        have hA9 : Cells w9 w.heap.size (ka.map cellOf) 23 := by rw [hw9]; exact hA
        have hD9 : Cells w9 gd (kd.map cellOf) 23 := by rw [hw9]; exact hD
        have hX9 : Cells w9 gx (X.map cellOf) 27 := by rw [hw9]; exact hX
        have hY9 : Cells w9 gy (Y.map cellOf) 27 := by rw [hw9]; exact hY
        have r1 := hX9.get GX.out
        have r2 := hD9.get GD.out
        clear hw9 hB hA hD hX hY q1 q2 q3 q4
        simp only [List.take_succ_cons, List.take_zero, List.drop_succ_cons, List.drop_zero]
        repeat still_step
        refine wpStill_nil ?_
        go_wp2_with fail
        refine wp_region_tail 12 (by kernel_rfl) (by kernel_rfl) ?_
        intro w10 hw10
        have hB10 : Below w.heap.size w w10 := by rw [hw10]; exact hB9.drew
        have hA10 : Cells w10 w.heap.size (ka.map cellOf) 23 := by rw [hw10]; exact hA9
        have hD10 : Cells w10 gd (kd.map cellOf) 23 := by rw [hw10]; exact hD9
        have hX10 : Cells w10 gx (X.map cellOf) 27 := by rw [hw10]; exact hX9
        have hY10 : Cells w10 gy (Y.map cellOf) 27 := by rw [hw10]; exact hY9
        have r3 := hY10.get GY.out
        have r4 := hA10.get GA.out
        clear hw10 hB9 hA9 hD9 hX9 hY9 r1 r2
        simp only [List.take_succ_cons, List.take_zero, List.drop_succ_cons, List.drop_zero]
        repeat still_step
        refine wpStill_nil ?_
        have f3 := F3.out
        go_wp2_with fail
        go_roundw
        case rel => exact ⟨k + 1, by omega, by go_num, by rw [E5.out.1, ← E4.out.1, Int.natCast_ediv]; rfl, by rw [E5.out.2, ← E4.out.2, Int.natCast_ediv]; rfl, hB10, hA10, hD10, hX10, hY10⟩
        case measure => simp [intOf]; omega
      · obtain rfl : k = 16 := by omega
        go_wp2_with fail
        go_ret
        exact ⟨rfl, hB⟩
  · intro p hp hl
    simp only [List.mem_cons, List.not_mem_nil, or_false] at hp
    rcases hp with rfl | rfl | rfl | rfl | rfl | rfl
    all_goals cases hl
  · intro p hp q hq _ _ _ hl
    simp only [List.mem_cons, List.not_mem_nil, or_false] at hp
    rcases hp with rfl | rfl | rfl | rfl | rfl | rfl
    all_goals cases hl
set_option maxRecDepth 100000 in
theorem adds_long (T : Option Addr) (n c : Nat) (ka kb : List UInt8) (w : World) (hn : 300 < n) :
    Calls Tryd.prog 5 #[hashVal ka, hashVal kb, .slice T n c] w fun e w' => e = .returned (.bool true) ∧ Below w.heap.size w w' := by
  have CA := Lib.hid alive7
  go_enter Tryd.func5, Tryd.ntmps5
  have hnI : (300 : Int) < (n : Int) := by omega
  go_wp2_with (first
    | (refine take_step rfl 23 (.tmp 0) rfl ka rfl ?_
       intro w1 hB1 hA1 hz
       clear hz hA1)
    | (refine take_step rfl 23 (.tmp 1) rfl kb rfl ?_
       intro w2 hb2 hD2 hz
       have hB2 := below_then hB1 hb2
       clear hB1 hb2 hz hD2))
  refine (CA.out w2).mono ?_
  rintro e w3 ⟨rfl, hb3⟩
  have hB3 := below_then hB2 hb3
  clear CA hB2 hb3
  go_wp2_with fail
  go_ret
  exact ⟨rfl, hB3⟩
theorem nat_getD (l : List UInt8) (k : Nat) (hk : k < l.length) : (l.map (·.toNat))[k]'(by rw [List.length_map]; exact hk) = (l.getD k 0).toNat := by
  rw [List.getElem_map, List.getD_eq_getElem?_getD, List.getElem?_eq_getElem hk]
  rfl
/-- What is carried ahead of digit k, and the sum at it. -/
def carryAt (a b : List Nat) (k : Nat) : Nat := (dval (a.take k) + dval (b.take k)) / 256 ^ k
def sumAt (a b : List Nat) (k : Nat) : Nat := (dval (a.take (k + 1)) + dval (b.take (k + 1))) / 256 ^ k
theorem carryAt_lt (a b : List Nat) (la : ∀ x ∈ a, x < 256) (lb : ∀ x ∈ b, x < 256) (k : Nat) (ha : k ≤ a.length) (hb : k ≤ b.length) : carryAt a b k < 2 := by
  have h1 := dval_lt (a.take k) (fun x hx => la x (List.mem_of_mem_take hx))
  have h2 := dval_lt (b.take k) (fun x hx => lb x (List.mem_of_mem_take hx))
  rw [List.length_take, Nat.min_eq_left ha] at h1
  rw [List.length_take, Nat.min_eq_left hb] at h2
  unfold carryAt
  exact Nat.div_lt_of_lt_mul (by omega)
theorem adds_any (T : Option Addr) (n c : Nat) (ka kb text : List UInt8) (w : World) (ha : ka.length = 32) (hb : kb.length = 32) (hl : text.length = n) (hr : Row w w.heap.size T text) (hT : T = none → c = 0) (hc : n ≤ c) (hc2 : c ≤ maxLen) :
    Calls Tryd.prog 5 #[hashVal ka, hashVal kb, .slice T n c] w fun e w' => e = .returned (.bool true) ∧ Below w.heap.size w w' := by
  by_cases hn : n ≤ 300
  · have hd : (ka.take 16 ++ kb.drop 16).length = 32 := by rw [List.length_append, List.length_take, List.length_drop, ha, hb]; rfl
    have hR : polyR ka = polyR (ka.take 16 ++ kb.drop 16) := by
      unfold polyR
      rw [List.take_append_of_le_length (by rw [List.length_take, ha]; decide), List.take_take]
      rfl
    have hap := polySum_apart ka (ka.take 16 ++ kb.drop 16) text hR
    have lx := polySum_length ka text
    have ly := polySum_length (ka.take 16 ++ kb.drop 16) text
    have CX : Hid (∀ g W, Below w.heap.size w W → Cells W g [.slice T n c] 25 → Calls Tryd.prog 8 #[hashVal ka, .slice (some ⟨g, 0, none⟩) 1 1] W fun e w' => e = .returned (hashVal (polySum ka text)) ∧ Below W.heap.size W w') := fun g W hW hC => onetimeSum_lit ha hC hl (hr.on hW) hT hc hc2
    have CY : Hid (∀ g W, Below w.heap.size w W → Cells W g [.slice T n c] 25 → Calls Tryd.prog 8 #[hashVal (ka.take 16 ++ kb.drop 16), .slice (some ⟨g, 0, none⟩) 1 1] W fun e w' => e = .returned (hashVal (polySum (ka.take 16 ++ kb.drop 16) text)) ∧ Below W.heap.size W w') := fun g W hW hC => onetimeSum_lit hd hC hl (hr.on hW) hT hc hc2
    have HD : Hid (ka.take 16 ++ kb.drop 16 = ka.take 16 ++ kb.drop 16) := rfl
    revert HD hap lx ly CX CY hd
    generalize e1 : polySum ka text = X
    generalize e2 : ka.take 16 ++ kb.drop 16 = kd at *
    generalize polySum kd text = Y
    intro hd hap lx ly CX CY _
    have lX := lev_digits X
    have lY := lev_digits Y
    have lA := lev_digits (ka.drop 16)
    have lD := lev_digits (kd.drop 16)
    have nX : (X.map (·.toNat)).length = 16 := by rw [List.length_map, lx]
    have nY : (Y.map (·.toNat)).length = 16 := by rw [List.length_map, ly]
    have nA : ((ka.drop 16).map (·.toNat)).length = 16 := by rw [List.length_map, List.length_drop, ha]
    have nD : ((kd.drop 16).map (·.toNat)).length = 16 := by rw [List.length_map, List.length_drop, hd]
    have gd : ∀ (l : List UInt8) (k : Nat), (l.drop 16).getD k 0 = l.getD (16 + k) 0 := fun l k => by
      rw [List.getD_eq_getElem?_getD, List.getD_eq_getElem?_getD, List.getElem?_drop]
    have s1 : ∀ k, k < 16 → carryAt (X.map (·.toNat)) ((kd.drop 16).map (·.toNat)) k + ((X.getD k 0).toNat + (kd.getD (16 + k) 0).toNat) = sumAt (X.map (·.toNat)) ((kd.drop 16).map (·.toNat)) k := fun k hk => by
      have h := carry_step (X.map (·.toNat)) ((kd.drop 16).map (·.toNat)) k (by omega) (by omega)
      rw [nat_getD X k (by omega), nat_getD (kd.drop 16) k (by rw [List.length_drop]; omega), gd] at h
      exact h
    have s2 : ∀ k, k < 16 → carryAt (Y.map (·.toNat)) ((ka.drop 16).map (·.toNat)) k + ((Y.getD k 0).toNat + (ka.getD (16 + k) 0).toNat) = sumAt (Y.map (·.toNat)) ((ka.drop 16).map (·.toNat)) k := fun k hk => by
      have h := carry_step (Y.map (·.toNat)) ((ka.drop 16).map (·.toNat)) k (by omega) (by omega)
      rw [nat_getD Y k (by omega), nat_getD (ka.drop 16) k (by rw [List.length_drop]; omega), gd] at h
      exact h
    refine adds_over T n c ka kb kd X Y (carryAt (X.map (·.toNat)) ((kd.drop 16).map (·.toNat))) (carryAt (Y.map (·.toNat)) ((ka.drop 16).map (·.toNat))) (sumAt (X.map (·.toNat)) ((kd.drop 16).map (·.toNat))) (sumAt (Y.map (·.toNat)) ((ka.drop 16).map (·.toNat))) w ha hb e2.symm lx ly hn ⟨by simp [carryAt, dval], by simp [carryAt, dval]⟩ (Lib.hid s1) (Lib.hid s2) ?_ ?_ ?_ alive7 CX CY
    · intro k hk
      unfold sumAt
      rw [carry_digit _ _ k (by omega) (by omega) lX lD, carry_digit _ _ k (by omega) (by omega) lY lA]
      exact digit_same _ _ 16 k hk hap
    · intro k hk
      unfold sumAt carryAt
      exact ⟨carry_next _ _, carry_next _ _⟩
    · intro k hk
      have c1 := carryAt_lt _ _ lX lD k (by omega) (by omega)
      have c2 := carryAt_lt _ _ lY lA k (by omega) (by omega)
      have t1 := s1 k hk
      have t2 := s2 k hk
      have b1 := (X.getD k 0).toNat_lt
      have b2 := (Y.getD k 0).toNat_lt
      have b3 := (kd.getD (16 + k) 0).toNat_lt
      have b4 := (ka.getD (16 + k) 0).toNat_lt
      omega
  · exact adds_long T n c ka kb w (by omega)
end Go.Proofs.YtiadgningbogmaaDoor
