/- Part 10 of what the laws of this seat share: EWhole, ECoded, ESeal. -/
import Derived.IntWalk
import Derived.BigQuiet
import Derived.Deep.QuietTactic
import Derived.Test.YtdaieklimdhkoaaDoorPart9
namespace Go.Proofs.YtdaieklimdhkoaaDoor
open Go.RowKit
theorem wholeN_int (n : Nat) : ((n : Int) + 16 - 1) / 16 * 16 = ((wholeN n : Nat) : Int) := by unfold wholeN; omega
theorem whole_any (n : Nat) (w : World) (hn : n ≤ 1000000) : Calls Tryd.prog 30 #[.int .i64 (n : Int)] w fun e w' => e = .returned (.int .i64 ((wholeN n : Nat) : Int)) ∧ w = w' := by
  go_enter Tryd.func30, Tryd.ntmps30
  go_wp2
  go_ret
  refine ⟨?_, rfl⟩
  rw [← wholeN_int]
  rfl
theorem count_any (A : Option Addr) (n c : Nat) (w : World) (hn : n ≤ 1000000) : Calls Tryd.prog 31 #[.slice A n c] w fun e w' => e = .returned (.slice (some ⟨w.heap.size, 0, none⟩) 8 8) ∧ Below w.heap.size w w' ∧ Made w' w.heap.size (putL n 8) := by
  have hw : IntKind.u64.wrap (n : Int) = (n : Int) := by rw [IntKind.wrap_u64]; omega
  go_enter Tryd.func31, Tryd.ntmps31
  go_wp2_with fail
  refine (putLittle_in n 8 w (by omega) (Nat.le_refl _)).mono ?_
  rintro e w' ⟨rfl, hb, hM⟩
  go_wp2
  go_ret
  exact ⟨rfl, hb, hM⟩
set_option maxRecDepth 100000 in
set_option maxHeartbeats 1000000 in
theorem once_over (A : Option Addr) (d : Nat) (key bl once : List UInt8) (w : World) (HK : Hid (key.length = 32)) (HBL : Hid (bl.length = 64)) (HO : Hid (bl.take 32 = once)) (HOL : Hid (once.length = 32))
    (CB : Hid (∀ W, Below w.heap.size w W → Calls Tryd.prog 23 #[hashVal key, .int .u32 0, .slice A 12 d] W (GivesOk W bl 64))) :
    Calls Tryd.prog 15 #[hashVal key, .slice A 12 d] w fun e w' => e = .returned (.tuple #[hashVal once, .nilIface]) ∧ Below w.heap.size w w' := by
  go_enter Tryd.func15, Tryd.ntmps15
  go_wp2_with (first
    | (refine take_step rfl 23 (.tmp 0) rfl key rfl ?_
       intro w1 hB1 hC1 hz1
       clear hz1)
    | (refine zero_step (o := ⟨some 4, _, _, _, _, _⟩) rfl 23 rfl 32 zero_key ?_
       intro w2 hb2 hZ2 hz2
       have hB2 := below_then hB1 hb2
       have hC2 := hC1.on hb2
       have hg1 := hC1.lt
       clear hB1 hC1 hb2 hz2)
    | (refine get_step rfl 23 (.tmp 2) rfl w.heap.size 32 key 5 rfl hC2 Tryd.underlying23 size_key HK.out ?_))
  generalize hgz : w1.heap.size = gz at *
  clear hgz
  refine (CB.out w2 hB2).mono ?_
  rintro e w3 ⟨B, c, rfl, hBn, hc1, hc2, r3, hb3⟩
  have hB3 := below_then hB2 hb3
  have hZ3 := hZ2.on hb3
  have hg2 := hZ3.lt
  clear CB hB2 hC2 hZ2 hb3
  go_wp2_with (first
    | (refine zero_step (o := ⟨some 8, _, _, _, _, _⟩) rfl 23 rfl 32 zero_key ?_
       intro w4 hb4 hY4 hz4
       have hB4 := below_then hB3 hb4
       have hZ4 := hZ3.on hb4
       have r4 := r3.on hb4
       have hg5 : w.heap.size ≤ w3.heap.size := hB3.size
       clear hz4 hB3 hZ3 hb4 r3)
    | (refine copy_row rfl (.tmp 19) (.tmp 20) rfl w3.heap.size 0 32 32 64 c w4.heap.size 32 B bl rfl rfl HBL.out (by omega) r4 (hY4.there 0 32 (by rw [List.length_replicate]; omega)) ?_
       intro w5 hw5
       rw [HO.out] at hw5
       have hb5 : But w3.heap.size w4 w5 := by rw [hw5]; exact (But.refl _ w4).setCells _ _
       have hY5 : Cells w5 w3.heap.size (once.map cellOf) 23 := by
         have h := hY4.setCells (cs := once.map cellOf) (o := 0) (by rw [List.length_map, HOL.out, List.length_replicate]; omega)
         rw [splice_all _ _ (by rw [List.length_map, HOL.out, List.length_replicate]), ← hw5] at h
         exact h
       have hB5 := hB4.trans (hb5.below hg5 hB4.size)
       have hZ5 := hZ4.but hb5 (by omega)
       clear hw5 hb5 hB4 hZ4 hY4 r4)
    | (refine get_step rfl 23 (.tmp 8) rfl w3.heap.size 32 once 5 rfl hY5 Tryd.underlying23 size_key HOL.out ?_)
    | (refine set_step rfl 23 (.tmp 4) (.tmp 22) rfl gz 32 (List.replicate 32 (cellOf 0)) once rfl rfl hZ5 (by rw [List.length_replicate]) size_key HOL.out ?_
       intro w6 hb6 hC6 _))
  refine vret2 Tryd.results15 gz (once.map cellOf) .nilIface rfl rfl hC6 Tryd.underlying23 size_key (by rw [List.length_map, HOL.out]) rfl ⟨rfl, hB5.trans (hb6.below (by omega) hB5.size)⟩
theorem once_any (A : Option Addr) (d : Nat) (key nonce : List UInt8) (w : World) (hk : key.length = 32) (hn : nonce.length = 12) (hr : Row w w.heap.size A nonce) (hA : A = none → d = 0) (hd : 12 ≤ d) (hd2 : d ≤ maxLen) :
    Calls Tryd.prog 15 #[hashVal key, .slice A 12 d] w fun e w' => e = .returned (.tuple #[hashVal (onceL key nonce), .nilIface]) ∧ Below w.heap.size w w' :=
  once_over A d key (chBlock key 0 nonce) (onceL key nonce) w hk (chBlock_length _ _ _) rfl (onceL_length _ _) (fun W hW => streamBlock_any A d key nonce 0 W hk hn (hr.on hW) hA hd hd2)
/-- A key of noughts. (Named, so that a walk leaves it whole.) -/
def key0 : List UInt8 := List.replicate 32 0
theorem build_key0 (w : World) : (Instr.build 23 #[]).run Tryd.prog w = .ok (hashVal key0) w := by kernel_rfl
set_option maxRecDepth 100000 in
set_option maxHeartbeats 1000000 in
theorem once_out (A : Option Addr) (d n : Nat) (key : List UInt8) (a : Addr) (w : World) (hk : key.length = 32) (hn : n ≠ 12) (hE : w.cell? ⟨3, 0, none⟩ = some (errAt a)) :
    Calls Tryd.prog 15 #[hashVal key, .slice A n d] w fun e w' => e = .returned (.tuple #[hashVal key0, errAt a]) ∧ Below w.heap.size w w' := by
  have HE := Lib.hid (fun W (hW : Below w.heap.size w W) => (hW.cell (block_lt_of_cell hE)).trans hE)
  have CB : Hid (∀ W, Below w.heap.size w W → Calls Tryd.prog 23 #[hashVal key, .int .u32 0, .slice A n d] W fun e w' => e = .returned (.tuple #[.slice none 0 0, errAt a]) ∧ Below W.heap.size W w') := fun W hW => streamBlock_out A d n key 0 (errAt a) W hn (HE.out W hW)
  have HK := Lib.hid hk
  have H0 : Hid (key0.length = 32) := rfl
  have HB := Lib.hid build_key0
  clear hE HE hk
  generalize key0 = k0 at *
  go_enter Tryd.func15, Tryd.ntmps15
  go_wp2_with (first
    | (refine take_step rfl 23 (.tmp 0) rfl key rfl ?_
       intro w1 hB1 hC1 hz1
       clear hz1)
    | (refine zero_step (o := ⟨some 4, _, _, _, _, _⟩) rfl 23 rfl 32 zero_key ?_
       intro w2 hb2 hZ2 hz2
       have hB2 := below_then hB1 hb2
       have hC2 := hC1.on hb2
       have hg1 := hC1.lt
       clear hB1 hC1 hb2 hz2)
    | (refine get_step rfl 23 (.tmp 2) rfl w.heap.size 32 key 5 rfl hC2 Tryd.underlying23 size_key HK.out ?_))
  generalize hgz : w1.heap.size = gz at *
  clear hgz
  refine (CB.out w2 hB2).mono ?_
  rintro e w3 ⟨rfl, hb3⟩
  have hB3 := below_then hB2 hb3
  have hZ3 := hZ2.on hb3
  clear CB hB2 hC2 hZ2 hb3
  go_wp2_with (first
    | (refine build_step rfl 23 _ rfl [] rfl _ HB.out ?_)
    | (refine set_step rfl 23 (.tmp 4) (.tmp 17) rfl gz 32 (List.replicate 32 (cellOf 0)) k0 rfl rfl hZ3 (by rw [List.length_replicate]) size_key H0.out ?_
       intro w6 hb6 hC6 _))
  refine vret2 Tryd.results15 gz (k0.map cellOf) (errAt a) rfl rfl hC6 Tryd.underlying23 size_key (by rw [List.length_map, H0.out]) rfl ⟨rfl, hB3.trans (hb6.below (by omega) hB3.size)⟩
end Go.Proofs.YtdaieklimdhkoaaDoor
namespace Go.Proofs.YtdaieklimdhkoaaDoor
open Go.RowKit
theorem Made.filled {w : World} {g n : Nat} (h : Made w g (List.replicate n 0)) : Cells w g (filledTo [] n) 5 := by
  unfold filledTo
  exact h
/-- The rows that the copies leave, one behind the other. -/
theorem coded_steps (aas ts : List UInt8) (la lt wa wt : Nat) (ha : aas.length = la) (ht : ts.length = lt) (hwa : wholeN la = wa) (hwt : wholeN lt = wt) :
    splice (filledTo [] (wa + wt + 16)) 0 (aas.map cellOf) = filledTo (fillL aas) (wt + 16) ∧ splice (filledTo (fillL aas) (wt + 16)) wa (ts.map cellOf) = filledTo (fillL aas ++ fillL ts) 16 ∧
    splice (filledTo (fillL aas ++ fillL ts) 16) (wa + wt) ((putL la 8).map cellOf) = filledTo (fillL aas ++ fillL ts ++ putL la 8) 8 ∧ splice (filledTo (fillL aas ++ fillL ts ++ putL la 8) 8) (wa + wt + 8) ((putL lt 8).map cellOf) = (codedL aas ts).map cellOf := by
  have g1 := wholeN_ge la
  have g2 := wholeN_ge lt
  have l1 : (fillL aas).length = wa := by rw [fillL_length, ha, hwa]
  have l2 : (fillL ts).length = wt := by rw [fillL_length, ht, hwt]
  refine ⟨?_, ?_, ?_, ?_⟩
  · rw [filledTo_put' [] aas _ 0 la (wa + wt + 16 - la) rfl ha rfl, filledTo_fill [] aas _ (wt + 16) (by rw [ha, hwa]; omega)]
    rfl
  · rw [filledTo_put' (fillL aas) ts _ wa lt (wt + 16 - lt) l1 ht rfl, filledTo_fill (fillL aas) ts _ 16 (by rw [ht, hwt]; omega)]
  · exact filledTo_put' _ _ 16 _ 8 8 (by rw [List.length_append, l1, l2]) (putL_length _ _) rfl
  · rw [filledTo_put' _ _ 8 (wa + wt + 8) 8 0 (by rw [List.length_append, List.length_append, l1, l2, putL_length]) (putL_length _ _) rfl, filledTo_zero, codedL, ha, ht]
set_option maxRecDepth 100000 in
set_option maxHeartbeats 1000000 in
theorem coded_over (A B : Option Addr) (la ca lt ct wa wt : Nat) (aas ts ua ut : List UInt8) (V1 V2 V3 V4 V5 : List Value) (w : World) (HA : Hid (aas.length = la)) (HT : Hid (ts.length = lt)) (hla : la ≤ 100000) (hlt : lt ≤ 100000) (ra : Row w w.heap.size A aas) (rt : Row w w.heap.size B ts)
    (h1 : la ≤ wa) (h2 : wa ≤ la + 15) (h3 : lt ≤ wt) (h4 : wt ≤ lt + 15) (HUA : Hid (ua.length = 8)) (HUT : Hid (ut.length = 8))
    (HV1 : Hid (∀ W g, Made W g (List.replicate (wa + wt + 16) 0) → Cells W g V1 5)) (HV2 : Hid (splice V1 0 (aas.map cellOf) = V2)) (HV3 : Hid (splice V2 wa (ts.map cellOf) = V3)) (HV4 : Hid (splice V3 (wa + wt) (ua.map cellOf) = V4)) (HV5 : Hid (splice V4 (wa + wt + 8) (ut.map cellOf) = V5))
    (HL : Hid (V1.length = wa + wt + 16 ∧ V2.length = wa + wt + 16 ∧ V3.length = wa + wt + 16 ∧ V4.length = wa + wt + 16))
    (CW1 : Hid (∀ W, Calls Tryd.prog 30 #[.int .i64 (la : Int)] W fun e w' => e = .returned (.int .i64 (wa : Int)) ∧ W = w'))
    (CW2 : Hid (∀ W, Calls Tryd.prog 30 #[.int .i64 (lt : Int)] W fun e w' => e = .returned (.int .i64 (wt : Int)) ∧ W = w'))
    (CA : Hid (∀ W, Calls Tryd.prog 31 #[.slice A la ca] W fun e w' => e = .returned (.slice (some ⟨W.heap.size, 0, none⟩) 8 8) ∧ Below W.heap.size W w' ∧ Made w' W.heap.size ua))
    (CT : Hid (∀ W, Calls Tryd.prog 31 #[.slice B lt ct] W fun e w' => e = .returned (.slice (some ⟨W.heap.size, 0, none⟩) 8 8) ∧ Below W.heap.size W w' ∧ Made w' W.heap.size ut)) :
    Calls Tryd.prog 18 #[.slice A la ca, .slice B lt ct] w fun e w' => e = .returned (.slice (some ⟨w.heap.size, 0, none⟩) (wa + wt + 16) (wa + wt + 16)) ∧ Below w.heap.size w w' ∧ Cells w' w.heap.size V5 5 := by
  go_enter Tryd.func18, Tryd.ntmps18
  go_wp2_with fail
  refine (CW1.out w).mono ?_
  rintro e w' ⟨rfl, rfl⟩
  clear CW1
  go_wp2_with fail
  refine (CW2.out w).mono ?_
  rintro e w' ⟨rfl, rfl⟩
  clear CW2
  go_wp2_with (first
    | (refine make_step rfl (.tmp 17) (.tmp 17) rfl (wa + wt + 16) (wa + wt + 16) rfl rfl (Nat.le_refl _) (by omega) ?_
       intro w1 hB1 hM1 _
       have hV1 := HV1.out _ _ hM1
       clear hM1)
    | (refine copy_row rfl (.tmp 19) (.tmp 20) rfl w.heap.size 0 (wa + wt + 16) (wa + wt + 16) la ca w1.heap.size la A aas rfl rfl HA.out (by omega) (ra.on hB1) (hV1.there 0 la (by rw [HL.out.1]; omega)) ?_
       intro w2 hw2
       rw [List.take_of_length_le (by rw [HA.out]; omega)] at hw2
       have hB2 : Below w.heap.size w w2 := by rw [hw2]; exact below_setCells hB1 (Nat.le_refl _) _ _
       have hV2 : Cells w2 w.heap.size V2 5 := by
         have h := hV1.setCells (cs := aas.map cellOf) (o := 0) (by rw [List.length_map, HA.out, HL.out.1]; omega)
         rw [HV2.out, ← hw2] at h
         exact h
       clear hw2 hB1 hV1)
    | (refine cut_from rfl (.tmp 22) (.tmp 23) rfl (some ⟨w.heap.size, 0, none⟩) (wa + wt + 16) (wa + wt + 16) wa rfl rfl (by omega) ?_
       rw [cutA_some _ _ _ _ (by omega), Nat.zero_add])
    | (refine copy_row rfl (.tmp 24) (.tmp 25) rfl w.heap.size wa (wa + wt + 16 - wa) (wa + wt + 16 - wa) lt ct w2.heap.size lt B ts rfl rfl HT.out (by omega) (rt.on hB2) (hV2.there wa lt (by rw [HL.out.2.1]; omega)) ?_
       intro w3 hw3
       rw [List.take_of_length_le (by rw [HT.out]; omega)] at hw3
       have hB3 : Below w.heap.size w w3 := by rw [hw3]; exact below_setCells hB2 (Nat.le_refl _) _ _
       have hV3 : Cells w3 w.heap.size V3 5 := by
         have h := hV2.setCells (cs := ts.map cellOf) (o := wa) (by rw [List.length_map, HT.out, HL.out.2.1]; omega)
         rw [HV3.out, ← hw3] at h
         exact h
       clear hw3 hB2 hV2))
  simp only [Act.put, List.setIfInBounds_toArray, List.set_cons_zero, List.set_cons_succ]
  have hs : ∀ W : World, (Instr.slice 24 (.slice (some ⟨w.heap.size, 0, none⟩) (wa + wt + 16) (wa + wt + 16)) (some (.int .i64 ((wa : Int) + (wt : Int)))) none none).run Tryd.prog W = .ok (.slice (some ⟨w.heap.size, wa + wt, none⟩) 16 16) W := fun W => by
    have h := slice_from (some ⟨w.heap.size, 0, none⟩) (wa + wt + 16) (wa + wt + 16) (wa + wt) (by omega) W
    rw [cutA_some _ _ _ _ (by omega), Nat.zero_add, Nat.add_sub_cancel_left] at h
    exact h
  refine wp_region_any (by kernel_rfl) ?_
  show wpAny _ _ _ _ _ _ _ w3.drew
  simp only [List.size_toArray, List.length_cons, List.length_nil, Nat.reduceAdd, Array.replicate_succ, Array.replicate_zero, List.push_toArray, List.nil_append, List.cons_append]
  refine wpAny_take (i := 0) (oi := ⟨some 27, _, _, _, _, _⟩) (v := ?_) rfl (by kernel_rfl) (by kernel_rfl) (by kernel_rfl) (fun _ _ _ h => h) (Or.inl ⟨by rfl, ?_⟩) ?_
  rotate_left
  · (intro w; go_simp; try with_reducible rfl)
  simp only [Act.put, List.setIfInBounds_toArray, List.set_cons_zero, List.set_cons_succ]
  refine wpAny_take (i := 1) (oi := ⟨some 28, _, _, _, _, _⟩) (v := ?_) rfl (by kernel_rfl) (by kernel_rfl) (by kernel_rfl) (fun _ _ _ h => h) (Or.inl ⟨by rfl, ?_⟩) ?_
  rotate_left
  · (intro w; go_simp; try with_reducible rfl)
  simp only [Act.put, List.setIfInBounds_toArray, List.set_cons_zero, List.set_cons_succ]
  refine wpAny_take (i := 2) (oi := ⟨some 29, _, _, _, _, _⟩) (v := .slice (some ⟨w.heap.size, wa + wt, none⟩) 16 16) rfl (by kernel_rfl) (by kernel_rfl) (by kernel_rfl) (fun _ _ _ h => h) (Or.inl ⟨by rfl, ?_⟩) ?_
  · (intro w; go_simp; try with_reducible rfl)
  simp only [Act.put, List.setIfInBounds_toArray, List.set_cons_zero, List.set_cons_succ]
  refine wpAny_take (i := 3) (oi := ⟨some 30, _, _, _, _, _⟩) (v := ?_) rfl (by kernel_rfl) (by kernel_rfl) (by kernel_rfl) (fun _ _ _ h => h) (Or.inl ⟨by rfl, ?_⟩) ?_
  rotate_left
  · (intro w; go_simp; try with_reducible rfl)
  simp only [Act.put, List.setIfInBounds_toArray, List.set_cons_zero, List.set_cons_succ]
  refine wpAny_rest 4 rfl (by kernel_rfl) ?_
  simp only [List.drop_succ_cons, List.drop_zero]
  have hB4 : Below w.heap.size w w3.drew := hB3.drew
  have hV4 : Cells w3.drew w.heap.size V3 5 := hV3
  clear hB3 hV3 hs
  generalize w3.drew = w4 at *
  go_wp2_with fail
  refine (CA.out w4).mono ?_
  rintro e w5 ⟨rfl, hb5, hM5⟩
  have hB5 := below_then hB4 hb5
  have hV5 := hV4.on hb5
  clear CA hB4 hV4 hb5
  generalize w4.heap.size = g4 at *
  go_wp2_with (first
    | (refine copy_row rfl (.tmp 29) (.tmp 31) rfl w.heap.size (wa + wt) 16 16 8 8 w5.heap.size 8 (some ⟨g4, 0, none⟩) ua rfl rfl HUA.out (by omega) (hM5.row hM5.lt) (hV5.there (wa + wt) 8 (by rw [HL.out.2.2.1]; omega)) ?_
       intro w6 hw6
       rw [List.take_of_length_le (by rw [HUA.out]; omega)] at hw6
       have hB6 : Below w.heap.size w w6 := by rw [hw6]; exact below_setCells hB5 (Nat.le_refl _) _ _
       have hV6 : Cells w6 w.heap.size V4 5 := by
         have h := hV5.setCells (cs := ua.map cellOf) (o := wa + wt) (by rw [List.length_map, HUA.out, HL.out.2.2.1]; omega)
         rw [HV4.out, ← hw6] at h
         exact h
       clear hw6 hB5 hV5 hM5))
  simp only [Act.put, List.setIfInBounds_toArray, List.set_cons_zero, List.set_cons_succ]
  have hs : ∀ W : World, (Instr.slice 24 (.slice (some ⟨w.heap.size, 0, none⟩) (wa + wt + 16) (wa + wt + 16)) (some (.int .i64 ((wa : Int) + (wt : Int) + 8))) none none).run Tryd.prog W = .ok (.slice (some ⟨w.heap.size, wa + wt + 8, none⟩) 8 8) W := fun W => by
    have h := slice_from (some ⟨w.heap.size, 0, none⟩) (wa + wt + 16) (wa + wt + 16) (wa + wt + 8) (by omega) W
    rw [cutA_some _ _ _ _ (by omega), Nat.zero_add, show wa + wt + 16 - (wa + wt + 8) = 8 by omega] at h
    exact h
  have iw : IntKind.i64.wrap ((wa : Int) + (wt : Int) + 8) = (wa : Int) + (wt : Int) + 8 := IntWalk.i64_in _ (by omega)
  refine wp_region_any (by kernel_rfl) ?_
  show wpAny _ _ _ _ _ _ _ w6.drew
  simp only [List.size_toArray, List.length_cons, List.length_nil, Nat.reduceAdd, Array.replicate_succ, Array.replicate_zero, List.push_toArray, List.nil_append, List.cons_append]
  refine wpAny_take (i := 0) (oi := ⟨some 33, _, _, _, _, _⟩) (v := ?_) rfl (by kernel_rfl) (by kernel_rfl) (by kernel_rfl) (fun _ _ _ h => h) (Or.inl ⟨by rfl, ?_⟩) ?_
  rotate_left
  · (intro w; go_simp; try with_reducible rfl)
  simp only [Act.put, List.setIfInBounds_toArray, List.set_cons_zero, List.set_cons_succ]
  refine wpAny_take (i := 1) (oi := ⟨some 34, _, _, _, _, _⟩) (v := ?_) rfl (by kernel_rfl) (by kernel_rfl) (by kernel_rfl) (fun _ _ _ h => h) (Or.inl ⟨by rfl, ?_⟩) ?_
  rotate_left
  · (intro w; go_simp; try with_reducible rfl)
  simp only [Act.put, List.setIfInBounds_toArray, List.set_cons_zero, List.set_cons_succ]
  refine wpAny_take (i := 2) (oi := ⟨some 35, _, _, _, _, _⟩) (v := ?_) rfl (by kernel_rfl) (by kernel_rfl) (by kernel_rfl) (fun _ _ _ h => h) (Or.inl ⟨by rfl, ?_⟩) ?_
  rotate_left
  · (intro w; go_simp; try with_reducible rfl)
  simp only [Act.put, List.setIfInBounds_toArray, List.set_cons_zero, List.set_cons_succ]
  refine wpAny_take (i := 3) (oi := ⟨some 36, _, _, _, _, _⟩) (v := .slice (some ⟨w.heap.size, wa + wt + 8, none⟩) 8 8) rfl (by kernel_rfl) (by kernel_rfl) (by kernel_rfl) (fun _ _ _ h => h) (Or.inl ⟨by rfl, ?_⟩) ?_
  · (intro w; go_simp; try with_reducible rfl)
  simp only [Act.put, List.setIfInBounds_toArray, List.set_cons_zero, List.set_cons_succ]
  refine wpAny_take (i := 4) (oi := ⟨some 37, _, _, _, _, _⟩) (v := ?_) rfl (by kernel_rfl) (by kernel_rfl) (by kernel_rfl) (fun _ _ _ h => h) (Or.inl ⟨by rfl, ?_⟩) ?_
  rotate_left
  · (intro w; go_simp; try with_reducible rfl)
  simp only [Act.put, List.setIfInBounds_toArray, List.set_cons_zero, List.set_cons_succ]
  refine wpAny_rest 5 rfl (by kernel_rfl) ?_
  simp only [List.drop_succ_cons, List.drop_zero]
  have hB7 : Below w.heap.size w w6.drew := hB6.drew
  have hV7 : Cells w6.drew w.heap.size V4 5 := hV6
  clear hB6 hV6 hs iw
  generalize w6.drew = w7 at *
  go_wp2_with fail
  refine (CT.out w7).mono ?_
  rintro e w8 ⟨rfl, hb8, hM8⟩
  have hB8 := below_then hB7 hb8
  have hV8 := hV7.on hb8
  clear CT hB7 hV7 hb8
  generalize w7.heap.size = g7 at *
  go_wp2_with (first
    | (refine copy_row rfl (.tmp 36) (.tmp 38) rfl w.heap.size (wa + wt + 8) 8 8 8 8 w8.heap.size 8 (some ⟨g7, 0, none⟩) ut rfl rfl HUT.out (by omega) (hM8.row hM8.lt) (hV8.there (wa + wt + 8) 8 (by rw [HL.out.2.2.2]; omega)) ?_
       intro w9 hw9
       rw [List.take_of_length_le (by rw [HUT.out]; omega)] at hw9
       have hB9 : Below w.heap.size w w9 := by rw [hw9]; exact below_setCells hB8 (Nat.le_refl _) _ _
       have hV9 : Cells w9 w.heap.size V5 5 := by
         have h := hV8.setCells (cs := ut.map cellOf) (o := wa + wt + 8) (by rw [List.length_map, HUT.out, HL.out.2.2.2]; omega)
         rw [HV5.out, ← hw9] at h
         exact h
       clear hw9 hB8 hV8 hM8))
  go_ret
  exact ⟨rfl, hB9, hV9⟩
theorem coded_any (A B : Option Addr) (la ca lt ct N : Nat) (aas ts : List UInt8) (w : World) (ha : aas.length = la) (ht : ts.length = lt) (hla : la ≤ 100000) (hlt : lt ≤ 100000) (ra : Row w w.heap.size A aas) (rt : Row w w.heap.size B ts) (hN : (codedL aas ts).length = N) :
    Calls Tryd.prog 18 #[.slice A la ca, .slice B lt ct] w (Gives w (codedL aas ts) N) := by
  have g1 := wholeN_ge la
  have g2 := wholeN_ge lt
  have g3 := wholeN_lt la
  have g4 := wholeN_lt lt
  obtain ⟨s1, s2, s3, s4⟩ := coded_steps aas ts la lt _ _ ha ht rfl rfl
  have l1 : (fillL aas).length = wholeN la := by rw [fillL_length, ha]
  have l2 : (fillL ts).length = wholeN lt := by rw [fillL_length, ht]
  rw [codedL_length, ha, ht] at hN
  have h := coded_over A B la ca lt ct (wholeN la) (wholeN lt) aas ts (putL la 8) (putL lt 8) _ _ _ _ _ w ha ht hla hlt ra rt g1 (by omega) g2 (by omega) (putL_length _ _) (putL_length _ _) (fun W g hM => hM.filled) s1 s2 s3 s4
    ⟨by rw [filledTo_length]; simp, by rw [filledTo_length, l1]; omega, by rw [filledTo_length, List.length_append, l1, l2], by rw [filledTo_length, List.length_append, List.length_append, l1, l2, putL_length]⟩
    (fun W => whole_any la W (by omega)) (fun W => whole_any lt W (by omega)) (fun W => count_any A la ca W (by omega)) (fun W => count_any B lt ct W (by omega))
  refine h.mono ?_
  rintro e w' ⟨rfl, hB, hC⟩
  rw [hN]
  exact ⟨_, _, rfl, (fun h => by cases h), Nat.le_refl _, by unfold maxLen; omega, hC.all, hB⟩
end Go.Proofs.YtdaieklimdhkoaaDoor
namespace Go.Proofs.YtdaieklimdhkoaaDoor
open Go.RowKit
/-- What a call answers that makes a new row of these bytes alone, and no error. -/
def GivesCells (w : World) (bs : List UInt8) (n : Nat) (e : Ending) (w' : World) : Prop :=
  ∃ g, e = .returned (.tuple #[.slice (some ⟨g, 0, none⟩) n n, .nilIface]) ∧ w.heap.size ≤ g ∧ Cells w' g (bs.map cellOf) 5 ∧ Below w.heap.size w w'
theorem GivesCells.ok {w : World} {bs : List UInt8} {n : Nat} {e : Ending} {w' : World} (hn : n ≤ 1000000) (h : GivesCells w bs n e w') : GivesOk w bs n e w' := by
  obtain ⟨g, rfl, _, hC, hB⟩ := h
  exact ⟨_, _, rfl, (fun h => by cases h), Nat.le_refl _, by unfold maxLen; omega, hC.all, hB⟩
/-- What the operations of 'code := onetime.Sum(..)' yield. -/
def sealYields (B : Nat) (once code cod : List UInt8) (N : Nat) (i : Nat) (v : Value) (w : World) : Prop := match i with
  | 0 => v = hashVal once
  | 3 => ∃ A c, v = .slice A N c ∧ (A = none → c = 0) ∧ N ≤ c ∧ c ≤ maxLen ∧ Row w w.heap.size A cod
  | 4 => ∃ g A c, v = .slice (some ⟨g, 0, none⟩) 1 1 ∧ Cells w g [.slice A N c] 24 ∧ (A = none → c = 0) ∧ N ≤ c ∧ c ≤ maxLen ∧ Row w w.heap.size A cod
  | 5 => v = hashVal code
  | 6 => ∃ g, v = .pointer (some ⟨g, 0, none⟩) ∧ B ≤ g ∧ Cells w g (List.replicate 16 (cellOf 0)) 45
  | _ => True
theorem sealYields_on {B : Nat} {once code cod : List UInt8} {N i : Nat} {v : Value} {w w' : World} (h : sealYields B once code cod N i v w) (hb : Below w.heap.size w w') : sealYields B once code cod N i v w' := by
  unfold sealYields at h ⊢
  split
  all_goals first
    | exact h
    | trivial
    | (obtain ⟨A, c, h1, h2, h3, h4, h5⟩ := h
       exact ⟨A, c, h1, h2, h3, h4, h5.on hb⟩)
    | (obtain ⟨g, A, c, h1, h2, h3, h4, h5, h6⟩ := h
       exact ⟨g, A, c, h1, h2.on hb, h3, h4, h5, h6.on hb⟩)
    | (obtain ⟨gq, h1, h2, h3⟩ := h
       exact ⟨gq, h1, h2, h3.on hb⟩)
set_option maxRecDepth 100000 in
set_option maxHeartbeats 2000000 in
theorem seal_over (A B D : Option Addr) (d la ca L c N : Nat) (key once tt code cod out : List UInt8) (V1 V2 V3 : List Value) (w : World) (HK : Hid (key.length = 32)) (HO : Hid (once.length = 32)) (HTL : Hid (tt.length = L)) (HCL : Hid (code.length = 16)) (hla : la ≤ 16384) (hL : L ≤ 16384)
    (HV1 : Hid (∀ W g, Made W g (List.replicate (L + 16) 0) → Cells W g V1 5)) (HV2 : Hid (splice V1 0 (tt.map cellOf) = V2)) (HV3 : Hid (splice V2 L (code.map cellOf) = V3)) (HV4 : Hid (V3 = out.map cellOf)) (HL : Hid (V1.length = L + 16 ∧ V2.length = L + 16))
    (CO : Hid (∀ W, Below w.heap.size w W → Calls Tryd.prog 15 #[hashVal key, .slice A 12 d] W fun e w' => e = .returned (.tuple #[hashVal once, .nilIface]) ∧ Below W.heap.size W w'))
    (CT : Hid (∀ W, Below w.heap.size w W → Calls Tryd.prog 16 #[hashVal key, .int .u32 1, .slice A 12 d, .slice D L c] W (GivesOk W tt L)))
    (CC : Hid (∀ E ce W, Below w.heap.size w W → Row W W.heap.size E tt → Calls Tryd.prog 18 #[.slice B la ca, .slice E L ce] W (Gives W cod N)))
    (CS : Hid (∀ g E ce W, Cells W g [.slice E N ce] 24 → Row W W.heap.size E cod → (E = none → ce = 0) → N ≤ ce → ce ≤ maxLen → Calls Tryd.prog 17 #[hashVal once, .slice (some ⟨g, 0, none⟩) 1 1] W fun e w' => e = .returned (hashVal code) ∧ Below W.heap.size W w')) :
    Calls Tryd.prog 9 #[hashVal key, .slice A 12 d, .slice B la ca, .slice D L c] w (GivesCells w out (L + 16)) := by
  have i1 : ¬ (16384 : Int) < (la : Int) := by omega
  have i2 : ¬ (16384 : Int) < (L : Int) := by omega
  go_enter Tryd.func9, Tryd.ntmps9
  go_wp2_with (first
    | (refine take_step rfl 23 (.tmp 0) rfl key rfl ?_
       intro w1 hB1 hK1 hz1
       clear hz1)
    | (refine get_step rfl 23 (.tmp 4) rfl w.heap.size 32 key 5 rfl hK1 Tryd.underlying23 size_key HK.out ?_))
  refine (CO.out w1 hB1).mono ?_
  rintro e w2 ⟨rfl, hb2⟩
  have hB2 := below_then hB1 hb2
  have hK2 := hK1.on hb2
  clear CO hB1 hK1 hb2
  go_wp2_with (first
    | (refine put_step rfl rfl 23 (.tmp 10) (.tmp 19) rfl rfl 32 once rfl rfl zero_key size_key HO.out ?_
       intro w3 hb3 hO3 hz3
       have hB3 := below_then hB2 hb3
       have hK3 := hK2.on hb3
       have hg3 := hB2.size
       clear hz3 hB2 hK2 hb3)
    | (refine get_step rfl 23 (.tmp 4) rfl w.heap.size 32 key 5 rfl hK3 Tryd.underlying23 size_key HK.out ?_))
  generalize hgo : w2.heap.size = go at *
  clear hgo
  refine (CT.out w3 hB3).mono ?_
  rintro e w4 ⟨E, ce, rfl, hEn, hE1, hE2, r4, hb4⟩
  have hB4 := below_then hB3 hb4
  have hO4 := hO3.on hb4
  clear CT hB3 hK3 hO3 hb4
  go_wp2_with fail
  refine wp_region_any (by kernel_rfl) ?_
  show wpAny _ _ _ _ _ _ _ w4.drew
  simp only [List.size_toArray, List.length_cons, List.length_nil, Nat.reduceAdd, Array.replicate_succ, Array.replicate_zero, List.push_toArray, List.nil_append, List.cons_append]
  have hB5 : Below w.heap.size w w4.drew := hB4.drew
  have hO5 : Cells w4.drew go (once.map cellOf) 23 := hO4
  have r5 : Row w4.drew w4.drew.heap.size E tt := r4.on (Below.refl _ _).drew
  clear hB4 hO4 r4
  generalize w4.drew = w5 at *
  have ho5 := hO5.range 0 32
  rw [List.drop_zero, List.take_of_length_le (by rw [List.length_map, HO.out]; omega)] at ho5
  have how5 : go < w5.heap.size := hO5.lt
  refine wpAny_take (i := 1) (oi := ⟨some 44, _, _, _, _, _⟩) (v := ?_) rfl (by kernel_rfl) (by kernel_rfl) (by kernel_rfl) (fun _ _ _ h => h) (Or.inl ⟨by rfl, ?_⟩) ?_
  rotate_left
  · (intro w; go_simp; try with_reducible rfl)
  simp only [Act.put, List.setIfInBounds_toArray, List.set_cons_zero, List.set_cons_succ]
  refine wpAny_take (i := 2) (oi := ⟨some 45, _, _, _, _, _⟩) (v := ?_) rfl (by kernel_rfl) (by kernel_rfl) (by kernel_rfl) (fun _ _ _ h => h) (Or.inl ⟨by rfl, ?_⟩) ?_
  rotate_left
  · (intro w; go_simp; try with_reducible rfl)
  simp only [Act.put, List.setIfInBounds_toArray, List.set_cons_zero, List.set_cons_succ]
  refine wpAny_loose (L := [0, 3, 4, 5, 6]) (fins := [(#[true, true, true, true, true, true, true, false], 1)]) (LooseAt w5 _ [(0, 43), (3, 46), (4, 47), (5, 48), (6, 13)] (sealYields w5.heap.size once code cod N)) ?_ ?_ 6 _ _ _ (by kernel_rfl) ⟨Below.refl _ _, rfl, rfl, fun _ _ => rfl, ?_⟩
  rotate_left 2
  · intro p hp hl
    simp only [List.mem_cons, List.not_mem_nil, or_false] at hp
    rcases hp with rfl | rfl | rfl | rfl | rfl
    all_goals cases hl
  · intro i hi
    simp only [List.mem_cons, List.not_mem_nil, or_false] at hi
    rcases hi with rfl | rfl | rfl | rfl | rfl
    · refine loose_step (slots := [(0, 43), (3, 46), (4, 47), (5, 48), (6, 13)]) (prop := sealYields w5.heap.size once code cod N) (by decide) (by decide) 63 rfl (by decide) (fun _ _ _ _ h hb => sealYields_on h hb) (i := 0) (s := 43) (by decide) rfl rfl ?_
      intro a w6 K hb hs hd hsame hfact hK
      exact load_op rfl 23 (.tmp 10) rfl go 0 (hsame 10 (by decide)) (once.map cellOf) _ (range_on ho5 how5 hb) Tryd.underlying23 rfl (by rw [List.length_map, HO.out]; exact size_key) (hK _ _ (Below.refl _ _) rfl)
    · refine loose_step (slots := [(0, 43), (3, 46), (4, 47), (5, 48), (6, 13)]) (prop := sealYields w5.heap.size once code cod N) (by decide) (by decide) 63 rfl (by decide) (fun _ _ _ _ h hb => sealYields_on h hb) (i := 3) (s := 46) (by decide) rfl rfl ?_
      intro a w6 K hb hs hd hsame hfact hK
      refine call_op rfl 18 [.tmp 44, .tmp 45] _ rfl [.slice B la ca, .slice E L ce] ?_ (enters Tryd.func18 (by kernel_rfl) (by kernel_rfl)) (CC.out E ce w6 (below_then hB5 hb) (r5.on hb)) ?_
      · simp only [List.map_cons, List.map_nil]
        rw [show a.eval (.tmp 44) = .slice B la ca from hsame 44 (by decide), show a.eval (.tmp 45) = .slice E L ce from hsame 45 (by decide)]
      · rintro e w7 ⟨F, cf, rfl, hF1, hF2, hF3, r7, hb7⟩
        exact ⟨_, rfl, hK _ _ hb7 ⟨F, cf, rfl, hF1, hF2, hF3, r7⟩⟩
    · refine loose_step (slots := [(0, 43), (3, 46), (4, 47), (5, 48), (6, 13)]) (prop := sealYields w5.heap.size once code cod N) (by decide) (by decide) 63 rfl (by decide) (fun _ _ _ _ h hb => sealYields_on h hb) (i := 4) (s := 47) (by decide) rfl rfl ?_
      intro a w6 K hb hs hd hsame hfact hK
      obtain ⟨F, cf, s46, hF1, hF2, hF3, rF⟩ := hfact (3, 46) (by decide) (by kernel_rfl)
      refine lit_op rfl 58 1 [(0, .tmp 46)] rfl [(0, .slice F N cf)] ?_ 24 [.slice F N cf] (fun w => by kernel_rfl) (fun w' hb' hc' => hK _ _ hb' ⟨_, F, cf, rfl, hc', hF1, hF2, hF3, rF.on hb'⟩)
      simp only [List.map_cons, List.map_nil]
      rw [show a.eval (.tmp 46) = .slice F N cf from s46]
    · refine loose_step (slots := [(0, 43), (3, 46), (4, 47), (5, 48), (6, 13)]) (prop := sealYields w5.heap.size once code cod N) (by decide) (by decide) 63 rfl (by decide) (fun _ _ _ _ h hb => sealYields_on h hb) (i := 5) (s := 48) (by decide) rfl rfl ?_
      intro a w6 K hb hs hd hsame hfact hK
      have s43 : a.tmps.getD 43 undef = hashVal once := hfact (0, 43) (by decide) (by kernel_rfl)
      obtain ⟨gl, F, cf, s47, hl2, hF1, hF2, hF3, rF⟩ := hfact (4, 47) (by decide) (by kernel_rfl)
      refine call_op rfl 17 [.tmp 43, .tmp 47] _ rfl [hashVal once, .slice (some ⟨gl, 0, none⟩) 1 1] ?_ (enters Tryd.func17 (by kernel_rfl) (by kernel_rfl)) (CS.out gl F cf w6 hl2 rF hF1 hF2 hF3) ?_
      · simp only [List.map_cons, List.map_nil]
        rw [show a.eval (.tmp 43) = hashVal once from s43, show a.eval (.tmp 47) = .slice (some ⟨gl, 0, none⟩) 1 1 from s47]
      · rintro e w7 ⟨rfl, hb7⟩
        exact ⟨_, rfl, hK _ _ hb7 rfl⟩
    · refine loose_step (slots := [(0, 43), (3, 46), (4, 47), (5, 48), (6, 13)]) (prop := sealYields w5.heap.size once code cod N) (by decide) (by decide) 63 rfl (by decide) (fun _ _ _ _ h hb => sealYields_on h hb) (i := 6) (s := 13) (by decide) rfl rfl ?_
      intro a w6 K hb hs hd hsame hfact hK
      exact alloc_op rfl 45 rfl (List.replicate 16 (cellOf 0)) zero_b16 (fun w' hb' hc' => hK _ _ hb' ⟨_, rfl, hb.size, hc'⟩)
  · intro f hf a w6 hA
    obtain rfl := List.mem_singleton.1 hf
    have hB6 := below_then hB5 hA.below
    have r6 := r5.below hA.below
    have hz6 := hA.below.size
    have s12 := hA.same 12 (by decide)
    obtain ⟨gc, s13, hg1, hZ6⟩ := hA.fact (6, 13) (by decide) (by kernel_rfl)
    have s48 : a.tmps.getD 48 undef = hashVal code := hA.fact (5, 48) (by decide) (by kernel_rfl)
    obtain ⟨u, rfl⟩ := loose_frame63 a hA.size hA.defers
    change u 12 = .slice E L ce at s12
    change u 13 = _ at s13
    change u 48 = _ at s48
    rw [s12, s13, s48]
    have hg2 : w.heap.size ≤ gc := Nat.le_trans hB5.size hg1
    clear s12 s13 s48 hA hB5 hO5 r5 ho5 how5 CC CS
    refine wpAny_rest 7 rfl (by kernel_rfl) ?_
    simp only [List.drop_succ_cons, List.drop_zero]
    go_wp2_with (first
      | (refine set_step rfl 45 (.tmp 13) (.tmp 48) rfl gc 16 (List.replicate 16 (cellOf 0)) code rfl rfl hZ6 (by rw [List.length_replicate]) size_b16 HCL.out ?_
         intro w7 hb7 hC7 hz7
         have hB7 := hB6.trans (hb7.below hg2 hB6.size)
         have r7 : Row w7 w7.heap.size E tt := (r6.butB hb7 hg1 hz6).more (Nat.le_trans hz6 hb7.size)
         clear hz7 hB6 hZ6 hb7 r6 hg1 hz6)
      | (refine make_step rfl (.tmp 51) (.tmp 51) rfl (L + 16) (L + 16) rfl rfl (Nat.le_refl _) (by omega) ?_
         intro w8 hb8 hM8 _
         have hV8 := HV1.out _ _ hM8
         have hB8 := below_then hB7 hb8
         have hC8 := hC7.on hb8
         have r8 := r7.on hb8
         have hg3 := hC7.lt
         have hg4 := hB7.size
         clear hM8 hB7 hC7 r7 hb8)
      | (refine copy_row rfl (.tmp 53) (.tmp 54) rfl w7.heap.size 0 (L + 16) (L + 16) L ce w8.heap.size L E tt rfl rfl HTL.out (by omega) r8 (hV8.there 0 L (by rw [HL.out.1]; omega)) ?_
         intro w9 hw9
         rw [List.take_of_length_le (by rw [HTL.out]; omega)] at hw9
         have hB9 : Below w.heap.size w w9 := by rw [hw9]; exact below_setCells hB8 hg4 _ _
         have hC9 : Cells w9 gc (code.map cellOf) 45 := by rw [hw9]; exact hC8.otherCells (by omega) _ _
         have hV9 : Cells w9 w7.heap.size V2 5 := by
           have h := hV8.setCells (cs := tt.map cellOf) (o := 0) (by rw [List.length_map, HTL.out, HL.out.1]; omega)
           rw [HV2.out, ← hw9] at h
           exact h
         clear hw9 hB8 hV8 hC8 r8))
    simp only [Act.put, List.setIfInBounds_toArray, List.set_cons_zero, List.set_cons_succ]
    generalize hgs : w7.heap.size = gs at *
    clear hgs
    have hs : ∀ W : World, (Instr.slice 24 (.slice (some ⟨gs, 0, none⟩) (L + 16) (L + 16)) (some (.int .i64 (L : Int))) none none).run Tryd.prog W = .ok (.slice (some ⟨gs, L, none⟩) 16 16) W := fun W => by
      have h := slice_from (some ⟨gs, 0, none⟩) (L + 16) (L + 16) L (by omega) W
      rw [cutA_some _ _ _ _ (by omega), Nat.zero_add, Nat.add_sub_cancel_left] at h
      exact h
    refine wp_region_any (by kernel_rfl) ?_
    show wpAny _ _ _ _ _ _ _ w9.drew
    simp only [List.size_toArray, List.length_cons, List.length_nil, Nat.reduceAdd, Array.replicate_succ, Array.replicate_zero, List.push_toArray, List.nil_append, List.cons_append]
    refine wpAny_take (i := 0) (oi := ⟨some 56, _, _, _, _, _⟩) (v := ?_) rfl (by kernel_rfl) (by kernel_rfl) (by kernel_rfl) (fun _ _ _ h => h) (Or.inl ⟨by rfl, ?_⟩) ?_
    rotate_left
    · (intro w; go_simp; try with_reducible rfl)
    simp only [Act.put, List.setIfInBounds_toArray, List.set_cons_zero, List.set_cons_succ]
    refine wpAny_take (i := 1) (oi := ⟨some 57, _, _, _, _, _⟩) (v := ?_) rfl (by kernel_rfl) (by kernel_rfl) (by kernel_rfl) (fun _ _ _ h => h) (Or.inl ⟨by rfl, ?_⟩) ?_
    rotate_left
    · (intro w; go_simp; try with_reducible rfl)
    simp only [Act.put, List.setIfInBounds_toArray, List.set_cons_zero, List.set_cons_succ]
    refine wpAny_take (i := 2) (oi := ⟨some 58, _, _, _, _, _⟩) (v := ?_) rfl (by kernel_rfl) (by kernel_rfl) (by kernel_rfl) (fun _ _ _ h => h) (Or.inl ⟨by rfl, ?_⟩) ?_
    rotate_left
    · (intro w; go_simp; try with_reducible rfl)
    simp only [Act.put, List.setIfInBounds_toArray, List.set_cons_zero, List.set_cons_succ]
    refine wpAny_take (i := 3) (oi := ⟨some 59, _, _, _, _, _⟩) (v := .slice (some ⟨gs, L, none⟩) 16 16) rfl (by kernel_rfl) (by kernel_rfl) (by kernel_rfl) (fun _ _ _ h => h) (Or.inl ⟨by rfl, ?_⟩) ?_
    · (intro w; go_simp; try with_reducible rfl)
    simp only [Act.put, List.setIfInBounds_toArray, List.set_cons_zero, List.set_cons_succ]
    refine wpAny_take (i := 4) (oi := ⟨some 60, _, _, _, _, _⟩) (v := .slice (some ⟨gc, 0, none⟩) 16 16) rfl (by kernel_rfl) (by kernel_rfl) (by kernel_rfl) (fun _ _ _ h => h) (Or.inl ⟨by rfl, ?_⟩) ?_
    · (intro w; go_simp; try with_reducible rfl)
    simp only [Act.put, List.setIfInBounds_toArray, List.set_cons_zero, List.set_cons_succ]
    refine wpAny_rest 5 rfl (by kernel_rfl) ?_
    simp only [List.drop_succ_cons, List.drop_zero]
    have hB10 : Below w.heap.size w w9.drew := hB9.drew
    have hV10 : Cells w9.drew gs V2 5 := hV9
    have hC10 : Cells w9.drew gc (code.map cellOf) 45 := hC9
    clear hB9 hV9 hC9 hs
    generalize w9.drew = w10 at *
    go_wp2_with (first
      | (refine copy_row rfl (.tmp 59) (.tmp 60) rfl gs L 16 16 16 16 w10.heap.size 16 (some ⟨gc, 0, none⟩) code rfl rfl HCL.out (by omega) hC10.all (hV10.there L 16 (by rw [HL.out.2]; omega)) ?_
         intro w11 hw11
         rw [List.take_of_length_le (by rw [HCL.out]; omega)] at hw11
         have hB11 : Below w.heap.size w w11 := by rw [hw11]; exact below_setCells hB10 hg4 _ _
         have hV11 : Cells w11 gs (out.map cellOf) 5 := by
           have h := hV10.setCells (cs := code.map cellOf) (o := L) (by rw [List.length_map, HCL.out, HL.out.2]; omega)
           rw [HV3.out, HV4.out, ← hw11] at h
           exact h
         clear hw11))
    go_ret2
    exact ⟨gs, rfl, hg4, hV11, hB11⟩
theorem seal_fills (tt code : List UInt8) (L : Nat) (ht : tt.length = L) (hc : code.length = 16) : splice (filledTo [] (L + 16)) 0 (tt.map cellOf) = filledTo tt 16 ∧ splice (filledTo tt 16) L (code.map cellOf) = filledTo (tt ++ code) 0 := by
  refine ⟨?_, ?_⟩
  · rw [filledTo_put' [] tt _ 0 L 16 rfl ht (by omega)]
    rfl
  · exact filledTo_put' _ _ _ _ 16 0 ht hc rfl
theorem sealSeal_any (A B D : Option Addr) (d la ca L c : Nat) (key nonce aas bs : List UInt8) (w : World) (hk : key.length = 32) (hn : nonce.length = 12) (rA : Row w w.heap.size A nonce) (hA : A = none → d = 0) (hd : 12 ≤ d) (hd2 : d ≤ maxLen)
    (hal : aas.length = la) (rB : Row w w.heap.size B aas) (hla : la ≤ 16384) (hbl : bs.length = L) (rD : Row w w.heap.size D bs) (hL : L ≤ 16384) :
    Calls Tryd.prog 9 #[hashVal key, .slice A 12 d, .slice B la ca, .slice D L c] w (GivesCells w (sealL key nonce aas bs) (L + 16)) := by
  have lt : (chTurn key 1 nonce bs).length = L := (chTurn_length _ _ _ _).trans hbl
  have lc : (sealCode key nonce aas (chTurn key 1 nonce bs)).length = 16 := sealCode_length _ _ _ _
  obtain ⟨f1, f2⟩ := seal_fills _ _ L lt lc
  refine seal_over A B D d la ca L c (codedL aas (chTurn key 1 nonce bs)).length key (onceL key nonce) (chTurn key 1 nonce bs) (sealCode key nonce aas (chTurn key 1 nonce bs)) (codedL aas (chTurn key 1 nonce bs)) _ _ _ _ w hk (onceL_length _ _) lt lc hla hL (fun W g hM => hM.filled) f1 f2 (filledTo_zero _) ⟨by rw [filledTo_length]; simp, by rw [filledTo_length, lt]⟩
    (fun W hW => once_any A d key nonce W hk hn (rA.on hW) hA hd hd2) (fun W hW => streamTurn_any A D d c L key nonce bs 1 W hk hn (rA.on hW) hA hd hd2 hbl (rD.on hW) (by omega))
    (fun E ce W hW hR => coded_any B E la ca L ce _ aas _ W hal lt (by omega) (by omega) (rB.on hW) hR rfl)
    (fun g E ce W hC hR h1 h2 h3 => onetimeSum_lit (onceL_length _ _) hC rfl hR h1 h2 h3)
set_option maxRecDepth 100000 in
set_option maxHeartbeats 1000000 in
/-- The nonce hasn't 12 bytes. -/
theorem sealSeal_out (A B D : Option Addr) (d n la ca L c : Nat) (key : List UInt8) (a : Addr) (w : World) (hk : key.length = 32) (hn : n ≠ 12) (hE : w.cell? ⟨3, 0, none⟩ = some (errAt a)) :
    Calls Tryd.prog 9 #[hashVal key, .slice A n d, .slice B la ca, .slice D L c] w fun e w' => e = .returned (.tuple #[.slice none 0 0, errAt a]) ∧ Below w.heap.size w w' := by
  have CO : Hid (∀ W, Below w.heap.size w W → Calls Tryd.prog 15 #[hashVal key, .slice A n d] W fun e w' => e = .returned (.tuple #[hashVal key0, errAt a]) ∧ Below W.heap.size W w') := fun W hW => once_out A d n key a W hk hn ((hW.cell (block_lt_of_cell hE)).trans hE)
  have HK := Lib.hid hk
  have H0 : Hid (key0.length = 32) := rfl
  clear hE hk
  generalize key0 = k0 at *
  go_enter Tryd.func9, Tryd.ntmps9
  go_wp2_with (first
    | (refine take_step rfl 23 (.tmp 0) rfl key rfl ?_
       intro w1 hB1 hK1 hz1
       clear hz1)
    | (refine get_step rfl 23 (.tmp 4) rfl w.heap.size 32 key 5 rfl hK1 Tryd.underlying23 size_key HK.out ?_))
  refine (CO.out w1 hB1).mono ?_
  rintro e w2 ⟨rfl, hb2⟩
  have hB2 := below_then hB1 hb2
  clear CO hB1 hK1 hb2
  go_wp2_with (first
    | (refine put_step rfl rfl 23 (.tmp 10) (.tmp 19) rfl rfl 32 k0 rfl rfl zero_key size_key H0.out ?_
       intro w3 hb3 hO3 hz3
       have hB3 := below_then hB2 hb3
       clear hz3 hB2 hb3 hO3))
  go_ret2
  exact ⟨rfl, hB3⟩
set_option maxRecDepth 100000 in
set_option maxHeartbeats 1000000 in
/-- Too many bytes. -/
theorem sealSeal_long (A B D : Option Addr) (d la ca L c : Nat) (key nonce : List UInt8) (a : Addr) (w : World) (hk : key.length = 32) (hn : nonce.length = 12) (rA : Row w w.heap.size A nonce) (hA : A = none → d = 0) (hd : 12 ≤ d) (hd2 : d ≤ maxLen) (hl : 16384 < la ∨ 16384 < L) (hE : w.cell? ⟨0, 0, none⟩ = some (errAt a)) :
    Calls Tryd.prog 9 #[hashVal key, .slice A 12 d, .slice B la ca, .slice D L c] w fun e w' => e = .returned (.tuple #[.slice none 0 0, errAt a]) ∧ Below w.heap.size w w' := by
  have CO := Lib.hid (fun W (hW : Below w.heap.size w W) => once_any A d key nonce W hk hn (rA.on hW) hA hd hd2)
  have HK := Lib.hid hk
  have H0 := Lib.hid (onceL_length key nonce)
  have HE := Lib.hid (fun W (hW : Below w.heap.size w W) => (hW.cell (block_lt_of_cell hE)).trans hE)
  clear hE hk
  generalize onceL key nonce = k0 at *
  by_cases i1 : (16384 : Int) < (la : Int)
  all_goals
    try have i2 : (16384 : Int) < (L : Int) := by omega
    clear hl
    go_enter Tryd.func9, Tryd.ntmps9
    go_wp2_with (first
      | (refine take_step rfl 23 (.tmp 0) rfl key rfl ?_
         intro w1 hB1 hK1 hz1
         clear hz1)
      | (refine get_step rfl 23 (.tmp 4) rfl w.heap.size 32 key 5 rfl hK1 Tryd.underlying23 size_key HK.out ?_))
    refine (CO.out w1 hB1).mono ?_
    rintro e w2 ⟨rfl, hb2⟩
    have hB2 := below_then hB1 hb2
    clear CO hB1 hK1 hb2
    go_wp2_with (first
      | (refine put_step rfl rfl 23 (.tmp 10) (.tmp 19) rfl rfl 32 k0 rfl rfl zero_key size_key H0.out ?_
         intro w3 hb3 hO3 hz3
         have hB3 := below_then hB2 hb3
         have hE3 := HE.out w3 hB3
         clear hz3 hB2 hb3 hO3))
    go_quiet (fail)
    go_wp2
    go_ret2
    exact ⟨rfl, below_drewN hB3 _⟩
end Go.Proofs.YtdaieklimdhkoaaDoor
