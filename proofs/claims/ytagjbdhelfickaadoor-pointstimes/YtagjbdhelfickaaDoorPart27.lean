/- Part 27 of what the laws of this seat share: UReadBad, KPoAlive, KPoSome, KPoPlus, Frame. -/
import Derived.Deep.Cut
import Derived.IntWalk
import Derived.Test.YtagjbdhelfickaaDoorCards
import Derived.Test.YtagjbdhelfickaaDoorTie
import Derived.WalkKit
import Derived.ProofKit
import Derived.OpenShut
import Derived.ShutString
import Derived.LaidMore
import Derived.Deep.DeepHandedRow
import Derived.Deep.DeepWitnessRowRef
import Derived.Test.YtagjbdhelfickaaDoorPart26
namespace Go.Proofs.YtagjbdhelfickaaDoor
open Go.RowKit
set_option maxRecDepth 100000 in
set_option maxHeartbeats 4000000 in
theorem ureadBad_over (y zt : List Nat) (kb kc : List UInt8) (q v : UInt8) (od : Bool) (ae : Addr) (w : World)
    (Hy : Hid (y.length = 5))
    (Hzt : Hid (zt.length = 15))
    (Hkb : Hid (kb.length = 32))
    (Hkc : Hid (kc.length = 32))
    (D1 : Hid ((kb.map cellOf)[31]? = some (cellOf q)))
    (HO : Hid (bits .and .u8 (q.toNat : Int) 128 = bif od then 128 else 0))
    (HV : Hid (bits .andNot .u8 (q.toNat : Int) 128 = (v.toNat : Int)))
    (HC : Hid (kc = kb.set 31 v))
    (CS : Hid (∀ W, TabsU (errAt ae) W → Calls Tryd.prog 28 #[hashVal kc] W fun e w' => e = .returned (.tuple #[numVal y, errAt ae]) ∧ Below W.heap.size W w'))
    (BZ : ∀ w, (Instr.build 31 #[]).run Tryd.prog w = .ok (numVal zt) w)
    (hS : TabsU (errAt ae) w)
    (hE : w.cell? ⟨0, 0, none⟩ = some (errAt ae)) :
    Calls Tryd.prog 9 #[hashVal kb] w fun e w' => e = .returned (.tuple #[numVal zt, errAt ae]) ∧ Below w.heap.size w w' := by
  go_enter Tryd.func9, Tryd.ntmps9
  cases od
  · have ho := HO.out
    have hv := HV.out
    clear HO HV
    go_upto_region 1 with (first
      | (refine take_step rfl 23 (.tmp 0) rfl kb rfl ?_
         intro w1 hb1 hvb1 hz
         clear hz
         have hB1 := hb1
         have hgeb : w.heap.size ≤ w.heap.size := Nat.le_refl _
         clear  hb1
         try simp only [Act.put, List.setIfInBounds_toArray, List.set_cons_zero, List.set_cons_succ]
         skip)
      | (refine vzero_step (o := ⟨some 2, _, _, _, _, _⟩) rfl 31 rfl (nzeros 15) zero_up ?_
         intro w2 hb2 hvr2
         have hB2 := below_then hB1 hb2
         have hger : w.heap.size ≤ w1.heap.size := hB1.size
         have hvb2 := hvb1.on hb2
         have hnebr := Nat.ne_of_lt hvb1.lt
         clear hB1 hvb1 hb2
         try simp only [Act.put, List.setIfInBounds_toArray, List.set_cons_zero, List.set_cons_succ]
         skip))
    generalize hqr : w1.heap.size = gr at *
    clear hqr
    have dq := hvb2.get D1.out
    have hT := hvb2.there 31 1 (by rw [List.length_map, Hkb.out]; decide)
    have hE1 := Lib.hid (hvb2.set 31 (cellOf v))
    go_upto_region 3 with (first
      | (refine store_step rfl 5 _ _ rfl (w.heap.size) 31 .u8 (v.toNat : Int) rfl rfl size_u8 hT ?_
         intro w3 hw3
         have hB3 : Below w.heap.size w w3 := by rw [hw3]; exact hB2.setCell (p := ⟨w.heap.size, 31, none⟩) (Nat.le_refl _) _
         have hvb3 : Cells w3 (w.heap.size) (kc.map cellOf) 23 := by rw [hw3, HC.out, List.map_set]; exact hE1.out
         have hvr3 : Cells w3 gr (nzeros 15) 31 := by rw [hw3]; exact hvr2.other (Ne.symm hnebr) _
         clear hw3 hT hE1 dq ho hv hB2 hvb2 hvr2
         skip))
    go_wp2_with (first
      | (refine get_step rfl 23 (.tmp 1) rfl w.heap.size 32 kc 5 rfl hvb3 Tryd.underlying23 size_k32 Hkc.out ?_
         try simp only [Act.put, List.setIfInBounds_toArray, List.set_cons_zero, List.set_cons_succ]
         skip))
    refine (CS.out w3 (hS.below hB3)).mono ?_
    rintro e w4 ⟨rfl, hb4⟩
    have hB4 := below_then hB3 hb4
    have hvb4 := hvb3.on hb4
    have hvr4 := hvr3.on hb4
    clear hB3 hvb3 hvr3 hb4
    go_wp2_with (first
      | (refine vput_step rfl rfl 29 (.tmp 5) (.tmp 21) rfl rfl 5 (nzeros 5) (y.map ncell) rfl rfl zero_elem rfl size_elem (by rw [List.length_map, Hy.out]) (ncells_one _) ?_
         intro w5 hb5 hvy5
         have hB5 := below_then hB4 hb5
         have hgey : w.heap.size ≤ w4.heap.size := hB4.size
         have hvb5 := hvb4.on hb5
         have hneby := Nat.ne_of_lt hvb4.lt
         have hvr5 := hvr4.on hb5
         have hnery := Nat.ne_of_lt hvr4.lt
         clear hB4 hvb4 hvr4 hb5
         try simp only [Act.put, List.setIfInBounds_toArray, List.set_cons_zero, List.set_cons_succ]
         skip))
    generalize hqy : w4.heap.size = gy at *
    clear hqy
    go_wp2_with fail
    replace hvb5 := hvb5.drew
    replace hvr5 := hvr5.drew
    replace hvy5 := hvy5.drew
    rename_i K hKK
    have hltE := block_lt_of_cell hE
    have de6 : w5.drew.cell? ⟨0, 0, none⟩ = some (errAt ae) := (hB5.cell hltE).trans hE
    have hB6 := (show Below w.heap.size w w5.drew from hB5.drew)
    clear hB5
    refine wp_region_any (by kernel_rfl) ?_
    refine wpAny_of_held (S := fun w' => w'.cell? ⟨0, 0, none⟩ = some (errAt ae)) _ _ _ _ ?_
    show wpAnyH _ _ _ _ _ _ _ _ w5.drew
    simp only [List.size_toArray, List.length_cons, List.length_nil, Nat.reduceAdd, Array.replicate_succ, Array.replicate_zero, List.push_toArray, List.nil_append, List.cons_append]
    generalize w5.drew = w6 at *
    refine wpAnyH_take (i := 1) (oi := ⟨some 26, _, _, _, _, _⟩) (v := (errAt ae)) rfl (by kernel_rfl) (by kernel_rfl) (by kernel_rfl) (fun _ _ _ h => h) (Or.inl ⟨by rfl, ?_⟩) de6 ?_
    · intro w8 h8
      exact exec_load _ _ _ _ rfl _ _ rfl _ (load_err h8)
    refine wpAnyH_all (rs := [0]) (by kernel_rfl) (by decide) fun i hi => ?_
    obtain rfl := List.mem_singleton.1 hi
    clear hi
    refine wpOp_step rfl fun K1 hK1 => ?_
    rw [if_pos (by rfl)]
    refine flat_pure (numVal zt) (exec_build _ _ _ [] rfl [] rfl _ w6 (BZ w6)) (hK1 _ _ ⟨de6, ?_⟩)
    clear hK1 K1
    refine wpAnyH_all (rs := [2]) (by kernel_rfl) (by decide) fun i hi => ?_
    obtain rfl := List.mem_singleton.1 hi
    clear hi
    refine wpOp_step rfl fun K1 hK1 => ?_
    rw [if_pos (by rfl)]
    refine wp_store_mid 31 (.tmp 2) (.tmp 25) rfl gr 0 (zt.map ncell).toArray rfl rfl (by rw [List.size_toArray, List.length_map, Hzt.out]; exact hvr5.there 0 15 (by rw [show ((nzeros 15)).length = 15 from rfl]; decide)) (by rw [List.size_toArray, List.length_map, Hzt.out]; exact size_up) (ncells_one _) (hK1 _ _ ?_)
    have hC2 := hvr5.setCells (cs := zt.map ncell) (o := 0) (by rw [List.length_map, Hzt.out, show ((nzeros 15)).length = 15 from rfl]; decide)
    rw [splice_all _ _ (by rw [List.length_map, Hzt.out, show ((nzeros 15)).length = 15 from rfl])] at hC2
    have hb7 : But gr w6 (w6.setCells gr 0 (zt.map ncell)) := (But.refl _ _).setCells _ _
    have hB7 : Below w.heap.size w (w6.setCells gr 0 (zt.map ncell)) := hB6.trans (hb7.below hger hB6.size)
    have de7 : (w6.setCells gr 0 (zt.map ncell)).cell? ⟨0, 0, none⟩ = some (errAt ae) := (World.cell?_of_block (hb7.block _ (block_lt_of_cell de6) (Nat.ne_of_lt (Nat.lt_of_lt_of_le hltE hger)))).trans de6
    change (w6.setCells gr 0 (zt.map ncell)).cell? ⟨0, 0, none⟩ = some (errAt ae) ∧ wpAnyH _ _ _ _ _ _ _ _ (w6.setCells gr 0 (zt.map ncell))
    have hvb7 := hvb5.but hb7 hnebr
    have hvy7 := hvy5.but hb7 (Ne.symm hnery)
    have hvr7 := hC2
    clear hC2 hb7 hK1 K1 hB6 hvr5 de6 hvb5 hvy5
    generalize w6.setCells gr 0 (zt.map ncell) = w7 at *
    refine ⟨de7, ?_⟩
    refine wpAnyH_all (rs := [3]) (by kernel_rfl) (by decide) fun i hi => ?_
    obtain rfl := List.mem_singleton.1 hi
    clear hi
    refine wpOp_step rfl fun K1 hK1 => ?_
    rw [if_pos (by rfl)]
    refine flat_pure ((errAt ae)) (exec_move _ _ _ (.inr rfl) ((errAt ae)) (by rfl) w7) (hK1 _ _ ⟨de7, ?_⟩)
    clear hK1 K1
    refine wpAnyH_done (by kernel_rfl) ?_ _
    show Exit.then K _ Exit.normal (⟨((hashVal kb) :: (.pointer (some ⟨w.heap.size, 0, none⟩)) :: (.pointer (some ⟨gr, 0, none⟩)) :: ((errAt ae)) :: (.bool false) :: (.pointer (some ⟨gy, 0, none⟩)) :: (errAt ae) :: undef :: undef :: undef :: (.pointer (some ⟨w.heap.size, 31, none⟩)) :: (cellOf q) :: (.int .u8 0) :: (.bool false) :: (.pointer (some ⟨w.heap.size, 31, none⟩)) :: (cellOf q) :: (.int .u8 (v.toNat : Int)) :: (.pointer (some ⟨w.heap.size, 31, none⟩)) :: (.tuple #[numVal y, errAt ae]) :: (hashVal kc) :: (.tuple #[numVal y, errAt ae]) :: (numVal y) :: (errAt ae) :: (errAt ae) :: (.bool true) :: (numVal zt) :: ((errAt ae)) :: undef :: undef :: undef :: undef :: undef :: undef :: undef :: undef :: undef :: undef :: undef :: undef :: undef :: undef :: undef :: undef :: undef :: undef :: undef :: undef :: undef :: undef :: undef :: []).toArray, []⟩ : Act) w7
    simp only [Exit.then]
    refine hKK _ _ ?_
    clear hKK K
    go_wp2
    exact sret2 Tryd.results9 gr (zt.map ncell) _ rfl rfl hvr7 Tryd.underlying31 rfl size_up (by rw [List.length_map, Hzt.out]) rfl ⟨rfl, hB7⟩
  · have ho := HO.out
    have hv := HV.out
    clear HO HV
    go_upto_region 1 with (first
      | (refine take_step rfl 23 (.tmp 0) rfl kb rfl ?_
         intro w8 hb8 hvb8 hz
         clear hz
         have hB8 := hb8
         have hgeb : w.heap.size ≤ w.heap.size := Nat.le_refl _
         clear  hb8
         try simp only [Act.put, List.setIfInBounds_toArray, List.set_cons_zero, List.set_cons_succ]
         skip)
      | (refine vzero_step (o := ⟨some 2, _, _, _, _, _⟩) rfl 31 rfl (nzeros 15) zero_up ?_
         intro w9 hb9 hvr9
         have hB9 := below_then hB8 hb9
         have hger : w.heap.size ≤ w8.heap.size := hB8.size
         have hvb9 := hvb8.on hb9
         have hnebr := Nat.ne_of_lt hvb8.lt
         clear hB8 hvb8 hb9
         try simp only [Act.put, List.setIfInBounds_toArray, List.set_cons_zero, List.set_cons_succ]
         skip))
    generalize hqr : w8.heap.size = gr at *
    clear hqr
    have dq := hvb9.get D1.out
    have hT := hvb9.there 31 1 (by rw [List.length_map, Hkb.out]; decide)
    have hE1 := Lib.hid (hvb9.set 31 (cellOf v))
    go_upto_region 3 with (first
      | (refine store_step rfl 5 _ _ rfl (w.heap.size) 31 .u8 (v.toNat : Int) rfl rfl size_u8 hT ?_
         intro w10 hw10
         have hB10 : Below w.heap.size w w10 := by rw [hw10]; exact hB9.setCell (p := ⟨w.heap.size, 31, none⟩) (Nat.le_refl _) _
         have hvb10 : Cells w10 (w.heap.size) (kc.map cellOf) 23 := by rw [hw10, HC.out, List.map_set]; exact hE1.out
         have hvr10 : Cells w10 gr (nzeros 15) 31 := by rw [hw10]; exact hvr9.other (Ne.symm hnebr) _
         clear hw10 hT hE1 dq ho hv hB9 hvb9 hvr9
         skip))
    go_wp2_with (first
      | (refine get_step rfl 23 (.tmp 1) rfl w.heap.size 32 kc 5 rfl hvb10 Tryd.underlying23 size_k32 Hkc.out ?_
         try simp only [Act.put, List.setIfInBounds_toArray, List.set_cons_zero, List.set_cons_succ]
         skip))
    refine (CS.out w10 (hS.below hB10)).mono ?_
    rintro e w11 ⟨rfl, hb11⟩
    have hB11 := below_then hB10 hb11
    have hvb11 := hvb10.on hb11
    have hvr11 := hvr10.on hb11
    clear hB10 hvb10 hvr10 hb11
    go_wp2_with (first
      | (refine vput_step rfl rfl 29 (.tmp 5) (.tmp 21) rfl rfl 5 (nzeros 5) (y.map ncell) rfl rfl zero_elem rfl size_elem (by rw [List.length_map, Hy.out]) (ncells_one _) ?_
         intro w12 hb12 hvy12
         have hB12 := below_then hB11 hb12
         have hgey : w.heap.size ≤ w11.heap.size := hB11.size
         have hvb12 := hvb11.on hb12
         have hneby := Nat.ne_of_lt hvb11.lt
         have hvr12 := hvr11.on hb12
         have hnery := Nat.ne_of_lt hvr11.lt
         clear hB11 hvb11 hvr11 hb12
         try simp only [Act.put, List.setIfInBounds_toArray, List.set_cons_zero, List.set_cons_succ]
         skip))
    generalize hqy : w11.heap.size = gy at *
    clear hqy
    go_wp2_with fail
    replace hvb12 := hvb12.drew
    replace hvr12 := hvr12.drew
    replace hvy12 := hvy12.drew
    rename_i K hKK
    have hltE := block_lt_of_cell hE
    have de13 : w12.drew.cell? ⟨0, 0, none⟩ = some (errAt ae) := (hB12.cell hltE).trans hE
    have hB13 := (show Below w.heap.size w w12.drew from hB12.drew)
    clear hB12
    refine wp_region_any (by kernel_rfl) ?_
    refine wpAny_of_held (S := fun w' => w'.cell? ⟨0, 0, none⟩ = some (errAt ae)) _ _ _ _ ?_
    show wpAnyH _ _ _ _ _ _ _ _ w12.drew
    simp only [List.size_toArray, List.length_cons, List.length_nil, Nat.reduceAdd, Array.replicate_succ, Array.replicate_zero, List.push_toArray, List.nil_append, List.cons_append]
    generalize w12.drew = w13 at *
    refine wpAnyH_take (i := 1) (oi := ⟨some 26, _, _, _, _, _⟩) (v := (errAt ae)) rfl (by kernel_rfl) (by kernel_rfl) (by kernel_rfl) (fun _ _ _ h => h) (Or.inl ⟨by rfl, ?_⟩) de13 ?_
    · intro w8 h8
      exact exec_load _ _ _ _ rfl _ _ rfl _ (load_err h8)
    refine wpAnyH_all (rs := [0]) (by kernel_rfl) (by decide) fun i hi => ?_
    obtain rfl := List.mem_singleton.1 hi
    clear hi
    refine wpOp_step rfl fun K1 hK1 => ?_
    rw [if_pos (by rfl)]
    refine flat_pure (numVal zt) (exec_build _ _ _ [] rfl [] rfl _ w13 (BZ w13)) (hK1 _ _ ⟨de13, ?_⟩)
    clear hK1 K1
    refine wpAnyH_all (rs := [2]) (by kernel_rfl) (by decide) fun i hi => ?_
    obtain rfl := List.mem_singleton.1 hi
    clear hi
    refine wpOp_step rfl fun K1 hK1 => ?_
    rw [if_pos (by rfl)]
    refine wp_store_mid 31 (.tmp 2) (.tmp 25) rfl gr 0 (zt.map ncell).toArray rfl rfl (by rw [List.size_toArray, List.length_map, Hzt.out]; exact hvr12.there 0 15 (by rw [show ((nzeros 15)).length = 15 from rfl]; decide)) (by rw [List.size_toArray, List.length_map, Hzt.out]; exact size_up) (ncells_one _) (hK1 _ _ ?_)
    have hC2 := hvr12.setCells (cs := zt.map ncell) (o := 0) (by rw [List.length_map, Hzt.out, show ((nzeros 15)).length = 15 from rfl]; decide)
    rw [splice_all _ _ (by rw [List.length_map, Hzt.out, show ((nzeros 15)).length = 15 from rfl])] at hC2
    have hb14 : But gr w13 (w13.setCells gr 0 (zt.map ncell)) := (But.refl _ _).setCells _ _
    have hB14 : Below w.heap.size w (w13.setCells gr 0 (zt.map ncell)) := hB13.trans (hb14.below hger hB13.size)
    have de14 : (w13.setCells gr 0 (zt.map ncell)).cell? ⟨0, 0, none⟩ = some (errAt ae) := (World.cell?_of_block (hb14.block _ (block_lt_of_cell de13) (Nat.ne_of_lt (Nat.lt_of_lt_of_le hltE hger)))).trans de13
    change (w13.setCells gr 0 (zt.map ncell)).cell? ⟨0, 0, none⟩ = some (errAt ae) ∧ wpAnyH _ _ _ _ _ _ _ _ (w13.setCells gr 0 (zt.map ncell))
    have hvb14 := hvb12.but hb14 hnebr
    have hvy14 := hvy12.but hb14 (Ne.symm hnery)
    have hvr14 := hC2
    clear hC2 hb14 hK1 K1 hB13 hvr12 de13 hvb12 hvy12
    generalize w13.setCells gr 0 (zt.map ncell) = w14 at *
    refine ⟨de14, ?_⟩
    refine wpAnyH_all (rs := [3]) (by kernel_rfl) (by decide) fun i hi => ?_
    obtain rfl := List.mem_singleton.1 hi
    clear hi
    refine wpOp_step rfl fun K1 hK1 => ?_
    rw [if_pos (by rfl)]
    refine flat_pure ((errAt ae)) (exec_move _ _ _ (.inr rfl) ((errAt ae)) (by rfl) w14) (hK1 _ _ ⟨de14, ?_⟩)
    clear hK1 K1
    refine wpAnyH_done (by kernel_rfl) ?_ _
    show Exit.then K _ Exit.normal (⟨((hashVal kb) :: (.pointer (some ⟨w.heap.size, 0, none⟩)) :: (.pointer (some ⟨gr, 0, none⟩)) :: ((errAt ae)) :: (.bool true) :: (.pointer (some ⟨gy, 0, none⟩)) :: (errAt ae) :: undef :: undef :: undef :: (.pointer (some ⟨w.heap.size, 31, none⟩)) :: (cellOf q) :: (.int .u8 128) :: (.bool true) :: (.pointer (some ⟨w.heap.size, 31, none⟩)) :: (cellOf q) :: (.int .u8 (v.toNat : Int)) :: (.pointer (some ⟨w.heap.size, 31, none⟩)) :: (.tuple #[numVal y, errAt ae]) :: (hashVal kc) :: (.tuple #[numVal y, errAt ae]) :: (numVal y) :: (errAt ae) :: (errAt ae) :: (.bool true) :: (numVal zt) :: ((errAt ae)) :: undef :: undef :: undef :: undef :: undef :: undef :: undef :: undef :: undef :: undef :: undef :: undef :: undef :: undef :: undef :: undef :: undef :: undef :: undef :: undef :: undef :: undef :: undef :: []).toArray, []⟩ : Act) w14
    simp only [Exit.then]
    refine hKK _ _ ?_
    clear hKK K
    go_wp2
    exact sret2 Tryd.results9 gr (zt.map ncell) _ rfl rfl hvr14 Tryd.underlying31 rfl size_up (by rw [List.length_map, Hzt.out]) rfl ⟨rfl, hB14⟩
end Go.Proofs.YtagjbdhelfickaaDoor
namespace Go.Proofs.YtagjbdhelfickaaDoor
open Go.RowKit
theorem load_u8 {w : World} {g j : Nat} {z : Int} (h : w.cell? ⟨g, j, none⟩ = some (.int .u8 z)) : (Instr.loadAt 5 (.pointer (some ⟨g, j, none⟩))).run Tryd.prog w = .ok (.int .u8 z) w := by
  go_simp
def uAliveVs2 (gn : Nat) (bs : List Nat) (kb : List UInt8) (z : List Nat) : List Value :=
  (.bool true) :: (.pointer (some ⟨gn, 0, none⟩)) :: (numVal bs) :: (hashVal kb) :: (.pointer (some ⟨gn, 0, none⟩)) :: (.int .u8 88) :: (.bool true) :: (.bool true) :: (.pointer (some ⟨gn, 1, none⟩)) :: (.int .u8 102) :: (.bool true) :: (.bool true) :: (.bool true) :: (.pointer (some ⟨gn, 31, none⟩)) :: (.int .u8 102) :: (.bool true) :: (.bool true) :: (.bool true) :: (numVal bs) :: (numVal z) :: (.bool false) :: (.bool true) :: (.bool true) :: []
set_option maxRecDepth 100000 in
set_option maxHeartbeats 1000000 in
theorem alive12_over (bs z : List Nat) (kb : List UInt8) (E : Value) (w : World)
    (Hkb : Hid (kb.length = 32))
    (D0 : Hid ((kb.map cellOf)[0]? = some (.int .u8 88)))
    (D1 : Hid ((kb.map cellOf)[1]? = some (.int .u8 102)))
    (D31 : Hid ((kb.map cellOf)[31]? = some (.int .u8 102)))
    (CB : Hid (∀ W, TabsU E W → Calls Tryd.prog 25 #[] W fun e w' => e = .returned (numVal bs) ∧ Below W.heap.size W w'))
    (CY : Hid (∀ W, Calls Tryd.prog 12 #[numVal bs] W fun e w' => e = .returned (hashVal kb) ∧ Below W.heap.size W w'))
    (CZ : Hid (∀ W, Calls Tryd.prog 20 #[] W fun e w' => e = .returned (numVal z) ∧ Below W.heap.size W w'))
    (CE : Hid (∀ W, Calls Tryd.prog 15 #[numVal bs, numVal z] W fun e w' => e = .returned (.bool false) ∧ Below W.heap.size W w'))
    (hS : TabsU E w) :
    Calls Tryd.prog 8 #[] w fun e w' => e = .returned (.bool true) ∧ Below w.heap.size w w' := by
  go_enter Tryd.func8, Tryd.ntmps8
  go_wp2_with fail
  refine (CB.out w hS).mono ?_
  rintro e w1 ⟨rfl, hb1⟩
  have hB1 := hb1
  clear  hb1
  go_wp2_with fail
  refine (CY.out w1).mono ?_
  rintro e w2 ⟨rfl, hb2⟩
  have hB2 := below_then hB1 hb2
  clear hB1 hb2
  go_upto_region 2 with (first
    | (refine vput_step rfl rfl 23 (.tmp 1) (.tmp 3) rfl rfl 32 kzeros (kb.map cellOf) rfl rfl zero_k32 rfl size_k32 (by rw [List.length_map, Hkb.out]) (kcells_one _) ?_
       intro w3 hb3 hvn3
       have hB3 := below_then hB2 hb3
       have hgen : w.heap.size ≤ w2.heap.size := hB2.size
       clear hB2 hb3
       try simp only [Act.put, List.setIfInBounds_toArray, List.set_cons_zero, List.set_cons_succ]
       skip))
  generalize hqn : w2.heap.size = gn at *
  clear hqn
  refine wp_region_flat (md := .any) (by kernel_rfl) ?_
  refine wpAny_flatM (L := [0, 1, 2, 3, 4, 5, 6, 7, 8, 9, 10, 11, 12, 13, 14, 15, 16, 17, 18, 19]) (by kernel_rfl) _ _ (uAliveVs2 gn bs kb z) [] 23 kzeros [1, 2, 3] (by kernel_rfl) (by kernel_rfl) ?_ zero_k32 ?_ (by rfl) ?_ 0 (by kernel_rfl) ?_
  · intro p hp
    exact absurd hp List.not_mem_nil
  · exact all_cons rfl (all_cons rfl (all_cons rfl (all_nil)))
  · refine all_cons (.inr (mStep _ 4 rfl rfl rfl rfl (by kernel_rfl) (fun a hv => wanted_all rfl _) (fun a w K hb hv hK => mPure (.pointer (some ⟨gn, 0, none⟩)) (exec_index _ _ _ _ _ rfl _ _ _ (hv 1 (by kernel_rfl) rfl) rfl w (by kernel_rfl)) hK))) ?_
    refine all_cons (.inr (mStep _ 5 rfl rfl rfl rfl (by kernel_rfl) (fun a hv => wanted_all rfl _) (fun a w K hb hv hK => mPure (.int .u8 88) (exec_load _ _ _ _ rfl _ _ (hv 4 (by kernel_rfl) rfl) w (load_u8 ((hvn3.on hb).get D0.out))) hK))) ?_
    refine all_cons (.inr (mStep _ 6 rfl rfl rfl rfl (by kernel_rfl) (fun a hv => wanted_all rfl _) (fun a w K hb hv hK => mPure (.bool true) (exec_bin _ _ _ _ _ _ _ rfl (.int .u8 88) (.int .u8 88) _ (hv 5 (by kernel_rfl) rfl) (by rfl) w ((fun w => by kernel_rfl) w) ((fun w => by kernel_rfl) w)) hK))) ?_
    refine all_cons (.inr (mStep _ 7 rfl rfl rfl rfl (by kernel_rfl) (fun a hv => wanted_all rfl _) (fun a w K hb hv hK => mPure (.bool true) (exec_move _ _ _ (.inl rfl) _ (hv 6 (by kernel_rfl) rfl) w) hK))) ?_
    refine all_cons (.inr (mStep _ 8 rfl rfl rfl rfl (by kernel_rfl) (fun a hv => (wanted_is (j := 3) (b := true) (c := true) rfl rfl rfl (hv 7 (by kernel_rfl) rfl)).trans rfl) (fun a w K hb hv hK => mPure (.pointer (some ⟨gn, 1, none⟩)) (exec_index _ _ _ _ _ rfl _ _ _ (hv 1 (by kernel_rfl) rfl) rfl w (by kernel_rfl)) hK))) ?_
    refine all_cons (.inr (mStep _ 9 rfl rfl rfl rfl (by kernel_rfl) (fun a hv => (wanted_is (j := 3) (b := true) (c := true) rfl rfl rfl (hv 7 (by kernel_rfl) rfl)).trans rfl) (fun a w K hb hv hK => mPure (.int .u8 102) (exec_load _ _ _ _ rfl _ _ (hv 8 (by kernel_rfl) rfl) w (load_u8 ((hvn3.on hb).get D1.out))) hK))) ?_
    refine all_cons (.inr (mStep _ 10 rfl rfl rfl rfl (by kernel_rfl) (fun a hv => (wanted_is (j := 3) (b := true) (c := true) rfl rfl rfl (hv 7 (by kernel_rfl) rfl)).trans rfl) (fun a w K hb hv hK => mPure (.bool true) (exec_bin _ _ _ _ _ _ _ rfl (.int .u8 102) (.int .u8 102) _ (hv 9 (by kernel_rfl) rfl) (by rfl) w ((fun w => by kernel_rfl) w) ((fun w => by kernel_rfl) w)) hK))) ?_
    refine all_cons (.inr (mStep _ 11 rfl rfl rfl rfl (by kernel_rfl) (fun a hv => wanted_all rfl _) (fun a w K hb hv hK => mPure (.bool true) (pick_true _ _ _ _ _ rfl (hv 7 (by kernel_rfl) rfl) (.bool true) (hv 10 (by kernel_rfl) rfl) w) hK))) ?_
    refine all_cons (.inr (mStep _ 12 rfl rfl rfl rfl (by kernel_rfl) (fun a hv => wanted_all rfl _) (fun a w K hb hv hK => mPure (.bool true) (exec_move _ _ _ (.inl rfl) _ (hv 11 (by kernel_rfl) rfl) w) hK))) ?_
    refine all_cons (.inr (mStep _ 13 rfl rfl rfl rfl (by kernel_rfl) (fun a hv => (wanted_is (j := 8) (b := true) (c := true) rfl rfl rfl (hv 12 (by kernel_rfl) rfl)).trans rfl) (fun a w K hb hv hK => mPure (.pointer (some ⟨gn, 31, none⟩)) (exec_index _ _ _ _ _ rfl _ _ _ (hv 1 (by kernel_rfl) rfl) rfl w (by kernel_rfl)) hK))) ?_
    refine all_cons (.inr (mStep _ 14 rfl rfl rfl rfl (by kernel_rfl) (fun a hv => (wanted_is (j := 8) (b := true) (c := true) rfl rfl rfl (hv 12 (by kernel_rfl) rfl)).trans rfl) (fun a w K hb hv hK => mPure (.int .u8 102) (exec_load _ _ _ _ rfl _ _ (hv 13 (by kernel_rfl) rfl) w (load_u8 ((hvn3.on hb).get D31.out))) hK))) ?_
    refine all_cons (.inr (mStep _ 15 rfl rfl rfl rfl (by kernel_rfl) (fun a hv => (wanted_is (j := 8) (b := true) (c := true) rfl rfl rfl (hv 12 (by kernel_rfl) rfl)).trans rfl) (fun a w K hb hv hK => mPure (.bool true) (exec_bin _ _ _ _ _ _ _ rfl (.int .u8 102) (.int .u8 102) _ (hv 14 (by kernel_rfl) rfl) (by rfl) w ((fun w => by kernel_rfl) w) ((fun w => by kernel_rfl) w)) hK))) ?_
    refine all_cons (.inr (mStep _ 16 rfl rfl rfl rfl (by kernel_rfl) (fun a hv => wanted_all rfl _) (fun a w K hb hv hK => mPure (.bool true) (pick_true _ _ _ _ _ rfl (hv 12 (by kernel_rfl) rfl) (.bool true) (hv 15 (by kernel_rfl) rfl) w) hK))) ?_
    refine all_cons (.inr (mStep _ 17 rfl rfl rfl rfl (by kernel_rfl) (fun a hv => wanted_all rfl _) (fun a w K hb hv hK => mPure (.bool true) (exec_move _ _ _ (.inl rfl) _ (hv 16 (by kernel_rfl) rfl) w) hK))) ?_
    refine all_cons (.inr (mStep _ 18 rfl rfl rfl rfl (by kernel_rfl) (fun a hv => (wanted_is (j := 13) (b := true) (c := true) rfl rfl rfl (hv 17 (by kernel_rfl) rfl)).trans rfl) (fun a w K hb hv hK => mCall (numVal bs) 25 _ _ rfl [] (rfl) (enters Tryd.func25 rfl rfl) (CB.out w (hS.below (below_then hB3 hb))) hK))) ?_
    refine all_cons (.inr (mStep _ 19 rfl rfl rfl rfl (by kernel_rfl) (fun a hv => (wanted_is (j := 13) (b := true) (c := true) rfl rfl rfl (hv 17 (by kernel_rfl) rfl)).trans rfl) (fun a w K hb hv hK => mCall (numVal z) 20 _ _ rfl [] (rfl) (enters Tryd.func20 rfl rfl) (CZ.out w) hK))) ?_
    refine all_cons (.inr (mStep _ 20 rfl rfl rfl rfl (by kernel_rfl) (fun a hv => (wanted_is (j := 13) (b := true) (c := true) rfl rfl rfl (hv 17 (by kernel_rfl) rfl)).trans rfl) (fun a w K hb hv hK => mCall (.bool false) 15 _ _ rfl [numVal bs, numVal z] (cons_eq (hv 18 (by kernel_rfl) rfl) (cons_eq (hv 19 (by kernel_rfl) rfl) (rfl))) (enters Tryd.func15 rfl rfl) (CE.out w) hK))) ?_
    refine all_cons (.inr (mStep _ 21 rfl rfl rfl rfl (by kernel_rfl) (fun a hv => (wanted_is (j := 13) (b := true) (c := true) rfl rfl rfl (hv 17 (by kernel_rfl) rfl)).trans rfl) (fun a w K hb hv hK => mPure (.bool true) (exec_not _ _ _ _ rfl (false) (hv 20 (by kernel_rfl) rfl) w) hK))) ?_
    refine all_cons (.inr (mStep _ 22 rfl rfl rfl rfl (by kernel_rfl) (fun a hv => wanted_all rfl _) (fun a w K hb hv hK => mPure (.bool true) (pick_true _ _ _ _ _ rfl (hv 17 (by kernel_rfl) rfl) (.bool true) (hv 21 (by kernel_rfl) rfl) w) hK))) ?_
    refine all_cons (.inr (mStep _ 0 rfl rfl rfl rfl (by kernel_rfl) (fun a hv => wanted_all rfl _) (fun a w K hb hv hK => mPure (.bool true) (exec_move _ _ _ (.inr rfl) _ (hv 22 (by kernel_rfl) rfl) w) hK))) ?_
    exact all_nil
  intro w4 g hb4 hN4 hap4
  clear hN4 hap4
  have hB4 := below_then hB3 hb4
  have hvn4 := hvn3.on hb4
  clear hB3 hvn3 hb4
  refine ⟨by kernel_rfl, ?_⟩
  rename_i K hKK
  show Exit.then K _ Exit.normal (⟨(uAliveVs2 gn bs kb z).toArray, []⟩ : Act) w4
  simp only [Exit.then]
  refine hKK _ _ ?_
  clear hKK K g
  simp only [uAliveVs2]
  go_wp2
  go_ret
  exact ⟨rfl, hB4⟩
end Go.Proofs.YtagjbdhelfickaaDoor
namespace Go.Proofs.YtagjbdhelfickaaDoor
open Go.RowKit
/-- A function whose two results are structs or arrays in blocks of their own. -/
theorem sretC2 {P : Program} {fn : Func} {R : Ending → World → Prop} {a : Act} {w : World} {p u : Tmp} {ty ty2 : TypeId} {d d2 : TypeDesc} {n n2 : Nat} (hres : fn.results = #[.cell p ty, .cell u ty2]) (g g2 : Nat) (vs vs2 : List Value)
    (hp : a.tmps.getD p undef = .pointer (some ⟨g, 0, none⟩)) (hv : a.tmps.getD u undef = .pointer (some ⟨g2, 0, none⟩)) (hg : Cells w g vs ty) (hg2 : Cells w g2 vs2 ty2) (hu : P.underlying ty = some d) (hd : (match d with | .struct _ | .array _ _ => true | _ => false) = true) (hi : (P.info? ty).map (·.size) = some n) (hl : vs.length = n)
    (hu2 : P.underlying ty2 = some d2) (hd2 : (match d2 with | .struct _ | .array _ _ => true | _ => false) = true) (hi2 : (P.info? ty2).map (·.size) = some n2) (hl2 : vs2.length = n2)
    (hdf : a.defers = []) (hR : R (.returned (.tuple #[.agg vs.toArray, .agg vs2.toArray])) w) : bodyPost P fn R .ret a w := by
  have hp' : a.tmps[p]?.getD undef = .pointer (some ⟨g, 0, none⟩) := by simpa using hp
  have hv' : a.tmps[u]?.getD undef = .pointer (some ⟨g2, 0, none⟩) := by simpa using hv
  have hrun : (results fn a.tmps).run P w = .ok (.tuple #[.agg vs.toArray, .agg vs2.toArray]) w := by
    simp [results, hres, hp', hv', asAddr, run_loadVar_row w g ty ty vs.toArray (0, 0) _ hg hu hd (by rw [List.size_toArray, hl]; exact hi), run_loadVar_row w g2 ty2 ty2 vs2.toArray (0, 0) _ hg2 hu2 hd2 (by rw [List.size_toArray, hl2]; exact hi2)]
  exact bodyPost_ret hrun hdf hR
set_option maxRecDepth 100000 in
set_option maxHeartbeats 2000000 in
theorem someGood_over (p v : List Nat) (kb : List UInt8) (ae : Addr) (w : World)
    (Hp : Hid (p.length = 15))
    (Hv : Hid (v.length = 24))
    (Hkb : Hid (kb.length = 32))
    (CR : Hid (∀ W, TabsU (errAt ae) W → Calls Tryd.prog 9 #[hashVal kb] W fun e w' => e = .returned (.tuple #[numVal p, .nilIface]) ∧ Below W.heap.size W w'))
    (CV : Hid (∀ W, Calls Tryd.prog 10 #[hashVal kb] W fun e w' => e = .returned (.tuple #[numD v, .int .i64 0]) ∧ Below W.heap.size W w'))
    (hS : TabsU (errAt ae) w) :
    Calls Tryd.prog 16 #[hashVal kb] w fun e w' => e = .returned (.tuple #[numVal p, numD v]) ∧ Below w.heap.size w w' := by
  go_enter Tryd.func16, Tryd.ntmps16
  go_wp2_with (first
    | (refine take_step rfl 23 (.tmp 0) rfl kb rfl ?_
       intro w1 hb1 hvb1 hz
       clear hz
       have hB1 := hb1
       have hgeb : w.heap.size ≤ w.heap.size := Nat.le_refl _
       clear  hb1
       try simp only [Act.put, List.setIfInBounds_toArray, List.set_cons_zero, List.set_cons_succ]
       skip)
    | (refine vzero_step (o := ⟨some 2, _, _, _, _, _⟩) rfl 31 rfl (nzeros 15) zero_up ?_
       intro w2 hb2 hvr2
       have hB2 := below_then hB1 hb2
       have hger : w.heap.size ≤ w1.heap.size := hB1.size
       have hvb2 := hvb1.on hb2
       have hnebr := Nat.ne_of_lt hvb1.lt
       clear hB1 hvb1 hb2
       try simp only [Act.put, List.setIfInBounds_toArray, List.set_cons_zero, List.set_cons_succ]
       skip)
    | (refine vzero_step (o := ⟨some 3, _, _, _, _, _⟩) rfl 40 rfl (dzeros 24) zero_tri ?_
       intro w3 hb3 hvt3
       have hB3 := below_then hB2 hb3
       have hget : w.heap.size ≤ w2.heap.size := hB2.size
       have hvb3 := hvb2.on hb3
       have hnebt := Nat.ne_of_lt hvb2.lt
       have hvr3 := hvr2.on hb3
       have hnert := Nat.ne_of_lt hvr2.lt
       clear hB2 hvb2 hvr2 hb3
       try simp only [Act.put, List.setIfInBounds_toArray, List.set_cons_zero, List.set_cons_succ]
       skip)
    | (refine get_step rfl 23 (.tmp 1) rfl w.heap.size 32 kb 5 rfl hvb3 Tryd.underlying23 size_k32 Hkb.out ?_
       try simp only [Act.put, List.setIfInBounds_toArray, List.set_cons_zero, List.set_cons_succ]
       skip))
  generalize hqr : w1.heap.size = gr at *
  clear hqr
  generalize hqt : w2.heap.size = gt at *
  clear hqt
  refine (CR.out w3 (hS.below hB3)).mono ?_
  rintro e w4 ⟨rfl, hb4⟩
  have hB4 := below_then hB3 hb4
  have hvb4 := hvb3.on hb4
  have hvr4 := hvr3.on hb4
  have hvt4 := hvt3.on hb4
  clear hB3 hvb3 hvr3 hvt3 hb4
  go_wp2_with (first
    | (refine vput_step rfl rfl 31 (.tmp 4) (.tmp 12) rfl rfl 15 (nzeros 15) (p.map ncell) rfl rfl zero_up rfl size_up (by rw [List.length_map, Hp.out]) (ncells_one _) ?_
       intro w5 hb5 hvp5
       have hB5 := below_then hB4 hb5
       have hgep : w.heap.size ≤ w4.heap.size := hB4.size
       have hvb5 := hvb4.on hb5
       have hnebp := Nat.ne_of_lt hvb4.lt
       have hvr5 := hvr4.on hb5
       have hnerp := Nat.ne_of_lt hvr4.lt
       have hvt5 := hvt4.on hb5
       have hnetp := Nat.ne_of_lt hvt4.lt
       clear hB4 hvb4 hvr4 hvt4 hb5
       try simp only [Act.put, List.setIfInBounds_toArray, List.set_cons_zero, List.set_cons_succ]
       skip)
    | (refine get_step rfl 23 (.tmp 1) rfl w.heap.size 32 kb 5 rfl hvb5 Tryd.underlying23 size_k32 Hkb.out ?_
       try simp only [Act.put, List.setIfInBounds_toArray, List.set_cons_zero, List.set_cons_succ]
       skip))
  generalize hqp : w4.heap.size = gp at *
  clear hqp
  refine (CV.out w5).mono ?_
  rintro e w6 ⟨rfl, hb6⟩
  have hB6 := below_then hB5 hb6
  have hvb6 := hvb5.on hb6
  have hvr6 := hvr5.on hb6
  have hvt6 := hvt5.on hb6
  have hvp6 := hvp5.on hb6
  clear hB5 hvb5 hvr5 hvt5 hvp5 hb6
  go_wp2_with (first
    | (refine vput_step rfl rfl 40 (.tmp 6) (.tmp 19) rfl rfl 24 (dzeros 24) (v.map dcell) rfl rfl zero_tri rfl size_tri (by rw [List.length_map, Hv.out]) (dcells_one _) ?_
       intro w7 hb7 hvv7
       have hB7 := below_then hB6 hb7
       have hgev : w.heap.size ≤ w6.heap.size := hB6.size
       have hvb7 := hvb6.on hb7
       have hnebv := Nat.ne_of_lt hvb6.lt
       have hvr7 := hvr6.on hb7
       have hnerv := Nat.ne_of_lt hvr6.lt
       have hvt7 := hvt6.on hb7
       have hnetv := Nat.ne_of_lt hvt6.lt
       have hvp7 := hvp6.on hb7
       have hnepv := Nat.ne_of_lt hvp6.lt
       clear hB6 hvb6 hvr6 hvt6 hvp6 hb7
       try simp only [Act.put, List.setIfInBounds_toArray, List.set_cons_zero, List.set_cons_succ]
       skip))
  generalize hqv : w6.heap.size = gv at *
  clear hqv
  replace hvb7 := hvb7.drew
  replace hvr7 := hvr7.drew
  replace hvt7 := hvt7.drew
  replace hvp7 := hvp7.drew
  replace hvv7 := hvv7.drew
  rename_i K hKK
  have hB8 := (show Below w.heap.size w w7.drew from hB7.drew)
  clear hB7
  refine wp_region_any (by kernel_rfl) ?_
  refine wpAny_of_held (S := fun w' => Cells w' gv (v.map dcell) 40) _ _ _ _ ?_
  show wpAnyH _ _ _ _ _ _ _ _ w7.drew
  simp only [List.size_toArray, List.length_cons, List.length_nil, Nat.reduceAdd, Array.replicate_succ, Array.replicate_zero, List.push_toArray, List.nil_append, List.cons_append]
  generalize w7.drew = w8 at *
  refine wpAnyH_take (i := 1) (oi := ⟨some 22, _, _, _, _, _⟩) (v := numD v) rfl (by kernel_rfl) (by kernel_rfl) (by kernel_rfl) (fun _ _ _ h => h) (Or.inl ⟨by rfl, ?_⟩) hvv7 ?_
  · intro w8 h8
    exact exec_load _ _ _ _ rfl _ _ rfl _ (tri_run h8 Hv.out)
  refine wpAnyH_all (rs := [0]) (by kernel_rfl) (by decide) fun i hi => ?_
  obtain rfl := List.mem_singleton.1 hi
  clear hi
  refine wpOp_step rfl fun K1 hK1 => ?_
  rw [if_pos (by rfl)]
  refine flat_pure (numVal p) (exec_load _ _ _ _ rfl _ _ rfl _ (up_run hvp7 Hp.out)) (hK1 _ _ ⟨hvv7, ?_⟩)
  clear hK1 K1
  refine wpAnyH_all (rs := [2]) (by kernel_rfl) (by decide) fun i hi => ?_
  obtain rfl := List.mem_singleton.1 hi
  clear hi
  refine wpOp_step rfl fun K1 hK1 => ?_
  rw [if_pos (by rfl)]
  refine wp_store_mid 31 (.tmp 2) (.tmp 21) rfl gr 0 (p.map ncell).toArray rfl rfl (by rw [List.size_toArray, List.length_map, Hp.out]; exact hvr7.there 0 15 (by rw [show ((nzeros 15)).length = 15 from rfl]; decide)) (by rw [List.size_toArray, List.length_map, Hp.out]; exact size_up) (ncells_one _) (hK1 _ _ ?_)
  have hC2 := hvr7.setCells (cs := p.map ncell) (o := 0) (by rw [List.length_map, Hp.out, show ((nzeros 15)).length = 15 from rfl]; decide)
  rw [splice_all _ _ (by rw [List.length_map, Hp.out, show ((nzeros 15)).length = 15 from rfl])] at hC2
  have hb9 : But gr w8 (w8.setCells gr 0 (p.map ncell)) := (But.refl _ _).setCells _ _
  have hB9 : Below w.heap.size w (w8.setCells gr 0 (p.map ncell)) := hB8.trans (hb9.below hger hB8.size)
  change Cells (w8.setCells gr 0 (p.map ncell)) gv (v.map dcell) 40 ∧ wpAnyH _ _ _ _ _ _ _ _ (w8.setCells gr 0 (p.map ncell))
  have hvb9 := hvb7.but hb9 hnebr
  have hvt9 := hvt7.but hb9 (Ne.symm hnert)
  have hvp9 := hvp7.but hb9 (Ne.symm hnerp)
  have hvv9 := hvv7.but hb9 (Ne.symm hnerv)
  have hvr9 := hC2
  clear hC2 hb9 hK1 K1 hB8 hvr7 hvb7 hvt7 hvp7 hvv7
  generalize w8.setCells gr 0 (p.map ncell) = w9 at *
  refine ⟨hvv9, ?_⟩
  refine wpAnyH_all (rs := [3]) (by kernel_rfl) (by decide) fun i hi => ?_
  obtain rfl := List.mem_singleton.1 hi
  clear hi
  refine wpOp_step rfl fun K1 hK1 => ?_
  rw [if_pos (by rfl)]
  refine wp_store_mid 40 (.tmp 3) (.tmp 22) rfl gt 0 (v.map dcell).toArray rfl rfl (by rw [List.size_toArray, List.length_map, Hv.out]; exact hvt9.there 0 24 (by rw [show ((dzeros 24)).length = 24 from rfl]; decide)) (by rw [List.size_toArray, List.length_map, Hv.out]; exact size_tri) (dcells_one _) (hK1 _ _ ?_)
  have hC2 := hvt9.setCells (cs := v.map dcell) (o := 0) (by rw [List.length_map, Hv.out, show ((dzeros 24)).length = 24 from rfl]; decide)
  rw [splice_all _ _ (by rw [List.length_map, Hv.out, show ((dzeros 24)).length = 24 from rfl])] at hC2
  have hb10 : But gt w9 (w9.setCells gt 0 (v.map dcell)) := (But.refl _ _).setCells _ _
  have hB10 : Below w.heap.size w (w9.setCells gt 0 (v.map dcell)) := hB9.trans (hb10.below hget hB9.size)
  change Cells (w9.setCells gt 0 (v.map dcell)) gv (v.map dcell) 40 ∧ wpAnyH _ _ _ _ _ _ _ _ (w9.setCells gt 0 (v.map dcell))
  have hvb10 := hvb9.but hb10 hnebt
  have hvr10 := hvr9.but hb10 hnert
  have hvp10 := hvp9.but hb10 (Ne.symm hnetp)
  have hvv10 := hvv9.but hb10 (Ne.symm hnetv)
  have hvt10 := hC2
  clear hC2 hb10 hK1 K1 hB9 hvt9 hvb9 hvr9 hvp9 hvv9
  generalize w9.setCells gt 0 (v.map dcell) = w10 at *
  refine ⟨hvv10, ?_⟩
  refine wpAnyH_done (by kernel_rfl) ?_ _
  show Exit.then K _ Exit.normal (⟨((hashVal kb) :: (.pointer (some ⟨w.heap.size, 0, none⟩)) :: (.pointer (some ⟨gr, 0, none⟩)) :: (.pointer (some ⟨gt, 0, none⟩)) :: (.pointer (some ⟨gp, 0, none⟩)) :: (.nilIface) :: (.pointer (some ⟨gv, 0, none⟩)) :: (.int .i64 0) :: undef :: (.tuple #[numVal p, .nilIface]) :: (hashVal kb) :: (.tuple #[numVal p, .nilIface]) :: (numVal p) :: (.nilIface) :: (.nilIface) :: (.bool true) :: (.tuple #[numD v, .int .i64 0]) :: (hashVal kb) :: (.tuple #[numD v, .int .i64 0]) :: (numD v) :: (.int .i64 0) :: (numVal p) :: (numD v) :: undef :: undef :: undef :: undef :: undef :: undef :: undef :: undef :: undef :: undef :: undef :: undef :: undef :: []).toArray, []⟩ : Act) w10
  simp only [Exit.then]
  refine hKK _ _ ?_
  clear hKK K
  go_wp2
  exact sretC2 Tryd.results16 gr gt (p.map ncell) (v.map dcell) rfl rfl hvr10 hvt10 Tryd.underlying31 rfl size_up (by rw [List.length_map, Hp.out]) Tryd.underlying40 rfl size_tri (by rw [List.length_map, Hv.out]) rfl ⟨rfl, hB10⟩
def someBVs10 (kb : List UInt8) (g_base : Nat) (gr : Nat) (gt : Nat) (gp : Nat) (ae : Addr) (p : List Nat) (u26 : Value) (u27 : Value) (u28 : Value) (u29 : Value) (bs : List Nat) (kz : List UInt8) (m : List Nat) (bd : List Nat) (v : List Nat) : List Value :=
  (hashVal kb) :: (.pointer (some ⟨g_base, 0, none⟩)) :: (.pointer (some ⟨gr, 0, none⟩)) :: (.pointer (some ⟨gt, 0, none⟩)) :: (.pointer (some ⟨gp, 0, none⟩)) :: (errAt ae) :: undef :: undef :: (.int .i64 31) :: (.tuple #[numVal p, errAt ae]) :: (hashVal kb) :: (.tuple #[numVal p, errAt ae]) :: (numVal p) :: (errAt ae) :: ((errAt ae)) :: (.bool false) :: undef :: undef :: undef :: undef :: undef :: undef :: undef :: (.pointer (some ⟨g_base, 31, none⟩)) :: (.int .i64 31) :: (.bool false) :: (u26) :: (u27) :: (u28) :: (u29) :: (numVal bs) :: (hashVal kz) :: (numVal m) :: (numD bd) :: (hashVal kz) :: (numD v) :: []
set_option maxRecDepth 100000 in
set_option maxHeartbeats 2000000 in
theorem someBad_over (p bs m bd v : List Nat) (kb : List UInt8) (K : Nat → List UInt8) (ae : Addr) (w : World)
    (Hp : Hid (p.length = 15))
    (Hm : Hid (m.length = 15))
    (Hv : Hid (v.length = 24))
    (Hkb : Hid (kb.length = 32))
    (HL : Hid (∀ j, (K j).length = 32))
    (HK0 : Hid ((kb.map cellOf).set 31 (.int .u8 0) = (K 4).map cellOf))
    (HK : Hid (∀ j : Nat, 4 ≤ j → j < 31 → ((K j).map cellOf).set j (.int .u8 0) = (K (j + 1)).map cellOf))
    (CR : Hid (∀ W, TabsU (errAt ae) W → Calls Tryd.prog 9 #[hashVal kb] W fun e w' => e = .returned (.tuple #[numVal p, errAt ae]) ∧ Below W.heap.size W w'))
    (CB : Hid (∀ W, TabsU (errAt ae) W → Calls Tryd.prog 25 #[] W fun e w' => e = .returned (numVal bs) ∧ Below W.heap.size W w'))
    (CM : Hid (∀ W, TabsU (errAt ae) W → Calls Tryd.prog 21 #[numVal bs, hashVal (K 31)] W fun e w' => e = .returned (numVal m) ∧ Below W.heap.size W w'))
    (CD : Hid (∀ W, Calls Tryd.prog 49 #[] W fun e w' => e = .returned (numD bd) ∧ Below W.heap.size W w'))
    (CV : Hid (∀ W, Calls Tryd.prog 22 #[numD bd, hashVal (K 31)] W fun e w' => e = .returned (numD v) ∧ Below W.heap.size W w'))
    (hS : TabsU (errAt ae) w) :
    Calls Tryd.prog 16 #[hashVal kb] w fun e w' => e = .returned (.tuple #[numVal m, numD v]) ∧ Below w.heap.size w w' := by
  go_enter Tryd.func16, Tryd.ntmps16
  go_wp2_with (first
    | (refine take_step rfl 23 (.tmp 0) rfl kb rfl ?_
       intro w1 hb1 hvb1 hz
       clear hz
       have hB1 := hb1
       have hgeb : w.heap.size ≤ w.heap.size := Nat.le_refl _
       clear  hb1
       try simp only [Act.put, List.setIfInBounds_toArray, List.set_cons_zero, List.set_cons_succ]
       skip)
    | (refine vzero_step (o := ⟨some 2, _, _, _, _, _⟩) rfl 31 rfl (nzeros 15) zero_up ?_
       intro w2 hb2 hvr2
       have hB2 := below_then hB1 hb2
       have hger : w.heap.size ≤ w1.heap.size := hB1.size
       have hvb2 := hvb1.on hb2
       have hnebr := Nat.ne_of_lt hvb1.lt
       clear hB1 hvb1 hb2
       try simp only [Act.put, List.setIfInBounds_toArray, List.set_cons_zero, List.set_cons_succ]
       skip)
    | (refine vzero_step (o := ⟨some 3, _, _, _, _, _⟩) rfl 40 rfl (dzeros 24) zero_tri ?_
       intro w3 hb3 hvt3
       have hB3 := below_then hB2 hb3
       have hget : w.heap.size ≤ w2.heap.size := hB2.size
       have hvb3 := hvb2.on hb3
       have hnebt := Nat.ne_of_lt hvb2.lt
       have hvr3 := hvr2.on hb3
       have hnert := Nat.ne_of_lt hvr2.lt
       clear hB2 hvb2 hvr2 hb3
       try simp only [Act.put, List.setIfInBounds_toArray, List.set_cons_zero, List.set_cons_succ]
       skip)
    | (refine get_step rfl 23 (.tmp 1) rfl w.heap.size 32 kb 5 rfl hvb3 Tryd.underlying23 size_k32 Hkb.out ?_
       try simp only [Act.put, List.setIfInBounds_toArray, List.set_cons_zero, List.set_cons_succ]
       skip))
  generalize hqr : w1.heap.size = gr at *
  clear hqr
  generalize hqt : w2.heap.size = gt at *
  clear hqt
  refine (CR.out w3 (hS.below hB3)).mono ?_
  rintro e w4 ⟨rfl, hb4⟩
  have hB4 := below_then hB3 hb4
  have hvb4 := hvb3.on hb4
  have hvr4 := hvr3.on hb4
  have hvt4 := hvt3.on hb4
  clear hB3 hvb3 hvr3 hvt3 hb4
  go_upto_region 5 with (first
    | (refine vput_step rfl rfl 31 (.tmp 4) (.tmp 12) rfl rfl 15 (nzeros 15) (p.map ncell) rfl rfl zero_up rfl size_up (by rw [List.length_map, Hp.out]) (ncells_one _) ?_
       intro w5 hb5 hvp5
       have hB5 := below_then hB4 hb5
       have hgep : w.heap.size ≤ w4.heap.size := hB4.size
       have hvb5 := hvb4.on hb5
       have hnebp := Nat.ne_of_lt hvb4.lt
       have hvr5 := hvr4.on hb5
       have hnerp := Nat.ne_of_lt hvr4.lt
       have hvt5 := hvt4.on hb5
       have hnetp := Nat.ne_of_lt hvt4.lt
       clear hB4 hvb4 hvr4 hvt4 hb5
       try simp only [Act.put, List.setIfInBounds_toArray, List.set_cons_zero, List.set_cons_succ]
       skip))
  generalize hqp : w4.heap.size = gp at *
  clear hqp
  have hT := hvb5.there 31 1 (by rw [List.length_map, Hkb.out]; decide)
  have hE1 := Lib.hid (HK0.out ▸ hvb5.set 31 (.int .u8 0))
  go_wp2_with (first
    | (refine store_step rfl 5 _ _ rfl (w.heap.size) 31 .u8 0 rfl rfl size_u8 hT ?_
       intro w6 hw6
       have hB6 : Below w.heap.size w w6 := by rw [hw6]; exact hB5.setCell (p := ⟨w.heap.size, 31, none⟩) (Nat.le_refl _) _
       have hvb6 : Cells w6 (w.heap.size) ((K 4).map cellOf) 23 := by rw [hw6]; exact hE1.out
       have hvr6 : Cells w6 gr (nzeros 15) 31 := by rw [hw6]; exact hvr5.other (Ne.symm hnebr) _
       have hvt6 : Cells w6 gt (dzeros 24) 40 := by rw [hw6]; exact hvt5.other (Ne.symm hnebt) _
       have hvp6 : Cells w6 gp (p.map ncell) 31 := by rw [hw6]; exact hvp5.other (Ne.symm hnebp) _
       clear hw6 hT hE1 hB5 hvb5 hvr5 hvt5 hvp5
       skip))
  replace hnebr := Lib.hid hnebr
  replace hnebt := Lib.hid hnebt
  replace hnert := Lib.hid hnert
  replace hnebp := Lib.hid hnebp
  replace hnerp := Lib.hid hnerp
  replace hnetp := Lib.hid hnetp
  go_loopw [8] (fun t wr => ∃ j : Nat, 4 ≤ j ∧ j ≤ 31 ∧ t = .int .i64 (j : Int) ∧ Below w.heap.size w wr ∧ Cells wr (w.heap.size) ((K j).map cellOf) 23 ∧ Cells wr gr (nzeros 15) 31 ∧ Cells wr gt (dzeros 24) 40 ∧ Cells wr gp (p.map ncell) 31) (fun t _ => (31 - intOf t).toNat)
  case atStart => exact ⟨4, Nat.le_refl _, by decide, rfl, hB6, hvb6, hvr6, hvt6, hvp6⟩
  case round =>
    clear hB6 hvb6 hvr6 hvt6 hvp6
    obtain ⟨j, hj4, hj, rfl, hBl, hvbl, hvrl, hvtl, hvpl⟩ := hrel
    by_cases h0 : j < 31
    · have i1 : (0 : Int) ≤ (j : Int) := by omega
      have i2 : (j : Int) < 31 := by omega
      have i4 : (j : Int) < 32 := by omega
      have i3 : IntKind.i64.wrap ((j : Int) + 1) = (j : Int) + 1 := IntWalk.i64_in _ (by omega)
      have hT := hvbl.there j 1 (by rw [List.length_map, HL.out j]; omega)
      have hE1 := Lib.hid (HK.out j hj4 h0 ▸ hvbl.set j (.int .u8 0))
      clear HK HK0
      go_wp2_with (first
        | (refine store_step rfl 5 _ _ rfl (w.heap.size) j .u8 0 rfl rfl size_u8 hT ?_
           intro w7 hw7
           have hB7 : Below w.heap.size w w7 := by rw [hw7]; exact hBl.setCell (p := ⟨w.heap.size, j, none⟩) (Nat.le_refl _) _
           have hvb7 : Cells w7 (w.heap.size) ((K (j + 1)).map cellOf) 23 := by rw [hw7]; exact hE1.out
           have hvr7 : Cells w7 gr (nzeros 15) 31 := by rw [hw7]; exact hvrl.other (Ne.symm hnebr.out) _
           have hvt7 : Cells w7 gt (dzeros 24) 40 := by rw [hw7]; exact hvtl.other (Ne.symm hnebt.out) _
           have hvp7 : Cells w7 gp (p.map ncell) 31 := by rw [hw7]; exact hvpl.other (Ne.symm hnebp.out) _
           clear hw7 hT hE1 hBl hvbl hvrl hvtl hvpl
           skip))
      go_roundw
      case rel => exact ⟨j + 1, by omega, by omega, rfl, hB7, hvb7, hvr7, hvt7, hvp7⟩
      case measure => simp [intOf] <;> omega
    · obtain rfl : j = 31 := by omega
      rw [show (((31 : Nat)) : Int) = 31 from rfl]
      clear HK HK0
      have Hkz := Lib.hid (HL.out 31)
      obtain ⟨kz, HZ⟩ := namedF (K 31)
      rw [HZ.out] at CM CV Hkz hvbl
      go_upto_region 10 with fail
      go_wp2_with fail
      replace hvbl := hvbl.drew
      replace hvrl := hvrl.drew
      replace hvtl := hvtl.drew
      replace hvpl := hvpl.drew
      have hBq := (show Below w.heap.size w wr.drew from hBl.drew)
      refine wp_region_any (by kernel_rfl) ?_
      refine wpAny_flatM (L := [0, 1, 2, 3, 4, 5]) (by kernel_rfl) _ _ (someBVs10 kb w.heap.size gr gt gp ae p u26 u27 u28 u29 bs kz m bd v) [] 23 kzeros [0, 1, 2, 3, 4, 5, 6, 7, 8, 9, 10, 11, 12, 13, 14, 15, 16, 17, 18, 19, 20, 21, 22, 23, 24, 25, 26, 27, 28, 29] (by kernel_rfl) (by kernel_rfl) ?_ zero_k32 ?_ (by rfl) ?_ 2 (by kernel_rfl) ?_
      · intro p hp
        exact absurd hp List.not_mem_nil
      · repeat refine all_cons rfl ?_
        exact all_nil
      · refine all_cons (.inr (mStep _ 30 rfl rfl rfl rfl (by kernel_rfl) (fun a hv => wanted_all rfl _) (fun a w K hb hv hK => mCall (numVal bs) 25 _ _ rfl [] (rfl) (enters Tryd.func25 rfl rfl) (CB.out w (hS.below (below_then hBq hb))) hK))) ?_
        refine all_cons (.inr (mStep _ 31 rfl rfl rfl rfl (by kernel_rfl) (fun a hv => wanted_all rfl _) (fun a w K hb hv hK => mPure (hashVal kz) (exec_load _ _ _ _ rfl _ _ (hv 1 (by kernel_rfl) rfl) w (key_run (hvbl.on hb) Hkz.out)) hK))) ?_
        refine all_cons (.inr (mStep _ 32 rfl rfl rfl rfl (by kernel_rfl) (fun a hv => wanted_all rfl _) (fun a w K hb hv hK => mCall (numVal m) 21 _ _ rfl [numVal bs, hashVal kz] (cons_eq (hv 30 (by kernel_rfl) rfl) (cons_eq (hv 31 (by kernel_rfl) rfl) (rfl))) (enters Tryd.func21 rfl rfl) (CM.out w (hS.below (below_then hBq hb))) hK))) ?_
        refine all_cons (.inr (mStep _ 33 rfl rfl rfl rfl (by kernel_rfl) (fun a hv => wanted_all rfl _) (fun a w K hb hv hK => mCall (numD bd) 49 _ _ rfl [] (rfl) (enters Tryd.func49 rfl rfl) (CD.out w) hK))) ?_
        refine all_cons (.inr (mStep _ 34 rfl rfl rfl rfl (by kernel_rfl) (fun a hv => wanted_all rfl _) (fun a w K hb hv hK => mPure (hashVal kz) (exec_load _ _ _ _ rfl _ _ (hv 1 (by kernel_rfl) rfl) w (key_run (hvbl.on hb) Hkz.out)) hK))) ?_
        refine all_cons (.inr (mStep _ 35 rfl rfl rfl rfl (by kernel_rfl) (fun a hv => wanted_all rfl _) (fun a w K hb hv hK => mCall (numD v) 22 _ _ rfl [numD bd, hashVal kz] (cons_eq (hv 33 (by kernel_rfl) rfl) (cons_eq (hv 34 (by kernel_rfl) rfl) (rfl))) (enters Tryd.func22 rfl rfl) (CV.out w) hK))) ?_
        exact all_nil
      intro w8 g hb8 hN8 hap8
      clear hN8 hap8
      have hB8 := below_then (show Below w.heap.size w wr.drew from hBl.drew) hb8
      have hvb8 := hvbl.on hb8
      have hvr8 := hvrl.on hb8
      have hvt8 := hvtl.on hb8
      have hvp8 := hvpl.on hb8
      clear hBl hvbl hvrl hvtl hvpl hb8 hBq
      refine wpAny_rest 6 rfl (by kernel_rfl) ?_
      refine vset_step rfl 31 (.tmp 2) (.tmp 32) rfl gr 15 (nzeros 15) (m.map ncell) rfl rfl hvr8 rfl size_up (by rw [List.length_map, Hm.out]) (ncells_one _) ?_
      intro w9 hb9 hvr9 hz9
      have hB9 : Below w.heap.size w w9 := hB8.trans (hb9.below hger hB8.size)
      have hvb9 := hvb8.but hb9 hnebr.out
      have hvt9 := hvt8.but hb9 (Ne.symm hnert.out)
      have hvp9 := hvp8.but hb9 (Ne.symm hnerp.out)
      clear hB8 hvr8 hb9 hz9 hvb8 hvt8 hvp8
      refine vset_step rfl 40 (.tmp 3) (.tmp 35) rfl gt 24 (dzeros 24) (v.map dcell) rfl rfl hvt9 rfl size_tri (by rw [List.length_map, Hv.out]) (dcells_one _) ?_
      intro w10 hb10 hvt10 hz10
      have hB10 : Below w.heap.size w w10 := hB9.trans (hb10.below hget hB9.size)
      have hvb10 := hvb9.but hb10 hnebt.out
      have hvr10 := hvr9.but hb10 hnert.out
      have hvp10 := hvp9.but hb10 (Ne.symm hnetp.out)
      clear hB9 hvt9 hb10 hz10 hvb9 hvr9 hvp9
      rename_i K hKK
      show Exit.then K _ Exit.normal (⟨(someBVs10 kb w.heap.size gr gt gp ae p u26 u27 u28 u29 bs kz m bd v).toArray, []⟩ : Act) w10
      simp only [Exit.then]
      refine hKK _ _ ?_
      clear hKK K g
      simp only [someBVs10]
      go_wp2
      exact sretC2 Tryd.results16 gr gt (m.map ncell) (v.map dcell) rfl rfl hvr10 hvt10 Tryd.underlying31 rfl size_up (by rw [List.length_map, Hm.out]) Tryd.underlying40 rfl size_tri (by rw [List.length_map, Hv.out]) rfl ⟨rfl, hB10⟩
end Go.Proofs.YtagjbdhelfickaaDoor
namespace Go.Proofs.YtagjbdhelfickaaDoor
open Go.RowKit
set_option maxRecDepth 100000 in
set_option maxHeartbeats 1000000 in
theorem plus12_over (k1 kn : List UInt8) (k0 kk b0 b1 b2 : UInt8) (w : World)
    (Hkn : Hid (kn.length = 32))
    (D0 : Hid ((k1.map cellOf)[0]? = some (cellOf k0)))
    (D1 : Hid ((k1.map cellOf)[1]? = some (cellOf kk)))
    (HB0 : Hid (IntKind.u8.wrap ((k0.toNat : Int) + 256 * (kk.toNat : Int) + 1) = (b0.toNat : Int)))
    (HB1 : Hid (IntKind.u8.wrap (((k0.toNat : Int) + 256 * (kk.toNat : Int) + 1) / 256) = (b1.toNat : Int)))
    (HB2 : Hid (IntKind.u8.wrap (((k0.toNat : Int) + 256 * (kk.toNat : Int) + 1) / 65536) = (b2.toNat : Int)))
    (BN : ∀ w, (Instr.build 23 #[(0, .int .u8 (b0.toNat : Int)), (1, .int .u8 (b1.toNat : Int)), (2, .int .u8 (b2.toNat : Int))]).run Tryd.prog w = .ok (hashVal kn) w) :
    Calls Tryd.prog 26 #[hashVal k1] w fun e w' => e = .returned (hashVal kn) ∧ Below w.heap.size w w' := by
  go_enter Tryd.func26, Tryd.ntmps26
  go_upto_region 1 with (first
    | (refine take_step rfl 23 (.tmp 0) rfl k1 rfl ?_
       intro w1 hb1 hvk1 hz
       clear hz
       have hB1 := hb1
       have hgek : w.heap.size ≤ w.heap.size := Nat.le_refl _
       clear  hb1
       try simp only [Act.put, List.setIfInBounds_toArray, List.set_cons_zero, List.set_cons_succ]
       skip)
    | (refine vzero_step (o := ⟨some 2, _, _, _, _, _⟩) rfl 23 rfl kzeros zero_k32 ?_
       intro w2 hb2 hvr2
       have hB2 := below_then hB1 hb2
       have hger : w.heap.size ≤ w1.heap.size := hB1.size
       have hvk2 := hvk1.on hb2
       have hnekr := Nat.ne_of_lt hvk1.lt
       clear hB1 hvk1 hb2
       try simp only [Act.put, List.setIfInBounds_toArray, List.set_cons_zero, List.set_cons_succ]
       skip))
  generalize hqr : w1.heap.size = gr at *
  clear hqr
  have d0 := hvk2.get D0.out
  have d1 := hvk2.get D1.out
  have e0 := HB0.out
  have e1 := HB1.out
  have e2 := HB2.out
  have h0 := k0.toNat_lt
  have h1 := kk.toNat_lt
  have i1 : IntKind.i64.wrap (256 * (kk.toNat : Int)) = 256 * (kk.toNat : Int) := IntWalk.i64_in _ (by omega)
  have i2 : IntKind.i64.wrap ((k0.toNat : Int) + 256 * (kk.toNat : Int)) = (k0.toNat : Int) + 256 * (kk.toNat : Int) := IntWalk.i64_in _ (by omega)
  have i3 : IntKind.i64.wrap ((k0.toNat : Int) + 256 * (kk.toNat : Int) + 1) = (k0.toNat : Int) + 256 * (kk.toNat : Int) + 1 := IntWalk.i64_in _ (by omega)
  have i4 : IntKind.i64.wrap (k0.toNat : Int) = (k0.toNat : Int) := IntWalk.i64_in _ (by omega)
  have i5 : IntKind.i64.wrap (kk.toNat : Int) = (kk.toNat : Int) := IntWalk.i64_in _ (by omega)
  clear h0 h1
  go_wp2_with (first
    | (refine build_step rfl 23 _ rfl [(0, .int .u8 (b0.toNat : Int)), (1, .int .u8 (b1.toNat : Int)), (2, .int .u8 (b2.toNat : Int))] rfl _ BN ?_
       try simp only [Act.put, List.setIfInBounds_toArray, List.set_cons_zero, List.set_cons_succ]
       skip)
    | (refine vset_step rfl 23 (.tmp 2) (.tmp 21) rfl gr 32 kzeros (kn.map cellOf) rfl rfl hvr2 rfl size_k32 (by rw [List.length_map, Hkn.out]) (kcells_one _) ?_
       intro w3 hb3 hvr3 hz3
       have hB3 : Below w.heap.size w w3 := hB2.trans (hb3.below hger hB2.size)
       have hvk3 := hvk2.but hb3 hnekr
       clear hB2 hvr2 hb3 hz3 hvk2
       skip))
  exact sret Tryd.results26 gr (kn.map cellOf) rfl hvr3 Tryd.underlying23 rfl size_k32 (by rw [List.length_map, Hkn.out]) rfl ⟨rfl, hB3⟩
set_option maxRecDepth 100000 in
set_option maxHeartbeats 1000000 in
theorem l12_over (ka kl : List UInt8) (w : World)
    (Hka : Hid (ka.length = 32))
    (Hkl : Hid (kl.length = 32))
    (HK : Hid ((ka.map cellOf).set 31 (.int .u8 16) = kl.map cellOf))
    (BA : ∀ w, (Instr.build 23 #[(0, .int .u8 237), (1, .int .u8 211), (2, .int .u8 245), (3, .int .u8 92), (4, .int .u8 26), (5, .int .u8 99), (6, .int .u8 18), (7, .int .u8 88), (8, .int .u8 214), (9, .int .u8 156), (10, .int .u8 247), (11, .int .u8 162), (12, .int .u8 222), (13, .int .u8 249), (14, .int .u8 222), (15, .int .u8 20)]).run Tryd.prog w = .ok (hashVal ka) w) :
    Calls Tryd.prog 27 #[] w fun e w' => e = .returned (hashVal kl) ∧ Below w.heap.size w w' := by
  go_enter Tryd.func27, Tryd.ntmps27
  go_upto_region 2 with (first
    | (refine vzero_step (o := ⟨some 0, _, _, _, _, _⟩) rfl 23 rfl kzeros zero_k32 ?_
       intro w1 hb1 hvr1
       have hB1 := hb1
       have hger : w.heap.size ≤ w.heap.size := Nat.le_refl _
       clear  hb1
       try simp only [Act.put, List.setIfInBounds_toArray, List.set_cons_zero]
       skip)
    | (refine build_step rfl 23 _ rfl [(0, .int .u8 237), (1, .int .u8 211), (2, .int .u8 245), (3, .int .u8 92), (4, .int .u8 26), (5, .int .u8 99), (6, .int .u8 18), (7, .int .u8 88), (8, .int .u8 214), (9, .int .u8 156), (10, .int .u8 247), (11, .int .u8 162), (12, .int .u8 222), (13, .int .u8 249), (14, .int .u8 222), (15, .int .u8 20)] rfl _ BA ?_
       try simp only [Act.put, List.setIfInBounds_toArray, List.set_cons_zero, List.set_cons_succ]
       skip)
    | (refine vput_step rfl rfl 23 (.tmp 1) (.tmp 2) rfl rfl 32 kzeros (ka.map cellOf) rfl rfl zero_k32 rfl size_k32 (by rw [List.length_map, Hka.out]) (kcells_one _) ?_
       intro w2 hb2 hvk2
       have hB2 := below_then hB1 hb2
       have hgek : w.heap.size ≤ w1.heap.size := hB1.size
       have hvr2 := hvr1.on hb2
       have hnerk := Nat.ne_of_lt hvr1.lt
       clear hB1 hvr1 hb2
       try simp only [Act.put, List.setIfInBounds_toArray, List.set_cons_zero, List.set_cons_succ]
       skip))
  generalize hqk : w1.heap.size = gk at *
  clear hqk
  have hT := hvk2.there 31 1 (by rw [List.length_map, Hka.out]; decide)
  have hE1 := Lib.hid (HK.out ▸ hvk2.set 31 (.int .u8 16))
  go_wp2_with (first
    | (refine store_step rfl 5 _ _ rfl gk 31 .u8 16 rfl rfl size_u8 hT ?_
       intro w3 hw3
       have hB3 : Below w.heap.size w w3 := by rw [hw3]; exact hB2.setCell (p := ⟨gk, 31, none⟩) hgek _
       have hvk3 : Cells w3 gk (kl.map cellOf) 23 := by rw [hw3]; exact hE1.out
       have hvr3 : Cells w3 (w.heap.size) kzeros 23 := by rw [hw3]; exact hvr2.other hnerk _
       clear hw3 hT hE1 hB2 hvr2 hvk2
       skip)
    | (refine get_step rfl 23 (.tmp 1) rfl gk 32 kl 5 rfl hvk3 Tryd.underlying23 size_k32 Hkl.out ?_
       try simp only [Act.put, List.setIfInBounds_toArray, List.set_cons_zero, List.set_cons_succ]
       skip)
    | (refine vset_step rfl 23 (.tmp 0) (.tmp 4) rfl w.heap.size 32 kzeros (kl.map cellOf) rfl rfl hvr3 rfl size_k32 (by rw [List.length_map, Hkl.out]) (kcells_one _) ?_
       intro w4 hb4 hvr4 hz4
       have hB4 : Below w.heap.size w w4 := hB3.trans (hb4.below hger hB3.size)
       have hvk4 := hvk3.but hb4 (Ne.symm hnerk)
       clear hB3 hvr3 hb4 hz4 hvk3
       skip))
  exact sret Tryd.results27 (w.heap.size) (kl.map cellOf) rfl hvr4 Tryd.underlying23 rfl size_k32 (by rw [List.length_map, Hkl.out]) rfl ⟨rfl, hB4⟩
end Go.Proofs.YtagjbdhelfickaaDoor
namespace Go.Proofs.YtagjbdhelfickaaDoor
open Go.ChangeShapes Go.WideShapes Go.ChangeAt Go.RowKit

theorem own : ownKnob Tryd.prog.godebug = none := by kernel_rfl
theorem laidOut : laidOutB Tryd.prog = true := by kernel_rfl

/-- All arguments read as they did where nothing old has turned. -/
theorem trodAll_below {H : Type} {enc : TypeId × Value → H} {P : Program} (hl : laidOutB P = true) {W W' : World} (hb : Below W.heap.size W W') :
    ∀ (ts : List TypeId) (vs : List Value) (ds : List (DataW H)) (ps : List MemPlace), (ts.all fun t => P.readableRec t && decide (t < P.types.size)) = true → (∀ x ∈ ps, x.block < W.heap.size) →
      DataW.TrodAll enc P W 0 (fun _ => true) true ts vs ds ps → DataW.TrodAll enc P W' 0 (fun b => decide (b < W.heap.size)) true ts vs ds ps
  | [], [], [], ps, _, _, h => h
  | t :: ts, v :: vs, d :: ds, ps, hr, hlt, ⟨p, q, h1, h2, h3⟩ => by
    subst h3
    rw [List.all_cons, Bool.and_eq_true, Bool.and_eq_true] at hr
    exact ⟨p, q, Below.trod hl hr.1.1 (of_decide_eq_true hr.1.2) h1 hb (fun x hx => hlt x (List.mem_append_left _ hx)),
      trodAll_below hl hb ts vs ds q hr.2 (fun x hx => hlt x (List.mem_append_right _ hx)) h2, rfl⟩

/-- A law's last step. -/
theorem law_post {H : Type} {enc : TypeId × Value → H} {P : Program} {f : Func} {s : ChangeSpec} {tb : TypeId} {W W' : World} {args : Array Value} {ds gs : List (DataW H)} {before : List MemPlace}
    (hl : laidOutB P = true) (hbool : P.underlying tb = some .bool) (hres : f.resultTypes = #[tb]) (hts : (f.params.toList.all fun t => P.readableRec t && decide (t < P.types.size)) = true) (hvars : s.vars = [])
    (hfn : (s.fn H ds).results = [.lit (.bool true)] ∧ (s.fn H ds).args = ds ∧ (s.fn H ds).vars = [])
    (hW : DataW.Whole enc P f.params.toList s.vars false W args.toList ds gs before) (hb : Below W.heap.size W W') :
    s.post enc P f false true false false W args (.bool true) W' := by
  have hlt : ∀ p ∈ before, p.block < W.heap.size := fun p hp => hW.lt p hp
  have hW' := hW
  obtain ⟨p, q, hA, hV, rfl, hfz, hnd⟩ := hW
  rw [hvars] at hV
  obtain ⟨rfl, rfl⟩ := trodVars_none hV
  have e : ds ++ [] = ds := List.append_nil _
  refine ⟨ds, [], _, [], p, [], hW', ?_, ?_, ?_, hb.frame _ |> World.keptBut_mono (fun x hx => ⟨hx, .inr (.inl (by simpa using hx))⟩), fun h => by cases h⟩
  · rw [e, hfn.1, hres]; exact trodAll_mk1 (shut_bool hbool _)
  · rw [e, hfn.2.1]; exact trodAll_below hl hb _ _ _ _ hts (fun x hx => hlt x (by simpa using hx)) hA
  · rw [e, hfn.2.2, hvars]; rfl

/-- An array of integers that comes in by value. -/
theorem open_intarr {H : Type} {enc : TypeId × Value → H} {P : Program} {W : World} {r : Reach} {b0 base : Nat} {spare : Nat → Bool} {held : Bool} {t e : TypeId} {n : Nat} {k : IntKind} {v : Value} {d : DataW H} {p : List MemPlace}
    (ht : P.underlying t = some (.array n e)) (he : P.underlying e = some (.int k)) (hc : P.cellsOf e = 1) (hC : P.cellsOf t = n)
    (hv : Value.okWide P W r b0 t v) (h : DataW.Trod enc P W base spare held t v d p) :
    ∃ zs : List Int, v = .agg (zs.map (Value.int k)).toArray ∧ zs.length = n ∧ ∀ z ∈ zs, (Lit.int k z).wf = true := by
  simp only [Value.okWide, ht] at hv
  obtain ⟨⟨cs⟩, rfl, hsz, _⟩ := hv
  obtain ⟨fuel, hf⟩ := h
  obtain ⟨xs, m, rfl, hx, hl, hn, hel⟩ := DataW.trod_array ht hf
  simp only [Value.cells] at hl hel
  rw [hC] at hl
  have hi : ∀ i, i < n → ∃ z, cs[i]? = some (.int k z) ∧ (Lit.int k z).wf = true := by
    intro i hi
    have h1 := hel i hi
    rw [hc, Nat.mul_one, List.getElem?_eq_getElem (by omega)] at h1
    obtain ⟨z, e1, _, e3⟩ := DataW.trod_int he h1
    refine ⟨z, ?_, e3⟩
    have e4 : ((cs.drop i).take 1)[0]? = some (.int k z) := by rw [e1]; rfl
    simpa using e4
  refine ⟨cs.map fun c => intOf c, ?_, by simpa using hl, ?_⟩
  · congr 1
    simp only [List.map_map]
    congr 1
    refine List.ext_getElem? fun i => ?_
    rw [List.getElem?_map]
    by_cases h : i < n
    · obtain ⟨z, hz, _⟩ := hi i h
      rw [hz]; rfl
    · rw [List.getElem?_eq_none (by omega)]; rfl
  · intro z hz
    obtain ⟨c, hc1, rfl⟩ := List.mem_map.1 hz
    obtain ⟨i, hi1, hi2⟩ := List.getElem_of_mem hc1
    obtain ⟨z, hz1, hz2⟩ := hi i (by omega)
    rw [List.getElem?_eq_getElem hi1, hi2] at hz1
    cases hz1
    exact hz2
end Go.Proofs.YtagjbdhelfickaaDoor
