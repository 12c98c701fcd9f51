/- Part 22 of what the laws of this seat share: UReadBad, KPoAlive, KPoSome, KPoPlus, Frame, WOpen, WOpen2, WOpen3, WKey, ULaw, ZVerify. -/
import Derived.Deep.Cut
import Derived.IntWalk
import Derived.Test.YtoggkhjaghkpnaaDoorCards
import Derived.Test.YtoggkhjaghkpnaaDoorTie
import Derived.WalkKit
import Derived.ProofKit
import Derived.OpenShut
import Derived.ShutString
import Derived.LaidMore
import Derived.Deep.DeepHandedRow
import Derived.Deep.DeepWitnessRowRef
import Derived.Deep.Matrix
import Derived.Deep.Strs
import Derived.Deep.WholeRow
import Derived.Lib.LaidTab
import Derived.Test.YtoggkhjaghkpnaaDoorPart21
namespace Go.Proofs.YtoggkhjaghkpnaaDoor
open Go.RowKit
set_option maxRecDepth 100000 in
set_option maxHeartbeats 4000000 in
theorem ureadBad_over (y zt : List Nat) (kb kc : List UInt8) (q v : UInt8) (od : Bool) (ae : Addr) (w : World)
    (Hy : Hid (y.length = 5))
    (Hzt : Hid (zt.length = 15))
    (Hkb : Hid (kb.length = 32))
    (Hkc : Hid (kc.length = 32))
    (D1 : Hid ((kb.map cellOf)[31]? = some (cellOf q)))
    (HO : Hid (bits .and .u8 (q.toNat : Int) 128 = bif od then 128 else 0))
    (HV : Hid (bits .andNot .u8 (q.toNat : Int) 128 = (v.toNat : Int)))
    (HC : Hid (kc = kb.set 31 v))
    (CS : Hid (∀ W, TabsU (errAt ae) W → Calls Tryd.prog 35 #[hashVal kc] W (gvn (.tuple #[numVal y, errAt ae]) W)))
    (BZ : ∀ w, (Instr.build 46 #[]).run Tryd.prog w = .ok (numVal zt) w)
    (hS : TabsU (errAt ae) w)
    (hE : w.cell? ⟨1, 0, none⟩ = some (errAt ae)) :
    Calls Tryd.prog 16 #[hashVal kb] w (gvn (.tuple #[numVal zt, errAt ae]) w) := by
  go_enter Tryd.func16, Tryd.ntmps16
  cases od
  · have ho := HO.out
    have hv := HV.out
    clear HO HV
    go_upto_region 1 with (first
      | (refine take_step rfl 23 (.tmp 0) rfl kb rfl ?_
         intro w1 hb1 hvb1 hz
         clear hz
         have hB1 := hb1
         have hgeb : w.heap.size ≤ w.heap.size := Nat.le_refl _
         clear  hb1
         try simp only [putS]
         skip)
      | (refine vzero_step (o := ⟨some 2, _, _, _, _, _⟩) rfl 46 rfl (nzeros 15) zero_up ?_
         intro w2 hb2 hvr2
         have hB2 := below_then hB1 hb2
         have hger : w.heap.size ≤ w1.heap.size := hB1.size
         have hvb2 := hvb1.on hb2
         have hnebr := Nat.ne_of_lt hvb1.lt
         clear hB1 hvb1 hb2
         try simp only [putS]
         skip))
    generalize hqr : w1.heap.size = gr at *
    clear hqr
    have dq := hvb2.get D1.out
    have hT := hvb2.there 31 1 (by rw [List.length_map, Hkb.out]; decide)
    have hE1 := Lib.hid (hvb2.set 31 (cellOf v))
    go_upto_region 3 with (first
      | (refine store_step rfl 5 _ _ rfl (w.heap.size) 31 .u8 (v.toNat : Int) rfl rfl size_u8 hT ?_
         intro w3 hw3
         have hB3 : Below w.heap.size w w3 := by rw [hw3]; exact hB2.setCell (p := ⟨w.heap.size, 31, none⟩) (Nat.le_refl _) _
         have hvb3 : Cells w3 (w.heap.size) (kc.map cellOf) 23 := by rw [hw3, HC.out, List.map_set]; exact hE1.out
         have hvr3 : Cells w3 gr (nzeros 15) 46 := by rw [hw3]; exact hvr2.other (Ne.symm hnebr) _
         clear hw3 hT hE1 dq ho hv hB2 hvb2 hvr2
         skip))
    go_wp2_with (first
      | (refine get_step rfl 23 (.tmp 1) rfl w.heap.size 32 kc 5 rfl hvb3 Tryd.underlying23 size_k32 Hkc.out ?_
         try simp only [putS]
         skip))
    refine (CS.out w3 (hS.below hB3)).mono ?_
    rintro e w4 ⟨rfl, hb4⟩
    have hB4 := below_then hB3 hb4
    have hvb4 := hvb3.on hb4
    have hvr4 := hvr3.on hb4
    clear hB3 hvb3 hvr3 hb4
    go_wp2_with (first
      | (refine vput_step rfl rfl 44 (.tmp 5) (.tmp 21) rfl rfl 5 (nzeros 5) (y.map ncell) rfl rfl zero_elem rfl size_elem (by rw [List.length_map, Hy.out]) (ncells_one _) ?_
         intro w5 hb5 hvy5
         have hB5 := below_then hB4 hb5
         have hgey : w.heap.size ≤ w4.heap.size := hB4.size
         have hvb5 := hvb4.on hb5
         have hneby := Nat.ne_of_lt hvb4.lt
         have hvr5 := hvr4.on hb5
         have hnery := Nat.ne_of_lt hvr4.lt
         clear hB4 hvb4 hvr4 hb5
         try simp only [putS]
         skip))
    generalize hqy : w4.heap.size = gy at *
    clear hqy
    go_wp2_with fail
    replace hvb5 := hvb5.drew
    replace hvr5 := hvr5.drew
    replace hvy5 := hvy5.drew
    rename_i K hKK
    have hltE := block_lt_of_cell hE
    have de6 : w5.drew.cell? ⟨1, 0, none⟩ = some (errAt ae) := (hB5.cell hltE).trans hE
    have hB6 := (show Below w.heap.size w w5.drew from hB5.drew)
    clear hB5
    refine wp_region_any (by kernel_rfl) ?_
    refine wpAny_of_held (S := fun w' => w'.cell? ⟨1, 0, none⟩ = some (errAt ae)) _ _ _ _ ?_
    show wpAnyH _ _ _ _ _ _ _ _ w5.drew
    simp only [List.size_toArray, List.length_cons, List.length_nil, Nat.reduceAdd, Array.replicate_succ, Array.replicate_zero, List.push_toArray, List.nil_append, List.cons_append]
    generalize w5.drew = w6 at *
    refine wpAnyH_take (i := 1) (oi := ⟨some 26, _, _, _, _, _⟩) (v := (errAt ae)) rfl (by kernel_rfl) (by kernel_rfl) (by kernel_rfl) (fun _ _ _ h => h) (Or.inl ⟨by rfl, ?_⟩) de6 ?_
    · intro w8 h8
      exact exec_load _ _ _ _ rfl _ _ rfl _ (load_err h8)
    refine wpAnyH_all (rs := [0]) (by kernel_rfl) (by decide) fun i hi => ?_
    obtain rfl := List.mem_singleton.1 hi
    clear hi
    refine wpOp_step rfl fun K1 hK1 => ?_
    rw [if_pos (by rfl)]
    refine flat_pure (numVal zt) (exec_build _ _ _ [] rfl [] rfl _ w6 (BZ w6)) (hK1 _ _ ⟨de6, ?_⟩)
    clear hK1 K1
    refine wpAnyH_all (rs := [2]) (by kernel_rfl) (by decide) fun i hi => ?_
    obtain rfl := List.mem_singleton.1 hi
    clear hi
    refine wpOp_step rfl fun K1 hK1 => ?_
    rw [if_pos (by rfl)]
    refine wp_store_mid 46 (.tmp 2) (.tmp 25) rfl gr 0 (zt.map ncell).toArray rfl rfl (by rw [List.size_toArray, List.length_map, Hzt.out]; exact hvr5.there 0 15 (by rw [show ((nzeros 15)).length = 15 from rfl]; decide)) (by rw [List.size_toArray, List.length_map, Hzt.out]; exact size_up) (ncells_one _) (hK1 _ _ ?_)
    have hC2 := hvr5.setCells (cs := zt.map ncell) (o := 0) (by rw [List.length_map, Hzt.out, show ((nzeros 15)).length = 15 from rfl]; decide)
    rw [splice_all _ _ (by rw [List.length_map, Hzt.out, show ((nzeros 15)).length = 15 from rfl])] at hC2
    have hb7 : But gr w6 (w6.setCells gr 0 (zt.map ncell)) := (But.refl _ _).setCells _ _
    have hB7 : Below w.heap.size w (w6.setCells gr 0 (zt.map ncell)) := hB6.trans (hb7.below hger hB6.size)
    have de7 : (w6.setCells gr 0 (zt.map ncell)).cell? ⟨1, 0, none⟩ = some (errAt ae) := (World.cell?_of_block (hb7.block _ (block_lt_of_cell de6) (Nat.ne_of_lt (Nat.lt_of_lt_of_le hltE hger)))).trans de6
    change (w6.setCells gr 0 (zt.map ncell)).cell? ⟨1, 0, none⟩ = some (errAt ae) ∧ wpAnyH _ _ _ _ _ _ _ _ (w6.setCells gr 0 (zt.map ncell))
    have hvb7 := hvb5.but hb7 hnebr
    have hvy7 := hvy5.but hb7 (Ne.symm hnery)
    have hvr7 := hC2
    clear hC2 hb7 hK1 K1 hB6 hvr5 de6 hvb5 hvy5
    generalize w6.setCells gr 0 (zt.map ncell) = w7 at *
    refine ⟨de7, ?_⟩
    refine wpAnyH_all (rs := [3]) (by kernel_rfl) (by decide) fun i hi => ?_
    obtain rfl := List.mem_singleton.1 hi
    clear hi
    refine wpOp_step rfl fun K1 hK1 => ?_
    rw [if_pos (by rfl)]
    refine flat_pure ((errAt ae)) (exec_move _ _ _ (.inr rfl) ((errAt ae)) (by rfl) w7) (hK1 _ _ ⟨de7, ?_⟩)
    clear hK1 K1
    refine wpAnyH_done (by kernel_rfl) ?_ _
    show Exit.then K _ Exit.normal (⟨((hashVal kb) :: (.pointer (some ⟨w.heap.size, 0, none⟩)) :: (.pointer (some ⟨gr, 0, none⟩)) :: ((errAt ae)) :: (.bool false) :: (.pointer (some ⟨gy, 0, none⟩)) :: (errAt ae) :: undef :: undef :: undef :: (.pointer (some ⟨w.heap.size, 31, none⟩)) :: (cellOf q) :: (.int .u8 0) :: (.bool false) :: (.pointer (some ⟨w.heap.size, 31, none⟩)) :: (cellOf q) :: (.int .u8 (v.toNat : Int)) :: (.pointer (some ⟨w.heap.size, 31, none⟩)) :: (.tuple #[numVal y, errAt ae]) :: (hashVal kc) :: (.tuple #[numVal y, errAt ae]) :: (numVal y) :: (errAt ae) :: (errAt ae) :: (.bool true) :: (numVal zt) :: ((errAt ae)) :: undef :: undef :: undef :: undef :: undef :: undef :: undef :: undef :: undef :: undef :: undef :: undef :: undef :: undef :: undef :: undef :: undef :: undef :: undef :: undef :: undef :: undef :: undef :: []).toArray, []⟩ : Act) w7
    simp only [Exit.then]
    refine hKK _ _ ?_
    clear hKK K
    go_wp2
    exact sret2 Tryd.results16 gr (zt.map ncell) _ rfl rfl hvr7 Tryd.underlying46 rfl size_up (by rw [List.length_map, Hzt.out]) rfl ⟨rfl, hB7⟩
  · have ho := HO.out
    have hv := HV.out
    clear HO HV
    go_upto_region 1 with (first
      | (refine take_step rfl 23 (.tmp 0) rfl kb rfl ?_
         intro w8 hb8 hvb8 hz
         clear hz
         have hB8 := hb8
         have hgeb : w.heap.size ≤ w.heap.size := Nat.le_refl _
         clear  hb8
         try simp only [putS]
         skip)
      | (refine vzero_step (o := ⟨some 2, _, _, _, _, _⟩) rfl 46 rfl (nzeros 15) zero_up ?_
         intro w9 hb9 hvr9
         have hB9 := below_then hB8 hb9
         have hger : w.heap.size ≤ w8.heap.size := hB8.size
         have hvb9 := hvb8.on hb9
         have hnebr := Nat.ne_of_lt hvb8.lt
         clear hB8 hvb8 hb9
         try simp only [putS]
         skip))
    generalize hqr : w8.heap.size = gr at *
    clear hqr
    have dq := hvb9.get D1.out
    have hT := hvb9.there 31 1 (by rw [List.length_map, Hkb.out]; decide)
    have hE1 := Lib.hid (hvb9.set 31 (cellOf v))
    go_upto_region 3 with (first
      | (refine store_step rfl 5 _ _ rfl (w.heap.size) 31 .u8 (v.toNat : Int) rfl rfl size_u8 hT ?_
         intro w10 hw10
         have hB10 : Below w.heap.size w w10 := by rw [hw10]; exact hB9.setCell (p := ⟨w.heap.size, 31, none⟩) (Nat.le_refl _) _
         have hvb10 : Cells w10 (w.heap.size) (kc.map cellOf) 23 := by rw [hw10, HC.out, List.map_set]; exact hE1.out
         have hvr10 : Cells w10 gr (nzeros 15) 46 := by rw [hw10]; exact hvr9.other (Ne.symm hnebr) _
         clear hw10 hT hE1 dq ho hv hB9 hvb9 hvr9
         skip))
    go_wp2_with (first
      | (refine get_step rfl 23 (.tmp 1) rfl w.heap.size 32 kc 5 rfl hvb10 Tryd.underlying23 size_k32 Hkc.out ?_
         try simp only [putS]
         skip))
    refine (CS.out w10 (hS.below hB10)).mono ?_
    rintro e w11 ⟨rfl, hb11⟩
    have hB11 := below_then hB10 hb11
    have hvb11 := hvb10.on hb11
    have hvr11 := hvr10.on hb11
    clear hB10 hvb10 hvr10 hb11
    go_wp2_with (first
      | (refine vput_step rfl rfl 44 (.tmp 5) (.tmp 21) rfl rfl 5 (nzeros 5) (y.map ncell) rfl rfl zero_elem rfl size_elem (by rw [List.length_map, Hy.out]) (ncells_one _) ?_
         intro w12 hb12 hvy12
         have hB12 := below_then hB11 hb12
         have hgey : w.heap.size ≤ w11.heap.size := hB11.size
         have hvb12 := hvb11.on hb12
         have hneby := Nat.ne_of_lt hvb11.lt
         have hvr12 := hvr11.on hb12
         have hnery := Nat.ne_of_lt hvr11.lt
         clear hB11 hvb11 hvr11 hb12
         try simp only [putS]
         skip))
    generalize hqy : w11.heap.size = gy at *
    clear hqy
    go_wp2_with fail
    replace hvb12 := hvb12.drew
    replace hvr12 := hvr12.drew
    replace hvy12 := hvy12.drew
    rename_i K hKK
    have hltE := block_lt_of_cell hE
    have de13 : w12.drew.cell? ⟨1, 0, none⟩ = some (errAt ae) := (hB12.cell hltE).trans hE
    have hB13 := (show Below w.heap.size w w12.drew from hB12.drew)
    clear hB12
    refine wp_region_any (by kernel_rfl) ?_
    refine wpAny_of_held (S := fun w' => w'.cell? ⟨1, 0, none⟩ = some (errAt ae)) _ _ _ _ ?_
    show wpAnyH _ _ _ _ _ _ _ _ w12.drew
    simp only [List.size_toArray, List.length_cons, List.length_nil, Nat.reduceAdd, Array.replicate_succ, Array.replicate_zero, List.push_toArray, List.nil_append, List.cons_append]
    generalize w12.drew = w13 at *
    refine wpAnyH_take (i := 1) (oi := ⟨some 26, _, _, _, _, _⟩) (v := (errAt ae)) rfl (by kernel_rfl) (by kernel_rfl) (by kernel_rfl) (fun _ _ _ h => h) (Or.inl ⟨by rfl, ?_⟩) de13 ?_
    · intro w8 h8
      exact exec_load _ _ _ _ rfl _ _ rfl _ (load_err h8)
    refine wpAnyH_all (rs := [0]) (by kernel_rfl) (by decide) fun i hi => ?_
    obtain rfl := List.mem_singleton.1 hi
    clear hi
    refine wpOp_step rfl fun K1 hK1 => ?_
    rw [if_pos (by rfl)]
    refine flat_pure (numVal zt) (exec_build _ _ _ [] rfl [] rfl _ w13 (BZ w13)) (hK1 _ _ ⟨de13, ?_⟩)
    clear hK1 K1
    refine wpAnyH_all (rs := [2]) (by kernel_rfl) (by decide) fun i hi => ?_
    obtain rfl := List.mem_singleton.1 hi
    clear hi
    refine wpOp_step rfl fun K1 hK1 => ?_
    rw [if_pos (by rfl)]
    refine wp_store_mid 46 (.tmp 2) (.tmp 25) rfl gr 0 (zt.map ncell).toArray rfl rfl (by rw [List.size_toArray, List.length_map, Hzt.out]; exact hvr12.there 0 15 (by rw [show ((nzeros 15)).length = 15 from rfl]; decide)) (by rw [List.size_toArray, List.length_map, Hzt.out]; exact size_up) (ncells_one _) (hK1 _ _ ?_)
    have hC2 := hvr12.setCells (cs := zt.map ncell) (o := 0) (by rw [List.length_map, Hzt.out, show ((nzeros 15)).length = 15 from rfl]; decide)
    rw [splice_all _ _ (by rw [List.length_map, Hzt.out, show ((nzeros 15)).length = 15 from rfl])] at hC2
    have hb14 : But gr w13 (w13.setCells gr 0 (zt.map ncell)) := (But.refl _ _).setCells _ _
    have hB14 : Below w.heap.size w (w13.setCells gr 0 (zt.map ncell)) := hB13.trans (hb14.below hger hB13.size)
    have de14 : (w13.setCells gr 0 (zt.map ncell)).cell? ⟨1, 0, none⟩ = some (errAt ae) := (World.cell?_of_block (hb14.block _ (block_lt_of_cell de13) (Nat.ne_of_lt (Nat.lt_of_lt_of_le hltE hger)))).trans de13
    change (w13.setCells gr 0 (zt.map ncell)).cell? ⟨1, 0, none⟩ = some (errAt ae) ∧ wpAnyH _ _ _ _ _ _ _ _ (w13.setCells gr 0 (zt.map ncell))
    have hvb14 := hvb12.but hb14 hnebr
    have hvy14 := hvy12.but hb14 (Ne.symm hnery)
    have hvr14 := hC2
    clear hC2 hb14 hK1 K1 hB13 hvr12 de13 hvb12 hvy12
    generalize w13.setCells gr 0 (zt.map ncell) = w14 at *
    refine ⟨de14, ?_⟩
    refine wpAnyH_all (rs := [3]) (by kernel_rfl) (by decide) fun i hi => ?_
    obtain rfl := List.mem_singleton.1 hi
    clear hi
    refine wpOp_step rfl fun K1 hK1 => ?_
    rw [if_pos (by rfl)]
    refine flat_pure ((errAt ae)) (exec_move _ _ _ (.inr rfl) ((errAt ae)) (by rfl) w14) (hK1 _ _ ⟨de14, ?_⟩)
    clear hK1 K1
    refine wpAnyH_done (by kernel_rfl) ?_ _
    show Exit.then K _ Exit.normal (⟨((hashVal kb) :: (.pointer (some ⟨w.heap.size, 0, none⟩)) :: (.pointer (some ⟨gr, 0, none⟩)) :: ((errAt ae)) :: (.bool true) :: (.pointer (some ⟨gy, 0, none⟩)) :: (errAt ae) :: undef :: undef :: undef :: (.pointer (some ⟨w.heap.size, 31, none⟩)) :: (cellOf q) :: (.int .u8 128) :: (.bool true) :: (.pointer (some ⟨w.heap.size, 31, none⟩)) :: (cellOf q) :: (.int .u8 (v.toNat : Int)) :: (.pointer (some ⟨w.heap.size, 31, none⟩)) :: (.tuple #[numVal y, errAt ae]) :: (hashVal kc) :: (.tuple #[numVal y, errAt ae]) :: (numVal y) :: (errAt ae) :: (errAt ae) :: (.bool true) :: (numVal zt) :: ((errAt ae)) :: undef :: undef :: undef :: undef :: undef :: undef :: undef :: undef :: undef :: undef :: undef :: undef :: undef :: undef :: undef :: undef :: undef :: undef :: undef :: undef :: undef :: undef :: undef :: []).toArray, []⟩ : Act) w14
    simp only [Exit.then]
    refine hKK _ _ ?_
    clear hKK K
    go_wp2
    exact sret2 Tryd.results16 gr (zt.map ncell) _ rfl rfl hvr14 Tryd.underlying46 rfl size_up (by rw [List.length_map, Hzt.out]) rfl ⟨rfl, hB14⟩
end Go.Proofs.YtoggkhjaghkpnaaDoor
namespace Go.Proofs.YtoggkhjaghkpnaaDoor
open Go.RowKit
end Go.Proofs.YtoggkhjaghkpnaaDoor
namespace Go.Proofs.YtoggkhjaghkpnaaDoor
open Go.ChangeShapes Go.WideShapes Go.ChangeAt Go.RowKit

theorem own : ownKnob Tryd.prog.godebug = none := by kernel_rfl
theorem laidOut : laidOutB Tryd.prog = true := by kernel_rfl

/-- All arguments read as they did where nothing old has turned. -/
theorem trodAll_below {H : Type} {enc : TypeId × Value → H} {P : Program} (hl : laidOutB P = true) {W W' : World} (hb : Below W.heap.size W W') :
    ∀ (ts : List TypeId) (vs : List Value) (ds : List (DataW H)) (ps : List MemPlace), (ts.all fun t => P.readableRec t && decide (t < P.types.size)) = true → (∀ x ∈ ps, x.block < W.heap.size) →
      DataW.TrodAll enc P W 0 (fun _ => true) true ts vs ds ps → DataW.TrodAll enc P W' 0 (fun b => decide (b < W.heap.size)) true ts vs ds ps
  | [], [], [], ps, _, _, h => h
  | t :: ts, v :: vs, d :: ds, ps, hr, hlt, ⟨p, q, h1, h2, h3⟩ => by
    subst h3
    rw [List.all_cons, Bool.and_eq_true, Bool.and_eq_true] at hr
    exact ⟨p, q, Below.trod hl hr.1.1 (of_decide_eq_true hr.1.2) h1 hb (fun x hx => hlt x (List.mem_append_left _ hx)),
      trodAll_below hl hb ts vs ds q hr.2 (fun x hx => hlt x (List.mem_append_right _ hx)) h2, rfl⟩

/-- A law's last step. -/
theorem law_post {H : Type} {enc : TypeId × Value → H} {P : Program} {f : Func} {s : ChangeSpec} {tb : TypeId} {W W' : World} {args : Array Value} {ds gs : List (DataW H)} {before : List MemPlace}
    (hl : laidOutB P = true) (hbool : P.underlying tb = some .bool) (hres : f.resultTypes = #[tb]) (hts : (f.params.toList.all fun t => P.readableRec t && decide (t < P.types.size)) = true) (hvars : s.vars = [])
    (hfn : (s.fn H ds).results = [.lit (.bool true)] ∧ (s.fn H ds).args = ds ∧ (s.fn H ds).vars = [])
    (hW : DataW.Whole enc P f.params.toList s.vars false W args.toList ds gs before) (hb : Below W.heap.size W W') :
    s.post enc P f false true false false W args (.bool true) W' := by
  have hlt : ∀ p ∈ before, p.block < W.heap.size := fun p hp => hW.lt p hp
  have hW' := hW
  obtain ⟨p, q, hA, hV, rfl, hfz, hnd⟩ := hW
  rw [hvars] at hV
  obtain ⟨rfl, rfl⟩ := trodVars_none hV
  have e : ds ++ [] = ds := List.append_nil _
  refine ⟨ds, [], _, [], p, [], hW', ?_, ?_, ?_, hb.frame _ |> World.keptBut_mono (fun x hx => ⟨hx, .inr (.inl (by simpa using hx))⟩), fun h => by cases h⟩
  · rw [e, hfn.1, hres]; exact trodAll_mk1 (shut_bool hbool _)
  · rw [e, hfn.2.1]; exact trodAll_below hl hb _ _ _ _ hts (fun x hx => hlt x (by simpa using hx)) hA
  · rw [e, hfn.2.2, hvars]; rfl

/-- An array of integers that comes in by value. -/
theorem open_intarr {H : Type} {enc : TypeId × Value → H} {P : Program} {W : World} {r : Reach} {b0 base : Nat} {spare : Nat → Bool} {held : Bool} {t e : TypeId} {n : Nat} {k : IntKind} {v : Value} {d : DataW H} {p : List MemPlace}
    (ht : P.underlying t = some (.array n e)) (he : P.underlying e = some (.int k)) (hc : P.cellsOf e = 1) (hC : P.cellsOf t = n)
    (hv : Value.okWide P W r b0 t v) (h : DataW.Trod enc P W base spare held t v d p) :
    ∃ zs : List Int, v = .agg (zs.map (Value.int k)).toArray ∧ zs.length = n ∧ ∀ z ∈ zs, (Lit.int k z).wf = true := by
  simp only [Value.okWide, ht] at hv
  obtain ⟨⟨cs⟩, rfl, hsz, _⟩ := hv
  obtain ⟨fuel, hf⟩ := h
  obtain ⟨xs, m, rfl, hx, hl, hn, hel⟩ := DataW.trod_array ht hf
  simp only [Value.cells] at hl hel
  rw [hC] at hl
  have hi : ∀ i, i < n → ∃ z, cs[i]? = some (.int k z) ∧ (Lit.int k z).wf = true := by
    intro i hi
    have h1 := hel i hi
    rw [hc, Nat.mul_one, List.getElem?_eq_getElem (by omega)] at h1
    obtain ⟨z, e1, _, e3⟩ := DataW.trod_int he h1
    refine ⟨z, ?_, e3⟩
    have e4 : ((cs.drop i).take 1)[0]? = some (.int k z) := by rw [e1]; rfl
    simpa using e4
  refine ⟨cs.map fun c => intOf c, ?_, by simpa using hl, ?_⟩
  · congr 1
    simp only [List.map_map]
    congr 1
    refine List.ext_getElem? fun i => ?_
    rw [List.getElem?_map]
    by_cases h : i < n
    · obtain ⟨z, hz, _⟩ := hi i h
      rw [hz]; rfl
    · rw [List.getElem?_eq_none (by omega)]; rfl
  · intro z hz
    obtain ⟨c, hc1, rfl⟩ := List.mem_map.1 hz
    obtain ⟨i, hi1, hi2⟩ := List.getElem_of_mem hc1
    obtain ⟨z, hz1, hz2⟩ := hi i (by omega)
    rw [List.getElem?_eq_getElem hi1, hi2] at hz1
    cases hz1
    exact hz2
theorem cells_u8 : Tryd.prog.cellsOf 5 = 1 := by kernel_rfl
set_option maxRecDepth 100000 in
/-- A slice of bytes that comes in. -/
theorem open_bytes {H : Type} {enc : TypeId × Value → H} {W : World} {r : Reach} {b0 : Nat} {v : Value} {d : DataW H} {p : List MemPlace} (hv : Value.okWide Tryd.prog W r b0 24 v) (h : DataW.Trod enc Tryd.prog W 0 (fun _ => true) true 24 v d p) :
    ∃ A c bs, v = .slice A bs.length c ∧ (A = none → c = 0) ∧ Row W W.heap.size A bs ∧ bs.length ≤ c ∧ c ≤ maxLen := by
  obtain ⟨a0, len, cap, rfl⟩ := okWide_slice Tryd.underlying24 hv
  obtain ⟨fuel, hf⟩ := h
  rcases open_ints Tryd.underlying24 Tryd.underlying5 cells_u8 hf with ⟨hcs, _⟩ | ⟨x, l, c, zs, hcs, _, hl, hm, hz, _, hcell, hwz⟩
  · simp [Value.cells] at hcs
    obtain ⟨rfl, rfl, rfl⟩ := hcs
    exact ⟨none, 0, [], rfl, fun _ => rfl, .inl rfl, Nat.le_refl _, Nat.zero_le _⟩
  · simp [Value.cells] at hcs
    obtain ⟨rfl, rfl, rfl⟩ := hcs
    simp only [if_true] at hz
    refine ⟨some x, cap, (zs.take len).map fun z => UInt8.ofNat z.toNat, ?_, (fun h => by cases h), ?_, ?_, hm⟩
    · simp; omega
    · by_cases h0 : len = 0
      · subst h0; exact .inl (by simp)
      · obtain ⟨b, off, rfl, hc⟩ := ints_at hcell (by omega)
        have hlt := block_lt_of_cell (hc 0 (by omega))
        refine .inr ⟨b, off, rfl, hlt, fun j u hu => ?_⟩
        rw [List.getElem?_map] at hu
        have hj : j < len := by
          rcases Nat.lt_or_ge j len with h | h
          · exact h
          · rw [List.getElem?_eq_none (by rw [List.length_take]; omega)] at hu; cases hu
        have hjz : j < zs.length := by omega
        rw [List.getElem?_take_of_lt hj, List.getElem?_eq_getElem hjz] at hu
        simp only [Option.map_some, Option.some.injEq] at hu
        have hb := bounds_u8 (hwz zs[j] (List.getElem_mem _))
        rw [hc j hjz, ← hu]
        simp only [cellOf, UInt8.toNat_ofNat']
        simp [List.getD, hjz]
        omega
    · simp; omega
/-- The errors as the program's text lays them. -/
def errTexts : List (String × List UInt8) := [("fellowship/api.ErrRange", [102, 101, 108, 108, 111, 119, 115, 104, 105, 112, 58, 32, 114, 97, 110, 103, 101]), ("fellowship/api.ErrShort", [102, 101, 108, 108, 111, 119, 115, 104, 105, 112, 58, 32, 115, 104, 111, 114, 116]), ("fellowship/api.ErrLong", [102, 101, 108, 108, 111, 119, 115, 104, 105, 112, 58, 32, 108, 111, 110, 103]), ("fellowship/api.ErrForm", [102, 101, 108, 108, 111, 119, 115, 104, 105, 112, 58, 32, 102, 111, 114, 109]), ("fellowship/api.ErrKey", [102, 101, 108, 108, 111, 119, 115, 104, 105, 112, 58, 32, 107, 101, 121]), ("fellowship/api.ErrSign", [102, 101, 108, 108, 111, 119, 115, 104, 105, 112, 58, 32, 115, 105, 103, 110]), ("fellowship/api.ErrSeal", [102, 101, 108, 108, 111, 119, 115, 104, 105, 112, 58, 32, 115, 101, 97, 108]), ("fellowship/api.ErrEpoch", [102, 101, 108, 108, 111, 119, 115, 104, 105, 112, 58, 32, 101, 112, 111, 99, 104]), ("fellowship/api.ErrGroup", [102, 101, 108, 108, 111, 119, 115, 104, 105, 112, 58, 32, 103, 114, 111, 117, 112]), ("fellowship/api.ErrSender", [102, 101, 108, 108, 111, 119, 115, 104, 105, 112, 58, 32, 115, 101, 110, 100, 101, 114]), ("fellowship/api.ErrLeaf", [102, 101, 108, 108, 111, 119, 115, 104, 105, 112, 58, 32, 108, 101, 97, 102]), ("fellowship/api.ErrOffer", [102, 101, 108, 108, 111, 119, 115, 104, 105, 112, 58, 32, 111, 102, 102, 101, 114]), ("fellowship/api.ErrPath", [102, 101, 108, 108, 111, 119, 115, 104, 105, 112, 58, 32, 112, 97, 116, 104]), ("fellowship/api.ErrTag", [102, 101, 108, 108, 111, 119, 115, 104, 105, 112, 58, 32, 116, 97, 103]), ("fellowship/api.ErrNone", [102, 101, 108, 108, 111, 119, 115, 104, 105, 112, 58, 32, 110, 111, 110, 101]), ("fellowship/api.ErrRemoved", [102, 101, 108, 108, 111, 119, 115, 104, 105, 112, 58, 32, 114, 101, 109, 111, 118, 101, 100]), ("fellowship/api.ErrFull", [102, 101, 108, 108, 111, 119, 115, 104, 105, 112, 58, 32, 102, 117, 108, 108]), ("fellowship/api.ErrState", [102, 101, 108, 108, 111, 119, 115, 104, 105, 112, 58, 32, 115, 116, 97, 116, 101]), ("fellowship/api.ErrTwice", [102, 101, 108, 108, 111, 119, 115, 104, 105, 112, 58, 32, 116, 119, 105, 99, 101])]
/-- A list of laid variables in two parts. -/
theorem laid_split {W : World} : ∀ (l1 l2 : List (String × DataW Unit)) (ps : List MemPlace), DataW.LaidVars Tryd.prog W (l1 ++ l2) ps → ∃ p1 p2, ps = p1 ++ p2 ∧ DataW.LaidVars Tryd.prog W l1 p1 ∧ DataW.LaidVars Tryd.prog W l2 p2
  | [], l2, ps, h => ⟨[], ps, rfl, rfl, h⟩
  | x :: l1, l2, ps, h => by
    obtain ⟨g, t, cs, f, p, q, h1, h2, h3, h4, h5, rfl⟩ := h
    obtain ⟨p1, p2, rfl, h6, h7⟩ := laid_split l1 l2 q h5
    exact ⟨_, p2, by simp only [List.append_assoc], ⟨g, t, cs, f, p, p1, h1, h2, h3, h4, h6, rfl⟩, h7⟩
/-- Integers that are bytes, as bytes. -/
theorem bytes_of_ints (zs : List Int) (hw : ∀ z ∈ zs, (Lit.int .u8 z).wf = true) : ∃ bs : List UInt8, zs.map (Value.int .u8) = bs.map cellOf ∧ bs.length = zs.length := by
  refine ⟨zs.map fun z => UInt8.ofNat z.toNat, ?_, by simp⟩
  rw [List.map_map]
  refine List.map_congr_left fun z hm => ?_
  have hb := bounds_u8 (hw z hm)
  show Value.int .u8 z = cellOf (UInt8.ofNat z.toNat)
  unfold cellOf
  rw [UInt8.toNat_ofNat']
  congr 1
  omega
set_option maxRecDepth 100000 in
/-- An array of 32 bytes, a key, that comes in by value. -/
theorem open_key {H : Type} {enc : TypeId × Value → H} {W : World} {r : Reach} {b0 : Nat} {v : Value} {d : DataW H} {p : List MemPlace} (hv : Value.okWide Tryd.prog W r b0 23 v) (h : DataW.Trod enc Tryd.prog W 0 (fun _ => true) true 23 v d p) : ∃ s : List UInt8, v = hashVal s ∧ s.length = 32 := by
  obtain ⟨zs, rfl, hz, hw⟩ := open_intarr Tryd.underlying23 Tryd.underlying5 cells_u8 (by kernel_rfl) hv h
  obtain ⟨bs, h1, h2⟩ := bytes_of_ints zs hw
  exact ⟨bs, by unfold hashVal; rw [h1], by omega⟩
theorem uturn_tab {H : Type} : (Rows.laid_fellowship_field_turn (H := H)) = Lib.tabData .u64 ((limb5 ttN).map fun n : Nat => (n : Int)) := by kernel_rfl
theorem ucurve_tab {H : Type} : (Rows.laid_fellowship_field_curve (H := H)) = Lib.tabData .u64 ((limb5 dNat).map fun n : Nat => (n : Int)) := by kernel_rfl
theorem ubaseX_tab {H : Type} : (Rows.laid_fellowship_field_baseX (H := H)) = Lib.tabData .u64 ((limb5 baseXN).map fun n : Nat => (n : Int)) := by kernel_rfl
theorem ubaseY_tab {H : Type} : (Rows.laid_fellowship_field_baseY (H := H)) = Lib.tabData .u64 ((limb5 baseYN).map fun n : Nat => (n : Int)) := by kernel_rfl
theorem ucells_are (l : List Nat) : ((l.map fun n : Nat => (n : Int)).map fun z => Value.int .u64 z) = l.map ncell := by
  rw [List.map_map]; rfl
theorem utab_is {W : World} {name : String} {g : Nat} {fuel : Nat} {l : List Nat} {cs : Array Value} {p : List MemPlace} (hg : Tryd.prog.globalNamed name = some g) (hv : W.var? Tryd.prog name = some cs)
    (hd : DataW.trod (H := Unit) (fun _ => ()) Tryd.prog W 0 (fun _ => true) false fuel 42 cs.toList = some (Lib.tabData .u64 (l.map fun n : Nat => (n : Int)), p)) : Tab W g (l.map ncell) := by
  have c2 := Lib.cells_of_tab Tryd.underlying42 Tryd.underlying40 (by kernel_rfl) (by kernel_rfl) hd
  rw [ucells_are] at c2
  have e : cs = (l.map ncell).toArray := by rw [← c2]
  rw [e] at hv
  exact Tab.of_var hg hv
theorem fields_of {W : World} {ps : List MemPlace} (hv : DataW.LaidVars Tryd.prog W [("fellowship/field.curve", Rows.laid_fellowship_field_curve), ("fellowship/field.baseX", Rows.laid_fellowship_field_baseX), ("fellowship/field.baseY", Rows.laid_fellowship_field_baseY), ("fellowship/field.turn", Rows.laid_fellowship_field_turn)] ps) :
    Tab W 9 ((limb5 dNat).map ncell) ∧ Tab W 4 ((limb5 baseXN).map ncell) ∧ Tab W 5 ((limb5 baseYN).map ncell) ∧ Tab W 10 ((limb5 ttN).map ncell) := by
  obtain ⟨g2, t2, cs2, f2, p2, q2, hg2, ht2, hv2, hd2, hq2, rfl⟩ := hv
  obtain ⟨g3, t3, cs3, f3, p3, q3, hg3, ht3, hv3, hd3, hq3, rfl⟩ := hq2
  obtain ⟨g4, t4, cs4, f4, p4, q4, hg4, ht4, hv4, hd4, hq4, rfl⟩ := hq3
  obtain ⟨g5, t5, cs5, f5, p5, q5, hg5, ht5, hv5, hd5, hq5, rfl⟩ := hq4
  obtain rfl : 9 = g2 := Option.some.inj ((show Tryd.prog.globalNamed "fellowship/field.curve" = some 9 by kernel_rfl).symm.trans hg2)
  obtain rfl : 4 = g3 := Option.some.inj ((show Tryd.prog.globalNamed "fellowship/field.baseX" = some 4 by kernel_rfl).symm.trans hg3)
  obtain rfl : 5 = g4 := Option.some.inj ((show Tryd.prog.globalNamed "fellowship/field.baseY" = some 5 by kernel_rfl).symm.trans hg4)
  obtain rfl : 10 = g5 := Option.some.inj ((show Tryd.prog.globalNamed "fellowship/field.turn" = some 10 by kernel_rfl).symm.trans hg5)
  obtain rfl : 42 = t2 := Option.some.inj ((show (Tryd.prog.globals[9]?).map (·.type) = some 42 by kernel_rfl).symm.trans ht2)
  obtain rfl : 42 = t3 := Option.some.inj ((show (Tryd.prog.globals[4]?).map (·.type) = some 42 by kernel_rfl).symm.trans ht3)
  obtain rfl : 42 = t4 := Option.some.inj ((show (Tryd.prog.globals[5]?).map (·.type) = some 42 by kernel_rfl).symm.trans ht4)
  obtain rfl : 42 = t5 := Option.some.inj ((show (Tryd.prog.globals[10]?).map (·.type) = some 42 by kernel_rfl).symm.trans ht5)
  rw [ucurve_tab] at hd2
  rw [ubaseX_tab] at hd3
  rw [ubaseY_tab] at hd4
  rw [uturn_tab] at hd5
  exact ⟨utab_is hg2 hv2 hd2, utab_is hg3 hv3 hd3, utab_is hg4 hv4 hd4, utab_is hg5 hv5 hd5⟩
theorem ukey_neq (ds es : List UInt8) (hd : ds.length = 32) (he : es.length = 32) (w : World) : (binOp .neq 23 (hashVal ds) (hashVal es)).run Tryd.prog w = .ok (.bool (!(ds == es))) w := by
  have h := run_equalIn_bytes (P := Tryd.prog) w 9998 23 5 32 Tryd.underlying23 Tryd.underlying5 (fun w => by
    obtain ⟨i0, hi0, hs0⟩ := Option.map_eq_some_iff.1 size_u8
    simp [sizeOf, typeInfo, hi0, hs0]) ds es hd he
  have h2 := run_neq_struct (P := Tryd.prog) w 23 (ds.map cellOf).toArray (es.map cellOf).toArray
  unfold hashVal
  rw [h2]
  have h3 : (Op.equalIn 10000 23 (.agg (ds.map cellOf).toArray) (.agg (es.map cellOf).toArray)).run Tryd.prog w = .ok (ds == es) w := h
  rw [h3]
  rfl
theorem strictU_any (b : List UInt8) (E : Value) (w : World) (hb : b.length = 32) (hE : w.cell? ⟨1, 0, none⟩ = some E) (own : Bool) (ho : (keyB (keyN b) == b) = own) :
    Calls Tryd.prog 35 #[hashVal b] w (gvn (.tuple #[elV (if own then keyN b else 0), if own then .nilIface else E]) w) := by
  refine strict_over b (keyB (keyN b)) (limb5 (keyN b)) (limb5 0) (limb5 (if own then keyN b else 0)) E (if own then .nilIface else E) (!own) w hb rfl rfl (fun V => readE_any b V hb) (fun V => bytesE_any _ V (keyN_lt b)) (fun V => by rw [← ho]; exact ukey_neq _ _ (keyB_length _) hb V) build_none (fun h => ?_) (fun h => ?_) hE
  · cases own
    · cases h
    · exact ⟨rfl, rfl⟩
  · cases own
    · exact ⟨rfl, rfl⟩
    · cases h
theorem and_top (q : UInt8) : bits .and .u8 (q.toNat : Int) 128 = bif decide (128 ≤ q.toNat) then 128 else 0 := by
  have key : ∀ n : Fin 256, bits .and .u8 ((n.val : Nat) : Int) 128 = bif decide (128 ≤ n.val) then 128 else 0 := by decide +kernel
  exact key ⟨q.toNat, q.toNat_lt⟩
theorem less_top (q : UInt8) : bits .andNot .u8 (q.toNat : Int) 128 = ((q % 128).toNat : Int) := by
  have key : ∀ n : Fin 256, bits .andNot .u8 ((n.val : Nat) : Int) 128 = ((n.val % 128 : Nat) : Int) := by decide +kernel
  rw [UInt8.toNat_mod]
  exact key ⟨q.toNat, q.toNat_lt⟩
/-- Bytes without their highest bit: their number, and whether they are its own bytes. -/
theorem cut_top (b : List UInt8) (hb : b.length = 32) : keyN (b.set 31 (b.getD 31 0 % 128)) = readY b % pp ∧ (keyB (keyN (b.set 31 (b.getD 31 0 % 128))) == b.set 31 (b.getD 31 0 % 128)) = decide (readY b < pp) := by
  have h2 := (lev_top b hb).2
  have hl : (b.set 31 (b.getD 31 0 % 128)).length = 32 := by rw [List.length_set, hb]
  have e : keyN (b.set 31 (b.getD 31 0 % 128)) = readY b % pp := by
    rw [keyN, show lev (b.set 31 (b.getD 31 0 % 128)) = readY b from rfl, Nat.mod_eq_of_lt h2]
  refine ⟨e, ?_⟩
  rw [e]
  by_cases h : readY b < pp
  · rw [decide_eq_true h, Nat.mod_eq_of_lt h, beq_iff_eq]
    refine lev_same _ _ (by rw [keyB_length, hl]) ?_
    rw [keyB, lev_putL, Nat.mod_eq_of_lt (Nat.lt_trans h (by decide +kernel))]
    rfl
  · rw [decide_eq_false h, beq_eq_false_iff_ne]
    intro h3
    have h4 := congrArg lev h3
    have h5 : readY b % pp < pp := Nat.mod_lt _ (by decide)
    rw [keyB, lev_putL, Nat.mod_eq_of_lt (Nat.lt_trans h5 (by decide +kernel)), show lev (b.set 31 (b.getD 31 0 % 128)) = readY b from rfl] at h4
    exact h (by rw [← h4]; exact h5)
theorem byte31 (b : List UInt8) (hb : b.length = 32) : (b.map cellOf)[31]? = some (cellOf (b.getD 31 0)) := by
  rw [List.getElem?_map, List.getD_eq_getElem?_getD, List.getElem?_eq_getElem (by omega)]
  rfl
theorem uread_cases (ok od xz : Bool) (x xn y : Nat) (g : Bool) (a : Addr) (hg : g = (ok && !(od && xz))) (T : Tri) (hT : T = bif g then (bif od then xn else x, y, 1) else (0, 0, 0)) :
    (ok = false → triU T = triU (0, 0, 0) ∧ (bif g then Value.nilIface else errAt a) = errAt a) ∧ (ok = true → od = false → triU T = triU (x, y, 1) ∧ (bif g then Value.nilIface else errAt a) = .nilIface) ∧
    (ok = true → od = true → xz = true → triU T = triU (0, 0, 0) ∧ (bif g then Value.nilIface else errAt a) = errAt a) ∧ (ok = true → od = true → xz = false → triU T = triU (xn, y, 1) ∧ (bif g then Value.nilIface else errAt a) = .nilIface) := by
  subst hT
  cases ok <;> cases od <;> cases xz <;> subst hg <;> refine ⟨?_, ?_, ?_, ?_⟩ <;> intros <;> first | contradiction | exact ⟨rfl, rfl⟩
theorem uread_num (a : Addr) (b kc : List UInt8) (q v : UInt8) (y x xn : Nat) (ok od xz g : Bool) (T : Tri) (w : World) (hb : b.length = 32) (hl : kc.length = 32) (hq : (b.map cellOf)[31]? = some (cellOf q)) (h1 : bits .and .u8 (q.toNat : Int) 128 = bif od then 128 else 0) (h2 : bits .andNot .u8 (q.toNat : Int) 128 = (v.toNat : Int)) (hk : kc = b.set 31 v)
    (CS : ∀ W, TabsU (errAt a) W → Calls Tryd.prog 35 #[hashVal kc] W (gvn (.tuple #[numVal (limb5 y), .nilIface]) W))
    (CX : ∀ W, TabsU (errAt a) W → Calls Tryd.prog 36 #[numVal (limb5 y)] W (gvn (.tuple #[numVal (limb5 x), .bool ok]) W))
    (CZ : ∀ W, Calls Tryd.prog 37 #[numVal (limb5 x)] W (gvn (.bool xz) W))
    (CN : ∀ W, Calls Tryd.prog 17 #[numVal (triU (x, y, 1))] W (gvn (numVal (triU (xn, y, 1))) W))
    (hg : g = (ok && !(od && xz))) (hT : T = bif g then (bif od then xn else x, y, 1) else (0, 0, 0)) (hS : TabsU (errAt a) w) :
    Calls Tryd.prog 16 #[hashVal b] w (gvn (.tuple #[numVal (triU T), bif g then .nilIface else errAt a]) w) := by
  obtain ⟨c1, c2, c3, c4⟩ := uread_cases ok od xz x xn y g a hg T hT
  exact uread_over (limb5 y) (triU (0, 0, 0)) (limb5 x) (triU (x, y, 1)) (triU (xn, y, 1)) b kc q v od ok xz a (triU T) (bif g then .nilIface else errAt a) w
    rfl rfl rfl rfl rfl hb hl hq h1 h2 hk CS build_up0 CX CZ (fun W => uat_any x y W) CN c1 c2 c3 c4 hS hS.2.2.2.2
theorem uread_any (a : Addr) (b : List UInt8) (w : World) (hb : b.length = 32) (hS : TabsU (errAt a) w) : Calls Tryd.prog 16 #[hashVal b] w (gvn (.tuple #[numVal (triU (readT b)), bif readGood b then .nilIface else errAt a]) w) := by
  obtain ⟨e1, e2⟩ := cut_top b hb
  have hl : (b.set 31 (b.getD 31 0 % 128)).length = 32 := by rw [List.length_set, hb]
  have hT : readT b = bif readGood b then (bif readO b then fS 0 (readX b) else readX b, readY b, 1) else (0, 0, 0) := rfl
  have hq := byte31 b hb
  have ho : bits .and .u8 ((b.getD 31 0).toNat : Int) 128 = bif readO b then 128 else 0 := and_top _
  by_cases h : readY b < pp
  · rw [decide_eq_true h] at e2
    rw [Nat.mod_eq_of_lt h] at e1
    have hG : readGood b = (isSN (ratN (readY b)) && !(readO b && decide (readX b = 0))) := by rw [readGood, decide_eq_true h, Bool.true_and]
    have CS : ∀ W, TabsU (errAt a) W → Calls Tryd.prog 35 #[hashVal (b.set 31 (b.getD 31 0 % 128))] W (gvn (.tuple #[numVal (limb5 (readY b)), .nilIface]) W) := fun W hW => by
      have hs := strictU_any (b.set 31 (b.getD 31 0 % 128)) (errAt a) W hl hW.2.2.2.2 true e2
      rw [e1] at hs
      exact hs
    have CX : ∀ W, TabsU (errAt a) W → Calls Tryd.prog 36 #[numVal (limb5 (readY b))] W (gvn (.tuple #[numVal (limb5 (rootN (ratN (readY b)))), .bool (isSN (ratN (readY b)))]) W) := fun W hW => ueven_any (errAt a) (readY b) W h hW
    have hx : readX b < pp := rootN_lt _
    rw [show rootN (ratN (readY b)) = readX b from rfl] at CX
    have CZ := fun W => zeroE_any (readX b) W hx
    have hy := h
    clear e1 e2 h
    generalize readT b = T at *
    generalize isSN (ratN (readY b)) = ok at *
    generalize hxn : fS 0 (readX b) = xn at *
    generalize decide (readX b = 0) = xz at *
    generalize readX b = x at *
    generalize readY b = y at *
    generalize readO b = od at *
    generalize readGood b = g at *
    have CN : ∀ W, Calls Tryd.prog 17 #[numVal (triU (x, y, 1))] W (gvn (numVal (triU (xn, y, 1))) W) := fun W => by
      have hn := uneg_any (x, y, 1) W (And.intro hx (And.intro hy one_pp))
      rw [show negT (x, y, 1) = (xn, y, 1) from by rw [← hxn]; rfl] at hn
      exact hn
    exact uread_num a b _ _ _ y x xn ok od xz g T w hb hl hq ho (less_top _) rfl CS CX CZ CN hG hT hS
  · rw [decide_eq_false h] at e2
    have hG : readGood b = false := by rw [readGood, decide_eq_false h, Bool.false_and, Bool.false_and]
    rw [hT, hG]
    have CS : ∀ W, TabsU (errAt a) W → Calls Tryd.prog 35 #[hashVal (b.set 31 (b.getD 31 0 % 128))] W (gvn (.tuple #[numVal (limb5 0), errAt a]) W) := fun W hW => strictU_any (b.set 31 (b.getD 31 0 % 128)) (errAt a) W hl hW.2.2.2.2 false e2
    exact ureadBad_over (limb5 0) (triU (0, 0, 0)) b (b.set 31 (b.getD 31 0 % 128)) (b.getD 31 0) (b.getD 31 0 % 128) (readO b) a w rfl rfl hb hl hq ho (less_top _) rfl CS build_up0 hS hS.2.2.2.2
end Go.Proofs.YtoggkhjaghkpnaaDoor
namespace Go.Proofs.YtoggkhjaghkpnaaDoor
open Go.RowKit
set_option maxRecDepth 100000 in
set_option maxHeartbeats 4000000 in
theorem sgVerifyOut_over (pb sb rb zb : List UInt8) (D : Option Addr) (m d : Nat) (ae : Addr) (w : World)
    (Hsb : Hid (sb.length = 64))
    (Hrb : Hid (rb.length = 32))
    (Hzb : Hid (zb.length = 32))
    (CH : Hid (∀ W, Calls Tryd.prog 14 #[hashVal sb] W (gvn (.tuple #[hashVal rb, hashVal zb]) W)))
    (CR : Hid (∀ W, SgTabs (errAt ae) W → Calls Tryd.prog 15 #[hashVal zb] W (gvn (.bool false) W)))
    (hS : SgTabs (errAt ae) w) :
    Calls Tryd.prog 6 #[hashVal pb, hashVal sb, .slice D m d] w (gvn (.bool false) w) := by
  go_enter Tryd.func6, Tryd.ntmps6
  go_wp2_with (first
    | (refine take_step rfl 23 (.tmp 0) rfl pb rfl ?_
       intro w1 hb1 hvk1 hz
       clear hz
       have hB1 := hb1
       have hgek : w.heap.size ≤ w.heap.size := Nat.le_refl _
       clear  hb1
       try simp only [putS]
       skip)
    | (refine vtake_step rfl 27 (.tmp 1) rfl (sb.map cellOf) rfl ?_
       intro w2 hb2 hvs2
       have hB2 := below_then hB1 hb2
       have hges : w.heap.size ≤ w1.heap.size := hB1.size
       have hvk2 := hvk1.on hb2
       have hneks := Nat.ne_of_lt hvk1.lt
       clear hB1 hvk1 hb2
       try simp only [putS]
       skip)
    | (refine sget_step rfl 27 (.tmp 4) rfl w1.heap.size 64 (sb.map cellOf) rfl hvs2 Tryd.underlying27 rfl size_sig (by rw [List.length_map, Hsb.out]) ?_
       try simp only [putS]
       skip))
  generalize hqs : w1.heap.size = gs at *
  clear hqs
  refine (CH.out w2).mono ?_
  rintro e w3 ⟨rfl, hb3⟩
  have hB3 := below_then hB2 hb3
  have hvk3 := hvk2.on hb3
  have hvs3 := hvs2.on hb3
  clear hB2 hvk2 hvs2 hb3
  go_wp2_with (first
    | (refine vzero_step (o := ⟨some 7, _, _, _, _, _⟩) rfl 23 rfl kzeros zero_k32 ?_
       intro w4 hb4 hvr4
       have hB4 := below_then hB3 hb4
       have hger : w.heap.size ≤ w3.heap.size := hB3.size
       have hvk4 := hvk3.on hb4
       have hnekr := Nat.ne_of_lt hvk3.lt
       have hvs4 := hvs3.on hb4
       have hnesr := Nat.ne_of_lt hvs3.lt
       clear hB3 hvk3 hvs3 hb4
       try simp only [putS]
       skip)
    | (refine vzero_step (o := ⟨some 8, _, _, _, _, _⟩) rfl 23 rfl kzeros zero_k32 ?_
       intro w5 hb5 hvz5
       have hB5 := below_then hB4 hb5
       have hgez : w.heap.size ≤ w4.heap.size := hB4.size
       have hvk5 := hvk4.on hb5
       have hnekz := Nat.ne_of_lt hvk4.lt
       have hvs5 := hvs4.on hb5
       have hnesz := Nat.ne_of_lt hvs4.lt
       have hvr5 := hvr4.on hb5
       have hnerz := Nat.ne_of_lt hvr4.lt
       clear hB4 hvk4 hvs4 hvr4 hb5
       try simp only [putS]
       skip)
    | (refine vset_step rfl 23 (.tmp 7) (.tmp 15) rfl w3.heap.size 32 kzeros (rb.map cellOf) rfl rfl hvr5 rfl size_k32 (by rw [List.length_map, Hrb.out]) (kcells_one _) ?_
       intro w6 hb6 hvr6 hz6
       have hB6 : Below w.heap.size w w6 := hB5.trans (hb6.below hger hB5.size)
       have hvk6 := hvk5.but hb6 hnekr
       have hvs6 := hvs5.but hb6 hnesr
       have hvz6 := hvz5.but hb6 (Ne.symm hnerz)
       clear hB5 hvr5 hb6 hz6 hvk5 hvs5 hvz5
       skip)
    | (refine vset_step rfl 23 (.tmp 8) (.tmp 16) rfl w4.heap.size 32 kzeros (zb.map cellOf) rfl rfl hvz6 rfl size_k32 (by rw [List.length_map, Hzb.out]) (kcells_one _) ?_
       intro w7 hb7 hvz7 hz7
       have hB7 : Below w.heap.size w w7 := hB6.trans (hb7.below hgez hB6.size)
       have hvk7 := hvk6.but hb7 hnekz
       have hvs7 := hvs6.but hb7 hnesz
       have hvr7 := hvr6.but hb7 hnerz
       clear hB6 hvz6 hb7 hz7 hvk6 hvs6 hvr6
       skip)
    | (refine get_step rfl 23 (.tmp 8) rfl w4.heap.size 32 zb 5 rfl hvz7 Tryd.underlying23 size_k32 Hzb.out ?_
       try simp only [putS]
       skip))
  generalize hqr : w3.heap.size = gr at *
  clear hqr
  generalize hqz : w4.heap.size = gz at *
  clear hqz
  refine (CR.out w7 (hS.below hB7)).mono ?_
  rintro e w8 ⟨rfl, hb8⟩
  have hB8 := below_then hB7 hb8
  have hvk8 := hvk7.on hb8
  have hvs8 := hvs7.on hb8
  have hvr8 := hvr7.on hb8
  have hvz8 := hvz7.on hb8
  clear hB7 hvk7 hvs7 hvr7 hvz7 hb8
  go_wp2
  go_ret
  exact ⟨rfl, hB8⟩
set_option maxRecDepth 100000 in
set_option maxHeartbeats 4000000 in
theorem sgVerifyBad_over (p : List Nat) (pb sb rb zb : List UInt8) (D : Option Addr) (m d : Nat) (ae : Addr) (w : World)
    (Hsb : Hid (sb.length = 64))
    (Hpb : Hid (pb.length = 32))
    (Hrb : Hid (rb.length = 32))
    (Hzb : Hid (zb.length = 32))
    (CH : Hid (∀ W, Calls Tryd.prog 14 #[hashVal sb] W (gvn (.tuple #[hashVal rb, hashVal zb]) W)))
    (CR : Hid (∀ W, SgTabs (errAt ae) W → Calls Tryd.prog 15 #[hashVal zb] W (gvn (.bool true) W)))
    (Hp : Hid (p.length = 15))
    (CP : Hid (∀ W, SgTabs (errAt ae) W → Calls Tryd.prog 16 #[hashVal pb] W (gvn (.tuple #[numVal p, errAt ae]) W)))
    (hS : SgTabs (errAt ae) w) :
    Calls Tryd.prog 6 #[hashVal pb, hashVal sb, .slice D m d] w (gvn (.bool false) w) := by
  go_enter Tryd.func6, Tryd.ntmps6
  go_wp2_with (first
    | (refine take_step rfl 23 (.tmp 0) rfl pb rfl ?_
       intro w1 hb1 hvk1 hz
       clear hz
       have hB1 := hb1
       have hgek : w.heap.size ≤ w.heap.size := Nat.le_refl _
       clear  hb1
       try simp only [putS]
       skip)
    | (refine vtake_step rfl 27 (.tmp 1) rfl (sb.map cellOf) rfl ?_
       intro w2 hb2 hvs2
       have hB2 := below_then hB1 hb2
       have hges : w.heap.size ≤ w1.heap.size := hB1.size
       have hvk2 := hvk1.on hb2
       have hneks := Nat.ne_of_lt hvk1.lt
       clear hB1 hvk1 hb2
       try simp only [putS]
       skip)
    | (refine sget_step rfl 27 (.tmp 4) rfl w1.heap.size 64 (sb.map cellOf) rfl hvs2 Tryd.underlying27 rfl size_sig (by rw [List.length_map, Hsb.out]) ?_
       try simp only [putS]
       skip))
  generalize hqs : w1.heap.size = gs at *
  clear hqs
  refine (CH.out w2).mono ?_
  rintro e w3 ⟨rfl, hb3⟩
  have hB3 := below_then hB2 hb3
  have hvk3 := hvk2.on hb3
  have hvs3 := hvs2.on hb3
  clear hB2 hvk2 hvs2 hb3
  go_wp2_with (first
    | (refine vzero_step (o := ⟨some 7, _, _, _, _, _⟩) rfl 23 rfl kzeros zero_k32 ?_
       intro w4 hb4 hvr4
       have hB4 := below_then hB3 hb4
       have hger : w.heap.size ≤ w3.heap.size := hB3.size
       have hvk4 := hvk3.on hb4
       have hnekr := Nat.ne_of_lt hvk3.lt
       have hvs4 := hvs3.on hb4
       have hnesr := Nat.ne_of_lt hvs3.lt
       clear hB3 hvk3 hvs3 hb4
       try simp only [putS]
       skip)
    | (refine vzero_step (o := ⟨some 8, _, _, _, _, _⟩) rfl 23 rfl kzeros zero_k32 ?_
       intro w5 hb5 hvz5
       have hB5 := below_then hB4 hb5
       have hgez : w.heap.size ≤ w4.heap.size := hB4.size
       have hvk5 := hvk4.on hb5
       have hnekz := Nat.ne_of_lt hvk4.lt
       have hvs5 := hvs4.on hb5
       have hnesz := Nat.ne_of_lt hvs4.lt
       have hvr5 := hvr4.on hb5
       have hnerz := Nat.ne_of_lt hvr4.lt
       clear hB4 hvk4 hvs4 hvr4 hb5
       try simp only [putS]
       skip)
    | (refine vset_step rfl 23 (.tmp 7) (.tmp 15) rfl w3.heap.size 32 kzeros (rb.map cellOf) rfl rfl hvr5 rfl size_k32 (by rw [List.length_map, Hrb.out]) (kcells_one _) ?_
       intro w6 hb6 hvr6 hz6
       have hB6 : Below w.heap.size w w6 := hB5.trans (hb6.below hger hB5.size)
       have hvk6 := hvk5.but hb6 hnekr
       have hvs6 := hvs5.but hb6 hnesr
       have hvz6 := hvz5.but hb6 (Ne.symm hnerz)
       clear hB5 hvr5 hb6 hz6 hvk5 hvs5 hvz5
       skip)
    | (refine vset_step rfl 23 (.tmp 8) (.tmp 16) rfl w4.heap.size 32 kzeros (zb.map cellOf) rfl rfl hvz6 rfl size_k32 (by rw [List.length_map, Hzb.out]) (kcells_one _) ?_
       intro w7 hb7 hvz7 hz7
       have hB7 : Below w.heap.size w w7 := hB6.trans (hb7.below hgez hB6.size)
       have hvk7 := hvk6.but hb7 hnekz
       have hvs7 := hvs6.but hb7 hnesz
       have hvr7 := hvr6.but hb7 hnerz
       clear hB6 hvz6 hb7 hz7 hvk6 hvs6 hvr6
       skip)
    | (refine get_step rfl 23 (.tmp 8) rfl w4.heap.size 32 zb 5 rfl hvz7 Tryd.underlying23 size_k32 Hzb.out ?_
       try simp only [putS]
       skip))
  generalize hqr : w3.heap.size = gr at *
  clear hqr
  generalize hqz : w4.heap.size = gz at *
  clear hqz
  refine (CR.out w7 (hS.below hB7)).mono ?_
  rintro e w8 ⟨rfl, hb8⟩
  have hB8 := below_then hB7 hb8
  have hvk8 := hvk7.on hb8
  have hvs8 := hvs7.on hb8
  have hvr8 := hvr7.on hb8
  have hvz8 := hvz7.on hb8
  clear hB7 hvk7 hvs7 hvr7 hvz7 hb8
  go_wp2_with (first
    | (refine get_step rfl 23 (.tmp 3) rfl w.heap.size 32 pb 5 rfl hvk8 Tryd.underlying23 size_k32 Hpb.out ?_
       try simp only [putS]
       skip))
  refine (CP.out w8 (hS.below hB8)).mono ?_
  rintro e w9 ⟨rfl, hb9⟩
  have hB9 := below_then hB8 hb9
  have hvk9 := hvk8.on hb9
  have hvs9 := hvs8.on hb9
  have hvr9 := hvr8.on hb9
  have hvz9 := hvz8.on hb9
  clear hB8 hvk8 hvs8 hvr8 hvz8 hb9
  go_wp2_with (first
    | (refine vput_step rfl rfl 46 (.tmp 9) (.tmp 23) rfl rfl 15 (nzeros 15) (p.map ncell) rfl rfl zero_up rfl size_up (by rw [List.length_map, Hp.out]) (ncells_one _) ?_
       intro w10 hb10 hva10
       have hB10 := below_then hB9 hb10
       have hgea : w.heap.size ≤ w9.heap.size := hB9.size
       have hvk10 := hvk9.on hb10
       have hneka := Nat.ne_of_lt hvk9.lt
       have hvs10 := hvs9.on hb10
       have hnesa := Nat.ne_of_lt hvs9.lt
       have hvr10 := hvr9.on hb10
       have hnera := Nat.ne_of_lt hvr9.lt
       have hvz10 := hvz9.on hb10
       have hneza := Nat.ne_of_lt hvz9.lt
       clear hB9 hvk9 hvs9 hvr9 hvz9 hb10
       try simp only [putS]
       skip))
  generalize hqa : w9.heap.size = ga at *
  clear hqa
  go_ret
  exact ⟨rfl, hB10⟩
def sgVerifyGoodVs8 (pb : List UInt8) (sb : List UInt8) (D : Option Addr) (m : Nat) (d : Nat) (g_base : Nat) (gs : Nat) (c : Bool) (gr : Nat) (gz : Nat) (ga : Nat) (gh : Nat) (rb : List UInt8) (zb : List UInt8) (p : List Nat) (gl : Nat) (hb : List UInt8) (n : List Nat) (q : List Nat) (yb : List UInt8) : List Value :=
  (hashVal pb) :: (hashVal sb) :: (.slice D m d) :: ptr g_base :: ptr gs :: undef :: (.bool c) :: ptr gr :: ptr gz :: ptr ga :: (.nilIface) :: ptr gh :: (.tuple #[hashVal rb, hashVal zb]) :: (hashVal sb) :: (.tuple #[hashVal rb, hashVal zb]) :: (hashVal rb) :: (hashVal zb) :: (hashVal zb) :: (.bool true) :: (.bool false) :: (.tuple #[numVal p, .nilIface]) :: (hashVal pb) :: (.tuple #[numVal p, .nilIface]) :: (numVal p) :: (.nilIface) :: (.nilIface) :: (.bool false) :: (.slice D m d) :: (hashVal rb) :: (hashVal pb) :: (.slice (some ⟨gl, 0, none⟩) 2 2) :: (hashVal hb) :: (numVal p) :: (numVal n) :: (hashVal hb) :: (hashVal zb) :: (numVal q) :: (hashVal yb) :: (hashVal rb) :: (.bool c) :: []
set_option maxRecDepth 100000 in
set_option maxHeartbeats 4000000 in
theorem sgVerifyGood_over (p n q : List Nat) (pb sb rb zb hb yb : List UInt8) (c : Bool) (D : Option Addr) (m d : Nat) (ps : List (List UInt8)) (ae : Addr) (w : World)
    (Hsb : Hid (sb.length = 64))
    (Hpb : Hid (pb.length = 32))
    (Hrb : Hid (rb.length = 32))
    (Hzb : Hid (zb.length = 32))
    (CH : Hid (∀ W, Calls Tryd.prog 14 #[hashVal sb] W (gvn (.tuple #[hashVal rb, hashVal zb]) W)))
    (CR : Hid (∀ W, SgTabs (errAt ae) W → Calls Tryd.prog 15 #[hashVal zb] W (gvn (.bool true) W)))
    (Hp : Hid (p.length = 15))
    (CP : Hid (∀ W, SgTabs (errAt ae) W → Calls Tryd.prog 16 #[hashVal pb] W (gvn (.tuple #[numVal p, .nilIface]) W)))
    (Hhb : Hid (hb.length = 32))
    (CN : Hid (∀ g W, Cells W g ((rb ++ pb).map cellOf) 23 → SgTabs (errAt ae) W → PartsAt D ps W → Calls Tryd.prog 9 #[.slice D m d, .slice (some ⟨g, 0, none⟩) 2 2] W (gvn (hashVal hb) W)))
    (CG : Hid (∀ W, Calls Tryd.prog 17 #[numVal p] W (gvn (numVal n) W)))
    (CW : Hid (∀ W, SgTabs (errAt ae) W → Calls Tryd.prog 18 #[numVal n, hashVal hb, hashVal zb] W (gvn (numVal q) W)))
    (CY : Hid (∀ W, Calls Tryd.prog 19 #[numVal q] W (gvn (hashVal yb) W)))
    (EQ : ∀ w, (binOp .eql 23 (hashVal yb) (hashVal rb)).run Tryd.prog w = .ok (.bool c) w)
    (hS : SgTabs (errAt ae) w)
    (hP : PartsAt D ps w) :
    Calls Tryd.prog 6 #[hashVal pb, hashVal sb, .slice D m d] w (gvn (.bool c) w) := by
  go_enter Tryd.func6, Tryd.ntmps6
  go_wp2_with (first
    | (refine take_step rfl 23 (.tmp 0) rfl pb rfl ?_
       intro w1 hb1 hvk1 hz
       clear hz
       have hB1 := hb1
       have hgek : w.heap.size ≤ w.heap.size := Nat.le_refl _
       clear  hb1
       try simp only [putS]
       skip)
    | (refine vtake_step rfl 27 (.tmp 1) rfl (sb.map cellOf) rfl ?_
       intro w2 hb2 hvs2
       have hB2 := below_then hB1 hb2
       have hges : w.heap.size ≤ w1.heap.size := hB1.size
       have hvk2 := hvk1.on hb2
       have hneks := Nat.ne_of_lt hvk1.lt
       clear hB1 hvk1 hb2
       try simp only [putS]
       skip)
    | (refine sget_step rfl 27 (.tmp 4) rfl w1.heap.size 64 (sb.map cellOf) rfl hvs2 Tryd.underlying27 rfl size_sig (by rw [List.length_map, Hsb.out]) ?_
       try simp only [putS]
       skip))
  generalize hqs : w1.heap.size = gs at *
  clear hqs
  refine (CH.out w2).mono ?_
  rintro e w3 ⟨rfl, hb3⟩
  have hB3 := below_then hB2 hb3
  have hvk3 := hvk2.on hb3
  have hvs3 := hvs2.on hb3
  clear hB2 hvk2 hvs2 hb3
  go_wp2_with (first
    | (refine vzero_step (o := ⟨some 7, _, _, _, _, _⟩) rfl 23 rfl kzeros zero_k32 ?_
       intro w4 hb4 hvr4
       have hB4 := below_then hB3 hb4
       have hger : w.heap.size ≤ w3.heap.size := hB3.size
       have hvk4 := hvk3.on hb4
       have hnekr := Nat.ne_of_lt hvk3.lt
       have hvs4 := hvs3.on hb4
       have hnesr := Nat.ne_of_lt hvs3.lt
       clear hB3 hvk3 hvs3 hb4
       try simp only [putS]
       skip)
    | (refine vzero_step (o := ⟨some 8, _, _, _, _, _⟩) rfl 23 rfl kzeros zero_k32 ?_
       intro w5 hb5 hvz5
       have hB5 := below_then hB4 hb5
       have hgez : w.heap.size ≤ w4.heap.size := hB4.size
       have hvk5 := hvk4.on hb5
       have hnekz := Nat.ne_of_lt hvk4.lt
       have hvs5 := hvs4.on hb5
       have hnesz := Nat.ne_of_lt hvs4.lt
       have hvr5 := hvr4.on hb5
       have hnerz := Nat.ne_of_lt hvr4.lt
       clear hB4 hvk4 hvs4 hvr4 hb5
       try simp only [putS]
       skip)
    | (refine vset_step rfl 23 (.tmp 7) (.tmp 15) rfl w3.heap.size 32 kzeros (rb.map cellOf) rfl rfl hvr5 rfl size_k32 (by rw [List.length_map, Hrb.out]) (kcells_one _) ?_
       intro w6 hb6 hvr6 hz6
       have hB6 : Below w.heap.size w w6 := hB5.trans (hb6.below hger hB5.size)
       have hvk6 := hvk5.but hb6 hnekr
       have hvs6 := hvs5.but hb6 hnesr
       have hvz6 := hvz5.but hb6 (Ne.symm hnerz)
       clear hB5 hvr5 hb6 hz6 hvk5 hvs5 hvz5
       skip)
    | (refine vset_step rfl 23 (.tmp 8) (.tmp 16) rfl w4.heap.size 32 kzeros (zb.map cellOf) rfl rfl hvz6 rfl size_k32 (by rw [List.length_map, Hzb.out]) (kcells_one _) ?_
       intro w7 hb7 hvz7 hz7
       have hB7 : Below w.heap.size w w7 := hB6.trans (hb7.below hgez hB6.size)
       have hvk7 := hvk6.but hb7 hnekz
       have hvs7 := hvs6.but hb7 hnesz
       have hvr7 := hvr6.but hb7 hnerz
       clear hB6 hvz6 hb7 hz7 hvk6 hvs6 hvr6
       skip)
    | (refine get_step rfl 23 (.tmp 8) rfl w4.heap.size 32 zb 5 rfl hvz7 Tryd.underlying23 size_k32 Hzb.out ?_
       try simp only [putS]
       skip))
  generalize hqr : w3.heap.size = gr at *
  clear hqr
  generalize hqz : w4.heap.size = gz at *
  clear hqz
  refine (CR.out w7 (hS.below hB7)).mono ?_
  rintro e w8 ⟨rfl, hb8⟩
  have hB8 := below_then hB7 hb8
  have hvk8 := hvk7.on hb8
  have hvs8 := hvs7.on hb8
  have hvr8 := hvr7.on hb8
  have hvz8 := hvz7.on hb8
  clear hB7 hvk7 hvs7 hvr7 hvz7 hb8
  go_wp2_with (first
    | (refine get_step rfl 23 (.tmp 3) rfl w.heap.size 32 pb 5 rfl hvk8 Tryd.underlying23 size_k32 Hpb.out ?_
       try simp only [putS]
       skip))
  refine (CP.out w8 (hS.below hB8)).mono ?_
  rintro e w9 ⟨rfl, hb9⟩
  have hB9 := below_then hB8 hb9
  have hvk9 := hvk8.on hb9
  have hvs9 := hvs8.on hb9
  have hvr9 := hvr8.on hb9
  have hvz9 := hvz8.on hb9
  clear hB8 hvk8 hvs8 hvr8 hvz8 hb9
  go_wp2_with (first
    | (refine vput_step rfl rfl 46 (.tmp 9) (.tmp 23) rfl rfl 15 (nzeros 15) (p.map ncell) rfl rfl zero_up rfl size_up (by rw [List.length_map, Hp.out]) (ncells_one _) ?_
       intro w10 hb10 hva10
       have hB10 := below_then hB9 hb10
       have hgea : w.heap.size ≤ w9.heap.size := hB9.size
       have hvk10 := hvk9.on hb10
       have hneka := Nat.ne_of_lt hvk9.lt
       have hvs10 := hvs9.on hb10
       have hnesa := Nat.ne_of_lt hvs9.lt
       have hvr10 := hvr9.on hb10
       have hnera := Nat.ne_of_lt hvr9.lt
       have hvz10 := hvz9.on hb10
       have hneza := Nat.ne_of_lt hvz9.lt
       clear hB9 hvk9 hvs9 hvr9 hvz9 hb10
       try simp only [putS]
       skip)
    | (refine get_step rfl 23 (.tmp 7) rfl gr 32 rb 5 rfl hvr10 Tryd.underlying23 size_k32 Hrb.out ?_
       try simp only [putS]
       skip)
    | (refine get_step rfl 23 (.tmp 3) rfl w.heap.size 32 pb 5 rfl hvk10 Tryd.underlying23 size_k32 Hpb.out ?_
       try simp only [putS]
       skip)
    | (refine ulit_step rfl 56 2 [(0, .tmp 28), (1, .tmp 29)] rfl [(0, hashVal rb), (1, hashVal pb)] rfl 23 ((rb ++ pb).map cellOf) (lit_keys2 _ _ Hrb.out Hpb.out) ?_
       intro w11 hb11 hvl11
       have hB11 := below_then hB10 hb11
       have hgel : w.heap.size ≤ w10.heap.size := hB10.size
       have hvk11 := hvk10.on hb11
       have hnekl := Nat.ne_of_lt hvk10.lt
       have hvs11 := hvs10.on hb11
       have hnesl := Nat.ne_of_lt hvs10.lt
       have hvr11 := hvr10.on hb11
       have hnerl := Nat.ne_of_lt hvr10.lt
       have hvz11 := hvz10.on hb11
       have hnezl := Nat.ne_of_lt hvz10.lt
       have hva11 := hva10.on hb11
       have hneal := Nat.ne_of_lt hva10.lt
       clear hB10 hvk10 hvs10 hvr10 hvz10 hva10 hb11
       try simp only [putS]
       skip))
  generalize hqa : w9.heap.size = ga at *
  clear hqa
  generalize hql : w10.heap.size = gl at *
  clear hql
  refine ((CN.out _) w11 hvl11 (hS.below hB11) (hP.below hB11)).mono ?_
  rintro e w12 ⟨rfl, hb12⟩
  have hB12 := below_then hB11 hb12
  have hvk12 := hvk11.on hb12
  have hvs12 := hvs11.on hb12
  have hvr12 := hvr11.on hb12
  have hvz12 := hvz11.on hb12
  have hva12 := hva11.on hb12
  have hvl12 := hvl11.on hb12
  clear hB11 hvk11 hvs11 hvr11 hvz11 hva11 hvl11 hb12
  go_wp2_with (first
    | (refine vput_step rfl rfl 23 (.tmp 11) (.tmp 31) rfl rfl 32 kzeros (hb.map cellOf) rfl rfl zero_k32 rfl size_k32 (by rw [List.length_map, Hhb.out]) (kcells_one _) ?_
       intro w13 hb13 hvh13
       have hB13 := below_then hB12 hb13
       have hgeh : w.heap.size ≤ w12.heap.size := hB12.size
       have hvk13 := hvk12.on hb13
       have hnekh := Nat.ne_of_lt hvk12.lt
       have hvs13 := hvs12.on hb13
       have hnesh := Nat.ne_of_lt hvs12.lt
       have hvr13 := hvr12.on hb13
       have hnerh := Nat.ne_of_lt hvr12.lt
       have hvz13 := hvz12.on hb13
       have hnezh := Nat.ne_of_lt hvz12.lt
       have hva13 := hva12.on hb13
       have hneah := Nat.ne_of_lt hva12.lt
       have hvl13 := hvl12.on hb13
       have hnelh := Nat.ne_of_lt hvl12.lt
       clear hB12 hvk12 hvs12 hvr12 hvz12 hva12 hvl12 hb13
       try simp only [putS]
       skip))
  generalize hqh : w12.heap.size = gh at *
  clear hqh
  replace hvk13 := hvk13.drew
  replace hvs13 := hvs13.drew
  replace hvr13 := hvr13.drew
  replace hvz13 := hvz13.drew
  replace hva13 := hva13.drew
  replace hvl13 := hvl13.drew
  replace hvh13 := hvh13.drew
  have hBq := (show Below w.heap.size w w13.drew from hB13.drew)
  refine wp_region_any (by kernel_rfl) ?_
  refine wpAny_flatM (L := [0, 1, 2, 3, 4, 5, 6, 7, 8]) (by kernel_rfl) _ _ (sgVerifyGoodVs8 pb sb D m d w.heap.size gs c gr gz ga gh rb zb p gl hb n q yb) [] 23 kzeros [0, 1, 2, 3, 4, 5, 7, 8, 9, 10, 11, 12, 13, 14, 15, 16, 17, 18, 19, 20, 21, 22, 23, 24, 25, 26, 27, 28, 29, 30, 31] (by kernel_rfl) (by kernel_rfl) ?_ zero_k32 ?_ (by rfl) ?_ 0 (by kernel_rfl) ?_
  · intro p hp
    exact absurd hp List.not_mem_nil
  · repeat refine all_cons rfl ?_
    exact all_nil
  · refine all_cons (.inr (mL 32 rfl fun w hb => up_run (hva13.on hb) Hp.out)) ?_
    refine all_cons (.inr (mC 33 rfl Tryd.func17 fun w hb => CG.out w)) ?_
    refine all_cons (.inr (mL 34 rfl fun w hb => key_run (hvh13.on hb) Hhb.out)) ?_
    refine all_cons (.inr (mL 35 rfl fun w hb => key_run (hvz13.on hb) Hzb.out)) ?_
    refine all_cons (.inr (mC 36 rfl Tryd.func18 fun w hb => CW.out w (hS.below (below_then hBq hb)))) ?_
    refine all_cons (.inr (mC 37 rfl Tryd.func19 fun w hb => CY.out w)) ?_
    refine all_cons (.inr (mL 38 rfl fun w hb => key_run (hvr13.on hb) Hrb.out)) ?_
    refine all_cons (.inr (mB 39 rfl (fun w => key_guard _ _ _ _ _ w) (EQ))) ?_
    refine all_cons (.inr (mV 6 rfl (.inr rfl) rfl)) ?_
    exact all_nil
  intro w14 g hb14 hN14 hap14
  clear hN14 hap14
  have hB14 := below_then (show Below w.heap.size w w13.drew from hB13.drew) hb14
  have hvk14 := hvk13.on hb14
  have hvs14 := hvs13.on hb14
  have hvr14 := hvr13.on hb14
  have hvz14 := hvz13.on hb14
  have hva14 := hva13.on hb14
  have hvl14 := hvl13.on hb14
  have hvh14 := hvh13.on hb14
  clear hB13 hvk13 hvs13 hvr13 hvz13 hva13 hvl13 hvh13 hb14 hBq
  refine ⟨by kernel_rfl, ?_⟩
  rename_i K hKK
  show Exit.then K _ Exit.normal (⟨(sgVerifyGoodVs8 pb sb D m d w.heap.size gs c gr gz ga gh rb zb p gl hb n q yb).toArray, []⟩ : Act) w14
  simp only [Exit.then]
  refine hKK _ _ ?_
  clear hKK K g
  simp only [sgVerifyGoodVs8, ptr]
  go_wp2
  go_ret
  exact ⟨rfl, hB14⟩
end Go.Proofs.YtoggkhjaghkpnaaDoor
