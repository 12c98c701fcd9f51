/- Part 21 of what the laws of this seat share: URead. -/
import Derived.Deep.Cut
import Derived.IntWalk
import Derived.Test.YtoggkhjaghkpnaaDoorPart20
namespace Go.Proofs.YtoggkhjaghkpnaaDoor
open Go.RowKit
def uread1Vs7 (kb : List UInt8) (g_base : Nat) (gr : Nat) (gy : Nat) (gx : Nat) (q : UInt8) (v : UInt8) (y : List Nat) (kc : List UInt8) (x : List Nat) : List Value :=
  (hashVal kb) :: ptr g_base :: ptr gr :: (.nilIface) :: (.bool false) :: ptr gy :: (.nilIface) :: ptr gx :: (.bool false) :: undef :: (.pointer (some ⟨g_base, 31, none⟩)) :: (cellOf q) :: (.int .u8 0) :: (.bool false) :: (.pointer (some ⟨g_base, 31, none⟩)) :: (cellOf q) :: (.int .u8 (v.toNat : Int)) :: (.pointer (some ⟨g_base, 31, none⟩)) :: (.tuple #[numVal y, .nilIface]) :: (hashVal kc) :: (.tuple #[numVal y, .nilIface]) :: (numVal y) :: (.nilIface) :: (.nilIface) :: (.bool false) :: undef :: undef :: (.tuple #[numVal x, .bool false]) :: (numVal y) :: (.tuple #[numVal x, .bool false]) :: (numVal x) :: (.bool false) :: (.bool false) :: (.bool true) :: (.bool true) :: ud 5 ((.bool true) :: ud 9 [])
def uread1Vs7_1 (kb : List UInt8) (g_base : Nat) (gr : Nat) (gy : Nat) (gx : Nat) (q : UInt8) (v : UInt8) (y : List Nat) (kc : List UInt8) (x : List Nat) : List Value :=
  (hashVal kb) :: ptr g_base :: ptr gr :: (.nilIface) :: (.bool false) :: ptr gy :: (.nilIface) :: ptr gx :: (.bool true) :: undef :: (.pointer (some ⟨g_base, 31, none⟩)) :: (cellOf q) :: (.int .u8 0) :: (.bool false) :: (.pointer (some ⟨g_base, 31, none⟩)) :: (cellOf q) :: (.int .u8 (v.toNat : Int)) :: (.pointer (some ⟨g_base, 31, none⟩)) :: (.tuple #[numVal y, .nilIface]) :: (hashVal kc) :: (.tuple #[numVal y, .nilIface]) :: (numVal y) :: (.nilIface) :: (.nilIface) :: (.bool false) :: undef :: undef :: (.tuple #[numVal x, .bool true]) :: (numVal y) :: (.tuple #[numVal x, .bool true]) :: (numVal x) :: (.bool true) :: (.bool true) :: (.bool false) :: (.bool false) :: (.bool false) :: (.bool false) :: undef :: undef :: (.bool false) :: (.bool false) :: ud 9 []
def uread1Vs7_2 (kb : List UInt8) (g_base : Nat) (gr : Nat) (gy : Nat) (gx : Nat) (q : UInt8) (v : UInt8) (y : List Nat) (kc : List UInt8) (x : List Nat) : List Value :=
  (hashVal kb) :: ptr g_base :: ptr gr :: (.nilIface) :: (.bool true) :: ptr gy :: (.nilIface) :: ptr gx :: (.bool false) :: undef :: (.pointer (some ⟨g_base, 31, none⟩)) :: (cellOf q) :: (.int .u8 128) :: (.bool true) :: (.pointer (some ⟨g_base, 31, none⟩)) :: (cellOf q) :: (.int .u8 (v.toNat : Int)) :: (.pointer (some ⟨g_base, 31, none⟩)) :: (.tuple #[numVal y, .nilIface]) :: (hashVal kc) :: (.tuple #[numVal y, .nilIface]) :: (numVal y) :: (.nilIface) :: (.nilIface) :: (.bool false) :: undef :: undef :: (.tuple #[numVal x, .bool false]) :: (numVal y) :: (.tuple #[numVal x, .bool false]) :: (numVal x) :: (.bool false) :: (.bool false) :: (.bool true) :: (.bool true) :: ud 5 ((.bool true) :: ud 9 [])
def uread1Vs7_3 (kb : List UInt8) (g_base : Nat) (gr : Nat) (gy : Nat) (gx : Nat) (q : UInt8) (v : UInt8) (y : List Nat) (kc : List UInt8) (x : List Nat) : List Value :=
  (hashVal kb) :: ptr g_base :: ptr gr :: (.nilIface) :: (.bool true) :: ptr gy :: (.nilIface) :: ptr gx :: (.bool true) :: undef :: (.pointer (some ⟨g_base, 31, none⟩)) :: (cellOf q) :: (.int .u8 128) :: (.bool true) :: (.pointer (some ⟨g_base, 31, none⟩)) :: (cellOf q) :: (.int .u8 (v.toNat : Int)) :: (.pointer (some ⟨g_base, 31, none⟩)) :: (.tuple #[numVal y, .nilIface]) :: (hashVal kc) :: (.tuple #[numVal y, .nilIface]) :: (numVal y) :: (.nilIface) :: (.nilIface) :: (.bool false) :: undef :: undef :: (.tuple #[numVal x, .bool true]) :: (numVal y) :: (.tuple #[numVal x, .bool true]) :: (numVal x) :: (.bool true) :: (.bool true) :: (.bool false) :: (.bool false) :: (.bool true) :: (.bool true) :: (numVal x) :: (.bool false) :: (.bool false) :: (.bool false) :: ud 9 []
def uread1Vs7_4 (kb : List UInt8) (g_base : Nat) (gr : Nat) (gy : Nat) (gx : Nat) (q : UInt8) (v : UInt8) (y : List Nat) (kc : List UInt8) (x : List Nat) : List Value :=
  (hashVal kb) :: ptr g_base :: ptr gr :: (.nilIface) :: (.bool true) :: ptr gy :: (.nilIface) :: ptr gx :: (.bool true) :: undef :: (.pointer (some ⟨g_base, 31, none⟩)) :: (cellOf q) :: (.int .u8 128) :: (.bool true) :: (.pointer (some ⟨g_base, 31, none⟩)) :: (cellOf q) :: (.int .u8 (v.toNat : Int)) :: (.pointer (some ⟨g_base, 31, none⟩)) :: (.tuple #[numVal y, .nilIface]) :: (hashVal kc) :: (.tuple #[numVal y, .nilIface]) :: (numVal y) :: (.nilIface) :: (.nilIface) :: (.bool false) :: undef :: undef :: (.tuple #[numVal x, .bool true]) :: (numVal y) :: (.tuple #[numVal x, .bool true]) :: (numVal x) :: (.bool true) :: (.bool true) :: (.bool false) :: (.bool false) :: (.bool true) :: (.bool true) :: (numVal x) :: (.bool true) :: (.bool true) :: (.bool true) :: ud 9 []
set_option maxRecDepth 100000 in
set_option maxHeartbeats 4000000 in
theorem uread_over (y zt x p n : List Nat) (kb kc : List UInt8) (q v : UInt8) (od ok xz : Bool) (ae : Addr) (res : List Nat) (err : Value) (w : World)
    (Hy : Hid (y.length = 5))
    (Hx : Hid (x.length = 5))
    (Hzt : Hid (zt.length = 15))
    (Hp : Hid (p.length = 15))
    (Hn : Hid (n.length = 15))
    (Hkb : Hid (kb.length = 32))
    (Hkc : Hid (kc.length = 32))
    (D1 : Hid ((kb.map cellOf)[31]? = some (cellOf q)))
    (HO : Hid (bits .and .u8 (q.toNat : Int) 128 = bif od then 128 else 0))
    (HV : Hid (bits .andNot .u8 (q.toNat : Int) 128 = (v.toNat : Int)))
    (HC : Hid (kc = kb.set 31 v))
    (CS : Hid (∀ W, TabsU (errAt ae) W → Calls Tryd.prog 35 #[hashVal kc] W (gvn (.tuple #[numVal y, .nilIface]) W)))
    (BZ : ∀ w, (Instr.build 46 #[]).run Tryd.prog w = .ok (numVal zt) w)
    (CX : Hid (∀ W, TabsU (errAt ae) W → Calls Tryd.prog 36 #[numVal y] W (gvn (.tuple #[numVal x, .bool ok]) W)))
    (CZ : Hid (∀ W, Calls Tryd.prog 37 #[numVal x] W (gvn (.bool xz) W)))
    (CA : Hid (∀ W, Calls Tryd.prog 38 #[numVal x, numVal y] W (gvn (numVal p) W)))
    (CN : Hid (∀ W, Calls Tryd.prog 17 #[numVal p] W (gvn (numVal n) W)))
    (HP1 : Hid (ok = false → res = zt ∧ err = errAt ae))
    (HP2 : Hid (ok = true → od = false → res = p ∧ err = .nilIface))
    (HP3 : Hid (ok = true → od = true → xz = true → res = zt ∧ err = errAt ae))
    (HP4 : Hid (ok = true → od = true → xz = false → res = n ∧ err = .nilIface))
    (hS : TabsU (errAt ae) w)
    (hE : w.cell? ⟨1, 0, none⟩ = some (errAt ae)) :
    Calls Tryd.prog 16 #[hashVal kb] w (gvn (.tuple #[numVal res, err]) w) := by
  go_enter Tryd.func16, Tryd.ntmps16
  cases od
  · have ho := HO.out
    have hv := HV.out
    clear HO HV
    go_upto_region 1 with (first
      | (refine take_step rfl 23 (.tmp 0) rfl kb rfl ?_
         intro w1 hb1 hvb1 hz
         clear hz
         have hB1 := hb1
         have hgeb : w.heap.size ≤ w.heap.size := Nat.le_refl _
         clear  hb1
         try simp only [putS]
         skip)
      | (refine vzero_step (o := ⟨some 2, _, _, _, _, _⟩) rfl 46 rfl (nzeros 15) zero_up ?_
         intro w2 hb2 hvr2
         have hB2 := below_then hB1 hb2
         have hger : w.heap.size ≤ w1.heap.size := hB1.size
         have hvb2 := hvb1.on hb2
         have hnebr := Nat.ne_of_lt hvb1.lt
         clear hB1 hvb1 hb2
         try simp only [putS]
         skip))
    generalize hqr : w1.heap.size = gr at *
    clear hqr
    have dq := hvb2.get D1.out
    have hT := hvb2.there 31 1 (by rw [List.length_map, Hkb.out]; decide)
    have hE1 := Lib.hid (hvb2.set 31 (cellOf v))
    go_upto_region 3 with (first
      | (refine store_step rfl 5 _ _ rfl (w.heap.size) 31 .u8 (v.toNat : Int) rfl rfl size_u8 hT ?_
         intro w3 hw3
         have hB3 : Below w.heap.size w w3 := by rw [hw3]; exact hB2.setCell (p := ⟨w.heap.size, 31, none⟩) (Nat.le_refl _) _
         have hvb3 : Cells w3 (w.heap.size) (kc.map cellOf) 23 := by rw [hw3, HC.out, List.map_set]; exact hE1.out
         have hvr3 : Cells w3 gr (nzeros 15) 46 := by rw [hw3]; exact hvr2.other (Ne.symm hnebr) _
         clear hw3 hT hE1 dq ho hv hB2 hvb2 hvr2
         skip))
    go_wp2_with (first
      | (refine get_step rfl 23 (.tmp 1) rfl w.heap.size 32 kc 5 rfl hvb3 Tryd.underlying23 size_k32 Hkc.out ?_
         try simp only [putS]
         skip))
    refine (CS.out w3 (hS.below hB3)).mono ?_
    rintro e w4 ⟨rfl, hb4⟩
    have hB4 := below_then hB3 hb4
    have hvb4 := hvb3.on hb4
    have hvr4 := hvr3.on hb4
    clear hB3 hvb3 hvr3 hb4
    go_wp2_with (first
      | (refine vput_step rfl rfl 44 (.tmp 5) (.tmp 21) rfl rfl 5 (nzeros 5) (y.map ncell) rfl rfl zero_elem rfl size_elem (by rw [List.length_map, Hy.out]) (ncells_one _) ?_
         intro w5 hb5 hvy5
         have hB5 := below_then hB4 hb5
         have hgey : w.heap.size ≤ w4.heap.size := hB4.size
         have hvb5 := hvb4.on hb5
         have hneby := Nat.ne_of_lt hvb4.lt
         have hvr5 := hvr4.on hb5
         have hnery := Nat.ne_of_lt hvr4.lt
         clear hB4 hvb4 hvr4 hb5
         try simp only [putS]
         skip)
      | (refine sget_step rfl 44 (.tmp 5) rfl w4.heap.size 5 (y.map ncell) rfl hvy5 Tryd.underlying44 rfl size_elem (by rw [List.length_map, Hy.out]) ?_
         try simp only [putS]
         skip))
    generalize hqy : w4.heap.size = gy at *
    clear hqy
    refine (CX.out w5 (hS.below hB5)).mono ?_
    rintro e w6 ⟨rfl, hb6⟩
    have hB6 := below_then hB5 hb6
    have hvb6 := hvb5.on hb6
    have hvr6 := hvr5.on hb6
    have hvy6 := hvy5.on hb6
    clear hB5 hvb5 hvr5 hvy5 hb6
    cases ok
    · go_upto_region 7 with (first
        | (refine vput_step rfl rfl 44 (.tmp 7) (.tmp 30) rfl rfl 5 (nzeros 5) (x.map ncell) rfl rfl zero_elem rfl size_elem (by rw [List.length_map, Hx.out]) (ncells_one _) ?_
           intro w7 hb7 hvx7
           have hB7 := below_then hB6 hb7
           have hgex : w.heap.size ≤ w6.heap.size := hB6.size
           have hvb7 := hvb6.on hb7
           have hnebx := Nat.ne_of_lt hvb6.lt
           have hvr7 := hvr6.on hb7
           have hnerx := Nat.ne_of_lt hvr6.lt
           have hvy7 := hvy6.on hb7
           have hneyx := Nat.ne_of_lt hvy6.lt
           clear hB6 hvb6 hvr6 hvy6 hb7
           try simp only [putS]
           skip))
      generalize hqx : w6.heap.size = gx at *
      clear hqx
      refine wp_region_flat (md := .any) (by kernel_rfl) ?_
      refine wpAny_flatM (L := [0, 1, 2, 3, 4, 5, 6, 7, 8]) (by kernel_rfl) _ _ (uread1Vs7 kb w.heap.size gr gy gx q v y kc x) [] 23 kzeros [0, 1, 2, 3, 4, 5, 6, 7, 8, 9, 10, 11, 12, 13, 14, 15, 16, 17, 18, 19, 20, 21, 22, 23, 24, 25, 26, 27, 28, 29, 30, 31, 41, 42, 43, 44, 45, 46, 47, 48, 49] (by kernel_rfl) (by kernel_rfl) ?_ zero_k32 ?_ (by rfl) ?_ 0 (by kernel_rfl) ?_
      · intro p hp
        exact absurd hp List.not_mem_nil
      · repeat refine all_cons rfl ?_
        exact all_nil
      · refine all_cons (.inr (mV 32 rfl (.inl rfl) rfl)) ?_
        refine all_cons (.inr (mN 33 rfl rfl rfl)) ?_
        refine all_cons (.inr (mV 34 rfl (.inl rfl) rfl)) ?_
        refine all_cons (.inr (mK 35 rfl)) ?_
        refine all_cons (.inr (mK 36 rfl)) ?_
        refine all_cons (.inr (mSkip _ 37 rfl rfl rfl rfl (by kernel_rfl) (fun a hv => wanted_none (j := 4) rfl rfl rfl (hv 36 (by kernel_rfl) rfl)) rfl)) ?_
        refine all_cons (.inr (mSkip _ 38 rfl rfl rfl rfl (by kernel_rfl) (fun a hv => wanted_none (j := 4) rfl rfl rfl (hv 36 (by kernel_rfl) rfl)) rfl)) ?_
        refine all_cons (.inr (mK 39 rfl)) ?_
        refine all_cons (.inr (mQ 40 rfl rfl rfl)) ?_
        exact all_nil
      intro w8 g hb8 hN8 hap8
      clear hN8 hap8
      have hB8 := below_then hB7 hb8
      have hvb8 := hvb7.on hb8
      have hvr8 := hvr7.on hb8
      have hvy8 := hvy7.on hb8
      have hvx8 := hvx7.on hb8
      clear hB7 hvb7 hvr7 hvy7 hvx7 hb8
      refine ⟨by kernel_rfl, ?_⟩
      rename_i K hKK
      show Exit.then K _ Exit.normal (⟨(uread1Vs7 kb w.heap.size gr gy gx q v y kc x).toArray, []⟩ : Act) w8
      simp only [Exit.then]
      refine hKK _ _ ?_
      clear hKK K g
      simp only [uread1Vs7, ptr, ud]
      go_wp2_with fail
      go_wp2_with fail
      replace hvb8 := hvb8.drew
      replace hvr8 := hvr8.drew
      replace hvy8 := hvy8.drew
      replace hvx8 := hvx8.drew
      rename_i K hKK
      have hltE := block_lt_of_cell hE
      have de9 : w8.drew.cell? ⟨1, 0, none⟩ = some (errAt ae) := (hB8.cell hltE).trans hE
      have hB9 := (show Below w.heap.size w w8.drew from hB8.drew)
      clear hB8
      refine wp_region_any (by kernel_rfl) ?_
      refine wpAny_of_held (S := fun w' => w'.cell? ⟨1, 0, none⟩ = some (errAt ae)) _ _ _ _ ?_
      show wpAnyH _ _ _ _ _ _ _ _ w8.drew
      simp only [List.size_toArray, List.length_cons, List.length_nil, Nat.reduceAdd, Array.replicate_succ, Array.replicate_zero, List.push_toArray, List.nil_append, List.cons_append]
      generalize w8.drew = w9 at *
      refine wpAnyH_take (i := 1) (oi := ⟨some 42, _, _, _, _, _⟩) (v := (errAt ae)) rfl (by kernel_rfl) (by kernel_rfl) (by kernel_rfl) (fun _ _ _ h => h) (Or.inl ⟨by rfl, ?_⟩) de9 ?_
      · intro w8 h8
        exact exec_load _ _ _ _ rfl _ _ rfl _ (load_err h8)
      refine wpAnyH_all (rs := [0]) (by kernel_rfl) (by decide) fun i hi => ?_
      obtain rfl := List.mem_singleton.1 hi
      clear hi
      refine wpOp_step rfl fun K1 hK1 => ?_
      rw [if_pos (by rfl)]
      refine flat_pure (numVal zt) (exec_build _ _ _ [] rfl [] rfl _ w9 (BZ w9)) (hK1 _ _ ⟨de9, ?_⟩)
      clear hK1 K1
      refine wpAnyH_all (rs := [2]) (by kernel_rfl) (by decide) fun i hi => ?_
      obtain rfl := List.mem_singleton.1 hi
      clear hi
      refine wpOp_step rfl fun K1 hK1 => ?_
      rw [if_pos (by rfl)]
      refine wp_store_mid 46 (.tmp 2) (.tmp 41) rfl gr 0 (zt.map ncell).toArray rfl rfl (by rw [List.size_toArray, List.length_map, Hzt.out]; exact hvr8.there 0 15 (by rw [show ((nzeros 15)).length = 15 from rfl]; decide)) (by rw [List.size_toArray, List.length_map, Hzt.out]; exact size_up) (ncells_one _) (hK1 _ _ ?_)
      have hC2 := hvr8.setCells (cs := zt.map ncell) (o := 0) (by rw [List.length_map, Hzt.out, show ((nzeros 15)).length = 15 from rfl]; decide)
      rw [splice_all _ _ (by rw [List.length_map, Hzt.out, show ((nzeros 15)).length = 15 from rfl])] at hC2
      have hb10 : But gr w9 (w9.setCells gr 0 (zt.map ncell)) := (But.refl _ _).setCells _ _
      have hB10 : Below w.heap.size w (w9.setCells gr 0 (zt.map ncell)) := hB9.trans (hb10.below hger hB9.size)
      have de10 : (w9.setCells gr 0 (zt.map ncell)).cell? ⟨1, 0, none⟩ = some (errAt ae) := (World.cell?_of_block (hb10.block _ (block_lt_of_cell de9) (Nat.ne_of_lt (Nat.lt_of_lt_of_le hltE hger)))).trans de9
      change (w9.setCells gr 0 (zt.map ncell)).cell? ⟨1, 0, none⟩ = some (errAt ae) ∧ wpAnyH _ _ _ _ _ _ _ _ (w9.setCells gr 0 (zt.map ncell))
      have hvb10 := hvb8.but hb10 hnebr
      have hvy10 := hvy8.but hb10 (Ne.symm hnery)
      have hvx10 := hvx8.but hb10 (Ne.symm hnerx)
      have hvr10 := hC2
      clear hC2 hb10 hK1 K1 hB9 hvr8 de9 hvb8 hvy8 hvx8
      generalize w9.setCells gr 0 (zt.map ncell) = w10 at *
      refine ⟨de10, ?_⟩
      refine wpAnyH_all (rs := [3]) (by kernel_rfl) (by decide) fun i hi => ?_
      obtain rfl := List.mem_singleton.1 hi
      clear hi
      refine wpOp_step rfl fun K1 hK1 => ?_
      rw [if_pos (by rfl)]
      refine flat_pure ((errAt ae)) (exec_move _ _ _ (.inr rfl) ((errAt ae)) (by rfl) w10) (hK1 _ _ ⟨de10, ?_⟩)
      clear hK1 K1
      refine wpAnyH_done (by kernel_rfl) ?_ _
      show Exit.then K _ Exit.normal (⟨((hashVal kb) :: (.pointer (some ⟨w.heap.size, 0, none⟩)) :: (.pointer (some ⟨gr, 0, none⟩)) :: ((errAt ae)) :: (.bool false) :: (.pointer (some ⟨gy, 0, none⟩)) :: (.nilIface) :: (.pointer (some ⟨gx, 0, none⟩)) :: (.bool false) :: undef :: (.pointer (some ⟨w.heap.size, 31, none⟩)) :: (cellOf q) :: (.int .u8 0) :: (.bool false) :: (.pointer (some ⟨w.heap.size, 31, none⟩)) :: (cellOf q) :: (.int .u8 (v.toNat : Int)) :: (.pointer (some ⟨w.heap.size, 31, none⟩)) :: (.tuple #[numVal y, .nilIface]) :: (hashVal kc) :: (.tuple #[numVal y, .nilIface]) :: (numVal y) :: (.nilIface) :: (.nilIface) :: (.bool false) :: undef :: undef :: (.tuple #[numVal x, .bool false]) :: (numVal y) :: (.tuple #[numVal x, .bool false]) :: (numVal x) :: (.bool false) :: (.bool false) :: (.bool true) :: (.bool true) :: undef :: undef :: undef :: undef :: undef :: (.bool true) :: (numVal zt) :: ((errAt ae)) :: undef :: undef :: undef :: undef :: undef :: undef :: undef :: []).toArray, []⟩ : Act) w10
      simp only [Exit.then]
      refine hKK _ _ ?_
      clear hKK K
      go_wp2
      obtain ⟨hr1, hr2⟩ := HP1.out (by simp) 
      exact sret2 Tryd.results16 gr (zt.map ncell) _ rfl rfl hvr10 Tryd.underlying46 rfl size_up (by rw [List.length_map, Hzt.out]) rfl ⟨by subst hr1; subst hr2; rfl, hB10⟩
    · go_upto_region 7 with (first
        | (refine vput_step rfl rfl 44 (.tmp 7) (.tmp 30) rfl rfl 5 (nzeros 5) (x.map ncell) rfl rfl zero_elem rfl size_elem (by rw [List.length_map, Hx.out]) (ncells_one _) ?_
           intro w7 hb7 hvx7
           have hB7 := below_then hB6 hb7
           have hgex : w.heap.size ≤ w6.heap.size := hB6.size
           have hvb7 := hvb6.on hb7
           have hnebx := Nat.ne_of_lt hvb6.lt
           have hvr7 := hvr6.on hb7
           have hnerx := Nat.ne_of_lt hvr6.lt
           have hvy7 := hvy6.on hb7
           have hneyx := Nat.ne_of_lt hvy6.lt
           clear hB6 hvb6 hvr6 hvy6 hb7
           try simp only [putS]
           skip))
      generalize hqx : w6.heap.size = gx at *
      clear hqx
      refine wp_region_flat (md := .any) (by kernel_rfl) ?_
      refine wpAny_flatM (L := [0, 1, 2, 3, 4, 5, 6, 7, 8]) (by kernel_rfl) _ _ (uread1Vs7_1 kb w.heap.size gr gy gx q v y kc x) [] 23 kzeros [0, 1, 2, 3, 4, 5, 6, 7, 8, 9, 10, 11, 12, 13, 14, 15, 16, 17, 18, 19, 20, 21, 22, 23, 24, 25, 26, 27, 28, 29, 30, 31, 41, 42, 43, 44, 45, 46, 47, 48, 49] (by kernel_rfl) (by kernel_rfl) ?_ zero_k32 ?_ (by rfl) ?_ 0 (by kernel_rfl) ?_
      · intro p hp
        exact absurd hp List.not_mem_nil
      · repeat refine all_cons rfl ?_
        exact all_nil
      · refine all_cons (.inr (mV 32 rfl (.inl rfl) rfl)) ?_
        refine all_cons (.inr (mN 33 rfl rfl rfl)) ?_
        refine all_cons (.inr (mV 34 rfl (.inl rfl) rfl)) ?_
        refine all_cons (.inr (mV 35 rfl (.inl rfl) rfl)) ?_
        refine all_cons (.inr (mV 36 rfl (.inl rfl) rfl)) ?_
        refine all_cons (.inr (mK 37 rfl)) ?_
        refine all_cons (.inr (mK 38 rfl)) ?_
        refine all_cons (.inr (mQ 39 rfl rfl rfl)) ?_
        refine all_cons (.inr (mQ 40 rfl rfl rfl)) ?_
        exact all_nil
      intro w11 g hb11 hN11 hap11
      clear hN11 hap11
      have hB11 := below_then hB7 hb11
      have hvb11 := hvb7.on hb11
      have hvr11 := hvr7.on hb11
      have hvy11 := hvy7.on hb11
      have hvx11 := hvx7.on hb11
      clear hB7 hvb7 hvr7 hvy7 hvx7 hb11
      refine ⟨by kernel_rfl, ?_⟩
      rename_i K hKK
      show Exit.then K _ Exit.normal (⟨(uread1Vs7_1 kb w.heap.size gr gy gx q v y kc x).toArray, []⟩ : Act) w11
      simp only [Exit.then]
      refine hKK _ _ ?_
      clear hKK K g
      simp only [uread1Vs7_1, ptr, ud]
      go_wp2_with (first
        | (refine sget_step rfl 44 (.tmp 7) rfl gx 5 (x.map ncell) rfl hvx11 Tryd.underlying44 rfl size_elem (by rw [List.length_map, Hx.out]) ?_
           try simp only [putS]
           skip)
        | (refine sget_step rfl 44 (.tmp 5) rfl gy 5 (y.map ncell) rfl hvy11 Tryd.underlying44 rfl size_elem (by rw [List.length_map, Hy.out]) ?_
           try simp only [putS]
           skip))
      refine (CA.out w11).mono ?_
      rintro e w12 ⟨rfl, hb12⟩
      have hB12 := below_then hB11 hb12
      have hvb12 := hvb11.on hb12
      have hvr12 := hvr11.on hb12
      have hvy12 := hvy11.on hb12
      have hvx12 := hvx11.on hb12
      clear hB11 hvb11 hvr11 hvy11 hvx11 hb12
      go_wp2_with (first
        | (refine vput_step rfl rfl 46 (.tmp 9) (.tmp 45) rfl rfl 15 (nzeros 15) (p.map ncell) rfl rfl zero_up rfl size_up (by rw [List.length_map, Hp.out]) (ncells_one _) ?_
           intro w13 hb13 hvp13
           have hB13 := below_then hB12 hb13
           have hgep : w.heap.size ≤ w12.heap.size := hB12.size
           have hvb13 := hvb12.on hb13
           have hnebp := Nat.ne_of_lt hvb12.lt
           have hvr13 := hvr12.on hb13
           have hnerp := Nat.ne_of_lt hvr12.lt
           have hvy13 := hvy12.on hb13
           have hneyp := Nat.ne_of_lt hvy12.lt
           have hvx13 := hvx12.on hb13
           have hnexp := Nat.ne_of_lt hvx12.lt
           clear hB12 hvb12 hvr12 hvy12 hvx12 hb13
           try simp only [putS]
           skip)
        | (refine sget_step rfl 46 (.tmp 9) rfl w12.heap.size 15 (p.map ncell) rfl hvp13 Tryd.underlying46 rfl size_up (by rw [List.length_map, Hp.out]) ?_
           try simp only [putS]
           skip)
        | (refine vset_step rfl 46 (.tmp 2) (.tmp 49) rfl gr 15 (nzeros 15) (p.map ncell) rfl rfl hvr13 rfl size_up (by rw [List.length_map, Hp.out]) (ncells_one _) ?_
           intro w14 hb14 hvr14 hz14
           have hB14 : Below w.heap.size w w14 := hB13.trans (hb14.below hger hB13.size)
           have hvb14 := hvb13.but hb14 hnebr
           have hvy14 := hvy13.but hb14 (Ne.symm hnery)
           have hvx14 := hvx13.but hb14 (Ne.symm hnerx)
           have hvp14 := hvp13.but hb14 (Ne.symm hnerp)
           clear hB13 hvr13 hb14 hz14 hvb13 hvy13 hvx13 hvp13
           skip))
      generalize hqp : w12.heap.size = gp at *
      clear hqp
      obtain ⟨hr1, hr2⟩ := HP2.out (by simp) (by simp) 
      exact sret2 Tryd.results16 gr (p.map ncell) _ rfl rfl hvr14 Tryd.underlying46 rfl size_up (by rw [List.length_map, Hp.out]) rfl ⟨by subst hr1; subst hr2; rfl, hB14⟩
  · have ho := HO.out
    have hv := HV.out
    clear HO HV
    go_upto_region 1 with (first
      | (refine take_step rfl 23 (.tmp 0) rfl kb rfl ?_
         intro w15 hb15 hvb15 hz
         clear hz
         have hB15 := hb15
         have hgeb : w.heap.size ≤ w.heap.size := Nat.le_refl _
         clear  hb15
         try simp only [putS]
         skip)
      | (refine vzero_step (o := ⟨some 2, _, _, _, _, _⟩) rfl 46 rfl (nzeros 15) zero_up ?_
         intro w16 hb16 hvr16
         have hB16 := below_then hB15 hb16
         have hger : w.heap.size ≤ w15.heap.size := hB15.size
         have hvb16 := hvb15.on hb16
         have hnebr := Nat.ne_of_lt hvb15.lt
         clear hB15 hvb15 hb16
         try simp only [putS]
         skip))
    generalize hqr : w15.heap.size = gr at *
    clear hqr
    have dq := hvb16.get D1.out
    have hT := hvb16.there 31 1 (by rw [List.length_map, Hkb.out]; decide)
    have hE1 := Lib.hid (hvb16.set 31 (cellOf v))
    go_upto_region 3 with (first
      | (refine store_step rfl 5 _ _ rfl (w.heap.size) 31 .u8 (v.toNat : Int) rfl rfl size_u8 hT ?_
         intro w17 hw17
         have hB17 : Below w.heap.size w w17 := by rw [hw17]; exact hB16.setCell (p := ⟨w.heap.size, 31, none⟩) (Nat.le_refl _) _
         have hvb17 : Cells w17 (w.heap.size) (kc.map cellOf) 23 := by rw [hw17, HC.out, List.map_set]; exact hE1.out
         have hvr17 : Cells w17 gr (nzeros 15) 46 := by rw [hw17]; exact hvr16.other (Ne.symm hnebr) _
         clear hw17 hT hE1 dq ho hv hB16 hvb16 hvr16
         skip))
    go_wp2_with (first
      | (refine get_step rfl 23 (.tmp 1) rfl w.heap.size 32 kc 5 rfl hvb17 Tryd.underlying23 size_k32 Hkc.out ?_
         try simp only [putS]
         skip))
    refine (CS.out w17 (hS.below hB17)).mono ?_
    rintro e w18 ⟨rfl, hb18⟩
    have hB18 := below_then hB17 hb18
    have hvb18 := hvb17.on hb18
    have hvr18 := hvr17.on hb18
    clear hB17 hvb17 hvr17 hb18
    go_wp2_with (first
      | (refine vput_step rfl rfl 44 (.tmp 5) (.tmp 21) rfl rfl 5 (nzeros 5) (y.map ncell) rfl rfl zero_elem rfl size_elem (by rw [List.length_map, Hy.out]) (ncells_one _) ?_
         intro w19 hb19 hvy19
         have hB19 := below_then hB18 hb19
         have hgey : w.heap.size ≤ w18.heap.size := hB18.size
         have hvb19 := hvb18.on hb19
         have hneby := Nat.ne_of_lt hvb18.lt
         have hvr19 := hvr18.on hb19
         have hnery := Nat.ne_of_lt hvr18.lt
         clear hB18 hvb18 hvr18 hb19
         try simp only [putS]
         skip)
      | (refine sget_step rfl 44 (.tmp 5) rfl w18.heap.size 5 (y.map ncell) rfl hvy19 Tryd.underlying44 rfl size_elem (by rw [List.length_map, Hy.out]) ?_
         try simp only [putS]
         skip))
    generalize hqy : w18.heap.size = gy at *
    clear hqy
    refine (CX.out w19 (hS.below hB19)).mono ?_
    rintro e w20 ⟨rfl, hb20⟩
    have hB20 := below_then hB19 hb20
    have hvb20 := hvb19.on hb20
    have hvr20 := hvr19.on hb20
    have hvy20 := hvy19.on hb20
    clear hB19 hvb19 hvr19 hvy19 hb20
    cases ok
    · go_upto_region 7 with (first
        | (refine vput_step rfl rfl 44 (.tmp 7) (.tmp 30) rfl rfl 5 (nzeros 5) (x.map ncell) rfl rfl zero_elem rfl size_elem (by rw [List.length_map, Hx.out]) (ncells_one _) ?_
           intro w21 hb21 hvx21
           have hB21 := below_then hB20 hb21
           have hgex : w.heap.size ≤ w20.heap.size := hB20.size
           have hvb21 := hvb20.on hb21
           have hnebx := Nat.ne_of_lt hvb20.lt
           have hvr21 := hvr20.on hb21
           have hnerx := Nat.ne_of_lt hvr20.lt
           have hvy21 := hvy20.on hb21
           have hneyx := Nat.ne_of_lt hvy20.lt
           clear hB20 hvb20 hvr20 hvy20 hb21
           try simp only [putS]
           skip))
      generalize hqx : w20.heap.size = gx at *
      clear hqx
      refine wp_region_flat (md := .any) (by kernel_rfl) ?_
      refine wpAny_flatM (L := [0, 1, 2, 3, 4, 5, 6, 7, 8]) (by kernel_rfl) _ _ (uread1Vs7_2 kb w.heap.size gr gy gx q v y kc x) [] 23 kzeros [0, 1, 2, 3, 4, 5, 6, 7, 8, 9, 10, 11, 12, 13, 14, 15, 16, 17, 18, 19, 20, 21, 22, 23, 24, 25, 26, 27, 28, 29, 30, 31, 41, 42, 43, 44, 45, 46, 47, 48, 49] (by kernel_rfl) (by kernel_rfl) ?_ zero_k32 ?_ (by rfl) ?_ 0 (by kernel_rfl) ?_
      · intro p hp
        exact absurd hp List.not_mem_nil
      · repeat refine all_cons rfl ?_
        exact all_nil
      · refine all_cons (.inr (mV 32 rfl (.inl rfl) rfl)) ?_
        refine all_cons (.inr (mN 33 rfl rfl rfl)) ?_
        refine all_cons (.inr (mV 34 rfl (.inl rfl) rfl)) ?_
        refine all_cons (.inr (mK 35 rfl)) ?_
        refine all_cons (.inr (mK 36 rfl)) ?_
        refine all_cons (.inr (mSkip _ 37 rfl rfl rfl rfl (by kernel_rfl) (fun a hv => wanted_none (j := 4) rfl rfl rfl (hv 36 (by kernel_rfl) rfl)) rfl)) ?_
        refine all_cons (.inr (mSkip _ 38 rfl rfl rfl rfl (by kernel_rfl) (fun a hv => wanted_none (j := 4) rfl rfl rfl (hv 36 (by kernel_rfl) rfl)) rfl)) ?_
        refine all_cons (.inr (mK 39 rfl)) ?_
        refine all_cons (.inr (mQ 40 rfl rfl rfl)) ?_
        exact all_nil
      intro w22 g hb22 hN22 hap22
      clear hN22 hap22
      have hB22 := below_then hB21 hb22
      have hvb22 := hvb21.on hb22
      have hvr22 := hvr21.on hb22
      have hvy22 := hvy21.on hb22
      have hvx22 := hvx21.on hb22
      clear hB21 hvb21 hvr21 hvy21 hvx21 hb22
      refine ⟨by kernel_rfl, ?_⟩
      rename_i K hKK
      show Exit.then K _ Exit.normal (⟨(uread1Vs7_2 kb w.heap.size gr gy gx q v y kc x).toArray, []⟩ : Act) w22
      simp only [Exit.then]
      refine hKK _ _ ?_
      clear hKK K g
      simp only [uread1Vs7_2, ptr, ud]
      go_wp2_with fail
      go_wp2_with fail
      replace hvb22 := hvb22.drew
      replace hvr22 := hvr22.drew
      replace hvy22 := hvy22.drew
      replace hvx22 := hvx22.drew
      rename_i K hKK
      have hltE := block_lt_of_cell hE
      have de23 : w22.drew.cell? ⟨1, 0, none⟩ = some (errAt ae) := (hB22.cell hltE).trans hE
      have hB23 := (show Below w.heap.size w w22.drew from hB22.drew)
      clear hB22
      refine wp_region_any (by kernel_rfl) ?_
      refine wpAny_of_held (S := fun w' => w'.cell? ⟨1, 0, none⟩ = some (errAt ae)) _ _ _ _ ?_
      show wpAnyH _ _ _ _ _ _ _ _ w22.drew
      simp only [List.size_toArray, List.length_cons, List.length_nil, Nat.reduceAdd, Array.replicate_succ, Array.replicate_zero, List.push_toArray, List.nil_append, List.cons_append]
      generalize w22.drew = w23 at *
      refine wpAnyH_take (i := 1) (oi := ⟨some 42, _, _, _, _, _⟩) (v := (errAt ae)) rfl (by kernel_rfl) (by kernel_rfl) (by kernel_rfl) (fun _ _ _ h => h) (Or.inl ⟨by rfl, ?_⟩) de23 ?_
      · intro w8 h8
        exact exec_load _ _ _ _ rfl _ _ rfl _ (load_err h8)
      refine wpAnyH_all (rs := [0]) (by kernel_rfl) (by decide) fun i hi => ?_
      obtain rfl := List.mem_singleton.1 hi
      clear hi
      refine wpOp_step rfl fun K1 hK1 => ?_
      rw [if_pos (by rfl)]
      refine flat_pure (numVal zt) (exec_build _ _ _ [] rfl [] rfl _ w23 (BZ w23)) (hK1 _ _ ⟨de23, ?_⟩)
      clear hK1 K1
      refine wpAnyH_all (rs := [2]) (by kernel_rfl) (by decide) fun i hi => ?_
      obtain rfl := List.mem_singleton.1 hi
      clear hi
      refine wpOp_step rfl fun K1 hK1 => ?_
      rw [if_pos (by rfl)]
      refine wp_store_mid 46 (.tmp 2) (.tmp 41) rfl gr 0 (zt.map ncell).toArray rfl rfl (by rw [List.size_toArray, List.length_map, Hzt.out]; exact hvr22.there 0 15 (by rw [show ((nzeros 15)).length = 15 from rfl]; decide)) (by rw [List.size_toArray, List.length_map, Hzt.out]; exact size_up) (ncells_one _) (hK1 _ _ ?_)
      have hC2 := hvr22.setCells (cs := zt.map ncell) (o := 0) (by rw [List.length_map, Hzt.out, show ((nzeros 15)).length = 15 from rfl]; decide)
      rw [splice_all _ _ (by rw [List.length_map, Hzt.out, show ((nzeros 15)).length = 15 from rfl])] at hC2
      have hb24 : But gr w23 (w23.setCells gr 0 (zt.map ncell)) := (But.refl _ _).setCells _ _
      have hB24 : Below w.heap.size w (w23.setCells gr 0 (zt.map ncell)) := hB23.trans (hb24.below hger hB23.size)
      have de24 : (w23.setCells gr 0 (zt.map ncell)).cell? ⟨1, 0, none⟩ = some (errAt ae) := (World.cell?_of_block (hb24.block _ (block_lt_of_cell de23) (Nat.ne_of_lt (Nat.lt_of_lt_of_le hltE hger)))).trans de23
      change (w23.setCells gr 0 (zt.map ncell)).cell? ⟨1, 0, none⟩ = some (errAt ae) ∧ wpAnyH _ _ _ _ _ _ _ _ (w23.setCells gr 0 (zt.map ncell))
      have hvb24 := hvb22.but hb24 hnebr
      have hvy24 := hvy22.but hb24 (Ne.symm hnery)
      have hvx24 := hvx22.but hb24 (Ne.symm hnerx)
      have hvr24 := hC2
      clear hC2 hb24 hK1 K1 hB23 hvr22 de23 hvb22 hvy22 hvx22
      generalize w23.setCells gr 0 (zt.map ncell) = w24 at *
      refine ⟨de24, ?_⟩
      refine wpAnyH_all (rs := [3]) (by kernel_rfl) (by decide) fun i hi => ?_
      obtain rfl := List.mem_singleton.1 hi
      clear hi
      refine wpOp_step rfl fun K1 hK1 => ?_
      rw [if_pos (by rfl)]
      refine flat_pure ((errAt ae)) (exec_move _ _ _ (.inr rfl) ((errAt ae)) (by rfl) w24) (hK1 _ _ ⟨de24, ?_⟩)
      clear hK1 K1
      refine wpAnyH_done (by kernel_rfl) ?_ _
      show Exit.then K _ Exit.normal (⟨((hashVal kb) :: (.pointer (some ⟨w.heap.size, 0, none⟩)) :: (.pointer (some ⟨gr, 0, none⟩)) :: ((errAt ae)) :: (.bool true) :: (.pointer (some ⟨gy, 0, none⟩)) :: (.nilIface) :: (.pointer (some ⟨gx, 0, none⟩)) :: (.bool false) :: undef :: (.pointer (some ⟨w.heap.size, 31, none⟩)) :: (cellOf q) :: (.int .u8 128) :: (.bool true) :: (.pointer (some ⟨w.heap.size, 31, none⟩)) :: (cellOf q) :: (.int .u8 (v.toNat : Int)) :: (.pointer (some ⟨w.heap.size, 31, none⟩)) :: (.tuple #[numVal y, .nilIface]) :: (hashVal kc) :: (.tuple #[numVal y, .nilIface]) :: (numVal y) :: (.nilIface) :: (.nilIface) :: (.bool false) :: undef :: undef :: (.tuple #[numVal x, .bool false]) :: (numVal y) :: (.tuple #[numVal x, .bool false]) :: (numVal x) :: (.bool false) :: (.bool false) :: (.bool true) :: (.bool true) :: undef :: undef :: undef :: undef :: undef :: (.bool true) :: (numVal zt) :: ((errAt ae)) :: undef :: undef :: undef :: undef :: undef :: undef :: undef :: []).toArray, []⟩ : Act) w24
      simp only [Exit.then]
      refine hKK _ _ ?_
      clear hKK K
      go_wp2
      obtain ⟨hr1, hr2⟩ := HP1.out (by simp) 
      exact sret2 Tryd.results16 gr (zt.map ncell) _ rfl rfl hvr24 Tryd.underlying46 rfl size_up (by rw [List.length_map, Hzt.out]) rfl ⟨by subst hr1; subst hr2; rfl, hB24⟩
    · cases xz
      · go_upto_region 7 with (first
          | (refine vput_step rfl rfl 44 (.tmp 7) (.tmp 30) rfl rfl 5 (nzeros 5) (x.map ncell) rfl rfl zero_elem rfl size_elem (by rw [List.length_map, Hx.out]) (ncells_one _) ?_
             intro w21 hb21 hvx21
             have hB21 := below_then hB20 hb21
             have hgex : w.heap.size ≤ w20.heap.size := hB20.size
             have hvb21 := hvb20.on hb21
             have hnebx := Nat.ne_of_lt hvb20.lt
             have hvr21 := hvr20.on hb21
             have hnerx := Nat.ne_of_lt hvr20.lt
             have hvy21 := hvy20.on hb21
             have hneyx := Nat.ne_of_lt hvy20.lt
             clear hB20 hvb20 hvr20 hvy20 hb21
             try simp only [putS]
             skip))
        generalize hqx : w20.heap.size = gx at *
        clear hqx
        refine wp_region_flat (md := .any) (by kernel_rfl) ?_
        refine wpAny_flatM (L := [0, 1, 2, 3, 4, 5, 6, 7, 8]) (by kernel_rfl) _ _ (uread1Vs7_3 kb w.heap.size gr gy gx q v y kc x) [] 23 kzeros [0, 1, 2, 3, 4, 5, 6, 7, 8, 9, 10, 11, 12, 13, 14, 15, 16, 17, 18, 19, 20, 21, 22, 23, 24, 25, 26, 27, 28, 29, 30, 31, 41, 42, 43, 44, 45, 46, 47, 48, 49] (by kernel_rfl) (by kernel_rfl) ?_ zero_k32 ?_ (by rfl) ?_ 0 (by kernel_rfl) ?_
        · intro p hp
          exact absurd hp List.not_mem_nil
        · repeat refine all_cons rfl ?_
          exact all_nil
        · refine all_cons (.inr (mV 32 rfl (.inl rfl) rfl)) ?_
          refine all_cons (.inr (mN 33 rfl rfl rfl)) ?_
          refine all_cons (.inr (mV 34 rfl (.inl rfl) rfl)) ?_
          refine all_cons (.inr (mV 35 rfl (.inl rfl) rfl)) ?_
          refine all_cons (.inr (mV 36 rfl (.inl rfl) rfl)) ?_
          refine all_cons (.inr (mL 37 rfl fun w hb => elem_run (hvx21.on hb) Hx.out)) ?_
          refine all_cons (.inr (mC 38 rfl Tryd.func37 fun w hb => CZ.out w)) ?_
          refine all_cons (.inr (mQ 39 rfl rfl rfl)) ?_
          refine all_cons (.inr (mQ 40 rfl rfl rfl)) ?_
          exact all_nil
        intro w25 g hb25 hN25 hap25
        clear hN25 hap25
        have hB25 := below_then hB21 hb25
        have hvb25 := hvb21.on hb25
        have hvr25 := hvr21.on hb25
        have hvy25 := hvy21.on hb25
        have hvx25 := hvx21.on hb25
        clear hB21 hvb21 hvr21 hvy21 hvx21 hb25
        refine ⟨by kernel_rfl, ?_⟩
        rename_i K hKK
        show Exit.then K _ Exit.normal (⟨(uread1Vs7_3 kb w.heap.size gr gy gx q v y kc x).toArray, []⟩ : Act) w25
        simp only [Exit.then]
        refine hKK _ _ ?_
        clear hKK K g
        simp only [uread1Vs7_3, ptr, ud]
        go_wp2_with (first
          | (refine sget_step rfl 44 (.tmp 7) rfl gx 5 (x.map ncell) rfl hvx25 Tryd.underlying44 rfl size_elem (by rw [List.length_map, Hx.out]) ?_
             try simp only [putS]
             skip)
          | (refine sget_step rfl 44 (.tmp 5) rfl gy 5 (y.map ncell) rfl hvy25 Tryd.underlying44 rfl size_elem (by rw [List.length_map, Hy.out]) ?_
             try simp only [putS]
             skip))
        refine (CA.out w25).mono ?_
        rintro e w26 ⟨rfl, hb26⟩
        have hB26 := below_then hB25 hb26
        have hvb26 := hvb25.on hb26
        have hvr26 := hvr25.on hb26
        have hvy26 := hvy25.on hb26
        have hvx26 := hvx25.on hb26
        clear hB25 hvb25 hvr25 hvy25 hvx25 hb26
        go_wp2_with (first
          | (refine vput_step rfl rfl 46 (.tmp 9) (.tmp 45) rfl rfl 15 (nzeros 15) (p.map ncell) rfl rfl zero_up rfl size_up (by rw [List.length_map, Hp.out]) (ncells_one _) ?_
             intro w27 hb27 hvp27
             have hB27 := below_then hB26 hb27
             have hgep : w.heap.size ≤ w26.heap.size := hB26.size
             have hvb27 := hvb26.on hb27
             have hnebp := Nat.ne_of_lt hvb26.lt
             have hvr27 := hvr26.on hb27
             have hnerp := Nat.ne_of_lt hvr26.lt
             have hvy27 := hvy26.on hb27
             have hneyp := Nat.ne_of_lt hvy26.lt
             have hvx27 := hvx26.on hb27
             have hnexp := Nat.ne_of_lt hvx26.lt
             clear hB26 hvb26 hvr26 hvy26 hvx26 hb27
             try simp only [putS]
             skip)
          | (refine sget_step rfl 46 (.tmp 9) rfl w26.heap.size 15 (p.map ncell) rfl hvp27 Tryd.underlying46 rfl size_up (by rw [List.length_map, Hp.out]) ?_
             try simp only [putS]
             skip))
        generalize hqp : w26.heap.size = gp at *
        clear hqp
        refine (CN.out w27).mono ?_
        rintro e w28 ⟨rfl, hb28⟩
        have hB28 := below_then hB27 hb28
        have hvb28 := hvb27.on hb28
        have hvr28 := hvr27.on hb28
        have hvy28 := hvy27.on hb28
        have hvx28 := hvx27.on hb28
        have hvp28 := hvp27.on hb28
        clear hB27 hvb27 hvr27 hvy27 hvx27 hvp27 hb28
        go_wp2_with (first
          | (refine vset_step rfl 46 (.tmp 2) (.tmp 48) rfl gr 15 (nzeros 15) (n.map ncell) rfl rfl hvr28 rfl size_up (by rw [List.length_map, Hn.out]) (ncells_one _) ?_
             intro w29 hb29 hvr29 hz29
             have hB29 : Below w.heap.size w w29 := hB28.trans (hb29.below hger hB28.size)
             have hvb29 := hvb28.but hb29 hnebr
             have hvy29 := hvy28.but hb29 (Ne.symm hnery)
             have hvx29 := hvx28.but hb29 (Ne.symm hnerx)
             have hvp29 := hvp28.but hb29 (Ne.symm hnerp)
             clear hB28 hvr28 hb29 hz29 hvb28 hvy28 hvx28 hvp28
             skip))
        obtain ⟨hr1, hr2⟩ := HP4.out (by simp) (by simp) (by simp) 
        exact sret2 Tryd.results16 gr (n.map ncell) _ rfl rfl hvr29 Tryd.underlying46 rfl size_up (by rw [List.length_map, Hn.out]) rfl ⟨by subst hr1; subst hr2; rfl, hB29⟩
      · go_upto_region 7 with (first
          | (refine vput_step rfl rfl 44 (.tmp 7) (.tmp 30) rfl rfl 5 (nzeros 5) (x.map ncell) rfl rfl zero_elem rfl size_elem (by rw [List.length_map, Hx.out]) (ncells_one _) ?_
             intro w21 hb21 hvx21
             have hB21 := below_then hB20 hb21
             have hgex : w.heap.size ≤ w20.heap.size := hB20.size
             have hvb21 := hvb20.on hb21
             have hnebx := Nat.ne_of_lt hvb20.lt
             have hvr21 := hvr20.on hb21
             have hnerx := Nat.ne_of_lt hvr20.lt
             have hvy21 := hvy20.on hb21
             have hneyx := Nat.ne_of_lt hvy20.lt
             clear hB20 hvb20 hvr20 hvy20 hb21
             try simp only [putS]
             skip))
        generalize hqx : w20.heap.size = gx at *
        clear hqx
        refine wp_region_flat (md := .any) (by kernel_rfl) ?_
        refine wpAny_flatM (L := [0, 1, 2, 3, 4, 5, 6, 7, 8]) (by kernel_rfl) _ _ (uread1Vs7_4 kb w.heap.size gr gy gx q v y kc x) [] 23 kzeros [0, 1, 2, 3, 4, 5, 6, 7, 8, 9, 10, 11, 12, 13, 14, 15, 16, 17, 18, 19, 20, 21, 22, 23, 24, 25, 26, 27, 28, 29, 30, 31, 41, 42, 43, 44, 45, 46, 47, 48, 49] (by kernel_rfl) (by kernel_rfl) ?_ zero_k32 ?_ (by rfl) ?_ 0 (by kernel_rfl) ?_
        · intro p hp
          exact absurd hp List.not_mem_nil
        · repeat refine all_cons rfl ?_
          exact all_nil
        · refine all_cons (.inr (mV 32 rfl (.inl rfl) rfl)) ?_
          refine all_cons (.inr (mN 33 rfl rfl rfl)) ?_
          refine all_cons (.inr (mV 34 rfl (.inl rfl) rfl)) ?_
          refine all_cons (.inr (mV 35 rfl (.inl rfl) rfl)) ?_
          refine all_cons (.inr (mV 36 rfl (.inl rfl) rfl)) ?_
          refine all_cons (.inr (mL 37 rfl fun w hb => elem_run (hvx21.on hb) Hx.out)) ?_
          refine all_cons (.inr (mC 38 rfl Tryd.func37 fun w hb => CZ.out w)) ?_
          refine all_cons (.inr (mQ 39 rfl rfl rfl)) ?_
          refine all_cons (.inr (mQ 40 rfl rfl rfl)) ?_
          exact all_nil
        intro w30 g hb30 hN30 hap30
        clear hN30 hap30
        have hB30 := below_then hB21 hb30
        have hvb30 := hvb21.on hb30
        have hvr30 := hvr21.on hb30
        have hvy30 := hvy21.on hb30
        have hvx30 := hvx21.on hb30
        clear hB21 hvb21 hvr21 hvy21 hvx21 hb30
        refine ⟨by kernel_rfl, ?_⟩
        rename_i K hKK
        show Exit.then K _ Exit.normal (⟨(uread1Vs7_4 kb w.heap.size gr gy gx q v y kc x).toArray, []⟩ : Act) w30
        simp only [Exit.then]
        refine hKK _ _ ?_
        clear hKK K g
        simp only [uread1Vs7_4, ptr, ud]
        go_wp2_with fail
        go_wp2_with fail
        replace hvb30 := hvb30.drew
        replace hvr30 := hvr30.drew
        replace hvy30 := hvy30.drew
        replace hvx30 := hvx30.drew
        rename_i K hKK
        have hltE := block_lt_of_cell hE
        have de31 : w30.drew.cell? ⟨1, 0, none⟩ = some (errAt ae) := (hB30.cell hltE).trans hE
        have hB31 := (show Below w.heap.size w w30.drew from hB30.drew)
        clear hB30
        refine wp_region_any (by kernel_rfl) ?_
        refine wpAny_of_held (S := fun w' => w'.cell? ⟨1, 0, none⟩ = some (errAt ae)) _ _ _ _ ?_
        show wpAnyH _ _ _ _ _ _ _ _ w30.drew
        simp only [List.size_toArray, List.length_cons, List.length_nil, Nat.reduceAdd, Array.replicate_succ, Array.replicate_zero, List.push_toArray, List.nil_append, List.cons_append]
        generalize w30.drew = w31 at *
        refine wpAnyH_take (i := 1) (oi := ⟨some 42, _, _, _, _, _⟩) (v := (errAt ae)) rfl (by kernel_rfl) (by kernel_rfl) (by kernel_rfl) (fun _ _ _ h => h) (Or.inl ⟨by rfl, ?_⟩) de31 ?_
        · intro w8 h8
          exact exec_load _ _ _ _ rfl _ _ rfl _ (load_err h8)
        refine wpAnyH_all (rs := [0]) (by kernel_rfl) (by decide) fun i hi => ?_
        obtain rfl := List.mem_singleton.1 hi
        clear hi
        refine wpOp_step rfl fun K1 hK1 => ?_
        rw [if_pos (by rfl)]
        refine flat_pure (numVal zt) (exec_build _ _ _ [] rfl [] rfl _ w31 (BZ w31)) (hK1 _ _ ⟨de31, ?_⟩)
        clear hK1 K1
        refine wpAnyH_all (rs := [2]) (by kernel_rfl) (by decide) fun i hi => ?_
        obtain rfl := List.mem_singleton.1 hi
        clear hi
        refine wpOp_step rfl fun K1 hK1 => ?_
        rw [if_pos (by rfl)]
        refine wp_store_mid 46 (.tmp 2) (.tmp 41) rfl gr 0 (zt.map ncell).toArray rfl rfl (by rw [List.size_toArray, List.length_map, Hzt.out]; exact hvr30.there 0 15 (by rw [show ((nzeros 15)).length = 15 from rfl]; decide)) (by rw [List.size_toArray, List.length_map, Hzt.out]; exact size_up) (ncells_one _) (hK1 _ _ ?_)
        have hC2 := hvr30.setCells (cs := zt.map ncell) (o := 0) (by rw [List.length_map, Hzt.out, show ((nzeros 15)).length = 15 from rfl]; decide)
        rw [splice_all _ _ (by rw [List.length_map, Hzt.out, show ((nzeros 15)).length = 15 from rfl])] at hC2
        have hb32 : But gr w31 (w31.setCells gr 0 (zt.map ncell)) := (But.refl _ _).setCells _ _
        have hB32 : Below w.heap.size w (w31.setCells gr 0 (zt.map ncell)) := hB31.trans (hb32.below hger hB31.size)
        have de32 : (w31.setCells gr 0 (zt.map ncell)).cell? ⟨1, 0, none⟩ = some (errAt ae) := (World.cell?_of_block (hb32.block _ (block_lt_of_cell de31) (Nat.ne_of_lt (Nat.lt_of_lt_of_le hltE hger)))).trans de31
        change (w31.setCells gr 0 (zt.map ncell)).cell? ⟨1, 0, none⟩ = some (errAt ae) ∧ wpAnyH _ _ _ _ _ _ _ _ (w31.setCells gr 0 (zt.map ncell))
        have hvb32 := hvb30.but hb32 hnebr
        have hvy32 := hvy30.but hb32 (Ne.symm hnery)
        have hvx32 := hvx30.but hb32 (Ne.symm hnerx)
        have hvr32 := hC2
        clear hC2 hb32 hK1 K1 hB31 hvr30 de31 hvb30 hvy30 hvx30
        generalize w31.setCells gr 0 (zt.map ncell) = w32 at *
        refine ⟨de32, ?_⟩
        refine wpAnyH_all (rs := [3]) (by kernel_rfl) (by decide) fun i hi => ?_
        obtain rfl := List.mem_singleton.1 hi
        clear hi
        refine wpOp_step rfl fun K1 hK1 => ?_
        rw [if_pos (by rfl)]
        refine flat_pure ((errAt ae)) (exec_move _ _ _ (.inr rfl) ((errAt ae)) (by rfl) w32) (hK1 _ _ ⟨de32, ?_⟩)
        clear hK1 K1
        refine wpAnyH_done (by kernel_rfl) ?_ _
        show Exit.then K _ Exit.normal (⟨((hashVal kb) :: (.pointer (some ⟨w.heap.size, 0, none⟩)) :: (.pointer (some ⟨gr, 0, none⟩)) :: ((errAt ae)) :: (.bool true) :: (.pointer (some ⟨gy, 0, none⟩)) :: (.nilIface) :: (.pointer (some ⟨gx, 0, none⟩)) :: (.bool true) :: undef :: (.pointer (some ⟨w.heap.size, 31, none⟩)) :: (cellOf q) :: (.int .u8 128) :: (.bool true) :: (.pointer (some ⟨w.heap.size, 31, none⟩)) :: (cellOf q) :: (.int .u8 (v.toNat : Int)) :: (.pointer (some ⟨w.heap.size, 31, none⟩)) :: (.tuple #[numVal y, .nilIface]) :: (hashVal kc) :: (.tuple #[numVal y, .nilIface]) :: (numVal y) :: (.nilIface) :: (.nilIface) :: (.bool false) :: undef :: undef :: (.tuple #[numVal x, .bool true]) :: (numVal y) :: (.tuple #[numVal x, .bool true]) :: (numVal x) :: (.bool true) :: (.bool true) :: (.bool false) :: (.bool false) :: (.bool true) :: (.bool true) :: (numVal x) :: (.bool true) :: (.bool true) :: (.bool true) :: (numVal zt) :: ((errAt ae)) :: undef :: undef :: undef :: undef :: undef :: undef :: undef :: []).toArray, []⟩ : Act) w32
        simp only [Exit.then]
        refine hKK _ _ ?_
        clear hKK K
        go_wp2
        obtain ⟨hr1, hr2⟩ := HP3.out (by simp) (by simp) (by simp) 
        exact sret2 Tryd.results16 gr (zt.map ncell) _ rfl rfl hvr32 Tryd.underlying46 rfl size_up (by rw [List.length_map, Hzt.out]) rfl ⟨by subst hr1; subst hr2; rfl, hB32⟩
end Go.Proofs.YtoggkhjaghkpnaaDoor
