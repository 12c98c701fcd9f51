/- Part 16 of what the laws of this seat share: UNegate, UBytes, UEven, UMath, BPoint, BSum, BSmall, BTimes, BWith, BBytes, BOver, BRead, BReadN, UTold. -/
import Derived.Deep.Cut
import Derived.IntWalk
import Derived.Deep.MidRow
import Derived.Deep.QuietTactic
import Derived.BigQuiet
import Derived.Test.YtoggkhjaghkpnaaDoorPart15
namespace Go.Proofs.YtoggkhjaghkpnaaDoor
open Go.RowKit
def unegVs1 (p : List Nat) (g_base : Nat) (gr : Nat) (z : List Nat) (px : List Nat) (nx : List Nat) : List Value :=
  (numVal p) :: ptr g_base :: ptr gr :: (numVal z) :: ptr g_base :: (numVal px) :: (numVal nx) :: ptr g_base :: undef :: []
set_option maxRecDepth 100000 in
set_option maxHeartbeats 1000000 in
theorem uneg_over (p px py pz z nx n : List Nat) (w : World)
    (Hpx : Hid (px.length = 5))
    (Hnx : Hid (nx.length = 5))
    (Hp : Hid (p.length = 15))
    (Hn : Hid (n.length = 15))
    (Fp : Hid (p = px ++ py ++ pz))
    (HN : Hid (splice (p.map ncell) 0 (nx.map ncell) = n.map ncell))
    (BZ : ∀ w, (Instr.build 44 #[]).run Tryd.prog w = .ok (numVal z) w)
    (CS : Hid (∀ W, Calls Tryd.prog 39 #[numVal z, numVal px] W (gvn (numVal nx) W))) :
    Calls Tryd.prog 17 #[numVal p] w (gvn (numVal n) w) := by
  go_enter Tryd.func17, Tryd.ntmps17
  go_upto_region 1 with (first
    | (refine vtake_step rfl 46 (.tmp 0) rfl (p.map ncell) rfl ?_
       intro w1 hb1 hvp1
       have hB1 := hb1
       have hgep : w.heap.size ≤ w.heap.size := Nat.le_refl _
       clear  hb1
       try simp only [putS]
       skip)
    | (refine vzero_step (o := ⟨some 2, _, _, _, _, _⟩) rfl 46 rfl (nzeros 15) zero_up ?_
       intro w2 hb2 hvr2
       have hB2 := below_then hB1 hb2
       have hger : w.heap.size ≤ w1.heap.size := hB1.size
       have hvp2 := hvp1.on hb2
       have hnepr := Nat.ne_of_lt hvp1.lt
       clear hB1 hvp1 hb2
       try simp only [putS]
       skip))
  generalize hqr : w1.heap.size = gr at *
  clear hqr
  refine wp_region_flat (md := .any) (by kernel_rfl) ?_
  refine wpAny_flatM (L := [0, 1, 2, 3, 4]) (by kernel_rfl) _ _ (unegVs1 p w.heap.size gr z px nx) [] 46 (nzeros 15) [0, 1, 2, 8] (by kernel_rfl) (by kernel_rfl) ?_ zero_up ?_ (by rfl) ?_ 1 (by kernel_rfl) ?_
  · intro p hp
    exact absurd hp List.not_mem_nil
  · repeat refine all_cons rfl ?_
    exact all_nil
  · refine all_cons (.inr (mU 3 rfl BZ)) ?_
    refine all_cons (.inr (mF 4 rfl (field_u0 _))) ?_
    refine all_cons (.inr (mL 5 rfl fun w hb => load_u0 (hvp2.on hb) Fp.out Hpx.out)) ?_
    refine all_cons (.inr (mC 6 rfl Tryd.func39 fun w hb => CS.out w)) ?_
    refine all_cons (.inr (mF 7 rfl (field_u0 _))) ?_
    exact all_nil
  intro w3 g hb3 hN3 hap3
  clear hN3 hap3
  have hB3 := below_then hB2 hb3
  have hvp3 := hvp2.on hb3
  have hvr3 := hvr2.on hb3
  clear hB2 hvp2 hvr2 hb3
  refine wpAny_rest 5 rfl (by kernel_rfl) ?_
  refine smid_step rfl 44 (.tmp 7) (.tmp 6) rfl (w.heap.size) (0) 5 (p.map ncell) (nx.map ncell) (n.map ncell) rfl rfl hvp3 (by rw [List.length_map, Hp.out]; decide) size_elem (by rw [List.length_map, Hnx.out]) (ncells_one _) HN.out ?_
  intro w4 hb4 hvp4 hz4
  have hB4 : Below w.heap.size w w4 := hB3.trans (hb4.below hgep hB3.size)
  have hvr4 := hvr3.but hb4 (Ne.symm hnepr)
  clear hB3 hvp3 hb4 hz4 hvr3
  rename_i K hKK
  show Exit.then K _ Exit.normal (⟨(unegVs1 p w.heap.size gr z px nx).toArray, []⟩ : Act) w4
  simp only [Exit.then]
  refine hKK _ _ ?_
  clear hKK K g
  simp only [unegVs1, ptr]
  go_wp2_with (first
    | (refine sget_step rfl 46 (.tmp 1) rfl w.heap.size 15 (n.map ncell) rfl hvp4 Tryd.underlying46 rfl size_up (by rw [List.length_map, Hn.out]) ?_
       try simp only [putS]
       skip)
    | (refine vset_step rfl 46 (.tmp 2) (.tmp 8) rfl gr 15 (nzeros 15) (n.map ncell) rfl rfl hvr4 rfl size_up (by rw [List.length_map, Hn.out]) (ncells_one _) ?_
       intro w5 hb5 hvr5 hz5
       have hB5 : Below w.heap.size w w5 := hB4.trans (hb5.below hger hB4.size)
       have hvp5 := hvp4.but hb5 hnepr
       clear hB4 hvr4 hb5 hz5 hvp4
       skip))
  exact sret Tryd.results17 gr (n.map ncell) rfl hvr5 Tryd.underlying46 rfl size_up (by rw [List.length_map, Hn.out]) rfl ⟨rfl, hB5⟩
def ubytesVs1 (p : List Nat) (g_base : Nat) (gr : Nat) (pz : List Nat) (iv : List Nat) : List Value :=
  (numVal p) :: ptr g_base :: ptr gr :: undef :: undef :: (.pointer (some ⟨g_base, 10, none⟩)) :: (numVal pz) :: (numVal iv) :: ud 15 []
def ubytesVs1N (p : List Nat) (g_base : Nat) (gr : Nat) (pz : List Nat) (iv : List Nat) (n3 : Nat) : List Value :=
  (numVal p) :: ptr g_base :: ptr gr :: ptr n3 :: undef :: (.pointer (some ⟨g_base, 10, none⟩)) :: (numVal pz) :: (numVal iv) :: ud 15 []
def ubytesVs2_1 (p : List Nat) (g_base : Nat) (gr : Nat) (gv : Nat) (pz : List Nat) (iv : List Nat) (py : List Nat) (yy : List Nat) (kb : List UInt8) : List Value :=
  (numVal p) :: ptr g_base :: ptr gr :: ptr gv :: undef :: (.pointer (some ⟨g_base, 10, none⟩)) :: (numVal pz) :: (numVal iv) :: (.pointer (some ⟨g_base, 5, none⟩)) :: (numVal py) :: (numVal iv) :: (numVal yy) :: (hashVal kb) :: ud 10 []
def ubytesVs2_1N (p : List Nat) (g_base : Nat) (gr : Nat) (gv : Nat) (pz : List Nat) (iv : List Nat) (py : List Nat) (yy : List Nat) (kb : List UInt8) (n4 : Nat) : List Value :=
  (numVal p) :: ptr g_base :: ptr gr :: ptr gv :: ptr n4 :: (.pointer (some ⟨g_base, 10, none⟩)) :: (numVal pz) :: (numVal iv) :: (.pointer (some ⟨g_base, 5, none⟩)) :: (numVal py) :: (numVal iv) :: (numVal yy) :: (hashVal kb) :: ud 10 []
def ubytesVs3_2 (p : List Nat) (g_base : Nat) (gr : Nat) (gv : Nat) (go : Nat) (pz : List Nat) (iv : List Nat) (py : List Nat) (yy : List Nat) (kb : List UInt8) (px : List Nat) (xx : List Nat) (c : Bool) : List Value :=
  (numVal p) :: ptr g_base :: ptr gr :: ptr gv :: ptr go :: (.pointer (some ⟨g_base, 10, none⟩)) :: (numVal pz) :: (numVal iv) :: (.pointer (some ⟨g_base, 5, none⟩)) :: (numVal py) :: (numVal iv) :: (numVal yy) :: (hashVal kb) :: ptr g_base :: (numVal px) :: (numVal iv) :: (numVal xx) :: (.bool c) :: ud 5 []
set_option maxRecDepth 100000 in
set_option maxHeartbeats 2000000 in
theorem ubytes_over (p px py pz iv yy xx : List Nat) (kb kc : List UInt8) (q v : UInt8) (c : Bool) (w : World)
    (Hpx : Hid (px.length = 5))
    (Hpy : Hid (py.length = 5))
    (Hpz : Hid (pz.length = 5))
    (Hiv : Hid (iv.length = 5))
    (Hkb : Hid (kb.length = 32))
    (Hkc : Hid (kc.length = 32))
    (Fp : Hid (p = px ++ py ++ pz))
    (D1 : Hid ((kb.map cellOf)[31]? = some (cellOf q)))
    (HV : Hid (bits .or .u8 (q.toNat : Int) 128 = (v.toNat : Int)))
    (HC : Hid (kc = kb.set 31 v))
    (CI : Hid (∀ W, Calls Tryd.prog 42 #[numVal pz] W (gvn (numVal iv) W)))
    (CX : Hid (∀ W, Calls Tryd.prog 43 #[numVal px, numVal iv] W (gvn (numVal xx) W)))
    (CY : Hid (∀ W, Calls Tryd.prog 43 #[numVal py, numVal iv] W (gvn (numVal yy) W)))
    (CB : Hid (∀ W, Calls Tryd.prog 44 #[numVal yy] W (gvn (hashVal kb) W)))
    (CO : Hid (∀ W, Calls Tryd.prog 45 #[numVal xx] W (gvn (.bool c) W))) :
    Calls Tryd.prog 19 #[numVal p] w (gvn (hashVal (bif c then kc else kb)) w) := by
  go_enter Tryd.func19, Tryd.ntmps19
  go_upto_region 1 with (first
    | (refine vtake_step rfl 46 (.tmp 0) rfl (p.map ncell) rfl ?_
       intro w1 hb1 hvp1
       have hB1 := hb1
       have hgep : w.heap.size ≤ w.heap.size := Nat.le_refl _
       clear  hb1
       try simp only [putS]
       skip)
    | (refine vzero_step (o := ⟨some 2, _, _, _, _, _⟩) rfl 23 rfl kzeros zero_k32 ?_
       intro w2 hb2 hvr2
       have hB2 := below_then hB1 hb2
       have hger : w.heap.size ≤ w1.heap.size := hB1.size
       have hvp2 := hvp1.on hb2
       have hnepr := Nat.ne_of_lt hvp1.lt
       clear hB1 hvp1 hb2
       try simp only [putS]
       skip))
  generalize hqr : w1.heap.size = gr at *
  clear hqr
  refine wp_region_flat (md := .any) (by kernel_rfl) ?_
  refine wpAny_flatM (L := [0, 1, 2, 3]) (by kernel_rfl) _ _ (ubytesVs1 p w.heap.size gr pz iv) [(3, 3)] 44 (nzeros 5) [0, 1, 2, 4, 8, 9, 10, 11, 12, 13, 14, 15, 16, 17, 18, 19, 20, 21, 22] (by kernel_rfl) (by kernel_rfl) ?_ zero_elem ?_ (by rfl) ?_ 1 (by kernel_rfl) ?_
  · intro p hp
    rcases List.mem_cons.1 hp with rfl | hp
    · exact ⟨⟨_, rfl, rfl, rfl, rfl, by kernel_rfl, by kernel_rfl⟩⟩
    exact absurd hp List.not_mem_nil
  · repeat refine all_cons rfl ?_
    exact all_nil
  · refine all_cons (.inr (mF 5 rfl (field_u2 _))) ?_
    refine all_cons (.inr (mL 6 rfl fun w hb => load_u2 (hvp2.on hb) Fp.out Hpx.out Hpy.out Hpz.out)) ?_
    refine all_cons (.inr (mC 7 rfl Tryd.func42 fun w hb => CI.out w)) ?_
    refine all_cons (.inl ⟨(3, 3), by simp, rfl⟩) ?_
    exact all_nil
  intro w3 g hb3 hN3 hap3
  obtain ⟨hgev, hvv3⟩ := hN3 (3, 3) (by simp)
  clear hN3 hap3
  have hB3 := below_then hB2 hb3
  have hltp : w.heap.size < w2.heap.size := hvp2.lt
  have hltr : gr < w2.heap.size := hvr2.lt
  have hvp3 := hvp2.on hb3
  have hvr3 := hvr2.on hb3
  rw [show withNew g [(3, 3)] (ubytesVs1 p w.heap.size gr pz iv) = ubytesVs1N p w.heap.size gr pz iv (g 3) from rfl]
  replace hgev : w2.heap.size ≤ g 3 := hgev
  replace hvv3 : Cells w3 (g 3) (nzeros 5) 44 := hvv3
  have hnepv : w.heap.size ≠ g 3 := Nat.ne_of_lt (Nat.lt_of_lt_of_le hltp hgev)
  have hnerv : gr ≠ g 3 := Nat.ne_of_lt (Nat.lt_of_lt_of_le hltr hgev)
  replace hgev : w.heap.size ≤ g 3 := Nat.le_trans (show w.heap.size ≤ w2.heap.size from hB2.size) hgev
  clear hltp hltr
  generalize g 3 = gv at *
  clear hB2 hvp2 hvr2 hb3
  refine wpAny_rest 4 rfl (by kernel_rfl) ?_
  refine vset_step rfl 44 (.tmp 3) (.tmp 7) rfl gv 5 (nzeros 5) (iv.map ncell) rfl rfl hvv3 rfl size_elem (by rw [List.length_map, Hiv.out]) (ncells_one _) ?_
  intro w4 hb4 hvv4 hz4
  have hB4 : Below w.heap.size w w4 := hB3.trans (hb4.below hgev hB3.size)
  have hvp4 := hvp3.but hb4 hnepv
  have hvr4 := hvr3.but hb4 hnerv
  clear hB3 hvv3 hb4 hz4 hvp3 hvr3
  rename_i K hKK
  show Exit.then K _ Exit.normal (⟨(ubytesVs1N p w.heap.size gr pz iv gv).toArray, []⟩ : Act) w4
  simp only [Exit.then]
  refine hKK _ _ ?_
  clear hKK K g
  simp only [ubytesVs1N, ptr, ud]
  go_upto_region 2 with fail
  refine wp_region_flat (md := .any) (by kernel_rfl) ?_
  refine wpAny_flatM (L := [0, 1, 2, 3, 4, 5]) (by kernel_rfl) _ _ (ubytesVs2_1 p w.heap.size gr gv pz iv py yy kb) [(5, 4)] 23 kzeros [0, 1, 2, 3, 5, 6, 7, 13, 14, 15, 16, 17, 18, 19, 20, 21, 22] (by kernel_rfl) (by kernel_rfl) ?_ zero_k32 ?_ (by rfl) ?_ 1 (by kernel_rfl) ?_
  · intro p hp
    rcases List.mem_cons.1 hp with rfl | hp
    · exact ⟨⟨_, rfl, rfl, rfl, rfl, by kernel_rfl, by kernel_rfl⟩⟩
    exact absurd hp List.not_mem_nil
  · repeat refine all_cons rfl ?_
    exact all_nil
  · refine all_cons (.inr (mF 8 rfl (field_u1 _))) ?_
    refine all_cons (.inr (mL 9 rfl fun w hb => load_u1 (hvp4.on hb) Fp.out Hpx.out Hpy.out)) ?_
    refine all_cons (.inr (mL 10 rfl fun w hb => elem_run (hvv4.on hb) Hiv.out)) ?_
    refine all_cons (.inr (mC 11 rfl Tryd.func43 fun w hb => CY.out w)) ?_
    refine all_cons (.inr (mC 12 rfl Tryd.func44 fun w hb => CB.out w)) ?_
    refine all_cons (.inl ⟨(5, 4), by simp, rfl⟩) ?_
    exact all_nil
  intro w5 g hb5 hN5 hap5
  obtain ⟨hgeo, hvo5⟩ := hN5 (5, 4) (by simp)
  clear hN5 hap5
  have hB5 := below_then hB4 hb5
  have hltp : w.heap.size < w4.heap.size := hvp4.lt
  have hltr : gr < w4.heap.size := hvr4.lt
  have hltv : gv < w4.heap.size := hvv4.lt
  have hvp5 := hvp4.on hb5
  have hvr5 := hvr4.on hb5
  have hvv5 := hvv4.on hb5
  rw [show withNew g [(5, 4)] (ubytesVs2_1 p w.heap.size gr gv pz iv py yy kb) = ubytesVs2_1N p w.heap.size gr gv pz iv py yy kb (g 4) from rfl]
  replace hgeo : w4.heap.size ≤ g 4 := hgeo
  replace hvo5 : Cells w5 (g 4) kzeros 23 := hvo5
  have hnepo : w.heap.size ≠ g 4 := Nat.ne_of_lt (Nat.lt_of_lt_of_le hltp hgeo)
  have hnero : gr ≠ g 4 := Nat.ne_of_lt (Nat.lt_of_lt_of_le hltr hgeo)
  have hnevo : gv ≠ g 4 := Nat.ne_of_lt (Nat.lt_of_lt_of_le hltv hgeo)
  replace hgeo : w.heap.size ≤ g 4 := Nat.le_trans (show w.heap.size ≤ w4.heap.size from hB4.size) hgeo
  clear hltp hltr hltv
  generalize g 4 = go at *
  clear hB4 hvp4 hvr4 hvv4 hb5
  refine wpAny_rest 6 rfl (by kernel_rfl) ?_
  refine vset_step rfl 23 (.tmp 4) (.tmp 12) rfl go 32 kzeros (kb.map cellOf) rfl rfl hvo5 rfl size_k32 (by rw [List.length_map, Hkb.out]) (kcells_one _) ?_
  intro w6 hb6 hvo6 hz6
  have hB6 : Below w.heap.size w w6 := hB5.trans (hb6.below hgeo hB5.size)
  have hvp6 := hvp5.but hb6 hnepo
  have hvr6 := hvr5.but hb6 hnero
  have hvv6 := hvv5.but hb6 hnevo
  clear hB5 hvo5 hb6 hz6 hvp5 hvr5 hvv5
  rename_i K hKK
  show Exit.then K _ Exit.normal (⟨(ubytesVs2_1N p w.heap.size gr gv pz iv py yy kb go).toArray, []⟩ : Act) w6
  simp only [Exit.then]
  refine hKK _ _ ?_
  clear hKK K g
  simp only [ubytesVs2_1N, ptr, ud]
  go_upto_region 3 with fail
  refine wp_region_flat (md := .any) (by kernel_rfl) ?_
  refine wpAny_flatM (L := [0, 1, 2, 3, 4]) (by kernel_rfl) _ _ (ubytesVs3_2 p w.heap.size gr gv go pz iv py yy kb px xx c) [] 46 (nzeros 15) [0, 1, 2, 3, 4, 5, 6, 7, 8, 9, 10, 11, 12, 18, 19, 20, 21, 22] (by kernel_rfl) (by kernel_rfl) ?_ zero_up ?_ (by rfl) ?_ 0 (by kernel_rfl) ?_
  · intro p hp
    exact absurd hp List.not_mem_nil
  · repeat refine all_cons rfl ?_
    exact all_nil
  · refine all_cons (.inr (mF 13 rfl (field_u0 _))) ?_
    refine all_cons (.inr (mL 14 rfl fun w hb => load_u0 (hvp6.on hb) Fp.out Hpx.out)) ?_
    refine all_cons (.inr (mL 15 rfl fun w hb => elem_run (hvv6.on hb) Hiv.out)) ?_
    refine all_cons (.inr (mC 16 rfl Tryd.func43 fun w hb => CX.out w)) ?_
    refine all_cons (.inr (mC 17 rfl Tryd.func45 fun w hb => CO.out w)) ?_
    exact all_nil
  intro w7 g hb7 hN7 hap7
  clear hN7 hap7
  have hB7 := below_then hB6 hb7
  have hvp7 := hvp6.on hb7
  have hvr7 := hvr6.on hb7
  have hvv7 := hvv6.on hb7
  have hvo7 := hvo6.on hb7
  clear hB6 hvp6 hvr6 hvv6 hvo6 hb7
  refine ⟨by kernel_rfl, ?_⟩
  rename_i K hKK
  show Exit.then K _ Exit.normal (⟨(ubytesVs3_2 p w.heap.size gr gv go pz iv py yy kb px xx c).toArray, []⟩ : Act) w7
  simp only [Exit.then]
  refine hKK _ _ ?_
  clear hKK K g
  simp only [ubytesVs3_2, ptr, ud]
  cases c
  · go_wp2_with (first
      | (refine get_step rfl 23 (.tmp 4) rfl go 32 kb 5 rfl hvo7 Tryd.underlying23 size_k32 Hkb.out ?_
         try simp only [putS]
         skip)
      | (refine vset_step rfl 23 (.tmp 2) (.tmp 22) rfl gr 32 kzeros (kb.map cellOf) rfl rfl hvr7 rfl size_k32 (by rw [List.length_map, Hkb.out]) (kcells_one _) ?_
         intro w8 hb8 hvr8 hz8
         have hB8 : Below w.heap.size w w8 := hB7.trans (hb8.below hger hB7.size)
         have hvp8 := hvp7.but hb8 hnepr
         have hvv8 := hvv7.but hb8 (Ne.symm hnerv)
         have hvo8 := hvo7.but hb8 (Ne.symm hnero)
         clear hB7 hvr7 hb8 hz8 hvp7 hvv7 hvo7
         skip))
    exact sret Tryd.results19 gr (kb.map cellOf) rfl hvr8 Tryd.underlying23 rfl size_k32 (by rw [List.length_map, Hkb.out]) rfl ⟨rfl, hB8⟩
  · go_upto_region 4 with fail
    have dq := hvo7.get D1.out
    have hT := hvo7.there 31 1 (by rw [List.length_map, Hkb.out]; decide)
    have hE := Lib.hid (hvo7.set 31 (cellOf v))
    have hq := HV.out
    go_upto_region 5 with (first
      | (refine store_step rfl 5 _ _ rfl go 31 .u8 (v.toNat : Int) rfl rfl size_u8 hT ?_
         intro w9 hw9
         have hB9 : Below w.heap.size w w9 := by rw [hw9]; exact hB7.setCell (p := ⟨go, 31, none⟩) hgeo _
         have hvo9 : Cells w9 go (kc.map cellOf) 23 := by rw [hw9, HC.out, List.map_set]; exact hE.out
         have hvr9 : Cells w9 gr kzeros 23 := by rw [hw9]; exact hvr7.other hnero _
         clear hw9 hT hE dq hB7 hvp7 hvr7 hvv7 hvo7
         skip))
    go_wp2_with (first
      | (refine get_step rfl 23 (.tmp 4) rfl go 32 kc 5 rfl hvo9 Tryd.underlying23 size_k32 Hkc.out ?_
         try simp only [putS]
         skip)
      | (refine vset_step rfl 23 (.tmp 2) (.tmp 22) rfl gr 32 kzeros (kc.map cellOf) rfl rfl hvr9 rfl size_k32 (by rw [List.length_map, Hkc.out]) (kcells_one _) ?_
         intro w10 hb10 hvr10 hz10
         have hB10 : Below w.heap.size w w10 := hB9.trans (hb10.below hger hB9.size)
         have hvo10 := hvo9.but hb10 (Ne.symm hnero)
         clear hB9 hvr9 hb10 hz10 hvo9
         skip))
    exact sret Tryd.results19 gr (kc.map cellOf) rfl hvr10 Tryd.underlying23 rfl size_k32 (by rw [List.length_map, Hkc.out]) rfl ⟨rfl, hB10⟩
def uevenVs1 (y : List Nat) (g_base : Nat) (gr : Nat) (o : List Nat) (yy : List Nat) : List Value :=
  (numVal y) :: ptr g_base :: ptr gr :: (.bool false) :: ud 3 ((numVal o) :: (numVal y) :: (numVal yy) :: ud 14 [])
def uevenVs1N (y : List Nat) (g_base : Nat) (gr : Nat) (o : List Nat) (yy : List Nat) (n4 n5 : Nat) : List Value :=
  (numVal y) :: ptr g_base :: ptr gr :: (.bool false) :: ptr n4 :: ptr n5 :: undef :: (numVal o) :: (numVal y) :: (numVal yy) :: ud 14 []
def uevenVs2_1 (y : List Nat) (g_base : Nat) (gr : Nat) (go : Nat) (gs : Nat) (o : List Nat) (yy : List Nat) (cv : List Nat) (dy : List Nat) (d1 : List Nat) (iv : List Nat) : List Value :=
  (numVal y) :: ptr g_base :: ptr gr :: (.bool false) :: ptr go :: ptr gs :: undef :: (numVal o) :: (numVal y) :: (numVal yy) :: (numVal cv) :: (numVal yy) :: (numVal dy) :: (numVal o) :: (numVal d1) :: (numVal iv) :: ud 8 []
def uevenVs2_1N (y : List Nat) (g_base : Nat) (gr : Nat) (go : Nat) (gs : Nat) (o : List Nat) (yy : List Nat) (cv : List Nat) (dy : List Nat) (d1 : List Nat) (iv : List Nat) (n6 : Nat) : List Value :=
  (numVal y) :: ptr g_base :: ptr gr :: (.bool false) :: ptr go :: ptr gs :: ptr n6 :: (numVal o) :: (numVal y) :: (numVal yy) :: (numVal cv) :: (numVal yy) :: (numVal dy) :: (numVal o) :: (numVal d1) :: (numVal iv) :: ud 8 []
def uevenVs3_2 (y : List Nat) (g_base : Nat) (gr : Nat) (go : Nat) (gs : Nat) (gv : Nat) (o : List Nat) (yy : List Nat) (cv : List Nat) (dy : List Nat) (d1 : List Nat) (iv : List Nat) (s1 : List Nat) (pr : List Nat) (x : List Nat) (c : Bool) : List Value :=
  (numVal y) :: ptr g_base :: ptr gr :: (.bool false) :: ptr go :: ptr gs :: ptr gv :: (numVal o) :: (numVal y) :: (numVal yy) :: (numVal cv) :: (numVal yy) :: (numVal dy) :: (numVal o) :: (numVal d1) :: (numVal iv) :: (numVal yy) :: (numVal o) :: (numVal s1) :: (numVal iv) :: (numVal pr) :: (.tuple #[numVal x, .bool c]) :: (numVal x) :: (.bool c) :: []
set_option maxRecDepth 100000 in
set_option maxHeartbeats 2000000 in
theorem ueven_over (y o yy cv dy d1 iv s1 pr x : List Nat) (c : Bool) (E : Value) (w : World)
    (Hy : Hid (y.length = 5))
    (Ho : Hid (o.length = 5))
    (Hyy : Hid (yy.length = 5))
    (Hiv : Hid (iv.length = 5))
    (Hx : Hid (x.length = 5))
    (C1 : Hid (∀ W, Calls Tryd.prog 59 #[.int .i64 1] W (gvn (numVal o) W)))
    (C2 : Hid (∀ W, Calls Tryd.prog 60 #[numVal y] W (gvn (numVal yy) W)))
    (C3 : Hid (∀ W, TabsU E W → Calls Tryd.prog 61 #[] W (gvn (numVal cv) W)))
    (C4 : Hid (∀ W, Calls Tryd.prog 43 #[numVal cv, numVal yy] W (gvn (numVal dy) W)))
    (C5 : Hid (∀ W, Calls Tryd.prog 62 #[numVal dy, numVal o] W (gvn (numVal d1) W)))
    (C6 : Hid (∀ W, Calls Tryd.prog 42 #[numVal d1] W (gvn (numVal iv) W)))
    (C7 : Hid (∀ W, Calls Tryd.prog 39 #[numVal yy, numVal o] W (gvn (numVal s1) W)))
    (C8 : Hid (∀ W, Calls Tryd.prog 43 #[numVal s1, numVal iv] W (gvn (numVal pr) W)))
    (C9 : Hid (∀ W, TabsU E W → Calls Tryd.prog 63 #[numVal pr] W (gvn (.tuple #[numVal x, .bool c]) W)))
    (hS : TabsU E w) :
    Calls Tryd.prog 36 #[numVal y] w (gvn (.tuple #[numVal x, .bool c]) w) := by
  go_enter Tryd.func36, Tryd.ntmps36
  go_wp2_with (first
    | (refine vtake_step rfl 44 (.tmp 0) rfl (y.map ncell) rfl ?_
       intro w1 hb1 hvy1
       have hB1 := hb1
       have hgey : w.heap.size ≤ w.heap.size := Nat.le_refl _
       clear  hb1
       try simp only [putS]
       skip)
    | (refine vzero_step (o := ⟨some 2, _, _, _, _, _⟩) rfl 44 rfl (nzeros 5) zero_elem ?_
       intro w2 hb2 hvr2
       have hB2 := below_then hB1 hb2
       have hger : w.heap.size ≤ w1.heap.size := hB1.size
       have hvy2 := hvy1.on hb2
       have hneyr := Nat.ne_of_lt hvy1.lt
       clear hB1 hvy1 hb2
       try simp only [putS]
       skip))
  generalize hqr : w1.heap.size = gr at *
  clear hqr
  replace hvy2 := hvy2.drew
  replace hvr2 := hvr2.drew
  refine wp_region_any (by kernel_rfl) ?_
  refine wpAny_flatS (L := [0, 1, 2, 3, 4, 5, 6]) (by kernel_rfl) _ _ (uevenVs1 y w.heap.size gr o yy) [(3, 4), (4, 5)] (fun _ => 44) (fun _ => (nzeros 5)) (fun s => bif s == 4 then some (5, o.map ncell) else bif s == 5 then some (6, yy.map ncell) else none) [0, 1, 2, 3, 6, 10, 11, 12, 13, 14, 15, 16, 17, 18, 19, 20, 21, 22, 23] (by kernel_rfl) (by kernel_rfl) ?_ (fun _ _ => zero_elem) ?_ ?_ ?_ (by rfl) ?_ 0 (by kernel_rfl) ?_
  · intro p hp
    rcases List.mem_cons.1 hp with rfl | hp
    · exact ⟨⟨_, rfl, rfl, rfl, rfl, by kernel_rfl, by kernel_rfl⟩⟩
    rcases List.mem_cons.1 hp with rfl | hp
    · exact ⟨⟨_, rfl, rfl, rfl, rfl, by kernel_rfl, by kernel_rfl⟩⟩
    exact absurd hp List.not_mem_nil
  · intro p hp j l h
    rcases List.mem_cons.1 hp with rfl | hp
    · change some (5, o.map ncell) = some (j, l) at h
      cases h
      exact ⟨⟨_, 7, rfl, rfl, rfl, rfl, by kernel_rfl, by kernel_rfl, by kernel_rfl, rfl, by rw [List.length_map, Ho.out]; exact size_elem, by rw [List.length_map, Ho.out]; rfl, ncells_one _⟩, by decide⟩
    rcases List.mem_cons.1 hp with rfl | hp
    · change some (6, yy.map ncell) = some (j, l) at h
      cases h
      exact ⟨⟨_, 9, rfl, rfl, rfl, rfl, by kernel_rfl, by kernel_rfl, by kernel_rfl, rfl, by rw [List.length_map, Hyy.out]; exact size_elem, by rw [List.length_map, Hyy.out]; rfl, ncells_one _⟩, by decide⟩
    exact absurd hp List.not_mem_nil
  · intro p hp q hq j l l2 h1 h2
    rcases List.mem_cons.1 hp with rfl | hp
    · rcases List.mem_cons.1 hq with rfl | hq
      · rfl
      rcases List.mem_cons.1 hq with rfl | hq
      · change some (5, _) = some (j, l) at h1
        change some (6, _) = some (j, l2) at h2
        exact absurd ((Prod.mk.inj (Option.some.inj h1)).1.trans (Prod.mk.inj (Option.some.inj h2)).1.symm) (by decide)
      exact absurd hq List.not_mem_nil
    rcases List.mem_cons.1 hp with rfl | hp
    · rcases List.mem_cons.1 hq with rfl | hq
      · change some (6, _) = some (j, l) at h1
        change some (5, _) = some (j, l2) at h2
        exact absurd ((Prod.mk.inj (Option.some.inj h1)).1.trans (Prod.mk.inj (Option.some.inj h2)).1.symm) (by decide)
      rcases List.mem_cons.1 hq with rfl | hq
      · rfl
      exact absurd hq List.not_mem_nil
    exact absurd hp List.not_mem_nil
  · repeat refine all_cons rfl ?_
    exact all_nil
  · refine all_cons (.inr (.inl (mC 7 rfl Tryd.func59 fun w hb => C1.out w))) ?_
    refine all_cons (.inr (.inl (mL 8 rfl fun w hb => elem_run (hvy2.on hb) Hy.out))) ?_
    refine all_cons (.inr (.inl (mC 9 rfl Tryd.func60 fun w hb => C2.out w))) ?_
    refine all_cons (.inl ⟨(3, 4), by simp, rfl⟩) ?_
    refine all_cons (.inl ⟨(4, 5), by simp, rfl⟩) ?_
    refine all_cons (.inr (.inr ⟨(3, 4), by simp, _, rfl⟩)) ?_
    refine all_cons (.inr (.inr ⟨(4, 5), by simp, _, rfl⟩)) ?_
    exact all_nil
  intro w3 g hb3 hN3 hap3
  obtain ⟨hgeo, hvo3⟩ := hN3 (3, 4) (by simp)
  obtain ⟨hges, hvs3⟩ := hN3 (4, 5) (by simp)
  have hneos := hap3 (3, 4) (by simp) (4, 5) (by simp) (by decide)
  clear hN3 hap3
  have hB3 := below_then (show Below w.heap.size w w2.drew from hB2.drew) hb3
  have hlty : w.heap.size < w2.heap.size := hvy2.lt
  have hltr : gr < w2.heap.size := hvr2.lt
  have hvy3 := hvy2.on hb3
  have hvr3 := hvr2.on hb3
  rw [show withNew g [(3, 4), (4, 5)] (uevenVs1 y w.heap.size gr o yy) = uevenVs1N y w.heap.size gr o yy (g 4) (g 5) from rfl]
  replace hgeo : w2.heap.size ≤ g 4 := hgeo
  replace hvo3 : Cells w3 (g 4) (o.map ncell) 44 := hvo3
  replace hges : w2.heap.size ≤ g 5 := hges
  replace hvs3 : Cells w3 (g 5) (yy.map ncell) 44 := hvs3
  replace hneos : g 4 ≠ g 5 := hneos
  have hneyo : w.heap.size ≠ g 4 := Nat.ne_of_lt (Nat.lt_of_lt_of_le hlty hgeo)
  have hnero : gr ≠ g 4 := Nat.ne_of_lt (Nat.lt_of_lt_of_le hltr hgeo)
  replace hgeo : w.heap.size ≤ g 4 := Nat.le_trans (show w.heap.size ≤ w2.heap.size from hB2.size) hgeo
  have hneys : w.heap.size ≠ g 5 := Nat.ne_of_lt (Nat.lt_of_lt_of_le hlty hges)
  have hners : gr ≠ g 5 := Nat.ne_of_lt (Nat.lt_of_lt_of_le hltr hges)
  replace hges : w.heap.size ≤ g 5 := Nat.le_trans (show w.heap.size ≤ w2.heap.size from hB2.size) hges
  clear hlty hltr
  generalize g 4 = go at *
  generalize g 5 = gs at *
  clear hB2 hvy2 hvr2 hb3
  refine ⟨by kernel_rfl, ?_⟩
  rename_i K hKK
  show Exit.then K _ Exit.normal (⟨(uevenVs1N y w.heap.size gr o yy go gs).toArray, []⟩ : Act) w3
  simp only [Exit.then]
  refine hKK _ _ ?_
  clear hKK K g
  simp only [uevenVs1N, ptr, ud]
  go_wp2_with fail
  replace hvy3 := hvy3.drew
  replace hvr3 := hvr3.drew
  replace hvo3 := hvo3.drew
  replace hvs3 := hvs3.drew
  have hBq := (show Below w.heap.size w w3.drew from hB3.drew)
  refine wp_region_any (by kernel_rfl) ?_
  refine wpAny_flatM (L := [0, 1, 2, 3, 4, 5, 6]) (by kernel_rfl) _ _ (uevenVs2_1 y w.heap.size gr go gs o yy cv dy d1 iv) [(6, 6)] 44 (nzeros 5) [0, 1, 2, 3, 4, 5, 7, 8, 9, 16, 17, 18, 19, 20, 21, 22, 23] (by kernel_rfl) (by kernel_rfl) ?_ zero_elem ?_ (by rfl) ?_ 1 (by kernel_rfl) ?_
  · intro p hp
    rcases List.mem_cons.1 hp with rfl | hp
    · exact ⟨⟨_, rfl, rfl, rfl, rfl, by kernel_rfl, by kernel_rfl⟩⟩
    exact absurd hp List.not_mem_nil
  · repeat refine all_cons rfl ?_
    exact all_nil
  · refine all_cons (.inr (mC 10 rfl Tryd.func61 fun w hb => C3.out w (hS.below (below_then hBq hb)))) ?_
    refine all_cons (.inr (mL 11 rfl fun w hb => elem_run (hvs3.on hb) Hyy.out)) ?_
    refine all_cons (.inr (mC 12 rfl Tryd.func43 fun w hb => C4.out w)) ?_
    refine all_cons (.inr (mL 13 rfl fun w hb => elem_run (hvo3.on hb) Ho.out)) ?_
    refine all_cons (.inr (mC 14 rfl Tryd.func62 fun w hb => C5.out w)) ?_
    refine all_cons (.inr (mC 15 rfl Tryd.func42 fun w hb => C6.out w)) ?_
    refine all_cons (.inl ⟨(6, 6), by simp, rfl⟩) ?_
    exact all_nil
  intro w4 g hb4 hN4 hap4
  obtain ⟨hgev, hvv4⟩ := hN4 (6, 6) (by simp)
  clear hN4 hap4
  have hB4 := below_then (show Below w.heap.size w w3.drew from hB3.drew) hb4
  have hlty : w.heap.size < w3.heap.size := hvy3.lt
  have hltr : gr < w3.heap.size := hvr3.lt
  have hlto : go < w3.heap.size := hvo3.lt
  have hlts : gs < w3.heap.size := hvs3.lt
  have hvy4 := hvy3.on hb4
  have hvr4 := hvr3.on hb4
  have hvo4 := hvo3.on hb4
  have hvs4 := hvs3.on hb4
  rw [show withNew g [(6, 6)] (uevenVs2_1 y w.heap.size gr go gs o yy cv dy d1 iv) = uevenVs2_1N y w.heap.size gr go gs o yy cv dy d1 iv (g 6) from rfl]
  replace hgev : w3.heap.size ≤ g 6 := hgev
  replace hvv4 : Cells w4 (g 6) (nzeros 5) 44 := hvv4
  have hneyv : w.heap.size ≠ g 6 := Nat.ne_of_lt (Nat.lt_of_lt_of_le hlty hgev)
  have hnerv : gr ≠ g 6 := Nat.ne_of_lt (Nat.lt_of_lt_of_le hltr hgev)
  have hneov : go ≠ g 6 := Nat.ne_of_lt (Nat.lt_of_lt_of_le hlto hgev)
  have hnesv : gs ≠ g 6 := Nat.ne_of_lt (Nat.lt_of_lt_of_le hlts hgev)
  replace hgev : w.heap.size ≤ g 6 := Nat.le_trans (show w.heap.size ≤ w3.heap.size from hB3.size) hgev
  clear hlty hltr hlto hlts
  generalize g 6 = gv at *
  clear hB3 hvy3 hvr3 hvo3 hvs3 hb4 hBq
  refine wpAny_rest 7 rfl (by kernel_rfl) ?_
  refine vset_step rfl 44 (.tmp 6) (.tmp 15) rfl gv 5 (nzeros 5) (iv.map ncell) rfl rfl hvv4 rfl size_elem (by rw [List.length_map, Hiv.out]) (ncells_one _) ?_
  intro w5 hb5 hvv5 hz5
  have hB5 : Below w.heap.size w w5 := hB4.trans (hb5.below hgev hB4.size)
  have hvy5 := hvy4.but hb5 hneyv
  have hvr5 := hvr4.but hb5 hnerv
  have hvo5 := hvo4.but hb5 hneov
  have hvs5 := hvs4.but hb5 hnesv
  clear hB4 hvv4 hb5 hz5 hvy4 hvr4 hvo4 hvs4
  rename_i K hKK
  show Exit.then K _ Exit.normal (⟨(uevenVs2_1N y w.heap.size gr go gs o yy cv dy d1 iv gv).toArray, []⟩ : Act) w5
  simp only [Exit.then]
  refine hKK _ _ ?_
  clear hKK K g
  simp only [uevenVs2_1N, ptr, ud]
  go_wp2_with fail
  replace hvy5 := hvy5.drew
  replace hvr5 := hvr5.drew
  replace hvo5 := hvo5.drew
  replace hvs5 := hvs5.drew
  replace hvv5 := hvv5.drew
  have hBq := (show Below w.heap.size w w5.drew from hB5.drew)
  refine wp_region_any (by kernel_rfl) ?_
  refine wpAny_flatM (L := [0, 1, 2, 3, 4, 5, 6, 7]) (by kernel_rfl) _ _ (uevenVs3_2 y w.heap.size gr go gs gv o yy cv dy d1 iv s1 pr x c) [] 44 (nzeros 5) [0, 1, 2, 3, 4, 5, 6, 7, 8, 9, 10, 11, 12, 13, 14, 15] (by kernel_rfl) (by kernel_rfl) ?_ zero_elem ?_ (by rfl) ?_ 2 (by kernel_rfl) ?_
  · intro p hp
    exact absurd hp List.not_mem_nil
  · repeat refine all_cons rfl ?_
    exact all_nil
  · refine all_cons (.inr (mL 16 rfl fun w hb => elem_run (hvs5.on hb) Hyy.out)) ?_
    refine all_cons (.inr (mL 17 rfl fun w hb => elem_run (hvo5.on hb) Ho.out)) ?_
    refine all_cons (.inr (mC 18 rfl Tryd.func39 fun w hb => C7.out w)) ?_
    refine all_cons (.inr (mL 19 rfl fun w hb => elem_run (hvv5.on hb) Hiv.out)) ?_
    refine all_cons (.inr (mC 20 rfl Tryd.func43 fun w hb => C8.out w)) ?_
    refine all_cons (.inr (mC 21 rfl Tryd.func63 fun w hb => C9.out w (hS.below (below_then hBq hb)))) ?_
    refine all_cons (.inr (mE 22 rfl rfl rfl)) ?_
    refine all_cons (.inr (mE 23 rfl rfl rfl)) ?_
    exact all_nil
  intro w6 g hb6 hN6 hap6
  clear hN6 hap6
  have hB6 := below_then (show Below w.heap.size w w5.drew from hB5.drew) hb6
  have hvy6 := hvy5.on hb6
  have hvr6 := hvr5.on hb6
  have hvo6 := hvo5.on hb6
  have hvs6 := hvs5.on hb6
  have hvv6 := hvv5.on hb6
  clear hB5 hvy5 hvr5 hvo5 hvs5 hvv5 hb6 hBq
  refine wpAny_rest 8 rfl (by kernel_rfl) ?_
  refine vset_step rfl 44 (.tmp 2) (.tmp 22) rfl gr 5 (nzeros 5) (x.map ncell) rfl rfl hvr6 rfl size_elem (by rw [List.length_map, Hx.out]) (ncells_one _) ?_
  intro w7 hb7 hvr7 hz7
  have hB7 : Below w.heap.size w w7 := hB6.trans (hb7.below hger hB6.size)
  have hvy7 := hvy6.but hb7 hneyr
  have hvo7 := hvo6.but hb7 (Ne.symm hnero)
  have hvs7 := hvs6.but hb7 (Ne.symm hners)
  have hvv7 := hvv6.but hb7 (Ne.symm hnerv)
  clear hB6 hvr6 hb7 hz7 hvy6 hvo6 hvs6 hvv6
  refine wpList_move rfl (.inr rfl) (.bool c) (by rfl) ?_
  rename_i K hKK
  show Exit.then K _ Exit.normal (⟨((uevenVs3_2 y w.heap.size gr go gs gv o yy cv dy d1 iv s1 pr x c).set 3 (.bool c)).toArray, []⟩ : Act) w7
  simp only [Exit.then]
  refine hKK _ _ ?_
  clear hKK K g
  simp only [uevenVs3_2, ptr, List.set_cons_zero, List.set_cons_succ]
  go_wp2
  exact sret2 Tryd.results36 gr (x.map ncell) _ rfl rfl hvr7 Tryd.underlying44 rfl size_elem (by rw [List.length_map, Hx.out]) rfl ⟨rfl, hB7⟩
/-- The point whose x is a/b, and whose y is c/d. -/
def quoT (a b c d : Nat) : Tri := (fM a d, fM c b, fM b d)
theorem quoT_lt (a b c d : Nat) : TriLt (quoT a b c d) := ⟨fM_lt _ _, fM_lt _ _, fM_lt _ _⟩
/-- The sum, as the program has it. -/
def addX (p q : Tri) : Nat := fM p.1 q.1
def addY (p q : Tri) : Nat := fM p.2.1 q.2.1
def addZ (p q : Tri) : Nat := fM p.2.2 q.2.2
def addCross (p q : Tri) : Nat := fA (fM p.1 q.2.1) (fM p.2.1 q.1)
def addAlong (p q : Tri) : Nat := fA (addY p q) (addX p q)
def addOver (p q : Tri) : Nat := fM (addZ p q) (addZ p q)
def addBent (p q : Tri) : Nat := fM (fM dNat (addX p q)) (addY p q)
def addT (p q : Tri) : Tri := quoT (fM (addCross p q) (addZ p q)) (fA (addOver p q) (addBent p q)) (fM (addAlong p q) (addZ p q)) (fS (addOver p q) (addBent p q))
theorem addT_lt (p q : Tri) : TriLt (addT p q) := quoT_lt _ _ _ _
/-- The double. -/
def twXX (p : Tri) : Nat := fM p.1 p.1
def twYY (p : Tri) : Nat := fM p.2.1 p.2.1
def twZZ (p : Tri) : Nat := fM p.2.2 p.2.2
def twXY (p : Tri) : Nat := fM p.1 p.2.1
def twLess (p : Tri) : Nat := fS (twYY p) (twXX p)
def twT (p : Tri) : Tri := quoT (fA (twXY p) (twXY p)) (twLess p) (fA (twYY p) (twXX p)) (fS (fA (twZZ p) (twZZ p)) (twLess p))
theorem twT_lt (p : Tri) : TriLt (twT p) := quoT_lt _ _ _ _
def radT (p : Tri) : Tri := twT (twT (twT (twT p)))
theorem radT_lt (p : Tri) : TriLt (radT p) := twT_lt _
/-- A point's multiples. -/
def manyT (p : Tri) : Nat → Tri
  | 0 => (0, 1, 1)
  | i + 1 => addT (manyT p i) p
theorem zero_lt : TriLt (0, 1, 1) := ⟨by show 0 < pp; decide, by show 1 < pp; decide, by show 1 < pp; decide⟩
theorem manyT_lt (p : Tri) : ∀ i, TriLt (manyT p i)
  | 0 => zero_lt
  | _ + 1 => addT_lt _ _
/-- A key's digits of four bits, and what those from the high one on make. -/
def dig (k : List UInt8) (i : Nat) : Nat := (k.getD (i / 2) 0).toNat / 16 ^ (i % 2) % 16
theorem dig_lt (k : List UInt8) (i : Nat) : dig k i < 16 := Nat.mod_lt _ (by decide)
theorem lev_dig : ∀ (k : List UInt8) (i : Nat), lev k / 16 ^ i % 16 = dig k i
  | [], i => by rw [show lev [] = 0 from rfl, Nat.zero_div]; simp [dig]
  | b :: t, i => by
    rw [lev_cons]
    have hb := b.toNat_lt
    rcases Nat.lt_or_ge i 2 with h | h
    · obtain rfl | rfl : i = 0 ∨ i = 1 := by omega
      · show (b.toNat + 256 * lev t) / 1 % 16 = b.toNat / 1 % 16; omega
      · show (b.toNat + 256 * lev t) / 16 % 16 = b.toNat / 16 % 16; omega
    · obtain ⟨j, rfl⟩ : ∃ j, i = j + 2 := ⟨i - 2, by omega⟩
      have ih := lev_dig t j
      rw [dig, show (j + 2) / 2 = j / 2 + 1 by omega, Nat.add_mod_right, List.getD_cons_succ]
      rw [dig] at ih
      rw [← ih, Nat.add_comm j 2, Nat.pow_add, ← Nat.div_div_eq_div_mul, show (16 : Nat) ^ 2 = 256 from rfl]
      congr 2
      omega
def preD (k : List UInt8) : Nat → Nat
  | 0 => 0
  | j + 1 => 16 * preD k j + dig k (63 - j)
theorem preD_is {k : List UInt8} (hk : lev k < 115792089237316195423570985008687907853269984665640564039457584007913129639936) : ∀ j m, j + m = 64 → preD k j = lev k / 16 ^ m
  | 0, m, h => by
    obtain rfl : m = 64 := by omega
    exact (Nat.div_eq_of_lt (by rw [show (16 : Nat) ^ 64 = 115792089237316195423570985008687907853269984665640564039457584007913129639936 from by decide +kernel]; exact hk)).symm
  | j + 1, m, h => by
    have ih := preD_is hk j (m + 1) (by omega)
    rw [Nat.pow_succ, ← Nat.div_div_eq_div_mul] at ih
    show 16 * preD k j + dig k (63 - j) = _
    rw [ih, show 63 - j = m by omega, ← lev_dig]
    generalize lev k / 16 ^ m = q
    omega
/-- The shares' sum: m of them, the j-th's multiple by digit i is f i j. -/
def innT (f : Nat → Tri) (a : Tri) : Nat → Tri
  | 0 => a
  | j + 1 => addT (innT f a j) (f j)
def outT (m : Nat) (f : Nat → Nat → Tri) : Nat → Tri
  | 0 => (0, 1, 1)
  | k + 1 => innT (f (63 - k)) (radT (outT m f k)) m
theorem innT_lt (f : Nat → Tri) (a : Tri) (h : TriLt a) : ∀ j, TriLt (innT f a j)
  | 0 => h
  | _ + 1 => addT_lt _ _
theorem outT_lt (m : Nat) (f : Nat → Nat → Tri) : ∀ k, TriLt (outT m f k)
  | 0 => zero_lt
  | _ + 1 => innT_lt _ _ (radT_lt _) _
namespace NP
/-- Two quotients over the curve's own denominators are the sum's. -/
theorem Rep.quot {P : Nat} {d i : Int} (h : Edw P d i) {p q : Pt P d} {W A B C D : Int} (nW : ¬ (P : Int) ∣ W) (cA : Cg P A (W * (p.x * q.y + q.x * p.y))) (cB : Cg P B (W * (1 + d * p.x * q.x * p.y * q.y))) (cC : Cg P C (W * (p.y * q.y + p.x * q.x))) (cD : Cg P D (W * (1 - d * p.x * q.x * p.y * q.y))) : Rep (h.add p q) (A * D) (C * B) (B * D) := by
  obtain ⟨⟨a, ha⟩, ⟨b, hb⟩⟩ := h.add_is p q
  have hp := h.plus p.on q.on
  have hm := h.less p.on q.on
  have cX := cA.mul cD
  have cY := cC.mul cB
  have cZ := cB.mul cD
  obtain ⟨s, hs⟩ : ∃ s, (h.add p q).x = s := ⟨_, rfl⟩
  obtain ⟨t, ht⟩ : ∃ t, (h.add p q).y = t := ⟨_, rfl⟩
  rw [hs] at ha
  rw [ht] at hb
  generalize p.x = x1 at *
  generalize p.y = y1 at *
  generalize q.x = x2 at *
  generalize q.y = y2 at *
  have two : ∀ {x y : Int}, ¬ (P : Int) ∣ x → ¬ (P : Int) ∣ y → ¬ (P : Int) ∣ x * y := fun hx hy hd => by
    rcases h.prime.int hd with h8 | h8
    · exact hx h8
    · exact hy h8
  refine ⟨fun hd => two (two nW hp) (two nW hm) (cZ.dvd hd), ?_, ?_⟩
  · rw [hs]
    refine (cX.trans ?_).trans ((Cg.refl s).mul cZ.swap)
    generalize 1 + d * x1 * x2 * y1 * y2 = e1 at *
    generalize 1 - d * x1 * x2 * y1 * y2 = e2 at *
    generalize x1 * y2 + x2 * y1 = n at *
    exact ⟨-(a * W * W * e2), by grind⟩
  · rw [ht]
    refine (cY.trans ?_).trans ((Cg.refl t).mul cZ.swap)
    generalize 1 + d * x1 * x2 * y1 * y2 = e1 at *
    generalize 1 - d * x1 * x2 * y1 * y2 = e2 at *
    generalize y1 * y2 + x1 * x2 = n at *
    exact ⟨-(b * W * W * e1), by grind⟩
theorem not_two {x y : Int} (hx : ¬ ((PP : Nat) : Int) ∣ x) (hy : ¬ ((PP : Nat) : Int) ∣ y) : ¬ ((PP : Nat) : Int) ∣ x * y := fun hd => by
  rcases pr_P.int hd with h | h
  · exact hx h
  · exact hy h
theorem addT_rep {p q : Pt PP dE} {s t : Tri} (r1 : RepN p s) (r2 : RepN q t) : RepN (edw.add p q) (addT s t) := by
  refine ⟨?_, addT_lt _ _⟩
  obtain ⟨⟨n1, cx1, cy1⟩, -⟩ := r1
  obtain ⟨⟨n2, cx2, cy2⟩, -⟩ := r2
  have hz := cg_M s.2.2 t.2.2
  have hxx := (cg_M s.1 t.1).trans (cx1.mul cx2)
  have hyy := (cg_M s.2.1 t.2.1).trans (cy1.mul cy2)
  have hov := (cg_M (addZ s t) (addZ s t)).trans (hz.mul hz)
  have hbe := (cg_M (fM dNat (addX s t)) (addY s t)).trans (((cg_M dNat (addX s t)).trans ((Cg.refl (dNat : Int)).mul hxx)).mul hyy)
  rw [dNat_is] at hbe
  have hcr := (cg_A (fM s.1 t.2.1) (fM s.2.1 t.1)).trans (((cg_M s.1 t.2.1).trans (cx1.mul cy2)).add ((cg_M s.2.1 t.1).trans (cy1.mul cx2)))
  have hal := (cg_A (addY s t) (addX s t)).trans (hyy.add hxx)
  have hA := (cg_M (addCross s t) (addZ s t)).trans (hcr.mul hz)
  have hB := (cg_A (addOver s t) (addBent s t)).trans (hov.add hbe)
  have hC := (cg_M (addAlong s t) (addZ s t)).trans (hal.mul hz)
  have hD := (cg_S (addOver s t) (addBent s t) (fM_lt _ _)).trans (hov.sub hbe)
  have nW : ¬ ((PP : Nat) : Int) ∣ ((s.2.2 : Int) * t.2.2) * ((s.2.2 : Int) * t.2.2) := not_two (not_two n1 n2) (not_two n1 n2)
  have h := Rep.quot edw (p := p) (q := q) (W := ((s.2.2 : Int) * t.2.2) * ((s.2.2 : Int) * t.2.2)) nW
    (hA.trans (by rw [show p.x * (s.2.2 : Int) * (q.y * (t.2.2 : Int)) + p.y * (s.2.2 : Int) * (q.x * (t.2.2 : Int)) = (s.2.2 : Int) * t.2.2 * (p.x * q.y + q.x * p.y) by grind, Int.mul_right_comm]; exact Cg.refl _))
    (hB.trans (by rw [show (s.2.2 : Int) * t.2.2 * ((s.2.2 : Int) * t.2.2) + (dE : Int) * (p.x * (s.2.2 : Int) * (q.x * (t.2.2 : Int))) * (p.y * (s.2.2 : Int) * (q.y * (t.2.2 : Int))) = (s.2.2 : Int) * t.2.2 * ((s.2.2 : Int) * t.2.2) * (1 + (dE : Int) * p.x * q.x * p.y * q.y) by grind]; exact Cg.refl _))
    (hC.trans (by rw [show p.y * (s.2.2 : Int) * (q.y * (t.2.2 : Int)) + p.x * (s.2.2 : Int) * (q.x * (t.2.2 : Int)) = (s.2.2 : Int) * t.2.2 * (p.y * q.y + p.x * q.x) by grind, Int.mul_right_comm]; exact Cg.refl _))
    (hD.trans (by rw [show (s.2.2 : Int) * t.2.2 * ((s.2.2 : Int) * t.2.2) - (dE : Int) * (p.x * (s.2.2 : Int) * (q.x * (t.2.2 : Int))) * (p.y * (s.2.2 : Int) * (q.y * (t.2.2 : Int))) = (s.2.2 : Int) * t.2.2 * ((s.2.2 : Int) * t.2.2) * (1 - (dE : Int) * p.x * q.x * p.y * q.y) by grind]; exact Cg.refl _))
  exact h.of (cg_M _ _) (cg_M _ _) (cg_M _ _)
theorem twT_rep {p : Pt PP dE} {t : Tri} (r : RepN p t) : RepN (edw.add p p) (twT t) := by
  refine ⟨?_, twT_lt _⟩
  obtain ⟨⟨n1, cx, cy⟩, -⟩ := r
  obtain ⟨u, hu⟩ := p.on
  have hxx := (cg_M t.1 t.1).trans (cx.mul cx)
  have hyy := (cg_M t.2.1 t.2.1).trans (cy.mul cy)
  have hzz := cg_M t.2.2 t.2.2
  have hxy := (cg_M t.1 t.2.1).trans (cx.mul cy)
  have hA := (cg_A (twXY t) (twXY t)).trans (hxy.add hxy)
  have hB := (cg_S (twYY t) (twXX t) (fM_lt _ _)).trans (hyy.sub hxx)
  have hC := (cg_A (twYY t) (twXX t)).trans (hyy.add hxx)
  have hB2 : Cg ((PP : Nat) : Int) ((twLess t : Nat) : Int) ((t.2.2 : Int) * t.2.2 * (1 + (dE : Int) * p.x * p.x * p.y * p.y)) := hB.trans ⟨(t.2.2 : Int) * t.2.2 * u, by
    generalize p.x = x at *
    generalize p.y = y at *
    grind⟩
  have hD := (cg_S (fA (twZZ t) (twZZ t)) (twLess t) (fS_lt _ _)).trans (((cg_A (twZZ t) (twZZ t)).trans (hzz.add hzz)).sub hB2)
  have h := Rep.quot edw (p := p) (q := p) (W := (t.2.2 : Int) * t.2.2) (not_two n1 n1)
    (hA.trans (by rw [show p.x * (t.2.2 : Int) * (p.y * (t.2.2 : Int)) + p.x * (t.2.2 : Int) * (p.y * (t.2.2 : Int)) = (t.2.2 : Int) * t.2.2 * (p.x * p.y + p.x * p.y) by grind]; exact Cg.refl _))
    hB2
    (hC.trans (by rw [show p.y * (t.2.2 : Int) * (p.y * (t.2.2 : Int)) + p.x * (t.2.2 : Int) * (p.x * (t.2.2 : Int)) = (t.2.2 : Int) * t.2.2 * (p.y * p.y + p.x * p.x) by grind]; exact Cg.refl _))
    (hD.trans (by rw [show (t.2.2 : Int) * t.2.2 + (t.2.2 : Int) * t.2.2 - (t.2.2 : Int) * t.2.2 * (1 + (dE : Int) * p.x * p.x * p.y * p.y) = (t.2.2 : Int) * t.2.2 * (1 - (dE : Int) * p.x * p.x * p.y * p.y) by grind]; exact Cg.refl _))
  exact h.of (cg_M _ _) (cg_M _ _) (cg_M _ _)
theorem radT_rep {p q : Pt PP dE} {t : Tri} {a b : Nat} (r : RepN (edw.add (edw.mul p a) (edw.mul q b)) t) : RepN (edw.add (edw.mul p (16 * a)) (edw.mul q (16 * b))) (radT t) := by
  have one : ∀ {a b : Nat} {t : Tri}, RepN (edw.add (edw.mul p a) (edw.mul q b)) t → RepN (edw.add (edw.mul p (2 * a)) (edw.mul q (2 * b))) (twT t) := fun r => by
    have h := twT_rep r
    rw [four_sum, mul_two, mul_two] at h
    exact h
  have h := one (one (one (one r)))
  rw [show 2 * (2 * (2 * (2 * a))) = 16 * a by omega, show 2 * (2 * (2 * (2 * b))) = 16 * b by omega] at h
  exact h
theorem manyT_rep {p : Pt PP dE} {t : Tri} (r : RepN p t) : ∀ i, RepN (edw.mul p i) (manyT t i)
  | 0 => zeroT_rep
  | i + 1 => addT_rep (manyT_rep r i) r
/-- Two shares' sum. -/
theorem two_rep {p q : Pt PP dE} {t u : Tri} (r1 : RepN p t) (r2 : RepN q u) (h s : List UInt8) (f : Nat → Nat → Tri) (f0 : ∀ i, f i 0 = manyT t (dig h i)) (f1 : ∀ i, f i 1 = manyT u (dig s i)) : ∀ k, RepN (edw.add (edw.mul p (preD h k)) (edw.mul q (preD s k))) (outT 2 f k)
  | 0 => by
    show RepN (edw.add edw.zero edw.zero) _
    rw [edw.zero_add]
    exact zeroT_rep
  | k + 1 => by
    have ih := radT_rep (two_rep r1 r2 h s f f0 f1 k)
    have h1 := addT_rep ih (manyT_rep r1 (dig h (63 - k)))
    have h2 := addT_rep h1 (manyT_rep r2 (dig s (63 - k)))
    rw [edw.add_assoc (edw.mul p _), edw.add_comm (edw.mul q _) (edw.mul p _), ← edw.add_assoc (edw.mul p _), ← edw.mul_add, edw.add_assoc, ← edw.mul_add] at h2
    show RepN _ (addT (addT (radT (outT 2 f k)) (f (63 - k) 0)) (f (63 - k) 1))
    rw [f0, f1]
    exact h2
/-- One share's sum. -/
theorem one_rep {p : Pt PP dE} {t : Tri} (r1 : RepN p t) (h : List UInt8) (f : Nat → Nat → Tri) (f0 : ∀ i, f i 0 = manyT t (dig h i)) : ∀ k, RepN (edw.mul p (preD h k)) (outT 1 f k)
  | 0 => zeroT_rep
  | k + 1 => by
    have ih := one_rep r1 h f f0 k
    have e : edw.add (edw.mul p (preD h k)) (edw.mul p 0) = edw.mul p (preD h k) := edw.add_zero _
    rw [← e] at ih
    have i2 := radT_rep ih
    rw [show edw.mul p (16 * 0) = edw.zero from rfl, edw.add_zero] at i2
    have h1 := addT_rep i2 (manyT_rep r1 (dig h (63 - k)))
    rw [← edw.mul_add] at h1
    show RepN _ (addT (radT (outT 1 f k)) (f (63 - k) 0))
    rw [f0]
    exact h1
end NP
/-- A function whose two results are structs or arrays in blocks of their own. -/
theorem sretC2 {P : Program} {fn : Func} {R : Ending → World → Prop} {a : Act} {w : World} {p u : Tmp} {ty ty2 : TypeId} {d d2 : TypeDesc} {n n2 : Nat} (hres : fn.results = #[.cell p ty, .cell u ty2]) (g g2 : Nat) (vs vs2 : List Value)
    (hp : a.tmps.getD p undef = .pointer (some ⟨g, 0, none⟩)) (hv : a.tmps.getD u undef = .pointer (some ⟨g2, 0, none⟩)) (hg : Cells w g vs ty) (hg2 : Cells w g2 vs2 ty2) (hu : P.underlying ty = some d) (hd : (match d with | .struct _ | .array _ _ => true | _ => false) = true) (hi : (P.info? ty).map (·.size) = some n) (hl : vs.length = n)
    (hu2 : P.underlying ty2 = some d2) (hd2 : (match d2 with | .struct _ | .array _ _ => true | _ => false) = true) (hi2 : (P.info? ty2).map (·.size) = some n2) (hl2 : vs2.length = n2)
    (hdf : a.defers = []) (hR : R (.returned (.tuple #[.agg vs.toArray, .agg vs2.toArray])) w) : bodyPost P fn R .ret a w := by
  have hp' : a.tmps[p]?.getD undef = .pointer (some ⟨g, 0, none⟩) := by simpa using hp
  have hv' : a.tmps[u]?.getD undef = .pointer (some ⟨g2, 0, none⟩) := by simpa using hv
  have hrun : (results fn a.tmps).run P w = .ok (.tuple #[.agg vs.toArray, .agg vs2.toArray]) w := by
    simp [results, hres, hp', hv', asAddr, run_loadVar_row w g ty ty vs.toArray (0, 0) _ hg hu hd (by rw [List.size_toArray, hl]; exact hi), run_loadVar_row w g2 ty2 ty2 vs2.toArray (0, 0) _ hg2 hu2 hd2 (by rw [List.size_toArray, hl2]; exact hi2)]
  exact bodyPost_ret hrun hdf hR
end Go.Proofs.YtoggkhjaghkpnaaDoor
namespace Go.Proofs.YtoggkhjaghkpnaaDoor
open Go.RowKit
def baseT : Tri := (15112221349535400772501151409588531511454012693041857206046113283949847762202, 46316835694926478169428394003475163141307993866256225615783033603165251855960, 1)
def negT (t : Tri) : Tri := (fS 0 t.1, t.2.1, t.2.2)
end Go.Proofs.YtoggkhjaghkpnaaDoor
namespace Go.Proofs.YtoggkhjaghkpnaaDoor
open Go.RowKit
end Go.Proofs.YtoggkhjaghkpnaaDoor
namespace Go.Proofs.YtoggkhjaghkpnaaDoor
open Go.RowKit
theorem baseT_lt : TriLt baseT := ⟨by show _ < pp; decide, by show _ < pp; decide, by show 1 < pp; decide⟩
/-- A point's bytes: y, and x's parity as the highest bit. -/
def ptB (x y : Nat) : List UInt8 := putL (y + x % 2 * 57896044618658097711785492504343953926634992332820282019728792003956564819968) 32
theorem byteAt_top (y i : Nat) (h : i < 31) : byteAt (y + 57896044618658097711785492504343953926634992332820282019728792003956564819968) i = byteAt y i := by
  have e : (57896044618658097711785492504343953926634992332820282019728792003956564819968 : Nat) = 256 ^ i * (256 * (128 * 256 ^ (30 - i))) := by
    have e2 : 256 ^ i * (256 * (128 * 256 ^ (30 - i))) = 128 * (256 ^ i * 256 * 256 ^ (30 - i)) := by
      generalize 256 ^ i = a
      generalize 256 ^ (30 - i) = b
      grind
    rw [e2, ← Nat.pow_succ, ← Nat.pow_add, show i.succ + (30 - i) = 31 by omega]
  unfold byteAt
  rw [e, Nat.add_mul_div_left _ _ (Nat.pow_pos (by decide))]
  generalize 128 * 256 ^ (30 - i) = r
  generalize y / 256 ^ i = s
  apply UInt8.toNat_inj.1
  rw [UInt8.toNat_ofNat', UInt8.toNat_ofNat']
  omega
theorem byteAt_31 (y : Nat) : byteAt (y + 57896044618658097711785492504343953926634992332820282019728792003956564819968) 31 = byteAt y 31 + 128 := by
  have e : (57896044618658097711785492504343953926634992332820282019728792003956564819968 : Nat) = 256 ^ 31 * 128 := by decide +kernel
  unfold byteAt
  rw [e, Nat.add_mul_div_left _ _ (Nat.pow_pos (by decide))]
  generalize y / 256 ^ 31 = s
  apply UInt8.toNat_inj.1
  rw [UInt8.toNat_add, UInt8.toNat_ofNat', UInt8.toNat_ofNat']
  show _ = (s % 256 + 128) % 256
  omega
theorem putL_at (x k i : Nat) (h : i < k) : (putL x k)[i]? = some (byteAt x i) := by
  rw [putL, List.getElem?_map, List.getElem?_range h]; rfl
theorem ptB_one (x y : Nat) (h : x % 2 = 1) : ptB x y = (putL y 32).set 31 (byteAt y 31 + 128) := by
  rw [ptB, h, Nat.one_mul]
  apply List.ext_getElem?
  intro i
  by_cases h1 : i < 32
  · by_cases h2 : i = 31
    · subst h2
      rw [putL_at _ _ _ h1, List.getElem?_set_self (by rw [putL_length]; exact h1), byteAt_31]
    · rw [putL_at _ _ _ h1, List.getElem?_set_ne (Ne.symm h2), putL_at _ _ _ h1, byteAt_top y i (by omega)]
  · rw [List.getElem?_eq_none (by rw [putL_length]; omega), List.getElem?_eq_none (by rw [List.length_set, putL_length]; omega)]
theorem ptB_nought (x y : Nat) (h : x % 2 = 0) : ptB x y = putL y 32 := by
  rw [ptB, h, Nat.zero_mul, Nat.add_zero]
theorem ptB_length (x y : Nat) : (ptB x y).length = 32 := putL_length _ _
theorem byte31_lt (y : Nat) (h : y < pp) : (byteAt y 31).toNat < 128 := by
  unfold byteAt
  rw [UInt8.toNat_ofNat']
  have : y / 256 ^ 31 < 128 := by
    rw [Nat.div_lt_iff_lt_mul (Nat.pow_pos (by decide))]
    exact Nat.lt_trans h (by decide +kernel)
  omega
end Go.Proofs.YtoggkhjaghkpnaaDoor
namespace Go.Proofs.YtoggkhjaghkpnaaDoor
open Go.RowKit
/-- What the bytes say of y, whether x is odd, x's square, x; whether they are a point's; and the point. -/
def readY (b : List UInt8) : Nat := lev (b.set 31 (b.getD 31 0 % 128))
def readO (b : List UInt8) : Bool := decide (128 ≤ (b.getD 31 0).toNat)
def ratN (y : Nat) : Nat := fM (fS (fM y y) 1) (ivN (fA (fM dNat (fM y y)) 1))
def readX (b : List UInt8) : Nat := rootN (ratN (readY b))
def readGood (b : List UInt8) : Bool := (decide (readY b < pp) && isSN (ratN (readY b))) && !(readO b && decide (readX b = 0))
def readT (b : List UInt8) : Tri := bif readGood b then (bif readO b then fS 0 (readX b) else readX b, readY b, 1) else (0, 0, 0)
theorem fM_any (n m : Nat) (W : World) (hn : n < pp) (hm : m < pp) : Calls Tryd.prog 43 #[numVal (limb5 n), numVal (limb5 m)] W (gvn (numVal (limb5 (fM n m))) W) := eTimes_any n m W hn hm
theorem fA_any (n m : Nat) (W : World) (hn : n < pp) (hm : m < pp) : Calls Tryd.prog 62 #[numVal (limb5 n), numVal (limb5 m)] W (gvn (numVal (limb5 (fA n m))) W) := eAdd_any n m W hn hm
theorem fS_any (n m : Nat) (W : World) (hn : n < pp) (hm : m < pp) : Calls Tryd.prog 39 #[numVal (limb5 n), numVal (limb5 m)] W (gvn (numVal (limb5 (fS n m))) W) := eSub_any n m W hn hm
theorem fQ_any (n : Nat) (W : World) (hn : n < pp) : Calls Tryd.prog 60 #[numVal (limb5 n)] W (gvn (numVal (limb5 (fM n n))) W) := eSquare_any n W hn
theorem ivU_pw (n : Nat) : ivN n = pwN n 57896044618658097711785492504343953926634992332820282019728792003956564819947 := by
  have h : pp - 2 = 57896044618658097711785492504343953926634992332820282019728792003956564819947 := by decide
  unfold ivN pwN
  rw [h]
theorem ivN_lt (n : Nat) : ivN n < pp := Nat.mod_lt _ (by decide)
theorem fI_any (n : Nat) (W : World) (hn : n < pp) : Calls Tryd.prog 42 #[numVal (limb5 n)] W (gvn (numVal (limb5 (ivN n))) W) := by
  rw [ivU_pw]
  exact invert_any n W hn
theorem uat_any (x y : Nat) (w : World) : Calls Tryd.prog 38 #[numVal (limb5 x), numVal (limb5 y)] w (gvn (numVal (triU (x, y, 1))) w) :=
  uat_over (limb5 x) (limb5 y) (limb5 1) (triU (x, y, 1)) w rfl rfl rfl oneU_any (build_up _ _ _ rfl rfl rfl)
theorem uzero_any (w : World) : Calls Tryd.prog 66 #[] w (gvn (numVal (triU (0, 1, 1))) w) :=
  uzero_over (limb5 0) (limb5 1) (triU (0, 1, 1)) w rfl oneU_any (uat_any 0 1) build_none
theorem ubase_any (E : Value) (w : World) (hS : TabsU E w) : Calls Tryd.prog 24 #[] w (gvn (numVal (triU baseT)) w) :=
  ubase_over (limb5 baseXN) (limb5 baseYN) (triU baseT) E w rfl (baseXU_any E) (baseYU_any E) (uat_any baseXN baseYN) hS
theorem uquo_any (a b c d : Nat) (w : World) (ha : a < pp) (hb : b < pp) (hc : c < pp) (hd : d < pp) : Calls Tryd.prog 87 #[numVal (limb5 a), numVal (limb5 b), numVal (limb5 c), numVal (limb5 d)] w (gvn (numVal (triU (quoT a b c d))) w) :=
  uquo_over (limb5 a) (limb5 b) (limb5 c) (limb5 d) (limb5 (fM a d)) (limb5 (fM c b)) (limb5 (fM b d)) (triU (quoT a b c d)) w rfl rfl rfl rfl rfl (fun W => fM_any a d W ha hd) (fun W => fM_any c b W hc hb) (fun W => fM_any b d W hb hd) (build_up _ _ _ rfl rfl rfl)
theorem utw_any (t : Tri) (w : World) (h : TriLt t) : Calls Tryd.prog 86 #[numVal (triU t)] w (gvn (numVal (triU (twT t))) w) := by
  refine utwice_over (triU t) (limb5 t.1) (limb5 t.2.1) (limb5 t.2.2) (limb5 (twXX t)) (limb5 (twYY t)) (limb5 (twZZ t)) (limb5 (twXY t)) (limb5 (twLess t)) (limb5 (fA (twXY t) (twXY t))) (limb5 (fA (twYY t) (twXX t))) (limb5 (fA (twZZ t) (twZZ t))) (limb5 (fS (fA (twZZ t) (twZZ t)) (twLess t))) (triU (twT t)) w rfl rfl rfl rfl rfl rfl rfl rfl rfl rfl
    ?_ ?_ ?_ ?_ ?_ ?_ ?_ ?_ ?_ ?_
  · exact fun W => fQ_any t.1 W h.1
  · exact fun W => fQ_any t.2.1 W h.2.1
  · exact fun W => fQ_any t.2.2 W h.2.2
  · exact fun W => fM_any t.1 t.2.1 W h.1 h.2.1
  · exact fun W => fS_any (twYY t) (twXX t) W (fM_lt _ _) (fM_lt _ _)
  · exact fun W => fA_any (twXY t) (twXY t) W (fM_lt _ _) (fM_lt _ _)
  · exact fun W => fA_any (twYY t) (twXX t) W (fM_lt _ _) (fM_lt _ _)
  · exact fun W => fA_any (twZZ t) (twZZ t) W (fM_lt _ _) (fM_lt _ _)
  · exact fun W => fS_any _ (twLess t) W (fA_lt _ _) (fS_lt _ _)
  · exact fun W => uquo_any _ (twLess t) _ _ W (fA_lt _ _) (fS_lt _ _) (fA_lt _ _) (fS_lt _ _)
theorem uadd_any (E : Value) (s t : Tri) (w : World) (h1 : TriLt s) (h2 : TriLt t) (hS : TabsU E w) : Calls Tryd.prog 68 #[numVal (triU s), numVal (triU t)] w (gvn (numVal (triU (addT s t))) w) := by
  refine uadd_over (triU s) (limb5 s.1) (limb5 s.2.1) (limb5 s.2.2) (triU t) (limb5 t.1) (limb5 t.2.1) (limb5 t.2.2) (limb5 (addX s t)) (limb5 (addY s t)) (limb5 (addZ s t)) (limb5 (fM s.1 t.2.1)) (limb5 (fM s.2.1 t.1)) (limb5 (addCross s t)) (limb5 (addAlong s t)) (limb5 (addOver s t)) (limb5 dNat) (limb5 (fM dNat (addX s t))) (limb5 (addBent s t)) (limb5 (fM (addCross s t) (addZ s t))) (limb5 (fA (addOver s t) (addBent s t))) (limb5 (fM (addAlong s t) (addZ s t))) (limb5 (fS (addOver s t) (addBent s t))) (triU (addT s t)) E w rfl rfl rfl rfl rfl rfl rfl rfl rfl rfl rfl rfl rfl rfl rfl rfl
    (fun W => fM_any s.1 t.1 W h1.1 h2.1) (fun W => fM_any s.2.1 t.2.1 W h1.2.1 h2.2.1) (fun W => fM_any s.2.2 t.2.2 W h1.2.2 h2.2.2) (fun W => fM_any s.1 t.2.1 W h1.1 h2.2.1) (fun W => fM_any s.2.1 t.1 W h1.2.1 h2.1)
    (fun W => fA_any (fM s.1 t.2.1) (fM s.2.1 t.1) W (fM_lt _ _) (fM_lt _ _)) (fun W => fA_any (addY s t) (addX s t) W (fM_lt _ _) (fM_lt _ _)) (fun W => fQ_any (addZ s t) W (fM_lt _ _)) (fun W => fM_any dNat (addX s t) W (by decide) (fM_lt _ _)) (fun W => fM_any (fM dNat (addX s t)) (addY s t) W (fM_lt _ _) (fM_lt _ _))
    (fun W => fM_any (addCross s t) (addZ s t) W (fA_lt _ _) (fM_lt _ _)) (fun W => fA_any (addOver s t) (addBent s t) W (fM_lt _ _) (fM_lt _ _)) (fun W => fM_any (addAlong s t) (addZ s t) W (fA_lt _ _) (fM_lt _ _)) (fun W => fS_any (addOver s t) (addBent s t) W (fM_lt _ _) (fM_lt _ _))
    (curveU_any E) (fun W => uquo_any _ _ _ _ W (fM_lt _ _) (fA_lt _ _) (fM_lt _ _) (fS_lt _ _)) hS
theorem uneg_any (t : Tri) (w : World) (h : TriLt t) : Calls Tryd.prog 17 #[numVal (triU t)] w (gvn (numVal (triU (negT t))) w) := by
  refine uneg_over (triU t) (limb5 t.1) (limb5 t.2.1) (limb5 t.2.2) (limb5 0) (limb5 (fS 0 t.1)) (triU (negT t)) w rfl rfl rfl rfl rfl (splice_head5 (limb5 (fS 0 t.1)) (limb5 t.1) (limb5 t.2.1) (limb5 t.2.2) rfl) build_none ?_
  exact fun W => fS_any 0 t.1 W (by decide) h.1
theorem or_high (q : UInt8) (h : q.toNat < 128) : bits .or .u8 (q.toNat : Int) 128 = ((q + 128).toNat : Int) := by
  have key : ∀ n : Fin 128, bits .or .u8 ((n.val : Nat) : Int) 128 = ((n.val + 128 : Nat) : Int) := by decide +kernel
  have h2 := key ⟨q.toNat, h⟩
  have e : (q + 128).toNat = q.toNat + 128 := by
    rw [UInt8.toNat_add]
    show (q.toNat + 128) % 256 = _
    omega
  rw [e]
  exact h2
theorem ubytes_any (t : Tri) (w : World) (h : TriLt t) : Calls Tryd.prog 19 #[numVal (triU t)] w (gvn (hashVal (ptB (fM t.1 (ivN t.2.2)) (fM t.2.1 (ivN t.2.2)))) w) := by
  have hy := fM_lt t.2.1 (ivN t.2.2)
  have H := ubytes_over (triU t) (limb5 t.1) (limb5 t.2.1) (limb5 t.2.2) (limb5 (ivN t.2.2)) (limb5 (fM t.2.1 (ivN t.2.2))) (limb5 (fM t.1 (ivN t.2.2))) (putL (fM t.2.1 (ivN t.2.2)) 32) ((putL (fM t.2.1 (ivN t.2.2)) 32).set 31 (byteAt (fM t.2.1 (ivN t.2.2)) 31 + 128)) (byteAt (fM t.2.1 (ivN t.2.2)) 31) (byteAt (fM t.2.1 (ivN t.2.2)) 31 + 128) (decide (fM t.1 (ivN t.2.2) % 2 = 1)) w
    rfl rfl rfl rfl (putL_length _ _) (by show _ = _; rw [List.length_set]; exact putL_length _ _) rfl (by show _ = _; rw [List.getElem?_map, putL_at _ _ _ (by decide)]; rfl) (or_high _ (byte31_lt _ hy)) rfl (fun W => fI_any _ W h.2.2) (fun W => fM_any _ _ W h.1 (ivN_lt _)) (fun W => fM_any _ _ W h.2.1 (ivN_lt _)) (fun W => bytesE_any _ W hy) (fun W => odd_any _ W)
  have e : (bif decide (fM t.1 (ivN t.2.2) % 2 = 1) then (putL (fM t.2.1 (ivN t.2.2)) 32).set 31 (byteAt (fM t.2.1 (ivN t.2.2)) 31 + 128) else putL (fM t.2.1 (ivN t.2.2)) 32) = ptB (fM t.1 (ivN t.2.2)) (fM t.2.1 (ivN t.2.2)) := by
    rcases Nat.mod_two_eq_zero_or_one (fM t.1 (ivN t.2.2)) with e | e
    · rw [decide_eq_false (by omega), cond_false, ptB_nought _ _ e]
    · rw [decide_eq_true e, cond_true, ptB_one _ _ e]
  rw [e] at H
  exact H
theorem ueven_any (E : Value) (y : Nat) (w : World) (hy : y < pp) (hS : TabsU E w) : Calls Tryd.prog 36 #[numVal (limb5 y)] w (gvn (.tuple #[numVal (limb5 (rootN (ratN y))), .bool (isSN (ratN y))]) w) := by
  refine ueven_over (limb5 y) (limb5 1) (limb5 (fM y y)) (limb5 dNat) (limb5 (fM dNat (fM y y))) (limb5 (fA (fM dNat (fM y y)) 1)) (limb5 (ivN (fA (fM dNat (fM y y)) 1))) (limb5 (fS (fM y y) 1)) (limb5 (ratN y)) (limb5 (rootN (ratN y))) (isSN (ratN y)) E w rfl rfl rfl rfl rfl oneU_any (fun W => fQ_any y W hy) (curveU_any E) (fun W => fM_any dNat (fM y y) W (by decide) (fM_lt _ _)) (fun W => fA_any (fM dNat (fM y y)) 1 W (fM_lt _ _) (by decide)) (fun W => fI_any _ W (fA_lt _ _)) (fun W => fS_any (fM y y) 1 W (fM_lt _ _) (by decide)) (fun W => fM_any (fS (fM y y) 1) (ivN (fA (fM dNat (fM y y)) 1)) W (fS_lt _ _) (ivN_lt _)) (fun W hW => rootE_any (ratN y) W (fM_lt _ _) hW.2.2.2.1) hS
end Go.Proofs.YtoggkhjaghkpnaaDoor
