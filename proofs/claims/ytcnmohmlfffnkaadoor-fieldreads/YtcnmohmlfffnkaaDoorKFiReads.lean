/- The walk of the law FieldReads. (Made by tools/mklaws9.py.) -/
import Derived.Test.YtcnmohmlfffnkaaDoorPart14
import Derived.Test.YtcnmohmlfffnkaaDoorWFlat3
import Derived.Test.YtcnmohmlfffnkaaDoorPart2
import Derived.Deep.Cut
namespace Go.Proofs.YtcnmohmlfffnkaaDoor.fieldReads
open Go.RowKit
theorem load_u32 {w : World} {g j v : Nat} (h : w.cell? ⟨g, j, none⟩ = some (dcell v)) : (Instr.loadAt 25 (.pointer (some ⟨g, j, none⟩))).run Tryd.prog w = .ok (dcell v) w := by
  go_simp
def rdVs5 (kb : List UInt8) (n : Int) (g_base : Nat) (gp : Nat) (gx : Nat) (own : Bool) (p : List Nat) (x : List Nat) (pb : List UInt8) : List Value :=
  (hashVal kb) :: (.int .i64 n) :: (.pointer (some ⟨g_base, 0, none⟩)) :: undef :: (.bool false) :: (.pointer (some ⟨gp, 0, none⟩)) :: (.pointer (some ⟨gx, 0, none⟩)) :: (.bool own) :: undef :: undef :: (.bool true) :: (.bool false) :: (hashVal kb) :: (numD p) :: (hashVal kb) :: (numVal x) :: (numD p) :: (hashVal pb) :: (hashVal kb) :: (.bool own) :: undef :: undef :: undef :: undef :: undef :: undef :: undef :: undef :: undef :: undef :: undef :: undef :: undef :: undef :: undef :: undef :: undef :: undef :: undef :: undef :: undef :: undef :: undef :: undef :: undef :: undef :: undef :: undef :: undef :: undef :: undef :: undef :: undef :: undef :: undef :: undef :: undef :: undef :: undef :: undef :: undef :: undef :: undef :: undef :: undef :: undef :: undef :: undef :: undef :: undef :: undef :: undef :: undef :: undef :: undef :: undef :: undef :: undef :: undef :: undef :: []
def rdVs7_1 (kb : List UInt8) (n : Int) (g_base : Nat) (gp : Nat) (gx : Nat) (own : Bool) (gs : Nat) (er : Value) (p : List Nat) (x : List Nat) (pb : List UInt8) (s : List Nat) : List Value :=
  (hashVal kb) :: (.int .i64 n) :: (.pointer (some ⟨g_base, 0, none⟩)) :: undef :: (.bool false) :: (.pointer (some ⟨gp, 0, none⟩)) :: (.pointer (some ⟨gx, 0, none⟩)) :: (.bool own) :: (.pointer (some ⟨gs, 0, none⟩)) :: (er) :: (.bool true) :: (.bool false) :: (hashVal kb) :: (numD p) :: (hashVal kb) :: (numVal x) :: (numD p) :: (hashVal pb) :: (hashVal kb) :: (.bool own) :: (.tuple #[numVal s, er]) :: (hashVal kb) :: (.tuple #[numVal s, er]) :: (numVal s) :: (er) :: (numVal x) :: (numD p) :: (.bool true) :: (.bool false) :: (.bool false) :: (er) :: (bif own then (.bool true) else (.bool false)) :: (bif own then (.bool true) else (.bool false)) :: (.bool false) :: (.bool false) :: (.bool false) :: (bif own then (.bool true) else (.bool false)) :: (bif own then (.bool true) else (.bool false)) :: (bif own then (numVal s) else undef) :: (bif own then (numD p) else undef) :: (bif own then (.bool true) else undef) :: (bif own then (.bool false) else undef) :: (.bool false) :: (.bool false) :: (.bool false) :: (bif own then (.bool true) else (.bool false)) :: (bif own then (.bool false) else (.bool true)) :: (bif own then (.bool false) else (.bool true)) :: (bif own then undef else (numVal s)) :: (bif own then undef else (.bool true)) :: (bif own then undef else (.bool false)) :: (bif own then undef else (.bool false)) :: (bif own then undef else er) :: (bif own then undef else (.int .i64 4)) :: (bif own then undef else (.bool false)) :: (bif own then undef else (.bool false)) :: (.bool false) :: (.bool false) :: undef :: undef :: undef :: undef :: undef :: undef :: undef :: undef :: undef :: undef :: undef :: undef :: undef :: undef :: undef :: undef :: undef :: undef :: undef :: undef :: undef :: undef :: []
def rdVs9_2 (kb : List UInt8) (n : Int) (g_base : Nat) (gp : Nat) (gx : Nat) (own : Bool) (gs : Nat) (er : Value) (p : List Nat) (x : List Nat) (pb : List UInt8) (s : List Nat) (sn : List Nat) (dn : List Nat) (od : Bool) (p0 : Nat) (pr : Nat) (ze : Bool) (zz : List Nat) : List Value :=
  (hashVal kb) :: (.int .i64 n) :: (.pointer (some ⟨g_base, 0, none⟩)) :: undef :: (.bool true) :: (.pointer (some ⟨gp, 0, none⟩)) :: (.pointer (some ⟨gx, 0, none⟩)) :: (.bool own) :: (.pointer (some ⟨gs, 0, none⟩)) :: (er) :: (.bool true) :: (.bool false) :: (hashVal kb) :: (numD p) :: (hashVal kb) :: (numVal x) :: (numD p) :: (hashVal pb) :: (hashVal kb) :: (.bool own) :: (.tuple #[numVal s, er]) :: (hashVal kb) :: (.tuple #[numVal s, er]) :: (numVal s) :: (er) :: (numVal x) :: (numD p) :: (.bool true) :: (.bool false) :: (.bool false) :: (er) :: (bif own then (.bool true) else (.bool false)) :: (bif own then (.bool true) else (.bool false)) :: (.bool false) :: (.bool false) :: (.bool false) :: (bif own then (.bool true) else (.bool false)) :: (bif own then (.bool true) else (.bool false)) :: (bif own then (numVal s) else undef) :: (bif own then (numD p) else undef) :: (bif own then (.bool true) else undef) :: (bif own then (.bool false) else undef) :: (.bool false) :: (.bool false) :: (.bool false) :: (bif own then (.bool true) else (.bool false)) :: (bif own then (.bool false) else (.bool true)) :: (bif own then (.bool false) else (.bool true)) :: (bif own then undef else (numVal s)) :: (bif own then undef else (.bool true)) :: (bif own then undef else (.bool false)) :: (bif own then undef else (.bool false)) :: (bif own then undef else er) :: (bif own then undef else (.int .i64 4)) :: (bif own then undef else (.bool false)) :: (bif own then undef else (.bool false)) :: (.bool false) :: (.bool false) :: (.int .i64 n) :: (numVal sn) :: (.int .i64 n) :: (numD dn) :: (.bool true) :: (.bool true) :: (numVal x) :: (.bool od) :: (.pointer (some ⟨gp, 0, none⟩)) :: (dcell p0) :: (dcell pr) :: (.bool od) :: (.bool true) :: (.bool true) :: (.bool true) :: (numVal x) :: (.bool ze) :: (numD p) :: (numD zz) :: (.bool ze) :: (.bool true) :: (.bool true) :: []
set_option maxRecDepth 100000 in
set_option maxHeartbeats 4000000 in
theorem walk_over (kb pb : List UInt8) (p x s sn dn zz : List Nat) (er : Value) (es : List Addr) (n : Int) (p0 pr : Nat) (own od ze : Bool) (w : World)
    (Hkb : Hid (kb.length = 32))
    (Hp : Hid (p.length = 8))
    (Hx : Hid (x.length = 5))
    (Hs : Hid (s.length = 5))
    (CP : Hid (∀ W, Calls Tryd.prog 9 #[hashVal kb] W fun e w' => e = .returned (numD p) ∧ Below W.heap.size W w'))
    (CX : Hid (∀ W, Calls Tryd.prog 10 #[hashVal kb] W fun e w' => e = .returned (numVal x) ∧ Below W.heap.size W w'))
    (CPB : Hid (∀ W, Calls Tryd.prog 11 #[numD p] W fun e w' => e = .returned (hashVal pb) ∧ Below W.heap.size W w'))
    (CS : Hid (∀ W, Errs W es → Calls Tryd.prog 12 #[hashVal kb] W fun e w' => e = .returned (.tuple #[numVal s, er]) ∧ Below W.heap.size W w'))
    (S1 : Hid (∀ W, Calls Tryd.prog 13 #[numVal x, numD p] W fun e w' => e = .returned (.bool true) ∧ Below W.heap.size W w'))
    (S2 : Hid (own = true → ∀ W, Calls Tryd.prog 13 #[numVal s, numD p] W fun e w' => e = .returned (.bool true) ∧ Below W.heap.size W w'))
    (CZ : Hid (own = false → ∀ W, Calls Tryd.prog 14 #[numVal s] W fun e w' => e = .returned (.bool true) ∧ Below W.heap.size W w'))
    (CN : Hid (own = false → ∀ W, Errs W es → Calls Tryd.prog 15 #[er] W fun e w' => e = .returned (.int .i64 4) ∧ Below W.heap.size W w'))
    (CSN : Hid (∀ W, Calls Tryd.prog 16 #[.int .i64 n] W fun e w' => e = .returned (numVal sn) ∧ Below W.heap.size W w'))
    (CDN : Hid (∀ W, Calls Tryd.prog 17 #[.int .i64 n] W fun e w' => e = .returned (numD dn) ∧ Below W.heap.size W w'))
    (S3 : Hid (∀ W, Calls Tryd.prog 13 #[numVal sn, numD dn] W fun e w' => e = .returned (.bool true) ∧ Below W.heap.size W w'))
    (COD : Hid (∀ W, Calls Tryd.prog 18 #[numVal x] W fun e w' => e = .returned (.bool od) ∧ Below W.heap.size W w'))
    (CZE : Hid (∀ W, Calls Tryd.prog 14 #[numVal x] W fun e w' => e = .returned (.bool ze) ∧ Below W.heap.size W w'))
    (EK : ∀ w, (binOp .eql 23 (hashVal pb) (hashVal kb)).run Tryd.prog w = .ok (.bool own) w)
    (EGR : ∀ w, (eqGuard .eql 37 (.tmp 30) (.const .nilIface) er .nilIface).run Tryd.prog w = .ok () w)
    (EER : ∀ w, (binOp .eql 37 (er) (.nilIface)).run Tryd.prog w = .ok (.bool own) w)
    (E68 : ∀ w, (binOp .rem 25 (dcell p0) (.int .u32 2)).run Tryd.prog w = .ok (dcell pr) w)
    (E69 : ∀ w, (binOp .eql 25 (dcell pr) (.int .u32 1)).run Tryd.prog w = .ok (.bool od) w)
    (E77 : ∀ w, (binOp .eql 27 (numD p) (numD zz)).run Tryd.prog w = .ok (.bool ze) w)
    (B0 : ∀ w, (Instr.build 27 #[]).run Tryd.prog w = .ok (numD zz) w)
    (HP0 : Hid ((p.map dcell)[0]? = some (dcell p0)))
    (hE : Errs w es) :
    Calls Tryd.prog 3 #[hashVal kb, .int .i64 n] w fun e w' => e = .returned (.bool true) ∧ Below w.heap.size w w' := by
  go_enter Tryd.func3, Tryd.ntmps3
  go_wp2_with (first
    | (refine take_step rfl 23 (.tmp 0) rfl kb rfl ?_
       intro w1 hb1 hvk1 hz
       clear hz
       have hB1 := hb1
       have hgek : w.heap.size ≤ w.heap.size := Nat.le_refl _
       clear  hb1
       try simp only [Act.put, List.setIfInBounds_toArray, List.set_cons_zero, List.set_cons_succ]
       skip))
  refine (alive9 w1).mono ?_
  rintro e w2 ⟨rfl, hb2⟩
  have hB2 := below_then hB1 hb2
  have hvk2 := hvk1.on hb2
  clear hB1 hvk1 hb2
  go_wp2_with (first
    | (refine get_step rfl 23 (.tmp 2) rfl w.heap.size 32 kb 5 rfl hvk2 Tryd.underlying23 size_k32 Hkb.out ?_
       try simp only [Act.put, List.setIfInBounds_toArray, List.set_cons_zero, List.set_cons_succ]
       skip))
  refine (CP.out w2).mono ?_
  rintro e w3 ⟨rfl, hb3⟩
  have hB3 := below_then hB2 hb3
  have hvk3 := hvk2.on hb3
  clear hB2 hvk2 hb3
  go_wp2_with (first
    | (refine vput_step rfl rfl 27 (.tmp 5) (.tmp 13) rfl rfl 8 (dzeros 8) (p.map dcell) rfl rfl zero_ND rfl size_ND (by rw [List.length_map, Hp.out]) (dcells_one _) ?_
       intro w4 hb4 hvp4
       have hB4 := below_then hB3 hb4
       have hgep : w.heap.size ≤ w3.heap.size := hB3.size
       have hvk4 := hvk3.on hb4
       have hnekp := Nat.ne_of_lt hvk3.lt
       clear hB3 hvk3 hb4
       try simp only [Act.put, List.setIfInBounds_toArray, List.set_cons_zero, List.set_cons_succ]
       skip)
    | (refine get_step rfl 23 (.tmp 2) rfl w.heap.size 32 kb 5 rfl hvk4 Tryd.underlying23 size_k32 Hkb.out ?_
       try simp only [Act.put, List.setIfInBounds_toArray, List.set_cons_zero, List.set_cons_succ]
       skip))
  generalize hqp : w3.heap.size = gp at *
  clear hqp
  refine (CX.out w4).mono ?_
  rintro e w5 ⟨rfl, hb5⟩
  have hB5 := below_then hB4 hb5
  have hvk5 := hvk4.on hb5
  have hvp5 := hvp4.on hb5
  clear hB4 hvk4 hvp4 hb5
  go_wp2_with (first
    | (refine vput_step rfl rfl 33 (.tmp 6) (.tmp 15) rfl rfl 5 (nzeros 5) (x.map ncell) rfl rfl zero_elem rfl size_elem (by rw [List.length_map, Hx.out]) (ncells_one _) ?_
       intro w6 hb6 hvx6
       have hB6 := below_then hB5 hb6
       have hgex : w.heap.size ≤ w5.heap.size := hB5.size
       have hvk6 := hvk5.on hb6
       have hnekx := Nat.ne_of_lt hvk5.lt
       have hvp6 := hvp5.on hb6
       have hnepx := Nat.ne_of_lt hvp5.lt
       clear hB5 hvk5 hvp5 hb6
       try simp only [Act.put, List.setIfInBounds_toArray, List.set_cons_zero, List.set_cons_succ]
       skip))
  generalize hqx : w5.heap.size = gx at *
  clear hqx
  replace hvk6 := hvk6.drew
  replace hvp6 := hvp6.drew
  replace hvx6 := hvx6.drew
  refine wp_region_any (by kernel_rfl) ?_
  refine wpAny_flatM (L := [0, 1, 2, 3, 4]) (by kernel_rfl) _ _ (rdVs5 kb n w.heap.size gp gx own p x pb) [] 33 (nzeros 5) [0, 1, 2, 3, 4, 5, 6, 8, 9, 10, 11, 12, 13, 14, 15, 20, 21, 22, 23, 24, 25, 26, 27, 28, 29, 30, 31, 32, 33, 34, 35, 36, 37, 38, 39, 40, 41, 42, 43, 44, 45, 46, 47, 48, 49, 50, 51, 52, 53, 54, 55, 56, 57, 58, 59, 60, 61, 62, 63, 64, 65, 66, 67, 68, 69, 70, 71, 72, 73, 74, 75, 76, 77, 78, 79] (by kernel_rfl) (by kernel_rfl) ?_ zero_elem ?_ (by rfl) ?_ 0 (by kernel_rfl) ?_
  · intro p hp
    exact absurd hp List.not_mem_nil
  · exact all_cons rfl (all_cons rfl (all_cons rfl (all_cons rfl (all_cons rfl (all_cons rfl (all_cons rfl (all_cons rfl (all_cons rfl (all_cons rfl (all_cons rfl (all_cons rfl (all_cons rfl (all_cons rfl (all_cons rfl (all_cons rfl (all_cons rfl (all_cons rfl (all_cons rfl (all_cons rfl (all_cons rfl (all_cons rfl (all_cons rfl (all_cons rfl (all_cons rfl (all_cons rfl (all_cons rfl (all_cons rfl (all_cons rfl (all_cons rfl (all_cons rfl (all_cons rfl (all_cons rfl (all_cons rfl (all_cons rfl (all_cons rfl (all_cons rfl (all_cons rfl (all_cons rfl (all_cons rfl (all_cons rfl (all_cons rfl (all_cons rfl (all_cons rfl (all_cons rfl (all_cons rfl (all_cons rfl (all_cons rfl (all_cons rfl (all_cons rfl (all_cons rfl (all_cons rfl (all_cons rfl (all_cons rfl (all_cons rfl (all_cons rfl (all_cons rfl (all_cons rfl (all_cons rfl (all_cons rfl (all_cons rfl (all_cons rfl (all_cons rfl (all_cons rfl (all_cons rfl (all_cons rfl (all_cons rfl (all_cons rfl (all_cons rfl (all_cons rfl (all_cons rfl (all_cons rfl (all_cons rfl (all_cons rfl (all_cons rfl (all_nil)))))))))))))))))))))))))))))))))))))))))))))))))))))))))))))))))))))))))))
  · refine all_cons (.inr (mStep _ 16 rfl rfl rfl rfl (by kernel_rfl) (fun a hv => wanted_all rfl _) (fun a w K hb hv hK => mPure (numD p) (exec_load _ _ _ _ rfl _ _ (hv 5 (by kernel_rfl) rfl) w (num_run (hvp6.on hb) Hp.out)) hK))) ?_
    refine all_cons (.inr (mStep _ 17 rfl rfl rfl rfl (by kernel_rfl) (fun a hv => wanted_all rfl _) (fun a w K hb hv hK => mCall (hashVal pb) 11 _ _ rfl [numD p] (cons_eq (hv 16 (by kernel_rfl) rfl) (rfl)) (enters Tryd.func11 rfl rfl) (CPB.out w) hK))) ?_
    refine all_cons (.inr (mStep _ 18 rfl rfl rfl rfl (by kernel_rfl) (fun a hv => wanted_all rfl _) (fun a w K hb hv hK => mPure (hashVal kb) (exec_load _ _ _ _ rfl _ _ (hv 2 (by kernel_rfl) rfl) w (key_run (hvk6.on hb) Hkb.out)) hK))) ?_
    refine all_cons (.inr (mStep _ 19 rfl rfl rfl rfl (by kernel_rfl) (fun a hv => wanted_all rfl _) (fun a w K hb hv hK => mPure (.bool own) (exec_bin _ _ _ _ _ _ _ rfl (hashVal pb) (hashVal kb) _ (hv 17 (by kernel_rfl) rfl) (hv 18 (by kernel_rfl) rfl) w ((fun w => key_guard _ _ _ _ _ w) w) ((EK) w)) hK))) ?_
    refine all_cons (.inr (mStep _ 7 rfl rfl rfl rfl (by kernel_rfl) (fun a hv => wanted_all rfl _) (fun a w K hb hv hK => mPure (.bool own) (exec_move _ _ _ (.inr rfl) _ (hv 19 (by kernel_rfl) rfl) w) hK))) ?_
    exact all_nil
  intro w7 g hb7 hN7 hap7
  clear hN7 hap7
  have hB7 := below_then (show Below w.heap.size w w6.drew from hB6.drew) hb7
  have hvk7 := hvk6.on hb7
  have hvp7 := hvp6.on hb7
  have hvx7 := hvx6.on hb7
  clear hB6 hvk6 hvp6 hvx6 hb7
  refine ⟨by kernel_rfl, ?_⟩
  rename_i K hKK
  show Exit.then K _ Exit.normal (⟨(rdVs5 kb n w.heap.size gp gx own p x pb).toArray, []⟩ : Act) w7
  simp only [Exit.then]
  refine hKK _ _ ?_
  clear hKK K g
  simp only [rdVs5]
  go_wp2_with (first
    | (refine get_step rfl 23 (.tmp 2) rfl w.heap.size 32 kb 5 rfl hvk7 Tryd.underlying23 size_k32 Hkb.out ?_
       try simp only [Act.put, List.setIfInBounds_toArray, List.set_cons_zero, List.set_cons_succ]
       skip))
  refine (CS.out w7 (hE.below hB7)).mono ?_
  rintro e w8 ⟨rfl, hb8⟩
  have hB8 := below_then hB7 hb8
  have hvk8 := hvk7.on hb8
  have hvp8 := hvp7.on hb8
  have hvx8 := hvx7.on hb8
  clear hB7 hvk7 hvp7 hvx7 hb8
  go_upto_region 7 with (first
    | (refine vput_step rfl rfl 33 (.tmp 8) (.tmp 23) rfl rfl 5 (nzeros 5) (s.map ncell) rfl rfl zero_elem rfl size_elem (by rw [List.length_map, Hs.out]) (ncells_one _) ?_
       intro w9 hb9 hvs9
       have hB9 := below_then hB8 hb9
       have hges : w.heap.size ≤ w8.heap.size := hB8.size
       have hvk9 := hvk8.on hb9
       have hneks := Nat.ne_of_lt hvk8.lt
       have hvp9 := hvp8.on hb9
       have hneps := Nat.ne_of_lt hvp8.lt
       have hvx9 := hvx8.on hb9
       have hnexs := Nat.ne_of_lt hvx8.lt
       clear hB8 hvk8 hvp8 hvx8 hb9
       try simp only [Act.put, List.setIfInBounds_toArray, List.set_cons_zero, List.set_cons_succ]
       skip))
  generalize hqs : w8.heap.size = gs at *
  clear hqs
  refine wp_region_flat (md := .any) (by kernel_rfl) ?_
  refine wpAny_flatM (L := [0, 1, 2, 3, 4, 5, 6, 7, 8, 9, 10, 11, 12, 13, 14, 15, 16, 17, 18, 19, 20, 21, 22, 23, 24, 25, 26, 27, 28, 29, 30, 31, 32]) (by kernel_rfl) _ _ (rdVs7_1 kb n w.heap.size gp gx own gs er p x pb s) [] 33 (nzeros 5) [0, 1, 2, 3, 4, 5, 6, 7, 8, 9, 10, 11, 12, 13, 14, 15, 16, 17, 18, 19, 20, 21, 22, 23, 24, 58, 59, 60, 61, 62, 63, 64, 65, 66, 67, 68, 69, 70, 71, 72, 73, 74, 75, 76, 77, 78, 79] (by kernel_rfl) (by kernel_rfl) ?_ zero_elem ?_ (by rfl) ?_ 0 (by kernel_rfl) ?_
  · intro p hp
    exact absurd hp List.not_mem_nil
  · exact all_cons rfl (all_cons rfl (all_cons rfl (all_cons rfl (all_cons rfl (all_cons rfl (all_cons rfl (all_cons rfl (all_cons rfl (all_cons rfl (all_cons rfl (all_cons rfl (all_cons rfl (all_cons rfl (all_cons rfl (all_cons rfl (all_cons rfl (all_cons rfl (all_cons rfl (all_cons rfl (all_cons rfl (all_cons rfl (all_cons rfl (all_cons rfl (all_cons rfl (all_cons rfl (all_cons rfl (all_cons rfl (all_cons rfl (all_cons rfl (all_cons rfl (all_cons rfl (all_cons rfl (all_cons rfl (all_cons rfl (all_cons rfl (all_cons rfl (all_cons rfl (all_cons rfl (all_cons rfl (all_cons rfl (all_cons rfl (all_cons rfl (all_cons rfl (all_cons rfl (all_cons rfl (all_cons rfl (all_nil)))))))))))))))))))))))))))))))))))))))))))))))
  · refine all_cons (.inr (mStep _ 25 rfl rfl rfl rfl (by kernel_rfl) (fun a hv => wanted_all rfl _) (fun a w K hb hv hK => mPure (numVal x) (exec_load _ _ _ _ rfl _ _ (hv 6 (by kernel_rfl) rfl) w (elem_run (hvx9.on hb) Hx.out)) hK))) ?_
    refine all_cons (.inr (mStep _ 26 rfl rfl rfl rfl (by kernel_rfl) (fun a hv => wanted_all rfl _) (fun a w K hb hv hK => mPure (numD p) (exec_load _ _ _ _ rfl _ _ (hv 5 (by kernel_rfl) rfl) w (num_run (hvp9.on hb) Hp.out)) hK))) ?_
    refine all_cons (.inr (mStep _ 27 rfl rfl rfl rfl (by kernel_rfl) (fun a hv => wanted_all rfl _) (fun a w K hb hv hK => mCall (.bool true) 13 _ _ rfl [numVal x, numD p] (cons_eq (hv 25 (by kernel_rfl) rfl) (cons_eq (hv 26 (by kernel_rfl) rfl) (rfl))) (enters Tryd.func13 rfl rfl) (S1.out w) hK))) ?_
    refine all_cons (.inr (mStep _ 28 rfl rfl rfl rfl (by kernel_rfl) (fun a hv => wanted_all rfl _) (fun a w K hb hv hK => mPure (.bool false) (exec_not _ _ _ _ rfl (true) (hv 27 (by kernel_rfl) rfl) w) hK))) ?_
    refine all_cons (.inr (mStep _ 29 rfl rfl rfl rfl (by kernel_rfl) (fun a hv => wanted_all rfl _) (fun a w K hb hv hK => mPure (.bool false) (exec_move _ _ _ (.inl rfl) _ (hv 28 (by kernel_rfl) rfl) w) hK))) ?_
    refine all_cons (.inr (mStep _ 30 rfl rfl rfl rfl (by kernel_rfl) (fun a hv => (wanted_is (j := 4) (b := false) (c := false) rfl rfl rfl (hv 29 (by kernel_rfl) rfl)).trans rfl) (fun a w K hb hv hK => mPure (er) (exec_move _ _ _ (.inl rfl) _ (hv 9 (by kernel_rfl) rfl) w) hK))) ?_
    refine all_cons (by cases own; (exact (.inr (mStep _ 31 rfl rfl rfl rfl (by kernel_rfl) (fun a hv => (wanted_is (j := 4) (b := false) (c := false) rfl rfl rfl (hv 29 (by kernel_rfl) rfl)).trans rfl) (fun a w K hb hv hK => mPure (.bool false) (exec_bin _ _ _ _ _ _ _ rfl (er) (.nilIface) _ (hv 30 (by kernel_rfl) rfl) (by rfl) w ((EGR) w) ((EER) w)) hK)))); (exact (.inr (mStep _ 31 rfl rfl rfl rfl (by kernel_rfl) (fun a hv => (wanted_is (j := 4) (b := false) (c := false) rfl rfl rfl (hv 29 (by kernel_rfl) rfl)).trans rfl) (fun a w K hb hv hK => mPure (.bool true) (exec_bin _ _ _ _ _ _ _ rfl (er) (.nilIface) _ (hv 30 (by kernel_rfl) rfl) (by rfl) w ((EGR) w) ((EER) w)) hK))))) ?_
    refine all_cons (by cases own; (exact (.inr (mStep _ 32 rfl rfl rfl rfl (by kernel_rfl) (fun a hv => (wanted_is (j := 4) (b := false) (c := false) rfl rfl rfl (hv 29 (by kernel_rfl) rfl)).trans rfl) (fun a w K hb hv hK => mPure (.bool false) (exec_move _ _ _ (.inl rfl) _ (hv 7 (by kernel_rfl) rfl) w) hK)))); (exact (.inr (mStep _ 32 rfl rfl rfl rfl (by kernel_rfl) (fun a hv => (wanted_is (j := 4) (b := false) (c := false) rfl rfl rfl (hv 29 (by kernel_rfl) rfl)).trans rfl) (fun a w K hb hv hK => mPure (.bool true) (exec_move _ _ _ (.inl rfl) _ (hv 7 (by kernel_rfl) rfl) w) hK))))) ?_
    refine all_cons (by cases own; (exact (.inr (mStep _ 33 rfl rfl rfl rfl (by kernel_rfl) (fun a hv => (wanted_is (j := 4) (b := false) (c := false) rfl rfl rfl (hv 29 (by kernel_rfl) rfl)).trans rfl) (fun a w K hb hv hK => mPure (.bool false) (exec_bin _ _ _ _ _ _ _ rfl (.bool false) (.bool false) _ (hv 31 (by kernel_rfl) rfl) (hv 32 (by kernel_rfl) rfl) w (by kernel_rfl) (by kernel_rfl)) hK)))); (exact (.inr (mStep _ 33 rfl rfl rfl rfl (by kernel_rfl) (fun a hv => (wanted_is (j := 4) (b := false) (c := false) rfl rfl rfl (hv 29 (by kernel_rfl) rfl)).trans rfl) (fun a w K hb hv hK => mPure (.bool false) (exec_bin _ _ _ _ _ _ _ rfl (.bool true) (.bool true) _ (hv 31 (by kernel_rfl) rfl) (hv 32 (by kernel_rfl) rfl) w (by kernel_rfl) (by kernel_rfl)) hK))))) ?_
    refine all_cons (.inr (mStep _ 34 rfl rfl rfl rfl (by kernel_rfl) (fun a hv => wanted_all rfl _) (fun a w K hb hv hK => mPure (.bool false) (pick_false _ _ _ _ _ rfl (hv 29 (by kernel_rfl) rfl) (.bool false) (hv 33 (by kernel_rfl) rfl) w) hK))) ?_
    refine all_cons (.inr (mStep _ 35 rfl rfl rfl rfl (by kernel_rfl) (fun a hv => wanted_all rfl _) (fun a w K hb hv hK => mPure (.bool false) (exec_move _ _ _ (.inl rfl) _ (hv 34 (by kernel_rfl) rfl) w) hK))) ?_
    refine all_cons (by cases own; (exact (.inr (mStep _ 36 rfl rfl rfl rfl (by kernel_rfl) (fun a hv => (wanted_is (j := 10) (b := false) (c := false) rfl rfl rfl (hv 35 (by kernel_rfl) rfl)).trans rfl) (fun a w K hb hv hK => mPure (.bool false) (exec_move _ _ _ (.inl rfl) _ (hv 7 (by kernel_rfl) rfl) w) hK)))); (exact (.inr (mStep _ 36 rfl rfl rfl rfl (by kernel_rfl) (fun a hv => (wanted_is (j := 10) (b := false) (c := false) rfl rfl rfl (hv 35 (by kernel_rfl) rfl)).trans rfl) (fun a w K hb hv hK => mPure (.bool true) (exec_move _ _ _ (.inl rfl) _ (hv 7 (by kernel_rfl) rfl) w) hK))))) ?_
    refine all_cons (by cases own; (exact (.inr (mStep _ 37 rfl rfl rfl rfl (by kernel_rfl) (fun a hv => (wanted_is (j := 10) (b := false) (c := false) rfl rfl rfl (hv 35 (by kernel_rfl) rfl)).trans rfl) (fun a w K hb hv hK => mPure (.bool false) (exec_move _ _ _ (.inl rfl) _ (hv 36 (by kernel_rfl) rfl) w) hK)))); (exact (.inr (mStep _ 37 rfl rfl rfl rfl (by kernel_rfl) (fun a hv => (wanted_is (j := 10) (b := false) (c := false) rfl rfl rfl (hv 35 (by kernel_rfl) rfl)).trans rfl) (fun a w K hb hv hK => mPure (.bool true) (exec_move _ _ _ (.inl rfl) _ (hv 36 (by kernel_rfl) rfl) w) hK))))) ?_
    refine all_cons (by cases own; (exact (.inr (mSkip _ 38 rfl rfl rfl rfl (by kernel_rfl) (fun a hv => (wanted_is (j := 12) (b := true) (c := false) rfl rfl rfl (hv 37 (by kernel_rfl) rfl)).trans rfl) rfl))); (exact (.inr (mStep _ 38 rfl rfl rfl rfl (by kernel_rfl) (fun a hv => (wanted_is (j := 12) (b := true) (c := true) rfl rfl rfl (hv 37 (by kernel_rfl) rfl)).trans rfl) (fun a w K hb hv hK => mPure (numVal s) (exec_load _ _ _ _ rfl _ _ (hv 8 (by kernel_rfl) rfl) w (elem_run (hvs9.on hb) Hs.out)) hK))))) ?_
    refine all_cons (by cases own; (exact (.inr (mSkip _ 39 rfl rfl rfl rfl (by kernel_rfl) (fun a hv => (wanted_is (j := 12) (b := true) (c := false) rfl rfl rfl (hv 37 (by kernel_rfl) rfl)).trans rfl) rfl))); (exact (.inr (mStep _ 39 rfl rfl rfl rfl (by kernel_rfl) (fun a hv => (wanted_is (j := 12) (b := true) (c := true) rfl rfl rfl (hv 37 (by kernel_rfl) rfl)).trans rfl) (fun a w K hb hv hK => mPure (numD p) (exec_load _ _ _ _ rfl _ _ (hv 5 (by kernel_rfl) rfl) w (num_run (hvp9.on hb) Hp.out)) hK))))) ?_
    refine all_cons (by cases own; (exact (.inr (mSkip _ 40 rfl rfl rfl rfl (by kernel_rfl) (fun a hv => (wanted_is (j := 12) (b := true) (c := false) rfl rfl rfl (hv 37 (by kernel_rfl) rfl)).trans rfl) rfl))); (exact (.inr (mStep _ 40 rfl rfl rfl rfl (by kernel_rfl) (fun a hv => (wanted_is (j := 12) (b := true) (c := true) rfl rfl rfl (hv 37 (by kernel_rfl) rfl)).trans rfl) (fun a w K hb hv hK => mCall (.bool true) 13 _ _ rfl [numVal s, numD p] (cons_eq (hv 38 (by kernel_rfl) rfl) (cons_eq (hv 39 (by kernel_rfl) rfl) (rfl))) (enters Tryd.func13 rfl rfl) ((S2.out (by simp)) w) hK))))) ?_
    refine all_cons (by cases own; (exact (.inr (mSkip _ 41 rfl rfl rfl rfl (by kernel_rfl) (fun a hv => (wanted_is (j := 12) (b := true) (c := false) rfl rfl rfl (hv 37 (by kernel_rfl) rfl)).trans rfl) rfl))); (exact (.inr (mStep _ 41 rfl rfl rfl rfl (by kernel_rfl) (fun a hv => (wanted_is (j := 12) (b := true) (c := true) rfl rfl rfl (hv 37 (by kernel_rfl) rfl)).trans rfl) (fun a w K hb hv hK => mPure (.bool false) (exec_not _ _ _ _ rfl (true) (hv 40 (by kernel_rfl) rfl) w) hK))))) ?_
    refine all_cons (by cases own; (exact (.inr (mStep _ 42 rfl rfl rfl rfl (by kernel_rfl) (fun a hv => (wanted_is (j := 10) (b := false) (c := false) rfl rfl rfl (hv 35 (by kernel_rfl) rfl)).trans rfl) (fun a w K hb hv hK => mPure (.bool false) (pick_false _ _ _ _ _ rfl (hv 37 (by kernel_rfl) rfl) (.bool false) (by rfl) w) hK)))); (exact (.inr (mStep _ 42 rfl rfl rfl rfl (by kernel_rfl) (fun a hv => (wanted_is (j := 10) (b := false) (c := false) rfl rfl rfl (hv 35 (by kernel_rfl) rfl)).trans rfl) (fun a w K hb hv hK => mPure (.bool false) (pick_true _ _ _ _ _ rfl (hv 37 (by kernel_rfl) rfl) (.bool false) (hv 41 (by kernel_rfl) rfl) w) hK))))) ?_
    refine all_cons (.inr (mStep _ 43 rfl rfl rfl rfl (by kernel_rfl) (fun a hv => wanted_all rfl _) (fun a w K hb hv hK => mPure (.bool false) (pick_false _ _ _ _ _ rfl (hv 35 (by kernel_rfl) rfl) (.bool false) (hv 42 (by kernel_rfl) rfl) w) hK))) ?_
    refine all_cons (.inr (mStep _ 44 rfl rfl rfl rfl (by kernel_rfl) (fun a hv => wanted_all rfl _) (fun a w K hb hv hK => mPure (.bool false) (exec_move _ _ _ (.inl rfl) _ (hv 43 (by kernel_rfl) rfl) w) hK))) ?_
    refine all_cons (by cases own; (exact (.inr (mStep _ 45 rfl rfl rfl rfl (by kernel_rfl) (fun a hv => (wanted_is (j := 19) (b := false) (c := false) rfl rfl rfl (hv 44 (by kernel_rfl) rfl)).trans rfl) (fun a w K hb hv hK => mPure (.bool false) (exec_move _ _ _ (.inl rfl) _ (hv 7 (by kernel_rfl) rfl) w) hK)))); (exact (.inr (mStep _ 45 rfl rfl rfl rfl (by kernel_rfl) (fun a hv => (wanted_is (j := 19) (b := false) (c := false) rfl rfl rfl (hv 44 (by kernel_rfl) rfl)).trans rfl) (fun a w K hb hv hK => mPure (.bool true) (exec_move _ _ _ (.inl rfl) _ (hv 7 (by kernel_rfl) rfl) w) hK))))) ?_
    refine all_cons (by cases own; (exact (.inr (mStep _ 46 rfl rfl rfl rfl (by kernel_rfl) (fun a hv => (wanted_is (j := 19) (b := false) (c := false) rfl rfl rfl (hv 44 (by kernel_rfl) rfl)).trans rfl) (fun a w K hb hv hK => mPure (.bool true) (exec_not _ _ _ _ rfl (false) (hv 45 (by kernel_rfl) rfl) w) hK)))); (exact (.inr (mStep _ 46 rfl rfl rfl rfl (by kernel_rfl) (fun a hv => (wanted_is (j := 19) (b := false) (c := false) rfl rfl rfl (hv 44 (by kernel_rfl) rfl)).trans rfl) (fun a w K hb hv hK => mPure (.bool false) (exec_not _ _ _ _ rfl (true) (hv 45 (by kernel_rfl) rfl) w) hK))))) ?_
    refine all_cons (by cases own; (exact (.inr (mStep _ 47 rfl rfl rfl rfl (by kernel_rfl) (fun a hv => (wanted_is (j := 19) (b := false) (c := false) rfl rfl rfl (hv 44 (by kernel_rfl) rfl)).trans rfl) (fun a w K hb hv hK => mPure (.bool true) (exec_move _ _ _ (.inl rfl) _ (hv 46 (by kernel_rfl) rfl) w) hK)))); (exact (.inr (mStep _ 47 rfl rfl rfl rfl (by kernel_rfl) (fun a hv => (wanted_is (j := 19) (b := false) (c := false) rfl rfl rfl (hv 44 (by kernel_rfl) rfl)).trans rfl) (fun a w K hb hv hK => mPure (.bool false) (exec_move _ _ _ (.inl rfl) _ (hv 46 (by kernel_rfl) rfl) w) hK))))) ?_
    refine all_cons (by cases own; (exact (.inr (mStep _ 48 rfl rfl rfl rfl (by kernel_rfl) (fun a hv => (wanted_is (j := 22) (b := true) (c := true) rfl rfl rfl (hv 47 (by kernel_rfl) rfl)).trans rfl) (fun a w K hb hv hK => mPure (numVal s) (exec_load _ _ _ _ rfl _ _ (hv 8 (by kernel_rfl) rfl) w (elem_run (hvs9.on hb) Hs.out)) hK)))); (exact (.inr (mSkip _ 48 rfl rfl rfl rfl (by kernel_rfl) (fun a hv => (wanted_is (j := 22) (b := true) (c := false) rfl rfl rfl (hv 47 (by kernel_rfl) rfl)).trans rfl) rfl)))) ?_
    refine all_cons (by cases own; (exact (.inr (mStep _ 49 rfl rfl rfl rfl (by kernel_rfl) (fun a hv => (wanted_is (j := 22) (b := true) (c := true) rfl rfl rfl (hv 47 (by kernel_rfl) rfl)).trans rfl) (fun a w K hb hv hK => mCall (.bool true) 14 _ _ rfl [numVal s] (cons_eq (hv 48 (by kernel_rfl) rfl) (rfl)) (enters Tryd.func14 rfl rfl) ((CZ.out (by simp)) w) hK)))); (exact (.inr (mSkip _ 49 rfl rfl rfl rfl (by kernel_rfl) (fun a hv => (wanted_is (j := 22) (b := true) (c := false) rfl rfl rfl (hv 47 (by kernel_rfl) rfl)).trans rfl) rfl)))) ?_
    refine all_cons (by cases own; (exact (.inr (mStep _ 50 rfl rfl rfl rfl (by kernel_rfl) (fun a hv => (wanted_is (j := 22) (b := true) (c := true) rfl rfl rfl (hv 47 (by kernel_rfl) rfl)).trans rfl) (fun a w K hb hv hK => mPure (.bool false) (exec_not _ _ _ _ rfl (true) (hv 49 (by kernel_rfl) rfl) w) hK)))); (exact (.inr (mSkip _ 50 rfl rfl rfl rfl (by kernel_rfl) (fun a hv => (wanted_is (j := 22) (b := true) (c := false) rfl rfl rfl (hv 47 (by kernel_rfl) rfl)).trans rfl) rfl)))) ?_
    refine all_cons (by cases own; (exact (.inr (mStep _ 51 rfl rfl rfl rfl (by kernel_rfl) (fun a hv => (wanted_is (j := 22) (b := true) (c := true) rfl rfl rfl (hv 47 (by kernel_rfl) rfl)).trans rfl) (fun a w K hb hv hK => mPure (.bool false) (exec_move _ _ _ (.inl rfl) _ (hv 50 (by kernel_rfl) rfl) w) hK)))); (exact (.inr (mSkip _ 51 rfl rfl rfl rfl (by kernel_rfl) (fun a hv => (wanted_is (j := 22) (b := true) (c := false) rfl rfl rfl (hv 47 (by kernel_rfl) rfl)).trans rfl) rfl)))) ?_
    refine all_cons (by cases own; (exact (.inr (mStep _ 52 rfl rfl rfl rfl (by kernel_rfl) (fun a hv => (wanted_is (j := 26) (b := false) (c := false) rfl rfl rfl (hv 51 (by kernel_rfl) rfl)).trans rfl) (fun a w K hb hv hK => mPure (er) (exec_move _ _ _ (.inl rfl) _ (hv 9 (by kernel_rfl) rfl) w) hK)))); (exact (.inr (mSkip _ 52 rfl rfl rfl rfl (by kernel_rfl) (fun a hv => wanted_none (j := 26) rfl rfl rfl (hv 51 (by kernel_rfl) rfl)) rfl)))) ?_
    refine all_cons (by cases own; (exact (.inr (mStep _ 53 rfl rfl rfl rfl (by kernel_rfl) (fun a hv => (wanted_is (j := 26) (b := false) (c := false) rfl rfl rfl (hv 51 (by kernel_rfl) rfl)).trans rfl) (fun a w K hb hv hK => mCall (.int .i64 4) 15 _ _ rfl [er] (cons_eq (hv 52 (by kernel_rfl) rfl) (rfl)) (enters Tryd.func15 rfl rfl) ((CN.out (by simp)) w (hE.below (below_then hB9 hb))) hK)))); (exact (.inr (mSkip _ 53 rfl rfl rfl rfl (by kernel_rfl) (fun a hv => wanted_none (j := 26) rfl rfl rfl (hv 51 (by kernel_rfl) rfl)) rfl)))) ?_
    refine all_cons (by cases own; (exact (.inr (mStep _ 54 rfl rfl rfl rfl (by kernel_rfl) (fun a hv => (wanted_is (j := 26) (b := false) (c := false) rfl rfl rfl (hv 51 (by kernel_rfl) rfl)).trans rfl) (fun a w K hb hv hK => mPure (.bool false) (exec_bin _ _ _ _ _ _ _ rfl (.int .i64 4) (.int .i64 4) _ (hv 53 (by kernel_rfl) rfl) (by rfl) w ((fun w => by kernel_rfl) w) ((fun w => by kernel_rfl) w)) hK)))); (exact (.inr (mSkip _ 54 rfl rfl rfl rfl (by kernel_rfl) (fun a hv => wanted_none (j := 26) rfl rfl rfl (hv 51 (by kernel_rfl) rfl)) rfl)))) ?_
    refine all_cons (by cases own; (exact (.inr (mStep _ 55 rfl rfl rfl rfl (by kernel_rfl) (fun a hv => (wanted_is (j := 22) (b := true) (c := true) rfl rfl rfl (hv 47 (by kernel_rfl) rfl)).trans rfl) (fun a w K hb hv hK => mPure (.bool false) (pick_false _ _ _ _ _ rfl (hv 51 (by kernel_rfl) rfl) (.bool false) (hv 54 (by kernel_rfl) rfl) w) hK)))); (exact (.inr (mSkip _ 55 rfl rfl rfl rfl (by kernel_rfl) (fun a hv => (wanted_is (j := 22) (b := true) (c := false) rfl rfl rfl (hv 47 (by kernel_rfl) rfl)).trans rfl) rfl)))) ?_
    refine all_cons (by cases own; (exact (.inr (mStep _ 56 rfl rfl rfl rfl (by kernel_rfl) (fun a hv => (wanted_is (j := 19) (b := false) (c := false) rfl rfl rfl (hv 44 (by kernel_rfl) rfl)).trans rfl) (fun a w K hb hv hK => mPure (.bool false) (pick_true _ _ _ _ _ rfl (hv 47 (by kernel_rfl) rfl) (.bool false) (hv 55 (by kernel_rfl) rfl) w) hK)))); (exact (.inr (mStep _ 56 rfl rfl rfl rfl (by kernel_rfl) (fun a hv => (wanted_is (j := 19) (b := false) (c := false) rfl rfl rfl (hv 44 (by kernel_rfl) rfl)).trans rfl) (fun a w K hb hv hK => mPure (.bool false) (pick_false _ _ _ _ _ rfl (hv 47 (by kernel_rfl) rfl) (.bool false) (by rfl) w) hK))))) ?_
    refine all_cons (.inr (mStep _ 57 rfl rfl rfl rfl (by kernel_rfl) (fun a hv => wanted_all rfl _) (fun a w K hb hv hK => mPure (.bool false) (pick_false _ _ _ _ _ rfl (hv 44 (by kernel_rfl) rfl) (.bool false) (hv 56 (by kernel_rfl) rfl) w) hK))) ?_
    exact all_nil
  intro w10 g hb10 hN10 hap10
  clear hN10 hap10
  have hB10 := below_then hB9 hb10
  have hvk10 := hvk9.on hb10
  have hvp10 := hvp9.on hb10
  have hvx10 := hvx9.on hb10
  have hvs10 := hvs9.on hb10
  clear hB9 hvk9 hvp9 hvx9 hvs9 hb10
  refine ⟨by kernel_rfl, ?_⟩
  rename_i K hKK
  show Exit.then K _ Exit.normal (⟨(rdVs7_1 kb n w.heap.size gp gx own gs er p x pb s).toArray, []⟩ : Act) w10
  simp only [Exit.then]
  refine hKK _ _ ?_
  clear hKK K g
  simp only [rdVs7_1]
  go_wp2_with fail
  replace hvk10 := hvk10.drew
  replace hvp10 := hvp10.drew
  replace hvx10 := hvx10.drew
  replace hvs10 := hvs10.drew
  refine wp_region_any (by kernel_rfl) ?_
  refine wpAny_flatM (L := [0, 1, 2, 3, 4, 5, 6, 7, 8, 9, 10, 11, 12, 13, 14, 15, 16, 17, 18, 19, 20, 21, 22]) (by kernel_rfl) _ _ (rdVs9_2 kb n w.heap.size gp gx own gs er p x pb s sn dn od p0 pr ze zz) [] 33 (nzeros 5) [0, 1, 2, 3, 5, 6, 7, 8, 9, 10, 11, 12, 13, 14, 15, 16, 17, 18, 19, 20, 21, 22, 23, 24, 25, 26, 27, 28, 29, 30, 31, 32, 33, 34, 35, 36, 37, 38, 39, 40, 41, 42, 43, 44, 45, 46, 47, 48, 49, 50, 51, 52, 53, 54, 55, 56, 57] (by kernel_rfl) (by kernel_rfl) ?_ zero_elem ?_ (by rfl) ?_ 0 (by kernel_rfl) ?_
  · intro p hp
    exact absurd hp List.not_mem_nil
  · exact all_cons rfl (all_cons rfl (all_cons rfl (all_cons rfl (all_cons rfl (all_cons rfl (all_cons rfl (all_cons rfl (all_cons rfl (all_cons rfl (all_cons rfl (all_cons rfl (all_cons rfl (all_cons rfl (all_cons rfl (all_cons rfl (all_cons rfl (all_cons rfl (all_cons rfl (all_cons rfl (all_cons rfl (all_cons rfl (all_cons rfl (all_cons rfl (all_cons rfl (all_cons rfl (all_cons rfl (all_cons rfl (all_cons rfl (all_cons rfl (all_cons rfl (all_cons rfl (all_cons rfl (all_cons rfl (all_cons rfl (all_cons rfl (all_cons rfl (all_cons rfl (all_cons rfl (all_cons rfl (all_cons rfl (all_cons rfl (all_cons rfl (all_cons rfl (all_cons rfl (all_cons rfl (all_cons rfl (all_cons rfl (all_cons rfl (all_cons rfl (all_cons rfl (all_cons rfl (all_cons rfl (all_cons rfl (all_cons rfl (all_cons rfl (all_cons rfl (all_nil)))))))))))))))))))))))))))))))))))))))))))))))))))))))))
  · refine all_cons (.inr (mStep _ 58 rfl rfl rfl rfl (by kernel_rfl) (fun a hv => wanted_all rfl _) (fun a w K hb hv hK => mPure (.int .i64 n) (exec_move _ _ _ (.inl rfl) _ (hv 1 (by kernel_rfl) rfl) w) hK))) ?_
    refine all_cons (.inr (mStep _ 59 rfl rfl rfl rfl (by kernel_rfl) (fun a hv => wanted_all rfl _) (fun a w K hb hv hK => mCall (numVal sn) 16 _ _ rfl [.int .i64 n] (cons_eq (hv 58 (by kernel_rfl) rfl) (rfl)) (enters Tryd.func16 rfl rfl) (CSN.out w) hK))) ?_
    refine all_cons (.inr (mStep _ 60 rfl rfl rfl rfl (by kernel_rfl) (fun a hv => wanted_all rfl _) (fun a w K hb hv hK => mPure (.int .i64 n) (exec_move _ _ _ (.inl rfl) _ (hv 1 (by kernel_rfl) rfl) w) hK))) ?_
    refine all_cons (.inr (mStep _ 61 rfl rfl rfl rfl (by kernel_rfl) (fun a hv => wanted_all rfl _) (fun a w K hb hv hK => mCall (numD dn) 17 _ _ rfl [.int .i64 n] (cons_eq (hv 60 (by kernel_rfl) rfl) (rfl)) (enters Tryd.func17 rfl rfl) (CDN.out w) hK))) ?_
    refine all_cons (.inr (mStep _ 62 rfl rfl rfl rfl (by kernel_rfl) (fun a hv => wanted_all rfl _) (fun a w K hb hv hK => mCall (.bool true) 13 _ _ rfl [numVal sn, numD dn] (cons_eq (hv 59 (by kernel_rfl) rfl) (cons_eq (hv 61 (by kernel_rfl) rfl) (rfl))) (enters Tryd.func13 rfl rfl) (S3.out w) hK))) ?_
    refine all_cons (.inr (mStep _ 63 rfl rfl rfl rfl (by kernel_rfl) (fun a hv => wanted_all rfl _) (fun a w K hb hv hK => mPure (.bool true) (exec_move _ _ _ (.inl rfl) _ (hv 62 (by kernel_rfl) rfl) w) hK))) ?_
    refine all_cons (.inr (mStep _ 64 rfl rfl rfl rfl (by kernel_rfl) (fun a hv => (wanted_is (j := 5) (b := true) (c := true) rfl rfl rfl (hv 63 (by kernel_rfl) rfl)).trans rfl) (fun a w K hb hv hK => mPure (numVal x) (exec_load _ _ _ _ rfl _ _ (hv 6 (by kernel_rfl) rfl) w (elem_run (hvx10.on hb) Hx.out)) hK))) ?_
    refine all_cons (.inr (mStep _ 65 rfl rfl rfl rfl (by kernel_rfl) (fun a hv => (wanted_is (j := 5) (b := true) (c := true) rfl rfl rfl (hv 63 (by kernel_rfl) rfl)).trans rfl) (fun a w K hb hv hK => mCall (.bool od) 18 _ _ rfl [numVal x] (cons_eq (hv 64 (by kernel_rfl) rfl) (rfl)) (enters Tryd.func18 rfl rfl) (COD.out w) hK))) ?_
    refine all_cons (.inr (mStep _ 66 rfl rfl rfl rfl (by kernel_rfl) (fun a hv => (wanted_is (j := 5) (b := true) (c := true) rfl rfl rfl (hv 63 (by kernel_rfl) rfl)).trans rfl) (fun a w K hb hv hK => mPure (.pointer (some ⟨gp, 0, none⟩)) (exec_index _ _ _ _ _ rfl _ _ _ (hv 5 (by kernel_rfl) rfl) rfl w (by kernel_rfl)) hK))) ?_
    refine all_cons (.inr (mStep _ 67 rfl rfl rfl rfl (by kernel_rfl) (fun a hv => (wanted_is (j := 5) (b := true) (c := true) rfl rfl rfl (hv 63 (by kernel_rfl) rfl)).trans rfl) (fun a w K hb hv hK => mPure (dcell p0) (exec_load _ _ _ _ rfl _ _ (hv 66 (by kernel_rfl) rfl) w (load_u32 ((hvp10.on hb).get HP0.out))) hK))) ?_
    refine all_cons (.inr (mStep _ 68 rfl rfl rfl rfl (by kernel_rfl) (fun a hv => (wanted_is (j := 5) (b := true) (c := true) rfl rfl rfl (hv 63 (by kernel_rfl) rfl)).trans rfl) (fun a w K hb hv hK => mPure (dcell pr) (exec_bin _ _ _ _ _ _ _ rfl (dcell p0) (.int .u32 2) _ (hv 67 (by kernel_rfl) rfl) (by rfl) w ((fun w => by kernel_rfl) w) ((E68) w)) hK))) ?_
    refine all_cons (.inr (mStep _ 69 rfl rfl rfl rfl (by kernel_rfl) (fun a hv => (wanted_is (j := 5) (b := true) (c := true) rfl rfl rfl (hv 63 (by kernel_rfl) rfl)).trans rfl) (fun a w K hb hv hK => mPure (.bool od) (exec_bin _ _ _ _ _ _ _ rfl (dcell pr) (.int .u32 1) _ (hv 68 (by kernel_rfl) rfl) (by rfl) w ((fun w => by kernel_rfl) w) ((E69) w)) hK))) ?_
    refine all_cons (.inr (mStep _ 70 rfl rfl rfl rfl (by kernel_rfl) (fun a hv => (wanted_is (j := 5) (b := true) (c := true) rfl rfl rfl (hv 63 (by kernel_rfl) rfl)).trans rfl) (fun a w K hb hv hK => mPure (.bool true) (exec_bin _ _ _ _ _ _ _ rfl (.bool od) (.bool od) _ (hv 65 (by kernel_rfl) rfl) (hv 69 (by kernel_rfl) rfl) w ((fun w => by cases od <;> kernel_rfl) w) ((fun w => by cases od <;> kernel_rfl) w)) hK))) ?_
    refine all_cons (.inr (mStep _ 71 rfl rfl rfl rfl (by kernel_rfl) (fun a hv => wanted_all rfl _) (fun a w K hb hv hK => mPure (.bool true) (pick_true _ _ _ _ _ rfl (hv 63 (by kernel_rfl) rfl) (.bool true) (hv 70 (by kernel_rfl) rfl) w) hK))) ?_
    refine all_cons (.inr (mStep _ 72 rfl rfl rfl rfl (by kernel_rfl) (fun a hv => wanted_all rfl _) (fun a w K hb hv hK => mPure (.bool true) (exec_move _ _ _ (.inl rfl) _ (hv 71 (by kernel_rfl) rfl) w) hK))) ?_
    refine all_cons (.inr (mStep _ 73 rfl rfl rfl rfl (by kernel_rfl) (fun a hv => (wanted_is (j := 14) (b := true) (c := true) rfl rfl rfl (hv 72 (by kernel_rfl) rfl)).trans rfl) (fun a w K hb hv hK => mPure (numVal x) (exec_load _ _ _ _ rfl _ _ (hv 6 (by kernel_rfl) rfl) w (elem_run (hvx10.on hb) Hx.out)) hK))) ?_
    refine all_cons (.inr (mStep _ 74 rfl rfl rfl rfl (by kernel_rfl) (fun a hv => (wanted_is (j := 14) (b := true) (c := true) rfl rfl rfl (hv 72 (by kernel_rfl) rfl)).trans rfl) (fun a w K hb hv hK => mCall (.bool ze) 14 _ _ rfl [numVal x] (cons_eq (hv 73 (by kernel_rfl) rfl) (rfl)) (enters Tryd.func14 rfl rfl) (CZE.out w) hK))) ?_
    refine all_cons (.inr (mStep _ 75 rfl rfl rfl rfl (by kernel_rfl) (fun a hv => (wanted_is (j := 14) (b := true) (c := true) rfl rfl rfl (hv 72 (by kernel_rfl) rfl)).trans rfl) (fun a w K hb hv hK => mPure (numD p) (exec_load _ _ _ _ rfl _ _ (hv 5 (by kernel_rfl) rfl) w (num_run (hvp10.on hb) Hp.out)) hK))) ?_
    refine all_cons (.inr (mStep _ 76 rfl rfl rfl rfl (by kernel_rfl) (fun a hv => (wanted_is (j := 14) (b := true) (c := true) rfl rfl rfl (hv 72 (by kernel_rfl) rfl)).trans rfl) (fun a w K hb hv hK => mPure (numD zz) (exec_build _ _ _ [] rfl [] rfl _ w (B0 w)) hK))) ?_
    refine all_cons (.inr (mStep _ 77 rfl rfl rfl rfl (by kernel_rfl) (fun a hv => (wanted_is (j := 14) (b := true) (c := true) rfl rfl rfl (hv 72 (by kernel_rfl) rfl)).trans rfl) (fun a w K hb hv hK => mPure (.bool ze) (exec_bin _ _ _ _ _ _ _ rfl (numD p) (numD zz) _ (hv 75 (by kernel_rfl) rfl) (hv 76 (by kernel_rfl) rfl) w ((fun w => num_guard _ _ _ _ _ w) w) ((E77) w)) hK))) ?_
    refine all_cons (.inr (mStep _ 78 rfl rfl rfl rfl (by kernel_rfl) (fun a hv => (wanted_is (j := 14) (b := true) (c := true) rfl rfl rfl (hv 72 (by kernel_rfl) rfl)).trans rfl) (fun a w K hb hv hK => mPure (.bool true) (exec_bin _ _ _ _ _ _ _ rfl (.bool ze) (.bool ze) _ (hv 74 (by kernel_rfl) rfl) (hv 77 (by kernel_rfl) rfl) w ((fun w => by cases ze <;> kernel_rfl) w) ((fun w => by cases ze <;> kernel_rfl) w)) hK))) ?_
    refine all_cons (.inr (mStep _ 79 rfl rfl rfl rfl (by kernel_rfl) (fun a hv => wanted_all rfl _) (fun a w K hb hv hK => mPure (.bool true) (pick_true _ _ _ _ _ rfl (hv 72 (by kernel_rfl) rfl) (.bool true) (hv 78 (by kernel_rfl) rfl) w) hK))) ?_
    refine all_cons (.inr (mStep _ 4 rfl rfl rfl rfl (by kernel_rfl) (fun a hv => wanted_all rfl _) (fun a w K hb hv hK => mPure (.bool true) (exec_move _ _ _ (.inr rfl) _ (hv 79 (by kernel_rfl) rfl) w) hK))) ?_
    exact all_nil
  intro w11 g hb11 hN11 hap11
  clear hN11 hap11
  have hB11 := below_then (show Below w.heap.size w w10.drew from hB10.drew) hb11
  have hvk11 := hvk10.on hb11
  have hvp11 := hvp10.on hb11
  have hvx11 := hvx10.on hb11
  have hvs11 := hvs10.on hb11
  clear hB10 hvk10 hvp10 hvx10 hvs10 hb11
  refine ⟨by kernel_rfl, ?_⟩
  rename_i K hKK
  show Exit.then K _ Exit.normal (⟨(rdVs9_2 kb n w.heap.size gp gx own gs er p x pb s sn dn od p0 pr ze zz).toArray, []⟩ : Act) w11
  simp only [Exit.then]
  refine hKK _ _ ?_
  clear hKK K g
  simp only [rdVs9_2]
  go_wp2
  go_ret
  exact ⟨rfl, hB11⟩
end Go.Proofs.YtcnmohmlfffnkaaDoor.fieldReads
