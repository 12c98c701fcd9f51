/- Part 13 of what the laws of this seat share: GRoot, GRooted, UTabs. -/
import Derived.Test.YtagjbdhelfickaaDoorPart12
namespace Go.Proofs.YtagjbdhelfickaaDoor
open Go.RowKit
def rootD5 (aa : List Nat) (g_base : Nat) (gz : Nat) (go : Nat) (zz : List Nat) (one : List Nat) (p : List Nat) (m1 : List Nat) (h1 : List Nat) (pw : List Nat) (n1 : Bool) : List Value :=
  (numD aa) :: (.pointer (some ⟨g_base, 0, none⟩)) :: (.pointer (some ⟨gz, 0, none⟩)) :: (.bool false) :: (.pointer (some ⟨go, 0, none⟩)) :: undef :: undef :: (numD aa) :: (numD aa) :: (numD aa) :: (numD zz) :: (.bool false) :: undef :: (numD one) :: (numD aa) :: (numD p) :: (numD one) :: (numD m1) :: (numD h1) :: (numD pw) :: (numD one) :: (.bool n1) :: undef :: undef :: undef :: undef :: undef :: undef :: undef :: undef :: undef :: undef :: undef :: undef :: undef :: undef :: undef :: undef :: undef :: undef :: undef :: undef :: undef :: undef :: undef :: undef :: undef :: undef :: undef :: undef :: undef :: undef :: undef :: undef :: undef :: undef :: []
def rootD8_1 (aa : List Nat) (g_base : Nat) (gz : Nat) (go : Nat) (ge : Nat) (zz : List Nat) (one : List Nat) (p : List Nat) (m1 : List Nat) (h1 : List Nat) (pw : List Nat) (five : List Nat) (m5 : List Nat) (e1 : List Nat) (e2 : List Nat) (e3 : List Nat) (q : List Nat) (r0 : List Nat) : List Value :=
  (numD aa) :: (.pointer (some ⟨g_base, 0, none⟩)) :: (.pointer (some ⟨gz, 0, none⟩)) :: (.bool false) :: (.pointer (some ⟨go, 0, none⟩)) :: (.pointer (some ⟨ge, 0, none⟩)) :: undef :: (numD aa) :: (numD aa) :: (numD aa) :: (numD zz) :: (.bool false) :: undef :: (numD one) :: (numD aa) :: (numD p) :: (numD one) :: (numD m1) :: (numD h1) :: (numD pw) :: (numD one) :: (.bool false) :: undef :: (numD p) :: (numD five) :: (numD m5) :: (numD e1) :: (numD e2) :: (numD e3) :: (numD aa) :: (numD e3) :: (numD q) :: (numD aa) :: (numD r0) :: undef :: undef :: undef :: undef :: undef :: undef :: undef :: undef :: undef :: undef :: undef :: undef :: undef :: undef :: undef :: undef :: undef :: undef :: undef :: undef :: undef :: undef :: []
def rootD8_1N (aa : List Nat) (g_base : Nat) (gz : Nat) (go : Nat) (ge : Nat) (zz : List Nat) (one : List Nat) (p : List Nat) (m1 : List Nat) (h1 : List Nat) (pw : List Nat) (five : List Nat) (m5 : List Nat) (e1 : List Nat) (e2 : List Nat) (e3 : List Nat) (q : List Nat) (r0 : List Nat) (n6 : Nat) : List Value :=
  (numD aa) :: (.pointer (some ⟨g_base, 0, none⟩)) :: (.pointer (some ⟨gz, 0, none⟩)) :: (.bool false) :: (.pointer (some ⟨go, 0, none⟩)) :: (.pointer (some ⟨ge, 0, none⟩)) :: (.pointer (some ⟨n6, 0, none⟩)) :: (numD aa) :: (numD aa) :: (numD aa) :: (numD zz) :: (.bool false) :: undef :: (numD one) :: (numD aa) :: (numD p) :: (numD one) :: (numD m1) :: (numD h1) :: (numD pw) :: (numD one) :: (.bool false) :: undef :: (numD p) :: (numD five) :: (numD m5) :: (numD e1) :: (numD e2) :: (numD e3) :: (numD aa) :: (numD e3) :: (numD q) :: (numD aa) :: (numD r0) :: undef :: undef :: undef :: undef :: undef :: undef :: undef :: undef :: undef :: undef :: undef :: undef :: undef :: undef :: undef :: undef :: undef :: undef :: undef :: undef :: undef :: undef :: []
def rootD9_2 (aa : List Nat) (g_base : Nat) (gz : Nat) (go : Nat) (ge : Nat) (gr : Nat) (zz : List Nat) (one : List Nat) (p : List Nat) (m1 : List Nat) (h1 : List Nat) (pw : List Nat) (five : List Nat) (m5 : List Nat) (e1 : List Nat) (e2 : List Nat) (e3 : List Nat) (q : List Nat) (r0 : List Nat) (s : List Nat) (n2 : Bool) : List Value :=
  (numD aa) :: (.pointer (some ⟨g_base, 0, none⟩)) :: (.pointer (some ⟨gz, 0, none⟩)) :: (.bool false) :: (.pointer (some ⟨go, 0, none⟩)) :: (.pointer (some ⟨ge, 0, none⟩)) :: (.pointer (some ⟨gr, 0, none⟩)) :: (numD aa) :: (numD aa) :: (numD aa) :: (numD zz) :: (.bool false) :: undef :: (numD one) :: (numD aa) :: (numD p) :: (numD one) :: (numD m1) :: (numD h1) :: (numD pw) :: (numD one) :: (.bool false) :: undef :: (numD p) :: (numD five) :: (numD m5) :: (numD e1) :: (numD e2) :: (numD e3) :: (numD aa) :: (numD e3) :: (numD q) :: (numD aa) :: (numD r0) :: (numD r0) :: (numD r0) :: (numD s) :: (numD aa) :: (.bool n2) :: undef :: undef :: undef :: undef :: undef :: undef :: undef :: undef :: undef :: undef :: undef :: undef :: undef :: undef :: undef :: undef :: undef :: []
def rootD12_3 (aa : List Nat) (g_base : Nat) (gz : Nat) (go : Nat) (ge : Nat) (gr : Nat) (zz : List Nat) (one : List Nat) (p : List Nat) (m1 : List Nat) (h1 : List Nat) (pw : List Nat) (five : List Nat) (m5 : List Nat) (e1 : List Nat) (e2 : List Nat) (e3 : List Nat) (q : List Nat) (r0 : List Nat) (s : List Nat) (x0 : Nat) (ng0 : List Nat) : List Value :=
  (numD aa) :: (.pointer (some ⟨g_base, 0, none⟩)) :: (.pointer (some ⟨gz, 0, none⟩)) :: (.bool false) :: (.pointer (some ⟨go, 0, none⟩)) :: (.pointer (some ⟨ge, 0, none⟩)) :: (.pointer (some ⟨gr, 0, none⟩)) :: (numD aa) :: (numD aa) :: (numD aa) :: (numD zz) :: (.bool false) :: undef :: (numD one) :: (numD aa) :: (numD p) :: (numD one) :: (numD m1) :: (numD h1) :: (numD pw) :: (numD one) :: (.bool false) :: undef :: (numD p) :: (numD five) :: (numD m5) :: (numD e1) :: (numD e2) :: (numD e3) :: (numD aa) :: (numD e3) :: (numD q) :: (numD aa) :: (numD r0) :: (numD r0) :: (numD r0) :: (numD s) :: (numD aa) :: (.bool false) :: undef :: undef :: undef :: undef :: undef :: undef :: undef :: undef :: undef :: (.pointer (some ⟨gr, 0, none⟩)) :: (dcell x0) :: (dcell 1) :: (.bool true) :: (numD p) :: (numD r0) :: (numD ng0) :: undef :: []
def rootD10_4 (aa : List Nat) (g_base : Nat) (gz : Nat) (go : Nat) (ge : Nat) (gr : Nat) (zz : List Nat) (one : List Nat) (p : List Nat) (m1 : List Nat) (h1 : List Nat) (pw : List Nat) (five : List Nat) (m5 : List Nat) (e1 : List Nat) (e2 : List Nat) (e3 : List Nat) (q : List Nat) (r0 : List Nat) (s : List Nat) (two : List Nat) (h2 : List Nat) (tt : List Nat) (r1 : List Nat) : List Value :=
  (numD aa) :: (.pointer (some ⟨g_base, 0, none⟩)) :: (.pointer (some ⟨gz, 0, none⟩)) :: (.bool false) :: (.pointer (some ⟨go, 0, none⟩)) :: (.pointer (some ⟨ge, 0, none⟩)) :: (.pointer (some ⟨gr, 0, none⟩)) :: (numD aa) :: (numD aa) :: (numD aa) :: (numD zz) :: (.bool false) :: undef :: (numD one) :: (numD aa) :: (numD p) :: (numD one) :: (numD m1) :: (numD h1) :: (numD pw) :: (numD one) :: (.bool false) :: undef :: (numD p) :: (numD five) :: (numD m5) :: (numD e1) :: (numD e2) :: (numD e3) :: (numD aa) :: (numD e3) :: (numD q) :: (numD aa) :: (numD r0) :: (numD r0) :: (numD r0) :: (numD s) :: (numD aa) :: (.bool true) :: (numD r0) :: (numD two) :: (numD p) :: (numD one) :: (numD m1) :: (numD h1) :: (numD h2) :: (numD tt) :: (numD r1) :: undef :: undef :: undef :: undef :: undef :: undef :: undef :: undef :: []
def rootD12_5 (aa : List Nat) (g_base : Nat) (gz : Nat) (go : Nat) (ge : Nat) (gr : Nat) (zz : List Nat) (one : List Nat) (p : List Nat) (m1 : List Nat) (h1 : List Nat) (pw : List Nat) (five : List Nat) (m5 : List Nat) (e1 : List Nat) (e2 : List Nat) (e3 : List Nat) (q : List Nat) (r0 : List Nat) (s : List Nat) (two : List Nat) (h2 : List Nat) (tt : List Nat) (r1 : List Nat) (x1 : Nat) (ng1 : List Nat) : List Value :=
  (numD aa) :: (.pointer (some ⟨g_base, 0, none⟩)) :: (.pointer (some ⟨gz, 0, none⟩)) :: (.bool false) :: (.pointer (some ⟨go, 0, none⟩)) :: (.pointer (some ⟨ge, 0, none⟩)) :: (.pointer (some ⟨gr, 0, none⟩)) :: (numD aa) :: (numD aa) :: (numD aa) :: (numD zz) :: (.bool false) :: undef :: (numD one) :: (numD aa) :: (numD p) :: (numD one) :: (numD m1) :: (numD h1) :: (numD pw) :: (numD one) :: (.bool false) :: undef :: (numD p) :: (numD five) :: (numD m5) :: (numD e1) :: (numD e2) :: (numD e3) :: (numD aa) :: (numD e3) :: (numD q) :: (numD aa) :: (numD r0) :: (numD r0) :: (numD r0) :: (numD s) :: (numD aa) :: (.bool true) :: (numD r0) :: (numD two) :: (numD p) :: (numD one) :: (numD m1) :: (numD h1) :: (numD h2) :: (numD tt) :: (numD r1) :: (.pointer (some ⟨gr, 0, none⟩)) :: (dcell x1) :: (dcell 1) :: (.bool true) :: (numD p) :: (numD r1) :: (numD ng1) :: undef :: []
set_option maxRecDepth 100000 in
set_option maxHeartbeats 1000000 in
theorem refRoot_over (aa zz one p m1 h1 pw five m5 e1 e2 e3 q r0 s two h2 tt r1 ng0 ng1 res : List Nat) (x0 x1 : Nat) (z0 n1 n2 od0 od1 ok : Bool) (w : World)
    (Haa : Hid (aa.length = 8))
    (Hzz : Hid (zz.length = 8))
    (Hone : Hid (one.length = 8))
    (He3 : Hid (e3.length = 8))
    (Hr0 : Hid (r0.length = 8))
    (Hr1 : Hid (r1.length = 8))
    (Hng0 : Hid (ng0.length = 8))
    (Hng1 : Hid (ng1.length = 8))
    (CL : Hid (∀ W, Calls Tryd.prog 33 #[numD aa] W fun e w' => e = .returned (numD aa) ∧ Below W.heap.size W w'))
    (CP : Hid (∀ W, Calls Tryd.prog 64 #[] W fun e w' => e = .returned (numD p) ∧ Below W.heap.size W w'))
    (CM1 : Hid (∀ W, Calls Tryd.prog 65 #[numD p, numD one] W fun e w' => e = .returned (numD m1) ∧ Below W.heap.size W w'))
    (CH1 : Hid (∀ W, Calls Tryd.prog 68 #[numD m1] W fun e w' => e = .returned (numD h1) ∧ Below W.heap.size W w'))
    (CPW : Hid (∀ W, Calls Tryd.prog 67 #[numD aa, numD h1] W fun e w' => e = .returned (numD pw) ∧ Below W.heap.size W w'))
    (CM5 : Hid (∀ W, Calls Tryd.prog 65 #[numD p, numD five] W fun e w' => e = .returned (numD m5) ∧ Below W.heap.size W w'))
    (CE1 : Hid (∀ W, Calls Tryd.prog 68 #[numD m5] W fun e w' => e = .returned (numD e1) ∧ Below W.heap.size W w'))
    (CE2 : Hid (∀ W, Calls Tryd.prog 68 #[numD e1] W fun e w' => e = .returned (numD e2) ∧ Below W.heap.size W w'))
    (CE3 : Hid (∀ W, Calls Tryd.prog 68 #[numD e2] W fun e w' => e = .returned (numD e3) ∧ Below W.heap.size W w'))
    (CQ : Hid (∀ W, Calls Tryd.prog 67 #[numD aa, numD e3] W fun e w' => e = .returned (numD q) ∧ Below W.heap.size W w'))
    (CR0 : Hid (∀ W, Calls Tryd.prog 34 #[numD q, numD aa] W fun e w' => e = .returned (numD r0) ∧ Below W.heap.size W w'))
    (CS : Hid (∀ W, Calls Tryd.prog 34 #[numD r0, numD r0] W fun e w' => e = .returned (numD s) ∧ Below W.heap.size W w'))
    (CH2 : Hid (∀ W, Calls Tryd.prog 68 #[numD h1] W fun e w' => e = .returned (numD h2) ∧ Below W.heap.size W w'))
    (CTT : Hid (∀ W, Calls Tryd.prog 67 #[numD two, numD h2] W fun e w' => e = .returned (numD tt) ∧ Below W.heap.size W w'))
    (CR1 : Hid (∀ W, Calls Tryd.prog 34 #[numD r0, numD tt] W fun e w' => e = .returned (numD r1) ∧ Below W.heap.size W w'))
    (CNG0 : Hid (∀ W, Calls Tryd.prog 65 #[numD p, numD r0] W fun e w' => e = .returned (numD ng0) ∧ Below W.heap.size W w'))
    (CNG1 : Hid (∀ W, Calls Tryd.prog 65 #[numD p, numD r1] W fun e w' => e = .returned (numD ng1) ∧ Below W.heap.size W w'))
    (B0 : ∀ w, (Instr.build 38 #[]).run Tryd.prog w = .ok (numD zz) w)
    (B1 : ∀ w, (Instr.build 38 #[(0, dcell 1)]).run Tryd.prog w = .ok (numD one) w)
    (B5 : ∀ w, (Instr.build 38 #[(0, dcell 5)]).run Tryd.prog w = .ok (numD five) w)
    (B2 : ∀ w, (Instr.build 38 #[(0, dcell 2)]).run Tryd.prog w = .ok (numD two) w)
    (E0 : ∀ w, (binOp .eql 38 (numD aa) (numD zz)).run Tryd.prog w = .ok (.bool z0) w)
    (E1 : ∀ w, (binOp .neq 38 (numD pw) (numD one)).run Tryd.prog w = .ok (.bool n1) w)
    (E2 : ∀ w, (binOp .neq 38 (numD s) (numD aa)).run Tryd.prog w = .ok (.bool n2) w)
    (HX0 : Hid (r0.getD 0 0 = x0))
    (HX1 : Hid (r1.getD 0 0 = x1))
    (HO00 : Hid (od0 = false → x0 % 2 = 0))
    (HO01 : Hid (od0 = true → x0 % 2 = 1))
    (HO10 : Hid (od1 = false → x1 % 2 = 0))
    (HO11 : Hid (od1 = true → x1 % 2 = 1))
    (HPZ : Hid (z0 = true → res = aa ∧ ok = true))
    (HPN : Hid (z0 = false → n1 = true → res = zz ∧ ok = false))
    (HP00 : Hid (z0 = false → n1 = false → n2 = false → od0 = false → res = r0 ∧ ok = true))
    (HP01 : Hid (z0 = false → n1 = false → n2 = false → od0 = true → res = ng0 ∧ ok = true))
    (HP10 : Hid (z0 = false → n1 = false → n2 = true → od1 = false → res = r1 ∧ ok = true))
    (HP11 : Hid (z0 = false → n1 = false → n2 = true → od1 = true → res = ng1 ∧ ok = true)) :
    Calls Tryd.prog 35 #[numD aa] w fun e w' => e = .returned (.tuple #[numD res, .bool ok]) ∧ Below w.heap.size w w' := by
  go_enter Tryd.func35, Tryd.ntmps35
  go_wp2_with (first
    | (refine vtake_step rfl 38 (.tmp 0) rfl (aa.map dcell) rfl ?_
       intro w1 hb1 hva1
       have hB1 := hb1
       have hgea : w.heap.size ≤ w.heap.size := Nat.le_refl _
       clear  hb1
       try simp only [Act.put, List.setIfInBounds_toArray, List.set_cons_zero, List.set_cons_succ]
       skip)
    | (refine vzero_step (o := ⟨some 2, _, _, _, _, _⟩) rfl 38 rfl (dzeros 8) zero_ND ?_
       intro w2 hb2 hvz2
       have hB2 := below_then hB1 hb2
       have hgez : w.heap.size ≤ w1.heap.size := hB1.size
       have hva2 := hva1.on hb2
       have hneaz := Nat.ne_of_lt hva1.lt
       clear hB1 hva1 hb2
       try simp only [Act.put, List.setIfInBounds_toArray, List.set_cons_zero, List.set_cons_succ]
       skip)
    | (refine sget_step rfl 38 (.tmp 1) rfl w.heap.size 8 (aa.map dcell) rfl hva2 Tryd.underlying38 rfl size_ND (by rw [List.length_map, Haa.out]) ?_
       try simp only [Act.put, List.setIfInBounds_toArray, List.set_cons_zero, List.set_cons_succ]
       skip))
  generalize hqz : w1.heap.size = gz at *
  clear hqz
  refine (CL.out w2).mono ?_
  rintro e w3 ⟨rfl, hb3⟩
  have hB3 := below_then hB2 hb3
  have hva3 := hva2.on hb3
  have hvz3 := hvz2.on hb3
  clear hB2 hva2 hvz2 hb3
  cases z0
  · have hG11 : ∀ w, (eqGuard .eql 38 (.tmp 9) (.tmp 10) (.agg (aa.map dcell).toArray) (numD zz)).run Tryd.prog w = .ok () w := fun w => num_guard _ _ _ _ _ w
    have hQ11 : ∀ w, (binOp .eql 38 (.agg (aa.map dcell).toArray) (numD zz)).run Tryd.prog w = .ok (.bool false) w := E0
    go_wp2_with (first
      | (refine vset_step rfl 38 (.tmp 1) (.tmp 8) rfl w.heap.size 8 (aa.map dcell) (aa.map dcell) rfl rfl hva3 (by rw [List.length_map, Haa.out]) size_ND (by rw [List.length_map, Haa.out]) (dcells_one _) ?_
         intro w4 hb4 hva4 hz4
         have hB4 : Below w.heap.size w w4 := hB3.trans (hb4.below hgea hB3.size)
         have hvz4 := hvz3.but hb4 (Ne.symm hneaz)
         clear hB3 hva3 hb4 hz4 hvz3
         skip)
      | (refine sget_step rfl 38 (.tmp 1) rfl w.heap.size 8 (aa.map dcell) rfl hva4 Tryd.underlying38 rfl size_ND (by rw [List.length_map, Haa.out]) ?_
         try simp only [Act.put, List.setIfInBounds_toArray, List.set_cons_zero, List.set_cons_succ]
         skip)
      | (refine build_step rfl 38 [] rfl [] rfl _ B0 ?_
         try simp only [Act.put, List.setIfInBounds_toArray, List.set_cons_zero, List.set_cons_succ]
         skip)
      | (refine build_step rfl 38 _ rfl [(0, dcell 1)] rfl _ B1 ?_
         try simp only [Act.put, List.setIfInBounds_toArray, List.set_cons_zero, List.set_cons_succ]
         skip)
      | (refine vput_step rfl rfl 38 (.tmp 4) (.tmp 13) rfl rfl 8 (dzeros 8) (one.map dcell) rfl rfl zero_ND rfl size_ND (by rw [List.length_map, Hone.out]) (dcells_one _) ?_
         intro w5 hb5 hvo5
         have hB5 := below_then hB4 hb5
         have hgeo : w.heap.size ≤ w4.heap.size := hB4.size
         have hva5 := hva4.on hb5
         have hneao := Nat.ne_of_lt hva4.lt
         have hvz5 := hvz4.on hb5
         have hnezo := Nat.ne_of_lt hvz4.lt
         clear hB4 hva4 hvz4 hb5
         try simp only [Act.put, List.setIfInBounds_toArray, List.set_cons_zero, List.set_cons_succ]
         skip))
    generalize hqo : w4.heap.size = go at *
    clear hqo
    replace hva5 := hva5.drew
    replace hvz5 := hvz5.drew
    replace hvo5 := hvo5.drew
    refine wp_region_any (by kernel_rfl) ?_
    refine wpAny_flatM (L := [0, 1, 2, 3, 4, 5, 6, 7]) (by kernel_rfl) _ _ (rootD5 aa w.heap.size gz go zz one p m1 h1 pw n1) [] 38 (dzeros 8) [0, 1, 2, 3, 4, 5, 6, 7, 8, 9, 10, 11, 12, 13, 22, 23, 24, 25, 26, 27, 28, 29, 30, 31, 32, 33, 34, 35, 36, 37, 38, 39, 40, 41, 42, 43, 44, 45, 46, 47, 48, 49, 50, 51, 52, 53, 54, 55] (by kernel_rfl) (by kernel_rfl) ?_ zero_ND ?_ (by rfl) ?_ 0 (by kernel_rfl) ?_
    · intro p hp
      exact absurd hp List.not_mem_nil
    · repeat refine all_cons rfl ?_
      exact all_nil
    · refine all_cons (.inr (mStep _ 14 rfl rfl rfl rfl (by kernel_rfl) (fun a hv => wanted_all rfl _) (fun a w K hb hv hK => mPure (numD aa) (exec_load _ _ _ _ rfl _ _ (hv 1 (by kernel_rfl) rfl) w (num_run (hva5.on hb) Haa.out)) hK))) ?_
      refine all_cons (.inr (mStep _ 15 rfl rfl rfl rfl (by kernel_rfl) (fun a hv => wanted_all rfl _) (fun a w K hb hv hK => mCall (numD p) 64 _ _ rfl [] (rfl) (enters Tryd.func64 rfl rfl) (CP.out w) hK))) ?_
      refine all_cons (.inr (mStep _ 16 rfl rfl rfl rfl (by kernel_rfl) (fun a hv => wanted_all rfl _) (fun a w K hb hv hK => mPure (numD one) (exec_load _ _ _ _ rfl _ _ (hv 4 (by kernel_rfl) rfl) w (num_run (hvo5.on hb) Hone.out)) hK))) ?_
      refine all_cons (.inr (mStep _ 17 rfl rfl rfl rfl (by kernel_rfl) (fun a hv => wanted_all rfl _) (fun a w K hb hv hK => mCall (numD m1) 65 _ _ rfl [numD p, numD one] (cons_eq (hv 15 (by kernel_rfl) rfl) (cons_eq (hv 16 (by kernel_rfl) rfl) (rfl))) (enters Tryd.func65 rfl rfl) (CM1.out w) hK))) ?_
      refine all_cons (.inr (mStep _ 18 rfl rfl rfl rfl (by kernel_rfl) (fun a hv => wanted_all rfl _) (fun a w K hb hv hK => mCall (numD h1) 68 _ _ rfl [numD m1] (cons_eq (hv 17 (by kernel_rfl) rfl) (rfl)) (enters Tryd.func68 rfl rfl) (CH1.out w) hK))) ?_
      refine all_cons (.inr (mStep _ 19 rfl rfl rfl rfl (by kernel_rfl) (fun a hv => wanted_all rfl _) (fun a w K hb hv hK => mCall (numD pw) 67 _ _ rfl [numD aa, numD h1] (cons_eq (hv 14 (by kernel_rfl) rfl) (cons_eq (hv 18 (by kernel_rfl) rfl) (rfl))) (enters Tryd.func67 rfl rfl) (CPW.out w) hK))) ?_
      refine all_cons (.inr (mStep _ 20 rfl rfl rfl rfl (by kernel_rfl) (fun a hv => wanted_all rfl _) (fun a w K hb hv hK => mPure (numD one) (exec_load _ _ _ _ rfl _ _ (hv 4 (by kernel_rfl) rfl) w (num_run (hvo5.on hb) Hone.out)) hK))) ?_
      refine all_cons (.inr (mStep _ 21 rfl rfl rfl rfl (by kernel_rfl) (fun a hv => wanted_all rfl _) (fun a w K hb hv hK => mPure (.bool n1) (exec_bin _ _ _ _ _ _ _ rfl (numD pw) (numD one) _ (hv 19 (by kernel_rfl) rfl) (hv 20 (by kernel_rfl) rfl) w ((fun w => num_guard _ _ _ _ _ w) w) ((E1) w)) hK))) ?_
      exact all_nil
    intro w6 g hb6 hN6 hap6
    clear hN6 hap6
    have hB6 := below_then (show Below w.heap.size w w5.drew from hB5.drew) hb6
    have hva6 := hva5.on hb6
    have hvz6 := hvz5.on hb6
    have hvo6 := hvo5.on hb6
    clear hB5 hva5 hvz5 hvo5 hb6
    refine ⟨by kernel_rfl, ?_⟩
    rename_i K hKK
    show Exit.then K _ Exit.normal (⟨(rootD5 aa w.heap.size gz go zz one p m1 h1 pw n1).toArray, []⟩ : Act) w6
    simp only [Exit.then]
    refine hKK _ _ ?_
    clear hKK K g
    simp only [rootD5]
    cases n1
    · go_wp2_with fail
      refine (CP.out w6).mono ?_
      rintro e w7 ⟨rfl, hb7⟩
      have hB7 := below_then hB6 hb7
      have hva7 := hva6.on hb7
      have hvz7 := hvz6.on hb7
      have hvo7 := hvo6.on hb7
      clear hB6 hva6 hvz6 hvo6 hb7
      go_wp2_with (first
        | (refine build_step rfl 38 _ rfl [(0, dcell 5)] rfl _ B5 ?_
           try simp only [Act.put, List.setIfInBounds_toArray, List.set_cons_zero, List.set_cons_succ]
           skip))
      refine (CM5.out w7).mono ?_
      rintro e w8 ⟨rfl, hb8⟩
      have hB8 := below_then hB7 hb8
      have hva8 := hva7.on hb8
      have hvz8 := hvz7.on hb8
      have hvo8 := hvo7.on hb8
      clear hB7 hva7 hvz7 hvo7 hb8
      go_wp2_with fail
      refine (CE1.out w8).mono ?_
      rintro e w9 ⟨rfl, hb9⟩
      have hB9 := below_then hB8 hb9
      have hva9 := hva8.on hb9
      have hvz9 := hvz8.on hb9
      have hvo9 := hvo8.on hb9
      clear hB8 hva8 hvz8 hvo8 hb9
      go_wp2_with fail
      refine (CE2.out w9).mono ?_
      rintro e w10 ⟨rfl, hb10⟩
      have hB10 := below_then hB9 hb10
      have hva10 := hva9.on hb10
      have hvz10 := hvz9.on hb10
      have hvo10 := hvo9.on hb10
      clear hB9 hva9 hvz9 hvo9 hb10
      go_wp2_with fail
      refine (CE3.out w10).mono ?_
      rintro e w11 ⟨rfl, hb11⟩
      have hB11 := below_then hB10 hb11
      have hva11 := hva10.on hb11
      have hvz11 := hvz10.on hb11
      have hvo11 := hvo10.on hb11
      clear hB10 hva10 hvz10 hvo10 hb11
      go_wp2_with (first
        | (refine vput_step rfl rfl 38 (.tmp 5) (.tmp 28) rfl rfl 8 (dzeros 8) (e3.map dcell) rfl rfl zero_ND rfl size_ND (by rw [List.length_map, He3.out]) (dcells_one _) ?_
           intro w12 hb12 hve12
           have hB12 := below_then hB11 hb12
           have hgee : w.heap.size ≤ w11.heap.size := hB11.size
           have hva12 := hva11.on hb12
           have hneae := Nat.ne_of_lt hva11.lt
           have hvz12 := hvz11.on hb12
           have hneze := Nat.ne_of_lt hvz11.lt
           have hvo12 := hvo11.on hb12
           have hneoe := Nat.ne_of_lt hvo11.lt
           clear hB11 hva11 hvz11 hvo11 hb12
           try simp only [Act.put, List.setIfInBounds_toArray, List.set_cons_zero, List.set_cons_succ]
           skip))
      generalize hqe : w11.heap.size = ge at *
      clear hqe
      replace hva12 := hva12.drew
      replace hvz12 := hvz12.drew
      replace hvo12 := hvo12.drew
      replace hve12 := hve12.drew
      refine wp_region_any (by kernel_rfl) ?_
      refine wpAny_flatM (L := [0, 1, 2, 3, 4, 5]) (by kernel_rfl) _ _ (rootD8_1 aa w.heap.size gz go ge zz one p m1 h1 pw five m5 e1 e2 e3 q r0) [(5, 6)] 38 (dzeros 8) [0, 1, 2, 3, 4, 5, 7, 8, 9, 10, 11, 12, 13, 14, 15, 16, 17, 18, 19, 20, 21, 22, 23, 24, 25, 26, 27, 28, 34, 35, 36, 37, 38, 39, 40, 41, 42, 43, 44, 45, 46, 47, 48, 49, 50, 51, 52, 53, 54, 55] (by kernel_rfl) (by kernel_rfl) ?_ zero_ND ?_ (by rfl) ?_ 1 (by kernel_rfl) ?_
      · intro p hp
        rcases List.mem_cons.1 hp with rfl | hp
        · exact ⟨⟨_, rfl, rfl, rfl, rfl, by kernel_rfl, by kernel_rfl⟩⟩
        exact absurd hp List.not_mem_nil
      · repeat refine all_cons rfl ?_
        exact all_nil
      · refine all_cons (.inr (mStep _ 29 rfl rfl rfl rfl (by kernel_rfl) (fun a hv => wanted_all rfl _) (fun a w K hb hv hK => mPure (numD aa) (exec_load _ _ _ _ rfl _ _ (hv 1 (by kernel_rfl) rfl) w (num_run (hva12.on hb) Haa.out)) hK))) ?_
        refine all_cons (.inr (mStep _ 30 rfl rfl rfl rfl (by kernel_rfl) (fun a hv => wanted_all rfl _) (fun a w K hb hv hK => mPure (numD e3) (exec_load _ _ _ _ rfl _ _ (hv 5 (by kernel_rfl) rfl) w (num_run (hve12.on hb) He3.out)) hK))) ?_
        refine all_cons (.inr (mStep _ 31 rfl rfl rfl rfl (by kernel_rfl) (fun a hv => wanted_all rfl _) (fun a w K hb hv hK => mCall (numD q) 67 _ _ rfl [numD aa, numD e3] (cons_eq (hv 29 (by kernel_rfl) rfl) (cons_eq (hv 30 (by kernel_rfl) rfl) (rfl))) (enters Tryd.func67 rfl rfl) (CQ.out w) hK))) ?_
        refine all_cons (.inr (mStep _ 32 rfl rfl rfl rfl (by kernel_rfl) (fun a hv => wanted_all rfl _) (fun a w K hb hv hK => mPure (numD aa) (exec_load _ _ _ _ rfl _ _ (hv 1 (by kernel_rfl) rfl) w (num_run (hva12.on hb) Haa.out)) hK))) ?_
        refine all_cons (.inr (mStep _ 33 rfl rfl rfl rfl (by kernel_rfl) (fun a hv => wanted_all rfl _) (fun a w K hb hv hK => mCall (numD r0) 34 _ _ rfl [numD q, numD aa] (cons_eq (hv 31 (by kernel_rfl) rfl) (cons_eq (hv 32 (by kernel_rfl) rfl) (rfl))) (enters Tryd.func34 rfl rfl) (CR0.out w) hK))) ?_
        refine all_cons (.inl ⟨(5, 6), by simp, rfl⟩) ?_
        exact all_nil
      intro w13 g hb13 hN13 hap13
      obtain ⟨hger, hvr13⟩ := hN13 (5, 6) (by simp)
      clear hN13 hap13
      have hB13 := below_then (show Below w.heap.size w w12.drew from hB12.drew) hb13
      have hlta : w.heap.size < w12.heap.size := hva12.lt
      have hltz : gz < w12.heap.size := hvz12.lt
      have hlto : go < w12.heap.size := hvo12.lt
      have hlte : ge < w12.heap.size := hve12.lt
      have hva13 := hva12.on hb13
      have hvz13 := hvz12.on hb13
      have hvo13 := hvo12.on hb13
      have hve13 := hve12.on hb13
      rw [show withNew g [(5, 6)] (rootD8_1 aa w.heap.size gz go ge zz one p m1 h1 pw five m5 e1 e2 e3 q r0) = rootD8_1N aa w.heap.size gz go ge zz one p m1 h1 pw five m5 e1 e2 e3 q r0 (g 6) from rfl]
      replace hger : w12.heap.size ≤ g 6 := hger
      replace hvr13 : Cells w13 (g 6) (dzeros 8) 38 := hvr13
      have hnear : w.heap.size ≠ g 6 := Nat.ne_of_lt (Nat.lt_of_lt_of_le hlta hger)
      have hnezr : gz ≠ g 6 := Nat.ne_of_lt (Nat.lt_of_lt_of_le hltz hger)
      have hneor : go ≠ g 6 := Nat.ne_of_lt (Nat.lt_of_lt_of_le hlto hger)
      have hneer : ge ≠ g 6 := Nat.ne_of_lt (Nat.lt_of_lt_of_le hlte hger)
      replace hger : w.heap.size ≤ g 6 := Nat.le_trans (show w.heap.size ≤ w12.heap.size from hB12.size) hger
      clear hlta hltz hlto hlte
      generalize g 6 = gr at *
      clear hB12 hva12 hvz12 hvo12 hve12 hb13
      refine wpAny_rest 6 rfl (by kernel_rfl) ?_
      refine vset_step rfl 38 (.tmp 6) (.tmp 33) rfl gr 8 (dzeros 8) (r0.map dcell) rfl rfl hvr13 rfl size_ND (by rw [List.length_map, Hr0.out]) (dcells_one _) ?_
      intro w14 hb14 hvr14 hz14
      have hB14 : Below w.heap.size w w14 := hB13.trans (hb14.below hger hB13.size)
      have hva14 := hva13.but hb14 hnear
      have hvz14 := hvz13.but hb14 hnezr
      have hvo14 := hvo13.but hb14 hneor
      have hve14 := hve13.but hb14 hneer
      clear hB13 hvr13 hb14 hz14 hva13 hvz13 hvo13 hve13
      rename_i K hKK
      show Exit.then K _ Exit.normal (⟨(rootD8_1N aa w.heap.size gz go ge zz one p m1 h1 pw five m5 e1 e2 e3 q r0 gr).toArray, []⟩ : Act) w14
      simp only [Exit.then]
      refine hKK _ _ ?_
      clear hKK K g
      simp only [rootD8_1N]
      go_wp2_with fail
      replace hva14 := hva14.drew
      replace hvz14 := hvz14.drew
      replace hvo14 := hvo14.drew
      replace hve14 := hve14.drew
      replace hvr14 := hvr14.drew
      refine wp_region_any (by kernel_rfl) ?_
      refine wpAny_flatM (L := [0, 1, 2, 3, 4]) (by kernel_rfl) _ _ (rootD9_2 aa w.heap.size gz go ge gr zz one p m1 h1 pw five m5 e1 e2 e3 q r0 s n2) [] 38 (dzeros 8) [0, 1, 2, 3, 4, 5, 6, 7, 8, 9, 10, 11, 12, 13, 14, 15, 16, 17, 18, 19, 20, 21, 22, 23, 24, 25, 26, 27, 28, 29, 30, 31, 32, 33, 39, 40, 41, 42, 43, 44, 45, 46, 47, 48, 49, 50, 51, 52, 53, 54, 55] (by kernel_rfl) (by kernel_rfl) ?_ zero_ND ?_ (by rfl) ?_ 0 (by kernel_rfl) ?_
      · intro p hp
        exact absurd hp List.not_mem_nil
      · repeat refine all_cons rfl ?_
        exact all_nil
      · refine all_cons (.inr (mStep _ 34 rfl rfl rfl rfl (by kernel_rfl) (fun a hv => wanted_all rfl _) (fun a w K hb hv hK => mPure (numD r0) (exec_load _ _ _ _ rfl _ _ (hv 6 (by kernel_rfl) rfl) w (num_run (hvr14.on hb) Hr0.out)) hK))) ?_
        refine all_cons (.inr (mStep _ 35 rfl rfl rfl rfl (by kernel_rfl) (fun a hv => wanted_all rfl _) (fun a w K hb hv hK => mPure (numD r0) (exec_load _ _ _ _ rfl _ _ (hv 6 (by kernel_rfl) rfl) w (num_run (hvr14.on hb) Hr0.out)) hK))) ?_
        refine all_cons (.inr (mStep _ 36 rfl rfl rfl rfl (by kernel_rfl) (fun a hv => wanted_all rfl _) (fun a w K hb hv hK => mCall (numD s) 34 _ _ rfl [numD r0, numD r0] (cons_eq (hv 34 (by kernel_rfl) rfl) (cons_eq (hv 35 (by kernel_rfl) rfl) (rfl))) (enters Tryd.func34 rfl rfl) (CS.out w) hK))) ?_
        refine all_cons (.inr (mStep _ 37 rfl rfl rfl rfl (by kernel_rfl) (fun a hv => wanted_all rfl _) (fun a w K hb hv hK => mPure (numD aa) (exec_load _ _ _ _ rfl _ _ (hv 1 (by kernel_rfl) rfl) w (num_run (hva14.on hb) Haa.out)) hK))) ?_
        refine all_cons (.inr (mStep _ 38 rfl rfl rfl rfl (by kernel_rfl) (fun a hv => wanted_all rfl _) (fun a w K hb hv hK => mPure (.bool n2) (exec_bin _ _ _ _ _ _ _ rfl (numD s) (numD aa) _ (hv 36 (by kernel_rfl) rfl) (hv 37 (by kernel_rfl) rfl) w ((fun w => num_guard _ _ _ _ _ w) w) ((E2) w)) hK))) ?_
        exact all_nil
      intro w15 g hb15 hN15 hap15
      clear hN15 hap15
      have hB15 := below_then (show Below w.heap.size w w14.drew from hB14.drew) hb15
      have hva15 := hva14.on hb15
      have hvz15 := hvz14.on hb15
      have hvo15 := hvo14.on hb15
      have hve15 := hve14.on hb15
      have hvr15 := hvr14.on hb15
      clear hB14 hva14 hvz14 hvo14 hve14 hvr14 hb15
      refine ⟨by kernel_rfl, ?_⟩
      rename_i K hKK
      show Exit.then K _ Exit.normal (⟨(rootD9_2 aa w.heap.size gz go ge gr zz one p m1 h1 pw five m5 e1 e2 e3 q r0 s n2).toArray, []⟩ : Act) w15
      simp only [Exit.then]
      refine hKK _ _ ?_
      clear hKK K g
      simp only [rootD9_2]
      cases n2
      · cases od0
        · have d0 := hvr15.get (dat r0 0 (by rw [Hr0.out]; decide))
          rw [HX0.out] at d0
          have c1 : (x0 : Int).tmod 2 = 0 := by rw [Int.tmod_eq_emod_of_nonneg (by omega)]; have := HO00.out (by simp); omega
          have c2 : IntKind.u32.wrap (0 : Int) = 0 := by rw [IntKind.wrap_u32]; omega
          obtain ⟨hr1, hr2⟩ := HP00.out (by simp) (by simp) (by simp) (by simp)
          go_wp2_with (first
            | (refine sget_step rfl 38 (.tmp 6) rfl gr 8 (r0.map dcell) rfl hvr15 Tryd.underlying38 rfl size_ND (by rw [List.length_map, Hr0.out]) ?_
               try simp only [Act.put, List.setIfInBounds_toArray, List.set_cons_zero, List.set_cons_succ]
               skip)
            | (refine vset_step rfl 38 (.tmp 2) (.tmp 55) rfl gz 8 (dzeros 8) (r0.map dcell) rfl rfl hvz15 rfl size_ND (by rw [List.length_map, Hr0.out]) (dcells_one _) ?_
               intro w16 hb16 hvz16 hz16
               have hB16 : Below w.heap.size w w16 := hB15.trans (hb16.below hgez hB15.size)
               have hva16 := hva15.but hb16 hneaz
               have hvo16 := hvo15.but hb16 (Ne.symm hnezo)
               have hve16 := hve15.but hb16 (Ne.symm hneze)
               have hvr16 := hvr15.but hb16 (Ne.symm hnezr)
               clear hB15 hvz15 hb16 hz16 hva15 hvo15 hve15 hvr15
               skip))
          exact sret2 Tryd.results35 gz (r0.map dcell) _ rfl rfl hvz16 Tryd.underlying38 rfl size_ND (by rw [List.length_map, Hr0.out]) rfl ⟨by subst hr1; subst hr2; rfl, hB16⟩
        · have d0 := hvr15.get (dat r0 0 (by rw [Hr0.out]; decide))
          rw [HX0.out] at d0
          have c1 : (x0 : Int).tmod 2 = 1 := by rw [Int.tmod_eq_emod_of_nonneg (by omega)]; have := HO01.out (by simp); omega
          have c2 : IntKind.u32.wrap (1 : Int) = 1 := by rw [IntKind.wrap_u32]; omega
          go_wp2_with fail
          clear d0 c1 c2
          go_wp2_with fail
          replace hva15 := hva15.drew
          replace hvz15 := hvz15.drew
          replace hvo15 := hvo15.drew
          replace hve15 := hve15.drew
          replace hvr15 := hvr15.drew
          refine wp_region_any (by kernel_rfl) ?_
          refine wpAny_flatM (L := [0, 1, 2]) (by kernel_rfl) _ _ (rootD12_3 aa w.heap.size gz go ge gr zz one p m1 h1 pw five m5 e1 e2 e3 q r0 s x0 ng0) [] 38 (dzeros 8) [0, 1, 2, 3, 4, 5, 6, 7, 8, 9, 10, 11, 12, 13, 14, 15, 16, 17, 18, 19, 20, 21, 22, 23, 24, 25, 26, 27, 28, 29, 30, 31, 32, 33, 34, 35, 36, 37, 38, 39, 40, 41, 42, 43, 44, 45, 46, 47, 48, 49, 50, 51, 55] (by kernel_rfl) (by kernel_rfl) ?_ zero_ND ?_ (by rfl) ?_ 1 (by kernel_rfl) ?_
          · intro p hp
            exact absurd hp List.not_mem_nil
          · repeat refine all_cons rfl ?_
            exact all_nil
          · refine all_cons (.inr (mStep _ 52 rfl rfl rfl rfl (by kernel_rfl) (fun a hv => wanted_all rfl _) (fun a w K hb hv hK => mCall (numD p) 64 _ _ rfl [] (rfl) (enters Tryd.func64 rfl rfl) (CP.out w) hK))) ?_
            refine all_cons (.inr (mStep _ 53 rfl rfl rfl rfl (by kernel_rfl) (fun a hv => wanted_all rfl _) (fun a w K hb hv hK => mPure (numD r0) (exec_load _ _ _ _ rfl _ _ (hv 6 (by kernel_rfl) rfl) w (num_run (hvr15.on hb) Hr0.out)) hK))) ?_
            refine all_cons (.inr (mStep _ 54 rfl rfl rfl rfl (by kernel_rfl) (fun a hv => wanted_all rfl _) (fun a w K hb hv hK => mCall (numD ng0) 65 _ _ rfl [numD p, numD r0] (cons_eq (hv 52 (by kernel_rfl) rfl) (cons_eq (hv 53 (by kernel_rfl) rfl) (rfl))) (enters Tryd.func65 rfl rfl) (CNG0.out w) hK))) ?_
            exact all_nil
          intro w17 g hb17 hN17 hap17
          clear hN17 hap17
          have hB17 := below_then (show Below w.heap.size w w15.drew from hB15.drew) hb17
          have hva17 := hva15.on hb17
          have hvz17 := hvz15.on hb17
          have hvo17 := hvo15.on hb17
          have hve17 := hve15.on hb17
          have hvr17 := hvr15.on hb17
          clear hB15 hva15 hvz15 hvo15 hve15 hvr15 hb17
          refine wpAny_rest 3 rfl (by kernel_rfl) ?_
          refine vset_step rfl 38 (.tmp 6) (.tmp 54) rfl gr 8 (r0.map dcell) (ng0.map dcell) rfl rfl hvr17 (by rw [List.length_map, Hr0.out]) size_ND (by rw [List.length_map, Hng0.out]) (dcells_one _) ?_
          intro w18 hb18 hvr18 hz18
          have hB18 : Below w.heap.size w w18 := hB17.trans (hb18.below hger hB17.size)
          have hva18 := hva17.but hb18 hnear
          have hvz18 := hvz17.but hb18 hnezr
          have hvo18 := hvo17.but hb18 hneor
          have hve18 := hve17.but hb18 hneer
          clear hB17 hvr17 hb18 hz18 hva17 hvz17 hvo17 hve17
          rename_i K hKK
          show Exit.then K _ Exit.normal (⟨(rootD12_3 aa w.heap.size gz go ge gr zz one p m1 h1 pw five m5 e1 e2 e3 q r0 s x0 ng0).toArray, []⟩ : Act) w18
          simp only [Exit.then]
          refine hKK _ _ ?_
          clear hKK K g
          simp only [rootD12_3]
          obtain ⟨hr1, hr2⟩ := HP01.out (by simp) (by simp) (by simp) (by simp)
          go_wp2_with (first
            | (refine sget_step rfl 38 (.tmp 6) rfl gr 8 (ng0.map dcell) rfl hvr18 Tryd.underlying38 rfl size_ND (by rw [List.length_map, Hng0.out]) ?_
               try simp only [Act.put, List.setIfInBounds_toArray, List.set_cons_zero, List.set_cons_succ]
               skip)
            | (refine vset_step rfl 38 (.tmp 2) (.tmp 55) rfl gz 8 (dzeros 8) (ng0.map dcell) rfl rfl hvz18 rfl size_ND (by rw [List.length_map, Hng0.out]) (dcells_one _) ?_
               intro w19 hb19 hvz19 hz19
               have hB19 : Below w.heap.size w w19 := hB18.trans (hb19.below hgez hB18.size)
               have hva19 := hva18.but hb19 hneaz
               have hvo19 := hvo18.but hb19 (Ne.symm hnezo)
               have hve19 := hve18.but hb19 (Ne.symm hneze)
               have hvr19 := hvr18.but hb19 (Ne.symm hnezr)
               clear hB18 hvz18 hb19 hz19 hva18 hvo18 hve18 hvr18
               skip))
          exact sret2 Tryd.results35 gz (ng0.map dcell) _ rfl rfl hvz19 Tryd.underlying38 rfl size_ND (by rw [List.length_map, Hng0.out]) rfl ⟨by subst hr1; subst hr2; rfl, hB19⟩
      · go_wp2_with fail
        replace hva15 := hva15.drew
        replace hvz15 := hvz15.drew
        replace hvo15 := hvo15.drew
        replace hve15 := hve15.drew
        replace hvr15 := hvr15.drew
        refine wp_region_any (by kernel_rfl) ?_
        refine wpAny_flatM (L := [0, 1, 2, 3, 4, 5, 6, 7, 8]) (by kernel_rfl) _ _ (rootD10_4 aa w.heap.size gz go ge gr zz one p m1 h1 pw five m5 e1 e2 e3 q r0 s two h2 tt r1) [] 38 (dzeros 8) [0, 1, 2, 3, 4, 5, 6, 7, 8, 9, 10, 11, 12, 13, 14, 15, 16, 17, 18, 19, 20, 21, 22, 23, 24, 25, 26, 27, 28, 29, 30, 31, 32, 33, 34, 35, 36, 37, 38, 48, 49, 50, 51, 52, 53, 54, 55] (by kernel_rfl) (by kernel_rfl) ?_ zero_ND ?_ (by rfl) ?_ 1 (by kernel_rfl) ?_
        · intro p hp
          exact absurd hp List.not_mem_nil
        · repeat refine all_cons rfl ?_
          exact all_nil
        · refine all_cons (.inr (mStep _ 39 rfl rfl rfl rfl (by kernel_rfl) (fun a hv => wanted_all rfl _) (fun a w K hb hv hK => mPure (numD r0) (exec_load _ _ _ _ rfl _ _ (hv 6 (by kernel_rfl) rfl) w (num_run (hvr15.on hb) Hr0.out)) hK))) ?_
          refine all_cons (.inr (mStep _ 40 rfl rfl rfl rfl (by kernel_rfl) (fun a hv => wanted_all rfl _) (fun a w K hb hv hK => mPure (numD two) (exec_build _ _ _ [(0, .const (.int .u32 2))] rfl [(0, dcell 2)] rfl _ w (B2 w)) hK))) ?_
          refine all_cons (.inr (mStep _ 41 rfl rfl rfl rfl (by kernel_rfl) (fun a hv => wanted_all rfl _) (fun a w K hb hv hK => mCall (numD p) 64 _ _ rfl [] (rfl) (enters Tryd.func64 rfl rfl) (CP.out w) hK))) ?_
          refine all_cons (.inr (mStep _ 42 rfl rfl rfl rfl (by kernel_rfl) (fun a hv => wanted_all rfl _) (fun a w K hb hv hK => mPure (numD one) (exec_load _ _ _ _ rfl _ _ (hv 4 (by kernel_rfl) rfl) w (num_run (hvo15.on hb) Hone.out)) hK))) ?_
          refine all_cons (.inr (mStep _ 43 rfl rfl rfl rfl (by kernel_rfl) (fun a hv => wanted_all rfl _) (fun a w K hb hv hK => mCall (numD m1) 65 _ _ rfl [numD p, numD one] (cons_eq (hv 41 (by kernel_rfl) rfl) (cons_eq (hv 42 (by kernel_rfl) rfl) (rfl))) (enters Tryd.func65 rfl rfl) (CM1.out w) hK))) ?_
          refine all_cons (.inr (mStep _ 44 rfl rfl rfl rfl (by kernel_rfl) (fun a hv => wanted_all rfl _) (fun a w K hb hv hK => mCall (numD h1) 68 _ _ rfl [numD m1] (cons_eq (hv 43 (by kernel_rfl) rfl) (rfl)) (enters Tryd.func68 rfl rfl) (CH1.out w) hK))) ?_
          refine all_cons (.inr (mStep _ 45 rfl rfl rfl rfl (by kernel_rfl) (fun a hv => wanted_all rfl _) (fun a w K hb hv hK => mCall (numD h2) 68 _ _ rfl [numD h1] (cons_eq (hv 44 (by kernel_rfl) rfl) (rfl)) (enters Tryd.func68 rfl rfl) (CH2.out w) hK))) ?_
          refine all_cons (.inr (mStep _ 46 rfl rfl rfl rfl (by kernel_rfl) (fun a hv => wanted_all rfl _) (fun a w K hb hv hK => mCall (numD tt) 67 _ _ rfl [numD two, numD h2] (cons_eq (hv 40 (by kernel_rfl) rfl) (cons_eq (hv 45 (by kernel_rfl) rfl) (rfl))) (enters Tryd.func67 rfl rfl) (CTT.out w) hK))) ?_
          refine all_cons (.inr (mStep _ 47 rfl rfl rfl rfl (by kernel_rfl) (fun a hv => wanted_all rfl _) (fun a w K hb hv hK => mCall (numD r1) 34 _ _ rfl [numD r0, numD tt] (cons_eq (hv 39 (by kernel_rfl) rfl) (cons_eq (hv 46 (by kernel_rfl) rfl) (rfl))) (enters Tryd.func34 rfl rfl) (CR1.out w) hK))) ?_
          exact all_nil
        intro w20 g hb20 hN20 hap20
        clear hN20 hap20
        have hB20 := below_then (show Below w.heap.size w w15.drew from hB15.drew) hb20
        have hva20 := hva15.on hb20
        have hvz20 := hvz15.on hb20
        have hvo20 := hvo15.on hb20
        have hve20 := hve15.on hb20
        have hvr20 := hvr15.on hb20
        clear hB15 hva15 hvz15 hvo15 hve15 hvr15 hb20
        refine wpAny_rest 9 rfl (by kernel_rfl) ?_
        refine vset_step rfl 38 (.tmp 6) (.tmp 47) rfl gr 8 (r0.map dcell) (r1.map dcell) rfl rfl hvr20 (by rw [List.length_map, Hr0.out]) size_ND (by rw [List.length_map, Hr1.out]) (dcells_one _) ?_
        intro w21 hb21 hvr21 hz21
        have hB21 : Below w.heap.size w w21 := hB20.trans (hb21.below hger hB20.size)
        have hva21 := hva20.but hb21 hnear
        have hvz21 := hvz20.but hb21 hnezr
        have hvo21 := hvo20.but hb21 hneor
        have hve21 := hve20.but hb21 hneer
        clear hB20 hvr20 hb21 hz21 hva20 hvz20 hvo20 hve20
        rename_i K hKK
        show Exit.then K _ Exit.normal (⟨(rootD10_4 aa w.heap.size gz go ge gr zz one p m1 h1 pw five m5 e1 e2 e3 q r0 s two h2 tt r1).toArray, []⟩ : Act) w21
        simp only [Exit.then]
        refine hKK _ _ ?_
        clear hKK K g
        simp only [rootD10_4]
        cases od1
        · have d0 := hvr21.get (dat r1 0 (by rw [Hr1.out]; decide))
          rw [HX1.out] at d0
          have c1 : (x1 : Int).tmod 2 = 0 := by rw [Int.tmod_eq_emod_of_nonneg (by omega)]; have := HO10.out (by simp); omega
          have c2 : IntKind.u32.wrap (0 : Int) = 0 := by rw [IntKind.wrap_u32]; omega
          obtain ⟨hr1, hr2⟩ := HP10.out (by simp) (by simp) (by simp) (by simp)
          go_wp2_with (first
            | (refine sget_step rfl 38 (.tmp 6) rfl gr 8 (r1.map dcell) rfl hvr21 Tryd.underlying38 rfl size_ND (by rw [List.length_map, Hr1.out]) ?_
               try simp only [Act.put, List.setIfInBounds_toArray, List.set_cons_zero, List.set_cons_succ]
               skip)
            | (refine vset_step rfl 38 (.tmp 2) (.tmp 55) rfl gz 8 (dzeros 8) (r1.map dcell) rfl rfl hvz21 rfl size_ND (by rw [List.length_map, Hr1.out]) (dcells_one _) ?_
               intro w22 hb22 hvz22 hz22
               have hB22 : Below w.heap.size w w22 := hB21.trans (hb22.below hgez hB21.size)
               have hva22 := hva21.but hb22 hneaz
               have hvo22 := hvo21.but hb22 (Ne.symm hnezo)
               have hve22 := hve21.but hb22 (Ne.symm hneze)
               have hvr22 := hvr21.but hb22 (Ne.symm hnezr)
               clear hB21 hvz21 hb22 hz22 hva21 hvo21 hve21 hvr21
               skip))
          exact sret2 Tryd.results35 gz (r1.map dcell) _ rfl rfl hvz22 Tryd.underlying38 rfl size_ND (by rw [List.length_map, Hr1.out]) rfl ⟨by subst hr1; subst hr2; rfl, hB22⟩
        · have d0 := hvr21.get (dat r1 0 (by rw [Hr1.out]; decide))
          rw [HX1.out] at d0
          have c1 : (x1 : Int).tmod 2 = 1 := by rw [Int.tmod_eq_emod_of_nonneg (by omega)]; have := HO11.out (by simp); omega
          have c2 : IntKind.u32.wrap (1 : Int) = 1 := by rw [IntKind.wrap_u32]; omega
          go_wp2_with fail
          clear d0 c1 c2
          go_wp2_with fail
          replace hva21 := hva21.drew
          replace hvz21 := hvz21.drew
          replace hvo21 := hvo21.drew
          replace hve21 := hve21.drew
          replace hvr21 := hvr21.drew
          refine wp_region_any (by kernel_rfl) ?_
          refine wpAny_flatM (L := [0, 1, 2]) (by kernel_rfl) _ _ (rootD12_5 aa w.heap.size gz go ge gr zz one p m1 h1 pw five m5 e1 e2 e3 q r0 s two h2 tt r1 x1 ng1) [] 38 (dzeros 8) [0, 1, 2, 3, 4, 5, 6, 7, 8, 9, 10, 11, 12, 13, 14, 15, 16, 17, 18, 19, 20, 21, 22, 23, 24, 25, 26, 27, 28, 29, 30, 31, 32, 33, 34, 35, 36, 37, 38, 39, 40, 41, 42, 43, 44, 45, 46, 47, 48, 49, 50, 51, 55] (by kernel_rfl) (by kernel_rfl) ?_ zero_ND ?_ (by rfl) ?_ 1 (by kernel_rfl) ?_
          · intro p hp
            exact absurd hp List.not_mem_nil
          · repeat refine all_cons rfl ?_
            exact all_nil
          · refine all_cons (.inr (mStep _ 52 rfl rfl rfl rfl (by kernel_rfl) (fun a hv => wanted_all rfl _) (fun a w K hb hv hK => mCall (numD p) 64 _ _ rfl [] (rfl) (enters Tryd.func64 rfl rfl) (CP.out w) hK))) ?_
            refine all_cons (.inr (mStep _ 53 rfl rfl rfl rfl (by kernel_rfl) (fun a hv => wanted_all rfl _) (fun a w K hb hv hK => mPure (numD r1) (exec_load _ _ _ _ rfl _ _ (hv 6 (by kernel_rfl) rfl) w (num_run (hvr21.on hb) Hr1.out)) hK))) ?_
            refine all_cons (.inr (mStep _ 54 rfl rfl rfl rfl (by kernel_rfl) (fun a hv => wanted_all rfl _) (fun a w K hb hv hK => mCall (numD ng1) 65 _ _ rfl [numD p, numD r1] (cons_eq (hv 52 (by kernel_rfl) rfl) (cons_eq (hv 53 (by kernel_rfl) rfl) (rfl))) (enters Tryd.func65 rfl rfl) (CNG1.out w) hK))) ?_
            exact all_nil
          intro w23 g hb23 hN23 hap23
          clear hN23 hap23
          have hB23 := below_then (show Below w.heap.size w w21.drew from hB21.drew) hb23
          have hva23 := hva21.on hb23
          have hvz23 := hvz21.on hb23
          have hvo23 := hvo21.on hb23
          have hve23 := hve21.on hb23
          have hvr23 := hvr21.on hb23
          clear hB21 hva21 hvz21 hvo21 hve21 hvr21 hb23
          refine wpAny_rest 3 rfl (by kernel_rfl) ?_
          refine vset_step rfl 38 (.tmp 6) (.tmp 54) rfl gr 8 (r1.map dcell) (ng1.map dcell) rfl rfl hvr23 (by rw [List.length_map, Hr1.out]) size_ND (by rw [List.length_map, Hng1.out]) (dcells_one _) ?_
          intro w24 hb24 hvr24 hz24
          have hB24 : Below w.heap.size w w24 := hB23.trans (hb24.below hger hB23.size)
          have hva24 := hva23.but hb24 hnear
          have hvz24 := hvz23.but hb24 hnezr
          have hvo24 := hvo23.but hb24 hneor
          have hve24 := hve23.but hb24 hneer
          clear hB23 hvr23 hb24 hz24 hva23 hvz23 hvo23 hve23
          rename_i K hKK
          show Exit.then K _ Exit.normal (⟨(rootD12_5 aa w.heap.size gz go ge gr zz one p m1 h1 pw five m5 e1 e2 e3 q r0 s two h2 tt r1 x1 ng1).toArray, []⟩ : Act) w24
          simp only [Exit.then]
          refine hKK _ _ ?_
          clear hKK K g
          simp only [rootD12_5]
          obtain ⟨hr1, hr2⟩ := HP11.out (by simp) (by simp) (by simp) (by simp)
          go_wp2_with (first
            | (refine sget_step rfl 38 (.tmp 6) rfl gr 8 (ng1.map dcell) rfl hvr24 Tryd.underlying38 rfl size_ND (by rw [List.length_map, Hng1.out]) ?_
               try simp only [Act.put, List.setIfInBounds_toArray, List.set_cons_zero, List.set_cons_succ]
               skip)
            | (refine vset_step rfl 38 (.tmp 2) (.tmp 55) rfl gz 8 (dzeros 8) (ng1.map dcell) rfl rfl hvz24 rfl size_ND (by rw [List.length_map, Hng1.out]) (dcells_one _) ?_
               intro w25 hb25 hvz25 hz25
               have hB25 : Below w.heap.size w w25 := hB24.trans (hb25.below hgez hB24.size)
               have hva25 := hva24.but hb25 hneaz
               have hvo25 := hvo24.but hb25 (Ne.symm hnezo)
               have hve25 := hve24.but hb25 (Ne.symm hneze)
               have hvr25 := hvr24.but hb25 (Ne.symm hnezr)
               clear hB24 hvz24 hb25 hz25 hva24 hvo24 hve24 hvr24
               skip))
          exact sret2 Tryd.results35 gz (ng1.map dcell) _ rfl rfl hvz25 Tryd.underlying38 rfl size_ND (by rw [List.length_map, Hng1.out]) rfl ⟨by subst hr1; subst hr2; rfl, hB25⟩
    · obtain ⟨hr1, hr2⟩ := HPN.out (by simp) (by simp)
      go_wp2_with (first
        | (refine build_step rfl 38 [] rfl [] rfl _ B0 ?_
           try simp only [Act.put, List.setIfInBounds_toArray, List.set_cons_zero, List.set_cons_succ]
           skip)
        | (refine vset_step rfl 38 (.tmp 2) (.tmp 22) rfl gz 8 (dzeros 8) (zz.map dcell) rfl rfl hvz6 rfl size_ND (by rw [List.length_map, Hzz.out]) (dcells_one _) ?_
           intro w26 hb26 hvz26 hz26
           have hB26 : Below w.heap.size w w26 := hB6.trans (hb26.below hgez hB6.size)
           have hva26 := hva6.but hb26 hneaz
           have hvo26 := hvo6.but hb26 (Ne.symm hnezo)
           clear hB6 hvz6 hb26 hz26 hva6 hvo6
           skip))
      exact sret2 Tryd.results35 gz (zz.map dcell) _ rfl rfl hvz26 Tryd.underlying38 rfl size_ND (by rw [List.length_map, Hzz.out]) rfl ⟨by subst hr1; subst hr2; rfl, hB26⟩
  · obtain ⟨hr1, hr2⟩ := HPZ.out (by simp)
    have hG11 : ∀ w, (eqGuard .eql 38 (.tmp 9) (.tmp 10) (.agg (aa.map dcell).toArray) (numD zz)).run Tryd.prog w = .ok () w := fun w => num_guard _ _ _ _ _ w
    have hQ11 : ∀ w, (binOp .eql 38 (.agg (aa.map dcell).toArray) (numD zz)).run Tryd.prog w = .ok (.bool true) w := E0
    go_wp2_with (first
      | (refine vset_step rfl 38 (.tmp 1) (.tmp 8) rfl w.heap.size 8 (aa.map dcell) (aa.map dcell) rfl rfl hva3 (by rw [List.length_map, Haa.out]) size_ND (by rw [List.length_map, Haa.out]) (dcells_one _) ?_
         intro w4 hb4 hva4 hz4
         have hB4 : Below w.heap.size w w4 := hB3.trans (hb4.below hgea hB3.size)
         have hvz4 := hvz3.but hb4 (Ne.symm hneaz)
         clear hB3 hva3 hb4 hz4 hvz3
         skip)
      | (refine sget_step rfl 38 (.tmp 1) rfl w.heap.size 8 (aa.map dcell) rfl hva4 Tryd.underlying38 rfl size_ND (by rw [List.length_map, Haa.out]) ?_
         try simp only [Act.put, List.setIfInBounds_toArray, List.set_cons_zero, List.set_cons_succ]
         skip)
      | (refine build_step rfl 38 [] rfl [] rfl _ B0 ?_
         try simp only [Act.put, List.setIfInBounds_toArray, List.set_cons_zero, List.set_cons_succ]
         skip)
      | (refine sget_step rfl 38 (.tmp 1) rfl w.heap.size 8 (aa.map dcell) rfl hva4 Tryd.underlying38 rfl size_ND (by rw [List.length_map, Haa.out]) ?_
         try simp only [Act.put, List.setIfInBounds_toArray, List.set_cons_zero, List.set_cons_succ]
         skip)
      | (refine vset_step rfl 38 (.tmp 2) (.tmp 12) rfl gz 8 (dzeros 8) (aa.map dcell) rfl rfl hvz4 rfl size_ND (by rw [List.length_map, Haa.out]) (dcells_one _) ?_
         intro w27 hb27 hvz27 hz27
         have hB27 : Below w.heap.size w w27 := hB4.trans (hb27.below hgez hB4.size)
         have hva27 := hva4.but hb27 hneaz
         clear hB4 hvz4 hb27 hz27 hva4
         skip))
    exact sret2 Tryd.results35 gz (aa.map dcell) _ rfl rfl hvz27 Tryd.underlying38 rfl size_ND (by rw [List.length_map, Haa.out]) rfl ⟨by subst hr1; subst hr2; rfl, hB27⟩
end Go.Proofs.YtagjbdhelfickaaDoor
namespace Go.Proofs.YtagjbdhelfickaaDoor
open Go.RowKit
theorem num_neq (n m : Nat) (hn : n < mm) (hm : m < mm) (w : World) : (binOp .neq 38 (numD (nD n)) (numD (nD m))).run Tryd.prog w = .ok (.bool (!decide (n = m))) w := by
  have h := run_equalIn_nats (P := Tryd.prog) w .u32 9998 38 36 8 Tryd.underlying38 Tryd.underlying36 (fun w => by
    obtain ⟨i0, hi0, hs0⟩ := Option.map_eq_some_iff.1 size_w32
    simp [sizeOf, typeInfo, hi0, hs0]) (nD n) (nD m) rfl rfl
  have e : (nD n == nD m) = decide (n = m) := by
    by_cases h : n = m
    · rw [h, beq_self_eq_true]; simp
    · rw [decide_eq_false h, beq_eq_false_iff_ne]
      intro h2
      exact h (by rw [← pre_nD n hn, ← pre_nD m hm, h2])
  rw [e] at h
  have h2 := run_neq_struct (P := Tryd.prog) w 38 ((nD n).map dcell).toArray ((nD m).map dcell).toArray
  unfold numD
  rw [h2]
  have h3 : (Op.equalIn 10000 38 (.agg ((nD n).map dcell).toArray) (.agg ((nD m).map dcell).toArray)).run Tryd.prog w = .ok (decide (n = m)) w := h
  rw [h3]
  rfl
theorem build_ND1 (w : World) : (Instr.build 38 #[(0, dcell 1)]).run Tryd.prog w = .ok (numD (nD 1)) w := by kernel_rfl
theorem build_ND5 (w : World) : (Instr.build 38 #[(0, dcell 5)]).run Tryd.prog w = .ok (numD (nD 5)) w := by kernel_rfl
theorem build_NDz (w : World) : (Instr.build 38 #[]).run Tryd.prog w = .ok (numD (nD 0)) w := by kernel_rfl
theorem rtN_is (k : Nat) (hk : k + 1 = 7237005577332262213973186563042994240829374041602535252466099000494570602494) (n : Nat) : rtN n = NP.rt pp k ttN n := by
  have e : ∀ q, pwN n q = n ^ q % pp := fun _ => rfl
  rw [NP.rt, hk, rtN, e]
theorem isSN_is (k : Nat) (hk : k + 1 = 7237005577332262213973186563042994240829374041602535252466099000494570602494) (n : Nat) : isSN n = NP.isS pp k ttN n := by
  rw [isSN, NP.isS, rtN_is k hk]
theorem turn_power (e : Nat) (he : e = 14474011154664524427946373126085988481658748083205070504932198000989141204987) : 2 ^ e % pp = ttN := by
  have h := NP.pw_eq pp 256 2 e (by rw [he]; decide +kernel)
  rw [← h, he]
  decide +kernel
theorem turn_divides : ((pp : Nat) : Int) ∣ ((ttN : Nat) : Int) * ttN + 1 := by decide +kernel
theorem low_odd (n : Nat) : n % 4294967296 % 2 = n % 2 := by omega
theorem nD_low (n : Nat) : (nD n).getD 0 0 = n % 4294967296 := rfl
/-- What Root answers. -/
def rootN (n : Nat) : Nat := if isSN n = true then evenN (rtN n) else 0
theorem rootN_lt (n : Nat) : rootN n < pp := by
  rw [rootN]
  split
  · rw [evenN]
    split
    · exact Nat.mod_lt _ (by decide)
    · exact rtN_lt n
  · decide
theorem even_is (r b : Nat) (hr : r < pp) (h : r % 4294967296 % 2 = b) : evenN r = if b = 1 then pp - r else r := by
  rw [low_odd] at h
  rw [evenN, h]
  split
  · rename_i hb
    rw [Nat.mod_eq_of_lt]
    simp only [pp] at *
    omega
  · rfl
theorem low_even (x : Nat) (h : decide (x % 2 = 1) = false) : x % 2 = 0 := by
  have := of_decide_eq_false h
  omega
theorem rootHalves (P k : Nat) (h : P = 8 * k + 5) : (P - 1) / 2 = 4 * k + 2 ∧ (P - 5) / 2 = 4 * k ∧ 4 * k / 2 = 2 * k ∧ 2 * k / 2 = k ∧ (4 * k + 2) / 2 = 2 * k + 1 ∧ 4 * k + 2 < P ∧ 4 * k < P ∧ 2 * k < P ∧ k < P ∧ 2 * k + 1 < P ∧ 5 ≤ P ∧ 1 ≤ P := by omega
set_option maxRecDepth 100000 in
theorem refRoot_any (n : Nat) (w : World) (hn : n < pp) : Calls Tryd.prog 35 #[numD (nD n)] w fun e w' => e = .returned (.tuple #[numD (nD (rootN n)), .bool (isSN n)]) ∧ Below w.heap.size w w' := by
  obtain ⟨k, hk⟩ : ∃ k, k + 1 = 7237005577332262213973186563042994240829374041602535252466099000494570602494 := ⟨7237005577332262213973186563042994240829374041602535252466099000494570602493, by decide⟩
  have hp : pp = 8 * k + 5 := by simp only [pp]; omega
  have hm : ∀ x : Nat, x % pp < pp := fun x => Nat.mod_lt _ (by decide)
  have hpm : pp < mm := by decide
  have lm : ∀ x : Nat, x < pp → x < mm := fun x h => Nat.lt_trans h hpm
  have e0 := isSN_is k hk n
  have e1 := rtN_is k hk n
  have iff := NP.isS_iff (k := k) (t := ttN) NP.pr_P turn_divides hn
  have pe : NP.PP = pp := rfl
  rw [pe, ← e0] at iff
  obtain ⟨a1, a2, a3, a4, a5, l1, l2, l3, l4, l5, l6, l7⟩ := rootHalves pp k hp
  have kl : k < mm := lm k l4
  have hl2 : 4 * k + 2 < mm := lm _ l1
  have hl3 : 4 * k < mm := lm _ l2
  have hl4 : 2 * k < mm := lm _ l3
  have hl5 : 2 * k + 1 < mm := lm _ l5
  have lp1 : pp - 1 < mm := Nat.lt_of_le_of_lt (Nat.sub_le _ _) hpm
  have lp5 : pp - 5 < mm := Nat.lt_of_le_of_lt (Nat.sub_le _ _) hpm
  have m0 : 0 < mm := by decide
  have m1 : 1 < mm := by decide
  have hr0 : n ^ k % pp * n % pp = n ^ (k + 1) % pp := by rw [Nat.mod_mul_mod, ← Nat.pow_succ]
  have htt := turn_power (2 * k + 1) (by omega)
  have rtv : rtN n = if n ^ k % pp * n % pp * (n ^ k % pp * n % pp) % pp = n then n ^ k % pp * n % pp else n ^ k % pp * n % pp * ttN % pp := by rw [e1, NP.rt, hr0]
  generalize hA : n ^ k % pp = A at *
  have hAl : A < pp := by rw [← hA]; exact hm _
  generalize hE : n ^ (4 * k + 2) % pp = E at *
  have hEl : E < pp := by rw [← hE]; exact hm _
  have hPow : ∀ W, Calls Tryd.prog 67 #[numD (nD n), numD (nD k)] W fun e w' => e = .returned (numD (nD A)) ∧ Below W.heap.size W w' := fun W => by rw [← hA]; exact refPower_any n k W (lm n hn) kl
  have hEul : ∀ W, Calls Tryd.prog 67 #[numD (nD n), numD (nD (4 * k + 2))] W fun e w' => e = .returned (numD (nD E)) ∧ Below W.heap.size W w' := fun W => by rw [← hE]; exact refPower_any n (4 * k + 2) W (lm n hn) hl2
  have hTurn : ∀ W, Calls Tryd.prog 67 #[numD (nD 2), numD (nD (2 * k + 1))] W fun e w' => e = .returned (numD (nD ttN)) ∧ Below W.heap.size W w' := fun W => by rw [← htt]; exact refPower_any 2 (2 * k + 1) W (by decide) hl5
  have hmin : ∀ a b : Nat, a < mm → b ≤ a → ∀ W, Calls Tryd.prog 65 #[numD (nD a), numD (nD b)] W fun e w' => e = .returned (numD (nD (a - b))) ∧ Below W.heap.size W w' := fun a b ha hb W => refMinus_any a b W ha hb
  have hhalf : ∀ a b : Nat, a < mm → a / 2 = b → ∀ W, Calls Tryd.prog 68 #[numD (nD a)] W fun e w' => e = .returned (numD (nD b)) ∧ Below W.heap.size W w' := fun a b ha hb W => by rw [← hb]; exact refHalf_any a W ha
  have hleast : ∀ W, Calls Tryd.prog 33 #[numD (nD n)] W fun e w' => e = .returned (numD (nD n)) ∧ Below W.heap.size W w' := fun W => by have h := refLeast_any n W (lm n hn); rw [Nat.mod_eq_of_lt hn] at h; exact h
  clear hA hE htt e0 e1
  generalize hR : A * n % pp = R at *
  have hRl : R < pp := by rw [← hR]; exact hm _
  generalize hT : R * ttN % pp = T at *
  have hTl : T < pp := by rw [← hT]; exact hm _
  have hRm : ∀ W, Calls Tryd.prog 34 #[numD (nD A), numD (nD n)] W fun e w' => e = .returned (numD (nD R)) ∧ Below W.heap.size W w' := fun W => by rw [← hR]; exact refTimes_any A n W (lm A hAl) (lm n hn)
  have hTm : ∀ W, Calls Tryd.prog 34 #[numD (nD R), numD (nD ttN)] W fun e w' => e = .returned (numD (nD T)) ∧ Below W.heap.size W w' := fun W => by rw [← hT]; exact refTimes_any R ttN W (lm R hRl) (by decide)
  refine refRoot_over (nD n) (nD 0) (nD 1) (nD pp) (nD (pp - 1)) (nD (4 * k + 2)) (nD E) (nD 5) (nD (pp - 5)) (nD (4 * k)) (nD (2 * k)) (nD k) (nD A) (nD R) (nD (R * R % pp)) (nD 2) (nD (2 * k + 1)) (nD ttN) (nD T) (nD (pp - R)) (nD (pp - T)) (nD (rootN n)) (R % 4294967296) (T % 4294967296)
    (decide (n = 0)) (!decide (E = 1)) (!decide (R * R % pp = n)) (decide (R % 4294967296 % 2 = 1)) (decide (T % 4294967296 % 2 = 1)) (isSN n) w rfl rfl rfl rfl rfl rfl rfl rfl
    hleast refP_any (hmin pp 1 hpm l7) (hhalf (pp - 1) (4 * k + 2) lp1 a1) hEul (hmin pp 5 hpm l6) (hhalf (pp - 5) (4 * k) lp5 a2) (hhalf (4 * k) (2 * k) hl3 a3) (hhalf (2 * k) k hl4 a4)
    hPow hRm (fun W => refTimes_any R R W (lm R hRl) (lm R hRl)) (hhalf (4 * k + 2) (2 * k + 1) hl2 a5) hTurn hTm (hmin pp R hpm (Nat.le_of_lt hRl)) (hmin pp T hpm (Nat.le_of_lt hTl))
    build_NDz build_ND1 build_ND5 build_ND2 (num_eql n 0 (lm n hn) m0) (num_neq E 1 (lm E hEl) m1) (num_neq (R * R % pp) n (lm _ (hm _)) (lm n hn)) (nD_low R) (nD_low T)
    (low_even _) (fun h => of_decide_eq_true h) (low_even _) (fun h => of_decide_eq_true h)
    (fun h => ?_) (fun h1 h2 => ?_) (fun h1 h2 h3 h4 => ?_) (fun h1 h2 h3 h4 => ?_) (fun h1 h2 h3 h4 => ?_) (fun h1 h2 h3 h4 => ?_)
  · have h0 := of_decide_eq_true h
    have hs : isSN n = true := iff.2 (.inl h0)
    refine ⟨?_, hs⟩
    have hR0 : R = 0 := by rw [← hR, h0, Nat.mul_zero, Nat.zero_mod]
    have h6 : rtN n = 0 := by
      rw [rtv]
      split
      · exact hR0
      · rw [← hT, hR0, Nat.zero_mul, Nat.zero_mod]
    rw [rootN, if_pos hs, h6, h0]
    rfl
  all_goals have hz := of_decide_eq_false h1
  all_goals simp only [Bool.not_eq_true', Bool.not_eq_false', decide_eq_false_iff_not, decide_eq_true_eq] at *
  · have hs : isSN n = false := by
      rw [Bool.eq_false_iff]
      intro hs
      rcases iff.1 hs with h | h
      · exact hz h
      · exact h2 h
    refine ⟨?_, hs⟩
    rw [rootN, if_neg (by rw [hs]; decide)]
  all_goals
    have hs : isSN n = true := iff.2 (.inr h2)
    refine ⟨?_, hs⟩
    rw [rootN, if_pos hs]
  · rw [rtv, if_pos h3, even_is R 0 hRl (by omega), if_neg (by decide)]
  · rw [rtv, if_pos h3, even_is R 1 hRl h4, if_pos rfl]
  · rw [rtv, if_neg h3, even_is T 0 hTl (by omega), if_neg (by decide)]
  · rw [rtv, if_neg h3, even_is T 1 hTl h4, if_pos rfl]
theorem rootE_any (n : Nat) (w : World) (hn : n < pp) (hU : Tab w 22 ((limb5 ttN).map ncell)) :
    Calls Tryd.prog 62 #[elV n] w fun e w' => e = .returned (.tuple #[elV (rootN n), .bool (isSN n)]) ∧ Below w.heap.size w w' := by
  refine (root_any n w hn hU).mono fun e w' ⟨h1, h2⟩ => ?_
  cases h : isSN n
  · rw [rootN, if_neg (by rw [h]; decide)]; exact h2 h
  · rw [rootN, if_pos h]; exact h1 h
end Go.Proofs.YtagjbdhelfickaaDoor
namespace Go.Proofs.YtagjbdhelfickaaDoor
open Go.RowKit
def TabsU (E : Value) (w : World) : Prop := Tab w 19 ((limb5 dNat).map ncell) ∧ Tab w 20 ((limb5 baseXN).map ncell) ∧ Tab w 21 ((limb5 baseYN).map ncell) ∧ Tab w 22 ((limb5 ttN).map ncell) ∧ w.cell? ⟨0, 0, none⟩ = some E
theorem TabsU.below {E : Value} {w w' : World} (h : TabsU E w) (hb : Below w.heap.size w w') : TabsU E w' :=
  ⟨h.1.on hb, h.2.1.on hb, h.2.2.1.on hb, h.2.2.2.1.on hb, (hb.cell (block_lt_of_cell h.2.2.2.2)).trans h.2.2.2.2⟩
theorem curveU_any (E : Value) (w : World) (h : TabsU E w) : Calls Tryd.prog 52 #[] w fun e w' => e = .returned (numVal (limb5 dNat)) ∧ Below w.heap.size w w' := curveE_any _ w rfl h.1 (build_elV dNat)
theorem baseXU_any (E : Value) (w : World) (h : TabsU E w) : Calls Tryd.prog 59 #[] w fun e w' => e = .returned (numVal (limb5 baseXN)) ∧ Below w.heap.size w w' := baseXE_any _ w rfl h.2.1 (build_elV baseXN)
theorem baseYU_any (E : Value) (w : World) (h : TabsU E w) : Calls Tryd.prog 60 #[] w fun e w' => e = .returned (numVal (limb5 baseYN)) ∧ Below w.heap.size w w' := baseYE_any _ w rfl h.2.2.1 (build_elV baseYN)
theorem oneU_any (w : World) : Calls Tryd.prog 55 #[.int .i64 1] w fun e w' => e = .returned (numVal (limb5 1)) ∧ Below w.heap.size w w' := by
  have h := smallE_any 1 w (by decide) (by decide)
  rw [show smallN 1 = 1 by decide +kernel] at h
  exact h
end Go.Proofs.YtagjbdhelfickaaDoor
