/- The walk of the law PointsChains. (Made by tools/mkpts.py.) -/
import Derived.Test.YtagjbdhelfickaaDoorPart13
import Derived.Test.YtagjbdhelfickaaDoorPart14
import Derived.Deep.Cut
import Derived.IntWalk
import Derived.Test.YtagjbdhelfickaaDoorPart18
import Derived.Test.YtagjbdhelfickaaDoorPart10
import Derived.Test.YtagjbdhelfickaaDoorPart1
namespace Go.Proofs.YtagjbdhelfickaaDoor
open Go.RowKit
def chainsVs5 (ka : List UInt8) (kb : List UInt8) (n : Int) (g_base : Nat) (gb : Nat) (gp : Nat) (gv : Nat) (gq : Nat) (gu : Nat) (p : List Nat) (v : List Nat) (q : List Nat) (u : List Nat) (pq : List Nat) (qp : List Nat) (pqp : List Nat) (pp : List Nat) (ppq : List Nat) (z : List Nat) (pz : List Nat) : List Value :=
  (hashVal ka) :: (hashVal kb) :: (.int .u16 n) :: (.pointer (some ⟨g_base, 0, none⟩)) :: (.pointer (some ⟨gb, 0, none⟩)) :: undef :: (.bool false) :: (.pointer (some ⟨gp, 0, none⟩)) :: (.pointer (some ⟨gv, 0, none⟩)) :: (.pointer (some ⟨gq, 0, none⟩)) :: (.pointer (some ⟨gu, 0, none⟩)) :: undef :: undef :: (.bool true) :: (.bool false) :: (.tuple #[numVal p, numD v]) :: (hashVal ka) :: (.tuple #[numVal p, numD v]) :: (numVal p) :: (numD v) :: (.tuple #[numVal q, numD u]) :: (hashVal kb) :: (.tuple #[numVal q, numD u]) :: (numVal q) :: (numD u) :: (numVal p) :: (numVal q) :: (numVal pq) :: (numVal q) :: (numVal p) :: (numVal qp) :: (.bool true) :: (.bool false) :: (.bool false) :: (numVal p) :: (numVal q) :: (numVal pq) :: (numVal p) :: (numVal pqp) :: (numVal p) :: (numVal p) :: (numVal pp) :: (numVal q) :: (numVal ppq) :: (.bool true) :: (.bool false) :: (.bool false) :: (.bool false) :: (numVal p) :: (numVal z) :: (numVal pz) :: (numVal p) :: (.bool true) :: (.bool false) :: (.bool false) :: undef :: undef :: undef :: undef :: undef :: undef :: undef :: undef :: undef :: undef :: undef :: undef :: undef :: undef :: undef :: undef :: undef :: undef :: undef :: undef :: undef :: undef :: undef :: undef :: undef :: undef :: undef :: undef :: undef :: undef :: undef :: []
def chainsVs9_1 (ka : List UInt8) (kb : List UInt8) (n : Int) (g_base : Nat) (gb : Nat) (gp : Nat) (gv : Nat) (gq : Nat) (gu : Nat) (gk : Nat) (gm : Nat) (p : List Nat) (v : List Nat) (q : List Nat) (u : List Nat) (pq : List Nat) (qp : List Nat) (pqp : List Nat) (pp : List Nat) (ppq : List Nat) (z : List Nat) (pz : List Nat) (b0 : UInt8) (b1 : UInt8) (k1 : List UInt8) (ko : List UInt8) (tk : List Nat) (tkp : List Nat) (kn : List UInt8) (tn : List Nat) (to : List Nat) (bs : List Nat) (kl : List UInt8) (bl : List Nat) : List Value :=
  (hashVal ka) :: (hashVal kb) :: (.int .u16 n) :: (.pointer (some ⟨g_base, 0, none⟩)) :: (.pointer (some ⟨gb, 0, none⟩)) :: undef :: (.bool true) :: (.pointer (some ⟨gp, 0, none⟩)) :: (.pointer (some ⟨gv, 0, none⟩)) :: (.pointer (some ⟨gq, 0, none⟩)) :: (.pointer (some ⟨gu, 0, none⟩)) :: (.pointer (some ⟨gk, 0, none⟩)) :: (.pointer (some ⟨gm, 0, none⟩)) :: (.bool true) :: (.bool false) :: (.tuple #[numVal p, numD v]) :: (hashVal ka) :: (.tuple #[numVal p, numD v]) :: (numVal p) :: (numD v) :: (.tuple #[numVal q, numD u]) :: (hashVal kb) :: (.tuple #[numVal q, numD u]) :: (numVal q) :: (numD u) :: (numVal p) :: (numVal q) :: (numVal pq) :: (numVal q) :: (numVal p) :: (numVal qp) :: (.bool true) :: (.bool false) :: (.bool false) :: (numVal p) :: (numVal q) :: (numVal pq) :: (numVal p) :: (numVal pqp) :: (numVal p) :: (numVal p) :: (numVal pp) :: (numVal q) :: (numVal ppq) :: (.bool true) :: (.bool false) :: (.bool false) :: (.bool false) :: (numVal p) :: (numVal z) :: (numVal pz) :: (numVal p) :: (.bool true) :: (.bool false) :: (.bool false) :: (.int .u16 n) :: (.int .u8 (b0.toNat : Int)) :: (.int .u16 n) :: (.int .u16 (n / 256)) :: (.int .u8 (b1.toNat : Int)) :: (hashVal k1) :: (hashVal ko) :: (numVal p) :: (hashVal k1) :: (numVal tk) :: (numVal p) :: (numVal tkp) :: (numVal p) :: (hashVal k1) :: (hashVal kn) :: (numVal tn) :: (.bool true) :: (.bool true) :: (numVal p) :: (hashVal ko) :: (numVal to) :: (numVal p) :: (.bool true) :: (.bool true) :: (.bool true) :: (numVal bs) :: (hashVal kl) :: (numVal bl) :: (numVal z) :: (.bool true) :: (.bool true) :: []
set_option maxRecDepth 100000 in
set_option maxHeartbeats 8000000 in
theorem ptChains_over (p v q u pq qp pqp pp ppq z pz tk tkp tn to bs bl : List Nat) (ka kb k1 kn ko kl : List UInt8) (n : Int) (b0 b1 : UInt8) (E : Value) (w : World)
    (Hp : Hid (p.length = 15))
    (Hq : Hid (q.length = 15))
    (Hka : Hid (ka.length = 32))
    (Hkb : Hid (kb.length = 32))
    (Hk1 : Hid (k1.length = 32))
    (Hko : Hid (ko.length = 32))
    (Hv : Hid (v.length = 24))
    (Hu : Hid (u.length = 24))
    (HB0 : Hid (IntKind.u8.wrap n = (b0.toNat : Int)))
    (HB1 : Hid (IntKind.u8.wrap (n / 256) = (b1.toNat : Int)))
    (CAL : Hid (∀ W, TabsU E W → Calls Tryd.prog 8 #[] W fun e w' => e = .returned (.bool true) ∧ Below W.heap.size W w'))
    (CSA : Hid (∀ W, TabsU E W → Calls Tryd.prog 16 #[hashVal ka] W fun e w' => e = .returned (.tuple #[numVal p, numD v]) ∧ Below W.heap.size W w'))
    (CSB : Hid (∀ W, TabsU E W → Calls Tryd.prog 16 #[hashVal kb] W fun e w' => e = .returned (.tuple #[numVal q, numD u]) ∧ Below W.heap.size W w'))
    (CA1 : Hid (∀ W, TabsU E W → Calls Tryd.prog 17 #[numVal p, numVal q] W fun e w' => e = .returned (numVal pq) ∧ Below W.heap.size W w'))
    (CA2 : Hid (∀ W, TabsU E W → Calls Tryd.prog 17 #[numVal q, numVal p] W fun e w' => e = .returned (numVal qp) ∧ Below W.heap.size W w'))
    (CS1 : Hid (∀ W, Calls Tryd.prog 15 #[numVal pq, numVal qp] W fun e w' => e = .returned (.bool true) ∧ Below W.heap.size W w'))
    (CA3 : Hid (∀ W, TabsU E W → Calls Tryd.prog 17 #[numVal pq, numVal p] W fun e w' => e = .returned (numVal pqp) ∧ Below W.heap.size W w'))
    (CA4 : Hid (∀ W, TabsU E W → Calls Tryd.prog 17 #[numVal p, numVal p] W fun e w' => e = .returned (numVal pp) ∧ Below W.heap.size W w'))
    (CA5 : Hid (∀ W, TabsU E W → Calls Tryd.prog 17 #[numVal pp, numVal q] W fun e w' => e = .returned (numVal ppq) ∧ Below W.heap.size W w'))
    (CS2 : Hid (∀ W, Calls Tryd.prog 15 #[numVal pqp, numVal ppq] W fun e w' => e = .returned (.bool true) ∧ Below W.heap.size W w'))
    (CZ : Hid (∀ W, Calls Tryd.prog 20 #[] W fun e w' => e = .returned (numVal z) ∧ Below W.heap.size W w'))
    (CA6 : Hid (∀ W, TabsU E W → Calls Tryd.prog 17 #[numVal p, numVal z] W fun e w' => e = .returned (numVal pz) ∧ Below W.heap.size W w'))
    (CS3 : Hid (∀ W, Calls Tryd.prog 15 #[numVal pz, numVal p] W fun e w' => e = .returned (.bool true) ∧ Below W.heap.size W w'))
    (CT1 : Hid (∀ W, TabsU E W → Calls Tryd.prog 21 #[numVal p, hashVal k1] W fun e w' => e = .returned (numVal tk) ∧ Below W.heap.size W w'))
    (CA7 : Hid (∀ W, TabsU E W → Calls Tryd.prog 17 #[numVal tk, numVal p] W fun e w' => e = .returned (numVal tkp) ∧ Below W.heap.size W w'))
    (CP : Hid (∀ W, Calls Tryd.prog 26 #[hashVal k1] W fun e w' => e = .returned (hashVal kn) ∧ Below W.heap.size W w'))
    (CT2 : Hid (∀ W, TabsU E W → Calls Tryd.prog 21 #[numVal p, hashVal kn] W fun e w' => e = .returned (numVal tn) ∧ Below W.heap.size W w'))
    (CS4 : Hid (∀ W, Calls Tryd.prog 15 #[numVal tkp, numVal tn] W fun e w' => e = .returned (.bool true) ∧ Below W.heap.size W w'))
    (CT3 : Hid (∀ W, TabsU E W → Calls Tryd.prog 21 #[numVal p, hashVal ko] W fun e w' => e = .returned (numVal to) ∧ Below W.heap.size W w'))
    (CS5 : Hid (∀ W, Calls Tryd.prog 15 #[numVal to, numVal p] W fun e w' => e = .returned (.bool true) ∧ Below W.heap.size W w'))
    (CB : Hid (∀ W, TabsU E W → Calls Tryd.prog 25 #[] W fun e w' => e = .returned (numVal bs) ∧ Below W.heap.size W w'))
    (CL : Hid (∀ W, Calls Tryd.prog 27 #[] W fun e w' => e = .returned (hashVal kl) ∧ Below W.heap.size W w'))
    (CT4 : Hid (∀ W, TabsU E W → Calls Tryd.prog 21 #[numVal bs, hashVal kl] W fun e w' => e = .returned (numVal bl) ∧ Below W.heap.size W w'))
    (CS6 : Hid (∀ W, Calls Tryd.prog 15 #[numVal bl, numVal z] W fun e w' => e = .returned (.bool true) ∧ Below W.heap.size W w'))
    (BK : ∀ w, (Instr.build 23 #[(0, .int .u8 (b0.toNat : Int)), (1, .int .u8 (b1.toNat : Int))]).run Tryd.prog w = .ok (hashVal k1) w)
    (BO : ∀ w, (Instr.build 23 #[(0, .int .u8 1)]).run Tryd.prog w = .ok (hashVal ko) w)
    (hS : TabsU E w) :
    Calls Tryd.prog 7 #[hashVal ka, hashVal kb, .int .u16 n] w fun e w' => e = .returned (.bool true) ∧ Below w.heap.size w w' := by
  go_enter Tryd.func7, Tryd.ntmps7
  go_wp2_with (first
    | (refine take_step rfl 23 (.tmp 0) rfl ka rfl ?_
       intro w1 hb1 hva1 hz
       clear hz
       have hB1 := hb1
       have hgea : w.heap.size ≤ w.heap.size := Nat.le_refl _
       clear  hb1
       try simp only [Act.put, List.setIfInBounds_toArray, List.set_cons_zero, List.set_cons_succ]
       skip)
    | (refine take_step rfl 23 (.tmp 1) rfl kb rfl ?_
       intro w2 hb2 hvb2 hz
       clear hz
       have hB2 := below_then hB1 hb2
       have hgeb : w.heap.size ≤ w1.heap.size := hB1.size
       have hva2 := hva1.on hb2
       have hneab := Nat.ne_of_lt hva1.lt
       clear hB1 hva1 hb2
       try simp only [Act.put, List.setIfInBounds_toArray, List.set_cons_zero, List.set_cons_succ]
       skip))
  generalize hqb : w1.heap.size = gb at *
  clear hqb
  refine (CAL.out w2 (hS.below hB2)).mono ?_
  rintro e w3 ⟨rfl, hb3⟩
  have hB3 := below_then hB2 hb3
  have hva3 := hva2.on hb3
  have hvb3 := hvb2.on hb3
  clear hB2 hva2 hvb2 hb3
  go_wp2_with (first
    | (refine get_step rfl 23 (.tmp 3) rfl w.heap.size 32 ka 5 rfl hva3 Tryd.underlying23 size_k32 Hka.out ?_
       try simp only [Act.put, List.setIfInBounds_toArray, List.set_cons_zero, List.set_cons_succ]
       skip))
  refine (CSA.out w3 (hS.below hB3)).mono ?_
  rintro e w4 ⟨rfl, hb4⟩
  have hB4 := below_then hB3 hb4
  have hva4 := hva3.on hb4
  have hvb4 := hvb3.on hb4
  clear hB3 hva3 hvb3 hb4
  go_wp2_with (first
    | (refine vzero_step (o := ⟨some 7, _, _, _, _, _⟩) rfl 31 rfl (nzeros 15) zero_up ?_
       intro w5 hb5 hvp5
       have hB5 := below_then hB4 hb5
       have hgep : w.heap.size ≤ w4.heap.size := hB4.size
       have hva5 := hva4.on hb5
       have hneap := Nat.ne_of_lt hva4.lt
       have hvb5 := hvb4.on hb5
       have hnebp := Nat.ne_of_lt hvb4.lt
       clear hB4 hva4 hvb4 hb5
       try simp only [Act.put, List.setIfInBounds_toArray, List.set_cons_zero, List.set_cons_succ]
       skip)
    | (refine vzero_step (o := ⟨some 8, _, _, _, _, _⟩) rfl 40 rfl (dzeros 24) zero_tri ?_
       intro w6 hb6 hvv6
       have hB6 := below_then hB5 hb6
       have hgev : w.heap.size ≤ w5.heap.size := hB5.size
       have hva6 := hva5.on hb6
       have hneav := Nat.ne_of_lt hva5.lt
       have hvb6 := hvb5.on hb6
       have hnebv := Nat.ne_of_lt hvb5.lt
       have hvp6 := hvp5.on hb6
       have hnepv := Nat.ne_of_lt hvp5.lt
       clear hB5 hva5 hvb5 hvp5 hb6
       try simp only [Act.put, List.setIfInBounds_toArray, List.set_cons_zero, List.set_cons_succ]
       skip)
    | (refine vset_step rfl 31 (.tmp 7) (.tmp 18) rfl w4.heap.size 15 (nzeros 15) (p.map ncell) rfl rfl hvp6 rfl size_up (by rw [List.length_map, Hp.out]) (ncells_one _) ?_
       intro w7 hb7 hvp7 hz7
       have hB7 : Below w.heap.size w w7 := hB6.trans (hb7.below hgep hB6.size)
       have hva7 := hva6.but hb7 hneap
       have hvb7 := hvb6.but hb7 hnebp
       have hvv7 := hvv6.but hb7 (Ne.symm hnepv)
       clear hB6 hvp6 hb7 hz7 hva6 hvb6 hvv6
       skip)
    | (refine vset_step rfl 40 (.tmp 8) (.tmp 19) rfl w5.heap.size 24 (dzeros 24) (v.map dcell) rfl rfl hvv7 rfl size_tri (by rw [List.length_map, Hv.out]) (dcells_one _) ?_
       intro w8 hb8 hvv8 hz8
       have hB8 : Below w.heap.size w w8 := hB7.trans (hb8.below hgev hB7.size)
       have hva8 := hva7.but hb8 hneav
       have hvb8 := hvb7.but hb8 hnebv
       have hvp8 := hvp7.but hb8 hnepv
       clear hB7 hvv7 hb8 hz8 hva7 hvb7 hvp7
       skip)
    | (refine get_step rfl 23 (.tmp 4) rfl gb 32 kb 5 rfl hvb8 Tryd.underlying23 size_k32 Hkb.out ?_
       try simp only [Act.put, List.setIfInBounds_toArray, List.set_cons_zero, List.set_cons_succ]
       skip))
  generalize hqp : w4.heap.size = gp at *
  clear hqp
  generalize hqv : w5.heap.size = gv at *
  clear hqv
  refine (CSB.out w8 (hS.below hB8)).mono ?_
  rintro e w9 ⟨rfl, hb9⟩
  have hB9 := below_then hB8 hb9
  have hva9 := hva8.on hb9
  have hvb9 := hvb8.on hb9
  have hvp9 := hvp8.on hb9
  have hvv9 := hvv8.on hb9
  clear hB8 hva8 hvb8 hvp8 hvv8 hb9
  go_wp2_with (first
    | (refine vzero_step (o := ⟨some 9, _, _, _, _, _⟩) rfl 31 rfl (nzeros 15) zero_up ?_
       intro w10 hb10 hvq10
       have hB10 := below_then hB9 hb10
       have hgeq : w.heap.size ≤ w9.heap.size := hB9.size
       have hva10 := hva9.on hb10
       have hneaq := Nat.ne_of_lt hva9.lt
       have hvb10 := hvb9.on hb10
       have hnebq := Nat.ne_of_lt hvb9.lt
       have hvp10 := hvp9.on hb10
       have hnepq := Nat.ne_of_lt hvp9.lt
       have hvv10 := hvv9.on hb10
       have hnevq := Nat.ne_of_lt hvv9.lt
       clear hB9 hva9 hvb9 hvp9 hvv9 hb10
       try simp only [Act.put, List.setIfInBounds_toArray, List.set_cons_zero, List.set_cons_succ]
       skip)
    | (refine vzero_step (o := ⟨some 10, _, _, _, _, _⟩) rfl 40 rfl (dzeros 24) zero_tri ?_
       intro w11 hb11 hvu11
       have hB11 := below_then hB10 hb11
       have hgeu : w.heap.size ≤ w10.heap.size := hB10.size
       have hva11 := hva10.on hb11
       have hneau := Nat.ne_of_lt hva10.lt
       have hvb11 := hvb10.on hb11
       have hnebu := Nat.ne_of_lt hvb10.lt
       have hvp11 := hvp10.on hb11
       have hnepu := Nat.ne_of_lt hvp10.lt
       have hvv11 := hvv10.on hb11
       have hnevu := Nat.ne_of_lt hvv10.lt
       have hvq11 := hvq10.on hb11
       have hnequ := Nat.ne_of_lt hvq10.lt
       clear hB10 hva10 hvb10 hvp10 hvv10 hvq10 hb11
       try simp only [Act.put, List.setIfInBounds_toArray, List.set_cons_zero, List.set_cons_succ]
       skip)
    | (refine vset_step rfl 31 (.tmp 9) (.tmp 23) rfl w9.heap.size 15 (nzeros 15) (q.map ncell) rfl rfl hvq11 rfl size_up (by rw [List.length_map, Hq.out]) (ncells_one _) ?_
       intro w12 hb12 hvq12 hz12
       have hB12 : Below w.heap.size w w12 := hB11.trans (hb12.below hgeq hB11.size)
       have hva12 := hva11.but hb12 hneaq
       have hvb12 := hvb11.but hb12 hnebq
       have hvp12 := hvp11.but hb12 hnepq
       have hvv12 := hvv11.but hb12 hnevq
       have hvu12 := hvu11.but hb12 (Ne.symm hnequ)
       clear hB11 hvq11 hb12 hz12 hva11 hvb11 hvp11 hvv11 hvu11
       skip)
    | (refine vset_step rfl 40 (.tmp 10) (.tmp 24) rfl w10.heap.size 24 (dzeros 24) (u.map dcell) rfl rfl hvu12 rfl size_tri (by rw [List.length_map, Hu.out]) (dcells_one _) ?_
       intro w13 hb13 hvu13 hz13
       have hB13 : Below w.heap.size w w13 := hB12.trans (hb13.below hgeu hB12.size)
       have hva13 := hva12.but hb13 hneau
       have hvb13 := hvb12.but hb13 hnebu
       have hvp13 := hvp12.but hb13 hnepu
       have hvv13 := hvv12.but hb13 hnevu
       have hvq13 := hvq12.but hb13 hnequ
       clear hB12 hvu12 hb13 hz13 hva12 hvb12 hvp12 hvv12 hvq12
       skip))
  generalize hqq : w9.heap.size = gq at *
  clear hqq
  generalize hqu : w10.heap.size = gu at *
  clear hqu
  replace hva13 := hva13.drew
  replace hvb13 := hvb13.drew
  replace hvp13 := hvp13.drew
  replace hvv13 := hvv13.drew
  replace hvq13 := hvq13.drew
  replace hvu13 := hvu13.drew
  have hBq := (show Below w.heap.size w w13.drew from hB13.drew)
  refine wp_region_any (by kernel_rfl) ?_
  refine wpAny_flatM (L := [0, 1, 2, 3, 4, 5, 6, 7, 8, 9, 10, 11, 12, 13, 14, 15, 16, 17, 18, 19, 20, 21, 22, 23, 24, 25, 26, 27, 28, 29]) (by kernel_rfl) _ _ (chainsVs5 ka kb n w.heap.size gb gp gv gq gu p v q u pq qp pqp pp ppq z pz) [] 23 kzeros [0, 1, 2, 3, 4, 5, 6, 7, 8, 9, 10, 11, 12, 13, 14, 15, 16, 17, 18, 19, 20, 21, 22, 23, 24, 55, 56, 57, 58, 59, 60, 61, 62, 63, 64, 65, 66, 67, 68, 69, 70, 71, 72, 73, 74, 75, 76, 77, 78, 79, 80, 81, 82, 83, 84, 85] (by kernel_rfl) (by kernel_rfl) ?_ zero_k32 ?_ (by rfl) ?_ 0 (by kernel_rfl) ?_
  · intro p hp
    exact absurd hp List.not_mem_nil
  · exact all_cons rfl (all_cons rfl (all_cons rfl (all_cons rfl (all_cons rfl (all_cons rfl (all_cons rfl (all_cons rfl (all_cons rfl (all_cons rfl (all_cons rfl (all_cons rfl (all_cons rfl (all_cons rfl (all_cons rfl (all_cons rfl (all_cons rfl (all_cons rfl (all_cons rfl (all_cons rfl (all_cons rfl (all_cons rfl (all_cons rfl (all_cons rfl (all_cons rfl (all_cons rfl (all_cons rfl (all_cons rfl (all_cons rfl (all_cons rfl (all_cons rfl (all_cons rfl (all_cons rfl (all_cons rfl (all_cons rfl (all_cons rfl (all_cons rfl (all_cons rfl (all_cons rfl (all_cons rfl (all_cons rfl (all_cons rfl (all_cons rfl (all_cons rfl (all_cons rfl (all_cons rfl (all_cons rfl (all_cons rfl (all_cons rfl (all_cons rfl (all_cons rfl (all_cons rfl (all_cons rfl (all_cons rfl (all_cons rfl (all_cons rfl (all_nil))))))))))))))))))))))))))))))))))))))))))))))))))))))))
  · refine all_cons (.inr (mStep _ 25 rfl rfl rfl rfl (by kernel_rfl) (fun a hv => wanted_all rfl _) (fun a w K hb hv hK => mPure (numVal p) (exec_load _ _ _ _ rfl _ _ (hv 7 (by kernel_rfl) rfl) w (up_run (hvp13.on hb) Hp.out)) hK))) ?_
    refine all_cons (.inr (mStep _ 26 rfl rfl rfl rfl (by kernel_rfl) (fun a hv => wanted_all rfl _) (fun a w K hb hv hK => mPure (numVal q) (exec_load _ _ _ _ rfl _ _ (hv 9 (by kernel_rfl) rfl) w (up_run (hvq13.on hb) Hq.out)) hK))) ?_
    refine all_cons (.inr (mStep _ 27 rfl rfl rfl rfl (by kernel_rfl) (fun a hv => wanted_all rfl _) (fun a w K hb hv hK => mCall (numVal pq) 17 _ _ rfl [numVal p, numVal q] (cons_eq (hv 25 (by kernel_rfl) rfl) (cons_eq (hv 26 (by kernel_rfl) rfl) (rfl))) (enters Tryd.func17 rfl rfl) (CA1.out w (hS.below (below_then hBq hb))) hK))) ?_
    refine all_cons (.inr (mStep _ 28 rfl rfl rfl rfl (by kernel_rfl) (fun a hv => wanted_all rfl _) (fun a w K hb hv hK => mPure (numVal q) (exec_load _ _ _ _ rfl _ _ (hv 9 (by kernel_rfl) rfl) w (up_run (hvq13.on hb) Hq.out)) hK))) ?_
    refine all_cons (.inr (mStep _ 29 rfl rfl rfl rfl (by kernel_rfl) (fun a hv => wanted_all rfl _) (fun a w K hb hv hK => mPure (numVal p) (exec_load _ _ _ _ rfl _ _ (hv 7 (by kernel_rfl) rfl) w (up_run (hvp13.on hb) Hp.out)) hK))) ?_
    refine all_cons (.inr (mStep _ 30 rfl rfl rfl rfl (by kernel_rfl) (fun a hv => wanted_all rfl _) (fun a w K hb hv hK => mCall (numVal qp) 17 _ _ rfl [numVal q, numVal p] (cons_eq (hv 28 (by kernel_rfl) rfl) (cons_eq (hv 29 (by kernel_rfl) rfl) (rfl))) (enters Tryd.func17 rfl rfl) (CA2.out w (hS.below (below_then hBq hb))) hK))) ?_
    refine all_cons (.inr (mStep _ 31 rfl rfl rfl rfl (by kernel_rfl) (fun a hv => wanted_all rfl _) (fun a w K hb hv hK => mCall (.bool true) 15 _ _ rfl [numVal pq, numVal qp] (cons_eq (hv 27 (by kernel_rfl) rfl) (cons_eq (hv 30 (by kernel_rfl) rfl) (rfl))) (enters Tryd.func15 rfl rfl) (CS1.out w) hK))) ?_
    refine all_cons (.inr (mStep _ 32 rfl rfl rfl rfl (by kernel_rfl) (fun a hv => wanted_all rfl _) (fun a w K hb hv hK => mPure (.bool false) (exec_not _ _ _ _ rfl (true) (hv 31 (by kernel_rfl) rfl) w) hK))) ?_
    refine all_cons (.inr (mStep _ 33 rfl rfl rfl rfl (by kernel_rfl) (fun a hv => wanted_all rfl _) (fun a w K hb hv hK => mPure (.bool false) (exec_move _ _ _ (.inl rfl) _ (hv 32 (by kernel_rfl) rfl) w) hK))) ?_
    refine all_cons (.inr (mStep _ 34 rfl rfl rfl rfl (by kernel_rfl) (fun a hv => (wanted_is (j := 8) (b := false) (c := false) rfl rfl rfl (hv 33 (by kernel_rfl) rfl)).trans rfl) (fun a w K hb hv hK => mPure (numVal p) (exec_load _ _ _ _ rfl _ _ (hv 7 (by kernel_rfl) rfl) w (up_run (hvp13.on hb) Hp.out)) hK))) ?_
    refine all_cons (.inr (mStep _ 35 rfl rfl rfl rfl (by kernel_rfl) (fun a hv => (wanted_is (j := 8) (b := false) (c := false) rfl rfl rfl (hv 33 (by kernel_rfl) rfl)).trans rfl) (fun a w K hb hv hK => mPure (numVal q) (exec_load _ _ _ _ rfl _ _ (hv 9 (by kernel_rfl) rfl) w (up_run (hvq13.on hb) Hq.out)) hK))) ?_
    refine all_cons (.inr (mStep _ 36 rfl rfl rfl rfl (by kernel_rfl) (fun a hv => (wanted_is (j := 8) (b := false) (c := false) rfl rfl rfl (hv 33 (by kernel_rfl) rfl)).trans rfl) (fun a w K hb hv hK => mCall (numVal pq) 17 _ _ rfl [numVal p, numVal q] (cons_eq (hv 34 (by kernel_rfl) rfl) (cons_eq (hv 35 (by kernel_rfl) rfl) (rfl))) (enters Tryd.func17 rfl rfl) (CA1.out w (hS.below (below_then hBq hb))) hK))) ?_
    refine all_cons (.inr (mStep _ 37 rfl rfl rfl rfl (by kernel_rfl) (fun a hv => (wanted_is (j := 8) (b := false) (c := false) rfl rfl rfl (hv 33 (by kernel_rfl) rfl)).trans rfl) (fun a w K hb hv hK => mPure (numVal p) (exec_load _ _ _ _ rfl _ _ (hv 7 (by kernel_rfl) rfl) w (up_run (hvp13.on hb) Hp.out)) hK))) ?_
    refine all_cons (.inr (mStep _ 38 rfl rfl rfl rfl (by kernel_rfl) (fun a hv => (wanted_is (j := 8) (b := false) (c := false) rfl rfl rfl (hv 33 (by kernel_rfl) rfl)).trans rfl) (fun a w K hb hv hK => mCall (numVal pqp) 17 _ _ rfl [numVal pq, numVal p] (cons_eq (hv 36 (by kernel_rfl) rfl) (cons_eq (hv 37 (by kernel_rfl) rfl) (rfl))) (enters Tryd.func17 rfl rfl) (CA3.out w (hS.below (below_then hBq hb))) hK))) ?_
    refine all_cons (.inr (mStep _ 39 rfl rfl rfl rfl (by kernel_rfl) (fun a hv => (wanted_is (j := 8) (b := false) (c := false) rfl rfl rfl (hv 33 (by kernel_rfl) rfl)).trans rfl) (fun a w K hb hv hK => mPure (numVal p) (exec_load _ _ _ _ rfl _ _ (hv 7 (by kernel_rfl) rfl) w (up_run (hvp13.on hb) Hp.out)) hK))) ?_
    refine all_cons (.inr (mStep _ 40 rfl rfl rfl rfl (by kernel_rfl) (fun a hv => (wanted_is (j := 8) (b := false) (c := false) rfl rfl rfl (hv 33 (by kernel_rfl) rfl)).trans rfl) (fun a w K hb hv hK => mPure (numVal p) (exec_load _ _ _ _ rfl _ _ (hv 7 (by kernel_rfl) rfl) w (up_run (hvp13.on hb) Hp.out)) hK))) ?_
    refine all_cons (.inr (mStep _ 41 rfl rfl rfl rfl (by kernel_rfl) (fun a hv => (wanted_is (j := 8) (b := false) (c := false) rfl rfl rfl (hv 33 (by kernel_rfl) rfl)).trans rfl) (fun a w K hb hv hK => mCall (numVal pp) 17 _ _ rfl [numVal p, numVal p] (cons_eq (hv 39 (by kernel_rfl) rfl) (cons_eq (hv 40 (by kernel_rfl) rfl) (rfl))) (enters Tryd.func17 rfl rfl) (CA4.out w (hS.below (below_then hBq hb))) hK))) ?_
    refine all_cons (.inr (mStep _ 42 rfl rfl rfl rfl (by kernel_rfl) (fun a hv => (wanted_is (j := 8) (b := false) (c := false) rfl rfl rfl (hv 33 (by kernel_rfl) rfl)).trans rfl) (fun a w K hb hv hK => mPure (numVal q) (exec_load _ _ _ _ rfl _ _ (hv 9 (by kernel_rfl) rfl) w (up_run (hvq13.on hb) Hq.out)) hK))) ?_
    refine all_cons (.inr (mStep _ 43 rfl rfl rfl rfl (by kernel_rfl) (fun a hv => (wanted_is (j := 8) (b := false) (c := false) rfl rfl rfl (hv 33 (by kernel_rfl) rfl)).trans rfl) (fun a w K hb hv hK => mCall (numVal ppq) 17 _ _ rfl [numVal pp, numVal q] (cons_eq (hv 41 (by kernel_rfl) rfl) (cons_eq (hv 42 (by kernel_rfl) rfl) (rfl))) (enters Tryd.func17 rfl rfl) (CA5.out w (hS.below (below_then hBq hb))) hK))) ?_
    refine all_cons (.inr (mStep _ 44 rfl rfl rfl rfl (by kernel_rfl) (fun a hv => (wanted_is (j := 8) (b := false) (c := false) rfl rfl rfl (hv 33 (by kernel_rfl) rfl)).trans rfl) (fun a w K hb hv hK => mCall (.bool true) 15 _ _ rfl [numVal pqp, numVal ppq] (cons_eq (hv 38 (by kernel_rfl) rfl) (cons_eq (hv 43 (by kernel_rfl) rfl) (rfl))) (enters Tryd.func15 rfl rfl) (CS2.out w) hK))) ?_
    refine all_cons (.inr (mStep _ 45 rfl rfl rfl rfl (by kernel_rfl) (fun a hv => (wanted_is (j := 8) (b := false) (c := false) rfl rfl rfl (hv 33 (by kernel_rfl) rfl)).trans rfl) (fun a w K hb hv hK => mPure (.bool false) (exec_not _ _ _ _ rfl (true) (hv 44 (by kernel_rfl) rfl) w) hK))) ?_
    refine all_cons (.inr (mStep _ 46 rfl rfl rfl rfl (by kernel_rfl) (fun a hv => wanted_all rfl _) (fun a w K hb hv hK => mPure (.bool false) (pick_false _ _ _ _ _ rfl (hv 33 (by kernel_rfl) rfl) (.bool false) (hv 45 (by kernel_rfl) rfl) w) hK))) ?_
    refine all_cons (.inr (mStep _ 47 rfl rfl rfl rfl (by kernel_rfl) (fun a hv => wanted_all rfl _) (fun a w K hb hv hK => mPure (.bool false) (exec_move _ _ _ (.inl rfl) _ (hv 46 (by kernel_rfl) rfl) w) hK))) ?_
    refine all_cons (.inr (mStep _ 48 rfl rfl rfl rfl (by kernel_rfl) (fun a hv => (wanted_is (j := 22) (b := false) (c := false) rfl rfl rfl (hv 47 (by kernel_rfl) rfl)).trans rfl) (fun a w K hb hv hK => mPure (numVal p) (exec_load _ _ _ _ rfl _ _ (hv 7 (by kernel_rfl) rfl) w (up_run (hvp13.on hb) Hp.out)) hK))) ?_
    refine all_cons (.inr (mStep _ 49 rfl rfl rfl rfl (by kernel_rfl) (fun a hv => (wanted_is (j := 22) (b := false) (c := false) rfl rfl rfl (hv 47 (by kernel_rfl) rfl)).trans rfl) (fun a w K hb hv hK => mCall (numVal z) 20 _ _ rfl [] (rfl) (enters Tryd.func20 rfl rfl) (CZ.out w) hK))) ?_
    refine all_cons (.inr (mStep _ 50 rfl rfl rfl rfl (by kernel_rfl) (fun a hv => (wanted_is (j := 22) (b := false) (c := false) rfl rfl rfl (hv 47 (by kernel_rfl) rfl)).trans rfl) (fun a w K hb hv hK => mCall (numVal pz) 17 _ _ rfl [numVal p, numVal z] (cons_eq (hv 48 (by kernel_rfl) rfl) (cons_eq (hv 49 (by kernel_rfl) rfl) (rfl))) (enters Tryd.func17 rfl rfl) (CA6.out w (hS.below (below_then hBq hb))) hK))) ?_
    refine all_cons (.inr (mStep _ 51 rfl rfl rfl rfl (by kernel_rfl) (fun a hv => (wanted_is (j := 22) (b := false) (c := false) rfl rfl rfl (hv 47 (by kernel_rfl) rfl)).trans rfl) (fun a w K hb hv hK => mPure (numVal p) (exec_load _ _ _ _ rfl _ _ (hv 7 (by kernel_rfl) rfl) w (up_run (hvp13.on hb) Hp.out)) hK))) ?_
    refine all_cons (.inr (mStep _ 52 rfl rfl rfl rfl (by kernel_rfl) (fun a hv => (wanted_is (j := 22) (b := false) (c := false) rfl rfl rfl (hv 47 (by kernel_rfl) rfl)).trans rfl) (fun a w K hb hv hK => mCall (.bool true) 15 _ _ rfl [numVal pz, numVal p] (cons_eq (hv 50 (by kernel_rfl) rfl) (cons_eq (hv 51 (by kernel_rfl) rfl) (rfl))) (enters Tryd.func15 rfl rfl) (CS3.out w) hK))) ?_
    refine all_cons (.inr (mStep _ 53 rfl rfl rfl rfl (by kernel_rfl) (fun a hv => (wanted_is (j := 22) (b := false) (c := false) rfl rfl rfl (hv 47 (by kernel_rfl) rfl)).trans rfl) (fun a w K hb hv hK => mPure (.bool false) (exec_not _ _ _ _ rfl (true) (hv 52 (by kernel_rfl) rfl) w) hK))) ?_
    refine all_cons (.inr (mStep _ 54 rfl rfl rfl rfl (by kernel_rfl) (fun a hv => wanted_all rfl _) (fun a w K hb hv hK => mPure (.bool false) (pick_false _ _ _ _ _ rfl (hv 47 (by kernel_rfl) rfl) (.bool false) (hv 53 (by kernel_rfl) rfl) w) hK))) ?_
    exact all_nil
  intro w14 g hb14 hN14 hap14
  clear hN14 hap14
  have hB14 := below_then (show Below w.heap.size w w13.drew from hB13.drew) hb14
  have hva14 := hva13.on hb14
  have hvb14 := hvb13.on hb14
  have hvp14 := hvp13.on hb14
  have hvv14 := hvv13.on hb14
  have hvq14 := hvq13.on hb14
  have hvu14 := hvu13.on hb14
  clear hB13 hva13 hvb13 hvp13 hvv13 hvq13 hvu13 hb14 hBq
  refine ⟨by kernel_rfl, ?_⟩
  rename_i K hKK
  show Exit.then K _ Exit.normal (⟨(chainsVs5 ka kb n w.heap.size gb gp gv gq gu p v q u pq qp pqp pp ppq z pz).toArray, []⟩ : Act) w14
  simp only [Exit.then]
  refine hKK _ _ ?_
  clear hKK K g
  simp only [chainsVs5]
  have i1 := HB0.out
  have i2 := HB1.out
  go_wp2_with (first
    | (refine build_step rfl 23 _ rfl [(0, .int .u8 (b0.toNat : Int)), (1, .int .u8 (b1.toNat : Int))] rfl _ BK ?_
       try simp only [Act.put, List.setIfInBounds_toArray, List.set_cons_zero, List.set_cons_succ]
       skip)
    | (refine vput_step rfl rfl 23 (.tmp 11) (.tmp 60) rfl rfl 32 kzeros (k1.map cellOf) rfl rfl zero_k32 rfl size_k32 (by rw [List.length_map, Hk1.out]) (kcells_one _) ?_
       intro w15 hb15 hvk15
       have hB15 := below_then hB14 hb15
       have hgek : w.heap.size ≤ w14.heap.size := hB14.size
       have hva15 := hva14.on hb15
       have hneak := Nat.ne_of_lt hva14.lt
       have hvb15 := hvb14.on hb15
       have hnebk := Nat.ne_of_lt hvb14.lt
       have hvp15 := hvp14.on hb15
       have hnepk := Nat.ne_of_lt hvp14.lt
       have hvv15 := hvv14.on hb15
       have hnevk := Nat.ne_of_lt hvv14.lt
       have hvq15 := hvq14.on hb15
       have hneqk := Nat.ne_of_lt hvq14.lt
       have hvu15 := hvu14.on hb15
       have hneuk := Nat.ne_of_lt hvu14.lt
       clear hB14 hva14 hvb14 hvp14 hvv14 hvq14 hvu14 hb15
       try simp only [Act.put, List.setIfInBounds_toArray, List.set_cons_zero, List.set_cons_succ]
       skip)
    | (refine build_step rfl 23 _ rfl [(0, .int .u8 1)] rfl _ BO ?_
       try simp only [Act.put, List.setIfInBounds_toArray, List.set_cons_zero, List.set_cons_succ]
       skip)
    | (refine vput_step rfl rfl 23 (.tmp 12) (.tmp 61) rfl rfl 32 kzeros (ko.map cellOf) rfl rfl zero_k32 rfl size_k32 (by rw [List.length_map, Hko.out]) (kcells_one _) ?_
       intro w16 hb16 hvm16
       have hB16 := below_then hB15 hb16
       have hgem : w.heap.size ≤ w15.heap.size := hB15.size
       have hva16 := hva15.on hb16
       have hneam := Nat.ne_of_lt hva15.lt
       have hvb16 := hvb15.on hb16
       have hnebm := Nat.ne_of_lt hvb15.lt
       have hvp16 := hvp15.on hb16
       have hnepm := Nat.ne_of_lt hvp15.lt
       have hvv16 := hvv15.on hb16
       have hnevm := Nat.ne_of_lt hvv15.lt
       have hvq16 := hvq15.on hb16
       have hneqm := Nat.ne_of_lt hvq15.lt
       have hvu16 := hvu15.on hb16
       have hneum := Nat.ne_of_lt hvu15.lt
       have hvk16 := hvk15.on hb16
       have hnekm := Nat.ne_of_lt hvk15.lt
       clear hB15 hva15 hvb15 hvp15 hvv15 hvq15 hvu15 hvk15 hb16
       try simp only [Act.put, List.setIfInBounds_toArray, List.set_cons_zero, List.set_cons_succ]
       skip))
  generalize hqk : w14.heap.size = gk at *
  clear hqk
  generalize hqm : w15.heap.size = gm at *
  clear hqm
  replace hva16 := hva16.drew
  replace hvb16 := hvb16.drew
  replace hvp16 := hvp16.drew
  replace hvv16 := hvv16.drew
  replace hvq16 := hvq16.drew
  replace hvu16 := hvu16.drew
  replace hvk16 := hvk16.drew
  replace hvm16 := hvm16.drew
  have hBq := (show Below w.heap.size w w16.drew from hB16.drew)
  refine wp_region_any (by kernel_rfl) ?_
  refine wpAny_flatM (L := [0, 1, 2, 3, 4, 5, 6, 7, 8, 9, 10, 11, 12, 13, 14, 15, 16, 17, 18, 19, 20, 21, 22, 23, 24]) (by kernel_rfl) _ _ (chainsVs9_1 ka kb n w.heap.size gb gp gv gq gu gk gm p v q u pq qp pqp pp ppq z pz b0 b1 k1 ko tk tkp kn tn to bs kl bl) [] 23 kzeros [0, 1, 2, 3, 4, 5, 7, 8, 9, 10, 11, 12, 13, 14, 15, 16, 17, 18, 19, 20, 21, 22, 23, 24, 25, 26, 27, 28, 29, 30, 31, 32, 33, 34, 35, 36, 37, 38, 39, 40, 41, 42, 43, 44, 45, 46, 47, 48, 49, 50, 51, 52, 53, 54, 55, 56, 57, 58, 59, 60, 61] (by kernel_rfl) (by kernel_rfl) ?_ zero_k32 ?_ (by rfl) ?_ 0 (by kernel_rfl) ?_
  · intro p hp
    exact absurd hp List.not_mem_nil
  · exact all_cons rfl (all_cons rfl (all_cons rfl (all_cons rfl (all_cons rfl (all_cons rfl (all_cons rfl (all_cons rfl (all_cons rfl (all_cons rfl (all_cons rfl (all_cons rfl (all_cons rfl (all_cons rfl (all_cons rfl (all_cons rfl (all_cons rfl (all_cons rfl (all_cons rfl (all_cons rfl (all_cons rfl (all_cons rfl (all_cons rfl (all_cons rfl (all_cons rfl (all_cons rfl (all_cons rfl (all_cons rfl (all_cons rfl (all_cons rfl (all_cons rfl (all_cons rfl (all_cons rfl (all_cons rfl (all_cons rfl (all_cons rfl (all_cons rfl (all_cons rfl (all_cons rfl (all_cons rfl (all_cons rfl (all_cons rfl (all_cons rfl (all_cons rfl (all_cons rfl (all_cons rfl (all_cons rfl (all_cons rfl (all_cons rfl (all_cons rfl (all_cons rfl (all_cons rfl (all_cons rfl (all_cons rfl (all_cons rfl (all_cons rfl (all_cons rfl (all_cons rfl (all_cons rfl (all_cons rfl (all_cons rfl (all_nil)))))))))))))))))))))))))))))))))))))))))))))))))))))))))))))
  · refine all_cons (.inr (mStep _ 62 rfl rfl rfl rfl (by kernel_rfl) (fun a hv => wanted_all rfl _) (fun a w K hb hv hK => mPure (numVal p) (exec_load _ _ _ _ rfl _ _ (hv 7 (by kernel_rfl) rfl) w (up_run (hvp16.on hb) Hp.out)) hK))) ?_
    refine all_cons (.inr (mStep _ 63 rfl rfl rfl rfl (by kernel_rfl) (fun a hv => wanted_all rfl _) (fun a w K hb hv hK => mPure (hashVal k1) (exec_load _ _ _ _ rfl _ _ (hv 11 (by kernel_rfl) rfl) w (key_run (hvk16.on hb) Hk1.out)) hK))) ?_
    refine all_cons (.inr (mStep _ 64 rfl rfl rfl rfl (by kernel_rfl) (fun a hv => wanted_all rfl _) (fun a w K hb hv hK => mCall (numVal tk) 21 _ _ rfl [numVal p, hashVal k1] (cons_eq (hv 62 (by kernel_rfl) rfl) (cons_eq (hv 63 (by kernel_rfl) rfl) (rfl))) (enters Tryd.func21 rfl rfl) (CT1.out w (hS.below (below_then hBq hb))) hK))) ?_
    refine all_cons (.inr (mStep _ 65 rfl rfl rfl rfl (by kernel_rfl) (fun a hv => wanted_all rfl _) (fun a w K hb hv hK => mPure (numVal p) (exec_load _ _ _ _ rfl _ _ (hv 7 (by kernel_rfl) rfl) w (up_run (hvp16.on hb) Hp.out)) hK))) ?_
    refine all_cons (.inr (mStep _ 66 rfl rfl rfl rfl (by kernel_rfl) (fun a hv => wanted_all rfl _) (fun a w K hb hv hK => mCall (numVal tkp) 17 _ _ rfl [numVal tk, numVal p] (cons_eq (hv 64 (by kernel_rfl) rfl) (cons_eq (hv 65 (by kernel_rfl) rfl) (rfl))) (enters Tryd.func17 rfl rfl) (CA7.out w (hS.below (below_then hBq hb))) hK))) ?_
    refine all_cons (.inr (mStep _ 67 rfl rfl rfl rfl (by kernel_rfl) (fun a hv => wanted_all rfl _) (fun a w K hb hv hK => mPure (numVal p) (exec_load _ _ _ _ rfl _ _ (hv 7 (by kernel_rfl) rfl) w (up_run (hvp16.on hb) Hp.out)) hK))) ?_
    refine all_cons (.inr (mStep _ 68 rfl rfl rfl rfl (by kernel_rfl) (fun a hv => wanted_all rfl _) (fun a w K hb hv hK => mPure (hashVal k1) (exec_load _ _ _ _ rfl _ _ (hv 11 (by kernel_rfl) rfl) w (key_run (hvk16.on hb) Hk1.out)) hK))) ?_
    refine all_cons (.inr (mStep _ 69 rfl rfl rfl rfl (by kernel_rfl) (fun a hv => wanted_all rfl _) (fun a w K hb hv hK => mCall (hashVal kn) 26 _ _ rfl [hashVal k1] (cons_eq (hv 68 (by kernel_rfl) rfl) (rfl)) (enters Tryd.func26 rfl rfl) (CP.out w) hK))) ?_
    refine all_cons (.inr (mStep _ 70 rfl rfl rfl rfl (by kernel_rfl) (fun a hv => wanted_all rfl _) (fun a w K hb hv hK => mCall (numVal tn) 21 _ _ rfl [numVal p, hashVal kn] (cons_eq (hv 67 (by kernel_rfl) rfl) (cons_eq (hv 69 (by kernel_rfl) rfl) (rfl))) (enters Tryd.func21 rfl rfl) (CT2.out w (hS.below (below_then hBq hb))) hK))) ?_
    refine all_cons (.inr (mStep _ 71 rfl rfl rfl rfl (by kernel_rfl) (fun a hv => wanted_all rfl _) (fun a w K hb hv hK => mCall (.bool true) 15 _ _ rfl [numVal tkp, numVal tn] (cons_eq (hv 66 (by kernel_rfl) rfl) (cons_eq (hv 70 (by kernel_rfl) rfl) (rfl))) (enters Tryd.func15 rfl rfl) (CS4.out w) hK))) ?_
    refine all_cons (.inr (mStep _ 72 rfl rfl rfl rfl (by kernel_rfl) (fun a hv => wanted_all rfl _) (fun a w K hb hv hK => mPure (.bool true) (exec_move _ _ _ (.inl rfl) _ (hv 71 (by kernel_rfl) rfl) w) hK))) ?_
    refine all_cons (.inr (mStep _ 73 rfl rfl rfl rfl (by kernel_rfl) (fun a hv => (wanted_is (j := 10) (b := true) (c := true) rfl rfl rfl (hv 72 (by kernel_rfl) rfl)).trans rfl) (fun a w K hb hv hK => mPure (numVal p) (exec_load _ _ _ _ rfl _ _ (hv 7 (by kernel_rfl) rfl) w (up_run (hvp16.on hb) Hp.out)) hK))) ?_
    refine all_cons (.inr (mStep _ 74 rfl rfl rfl rfl (by kernel_rfl) (fun a hv => (wanted_is (j := 10) (b := true) (c := true) rfl rfl rfl (hv 72 (by kernel_rfl) rfl)).trans rfl) (fun a w K hb hv hK => mPure (hashVal ko) (exec_load _ _ _ _ rfl _ _ (hv 12 (by kernel_rfl) rfl) w (key_run (hvm16.on hb) Hko.out)) hK))) ?_
    refine all_cons (.inr (mStep _ 75 rfl rfl rfl rfl (by kernel_rfl) (fun a hv => (wanted_is (j := 10) (b := true) (c := true) rfl rfl rfl (hv 72 (by kernel_rfl) rfl)).trans rfl) (fun a w K hb hv hK => mCall (numVal to) 21 _ _ rfl [numVal p, hashVal ko] (cons_eq (hv 73 (by kernel_rfl) rfl) (cons_eq (hv 74 (by kernel_rfl) rfl) (rfl))) (enters Tryd.func21 rfl rfl) (CT3.out w (hS.below (below_then hBq hb))) hK))) ?_
    refine all_cons (.inr (mStep _ 76 rfl rfl rfl rfl (by kernel_rfl) (fun a hv => (wanted_is (j := 10) (b := true) (c := true) rfl rfl rfl (hv 72 (by kernel_rfl) rfl)).trans rfl) (fun a w K hb hv hK => mPure (numVal p) (exec_load _ _ _ _ rfl _ _ (hv 7 (by kernel_rfl) rfl) w (up_run (hvp16.on hb) Hp.out)) hK))) ?_
    refine all_cons (.inr (mStep _ 77 rfl rfl rfl rfl (by kernel_rfl) (fun a hv => (wanted_is (j := 10) (b := true) (c := true) rfl rfl rfl (hv 72 (by kernel_rfl) rfl)).trans rfl) (fun a w K hb hv hK => mCall (.bool true) 15 _ _ rfl [numVal to, numVal p] (cons_eq (hv 75 (by kernel_rfl) rfl) (cons_eq (hv 76 (by kernel_rfl) rfl) (rfl))) (enters Tryd.func15 rfl rfl) (CS5.out w) hK))) ?_
    refine all_cons (.inr (mStep _ 78 rfl rfl rfl rfl (by kernel_rfl) (fun a hv => wanted_all rfl _) (fun a w K hb hv hK => mPure (.bool true) (pick_true _ _ _ _ _ rfl (hv 72 (by kernel_rfl) rfl) (.bool true) (hv 77 (by kernel_rfl) rfl) w) hK))) ?_
    refine all_cons (.inr (mStep _ 79 rfl rfl rfl rfl (by kernel_rfl) (fun a hv => wanted_all rfl _) (fun a w K hb hv hK => mPure (.bool true) (exec_move _ _ _ (.inl rfl) _ (hv 78 (by kernel_rfl) rfl) w) hK))) ?_
    refine all_cons (.inr (mStep _ 80 rfl rfl rfl rfl (by kernel_rfl) (fun a hv => (wanted_is (j := 17) (b := true) (c := true) rfl rfl rfl (hv 79 (by kernel_rfl) rfl)).trans rfl) (fun a w K hb hv hK => mCall (numVal bs) 25 _ _ rfl [] (rfl) (enters Tryd.func25 rfl rfl) (CB.out w (hS.below (below_then hBq hb))) hK))) ?_
    refine all_cons (.inr (mStep _ 81 rfl rfl rfl rfl (by kernel_rfl) (fun a hv => (wanted_is (j := 17) (b := true) (c := true) rfl rfl rfl (hv 79 (by kernel_rfl) rfl)).trans rfl) (fun a w K hb hv hK => mCall (hashVal kl) 27 _ _ rfl [] (rfl) (enters Tryd.func27 rfl rfl) (CL.out w) hK))) ?_
    refine all_cons (.inr (mStep _ 82 rfl rfl rfl rfl (by kernel_rfl) (fun a hv => (wanted_is (j := 17) (b := true) (c := true) rfl rfl rfl (hv 79 (by kernel_rfl) rfl)).trans rfl) (fun a w K hb hv hK => mCall (numVal bl) 21 _ _ rfl [numVal bs, hashVal kl] (cons_eq (hv 80 (by kernel_rfl) rfl) (cons_eq (hv 81 (by kernel_rfl) rfl) (rfl))) (enters Tryd.func21 rfl rfl) (CT4.out w (hS.below (below_then hBq hb))) hK))) ?_
    refine all_cons (.inr (mStep _ 83 rfl rfl rfl rfl (by kernel_rfl) (fun a hv => (wanted_is (j := 17) (b := true) (c := true) rfl rfl rfl (hv 79 (by kernel_rfl) rfl)).trans rfl) (fun a w K hb hv hK => mCall (numVal z) 20 _ _ rfl [] (rfl) (enters Tryd.func20 rfl rfl) (CZ.out w) hK))) ?_
    refine all_cons (.inr (mStep _ 84 rfl rfl rfl rfl (by kernel_rfl) (fun a hv => (wanted_is (j := 17) (b := true) (c := true) rfl rfl rfl (hv 79 (by kernel_rfl) rfl)).trans rfl) (fun a w K hb hv hK => mCall (.bool true) 15 _ _ rfl [numVal bl, numVal z] (cons_eq (hv 82 (by kernel_rfl) rfl) (cons_eq (hv 83 (by kernel_rfl) rfl) (rfl))) (enters Tryd.func15 rfl rfl) (CS6.out w) hK))) ?_
    refine all_cons (.inr (mStep _ 85 rfl rfl rfl rfl (by kernel_rfl) (fun a hv => wanted_all rfl _) (fun a w K hb hv hK => mPure (.bool true) (pick_true _ _ _ _ _ rfl (hv 79 (by kernel_rfl) rfl) (.bool true) (hv 84 (by kernel_rfl) rfl) w) hK))) ?_
    refine all_cons (.inr (mStep _ 6 rfl rfl rfl rfl (by kernel_rfl) (fun a hv => wanted_all rfl _) (fun a w K hb hv hK => mPure (.bool true) (exec_move _ _ _ (.inr rfl) _ (hv 85 (by kernel_rfl) rfl) w) hK))) ?_
    exact all_nil
  intro w17 g hb17 hN17 hap17
  clear hN17 hap17
  have hB17 := below_then (show Below w.heap.size w w16.drew from hB16.drew) hb17
  have hva17 := hva16.on hb17
  have hvb17 := hvb16.on hb17
  have hvp17 := hvp16.on hb17
  have hvv17 := hvv16.on hb17
  have hvq17 := hvq16.on hb17
  have hvu17 := hvu16.on hb17
  have hvk17 := hvk16.on hb17
  have hvm17 := hvm16.on hb17
  clear hB16 hva16 hvb16 hvp16 hvv16 hvq16 hvu16 hvk16 hvm16 hb17 hBq
  refine ⟨by kernel_rfl, ?_⟩
  rename_i K hKK
  show Exit.then K _ Exit.normal (⟨(chainsVs9_1 ka kb n w.heap.size gb gp gv gq gu gk gm p v q u pq qp pqp pp ppq z pz b0 b1 k1 ko tk tkp kn tn to bs kl bl).toArray, []⟩ : Act) w17
  simp only [Exit.then]
  refine hKK _ _ ?_
  clear hKK K g
  simp only [chainsVs9_1]
  go_wp2
  go_ret
  exact ⟨rfl, hB17⟩
end Go.Proofs.YtagjbdhelfickaaDoor
