/- The walk of the law ScalarChains. (Made by tools/mkscalar.py.) -/
import Derived.Test.YticgkabamelddaaDoorPart10
import Derived.Test.YticgkabamelddaaDoorPart8
import Derived.Test.YticgkabamelddaaDoorPart9
import Derived.Deep.Cut
namespace Go.Proofs.YticgkabamelddaaDoor
open Go.RowKit
def scVs3 (ka : List UInt8) (kb : List UInt8) (kc : List UInt8) (g_base : Nat) (gb : Nat) (gc : Nat) (sab : List UInt8) (le : List UInt8) : List Value :=
  (hashVal ka) :: (hashVal kb) :: (hashVal kc) :: (.pointer (some ⟨g_base, 0, none⟩)) :: (.pointer (some ⟨gb, 0, none⟩)) :: (.pointer (some ⟨gc, 0, none⟩)) :: (.bool false) :: undef :: undef :: undef :: (.bool true) :: (.bool false) :: (hashVal ka) :: (hashVal kb) :: (hashVal sab) :: (hashVal kc) :: (hashVal le) :: undef :: undef :: undef :: undef :: undef :: undef :: undef :: undef :: undef :: undef :: undef :: undef :: undef :: undef :: undef :: undef :: undef :: undef :: undef :: undef :: undef :: undef :: undef :: undef :: undef :: undef :: undef :: undef :: undef :: undef :: undef :: undef :: undef :: undef :: undef :: undef :: undef :: undef :: undef :: undef :: undef :: undef :: undef :: []
def scVs3N (ka : List UInt8) (kb : List UInt8) (kc : List UInt8) (g_base : Nat) (gb : Nat) (gc : Nat) (sab : List UInt8) (le : List UInt8) (n7 : Nat) : List Value :=
  (hashVal ka) :: (hashVal kb) :: (hashVal kc) :: (.pointer (some ⟨g_base, 0, none⟩)) :: (.pointer (some ⟨gb, 0, none⟩)) :: (.pointer (some ⟨gc, 0, none⟩)) :: (.bool false) :: (.pointer (some ⟨n7, 0, none⟩)) :: undef :: undef :: (.bool true) :: (.bool false) :: (hashVal ka) :: (hashVal kb) :: (hashVal sab) :: (hashVal kc) :: (hashVal le) :: undef :: undef :: undef :: undef :: undef :: undef :: undef :: undef :: undef :: undef :: undef :: undef :: undef :: undef :: undef :: undef :: undef :: undef :: undef :: undef :: undef :: undef :: undef :: undef :: undef :: undef :: undef :: undef :: undef :: undef :: undef :: undef :: undef :: undef :: undef :: undef :: undef :: undef :: undef :: undef :: undef :: undef :: undef :: []
def scVs4_1 (ka : List UInt8) (kb : List UInt8) (kc : List UInt8) (g_base : Nat) (gb : Nat) (gc : Nat) (gl : Nat) (sab : List UInt8) (le : List UInt8) (tac : List UInt8) (tbc : List UInt8) : List Value :=
  (hashVal ka) :: (hashVal kb) :: (hashVal kc) :: (.pointer (some ⟨g_base, 0, none⟩)) :: (.pointer (some ⟨gb, 0, none⟩)) :: (.pointer (some ⟨gc, 0, none⟩)) :: (.bool false) :: (.pointer (some ⟨gl, 0, none⟩)) :: undef :: undef :: (.bool true) :: (.bool false) :: (hashVal ka) :: (hashVal kb) :: (hashVal sab) :: (hashVal kc) :: (hashVal le) :: (hashVal ka) :: (hashVal kc) :: (hashVal tac) :: (hashVal kb) :: (hashVal kc) :: (hashVal tbc) :: (hashVal le) :: undef :: undef :: undef :: undef :: undef :: undef :: undef :: undef :: undef :: undef :: undef :: undef :: undef :: undef :: undef :: undef :: undef :: undef :: undef :: undef :: undef :: undef :: undef :: undef :: undef :: undef :: undef :: undef :: undef :: undef :: undef :: undef :: undef :: undef :: undef :: undef :: []
def scVs4_1N (ka : List UInt8) (kb : List UInt8) (kc : List UInt8) (g_base : Nat) (gb : Nat) (gc : Nat) (gl : Nat) (sab : List UInt8) (le : List UInt8) (tac : List UInt8) (tbc : List UInt8) (n8 : Nat) : List Value :=
  (hashVal ka) :: (hashVal kb) :: (hashVal kc) :: (.pointer (some ⟨g_base, 0, none⟩)) :: (.pointer (some ⟨gb, 0, none⟩)) :: (.pointer (some ⟨gc, 0, none⟩)) :: (.bool false) :: (.pointer (some ⟨gl, 0, none⟩)) :: (.pointer (some ⟨n8, 0, none⟩)) :: undef :: (.bool true) :: (.bool false) :: (hashVal ka) :: (hashVal kb) :: (hashVal sab) :: (hashVal kc) :: (hashVal le) :: (hashVal ka) :: (hashVal kc) :: (hashVal tac) :: (hashVal kb) :: (hashVal kc) :: (hashVal tbc) :: (hashVal le) :: undef :: undef :: undef :: undef :: undef :: undef :: undef :: undef :: undef :: undef :: undef :: undef :: undef :: undef :: undef :: undef :: undef :: undef :: undef :: undef :: undef :: undef :: undef :: undef :: undef :: undef :: undef :: undef :: undef :: undef :: undef :: undef :: undef :: undef :: undef :: undef :: []
def scVs5_2 (ka : List UInt8) (kb : List UInt8) (kc : List UInt8) (g_base : Nat) (gb : Nat) (gc : Nat) (gl : Nat) (gr : Nat) (sab : List UInt8) (le : List UInt8) (tac : List UInt8) (tbc : List UInt8) (na : List UInt8) (zr : List UInt8) : List Value :=
  (hashVal ka) :: (hashVal kb) :: (hashVal kc) :: (.pointer (some ⟨g_base, 0, none⟩)) :: (.pointer (some ⟨gb, 0, none⟩)) :: (.pointer (some ⟨gc, 0, none⟩)) :: (.bool false) :: (.pointer (some ⟨gl, 0, none⟩)) :: (.pointer (some ⟨gr, 0, none⟩)) :: undef :: (.bool true) :: (.bool false) :: (hashVal ka) :: (hashVal kb) :: (hashVal sab) :: (hashVal kc) :: (hashVal le) :: (hashVal ka) :: (hashVal kc) :: (hashVal tac) :: (hashVal kb) :: (hashVal kc) :: (hashVal tbc) :: (hashVal le) :: (hashVal ka) :: (hashVal ka) :: (hashVal na) :: (hashVal zr) :: undef :: undef :: undef :: undef :: undef :: undef :: undef :: undef :: undef :: undef :: undef :: undef :: undef :: undef :: undef :: undef :: undef :: undef :: undef :: undef :: undef :: undef :: undef :: undef :: undef :: undef :: undef :: undef :: undef :: undef :: undef :: undef :: []
def scVs5_2N (ka : List UInt8) (kb : List UInt8) (kc : List UInt8) (g_base : Nat) (gb : Nat) (gc : Nat) (gl : Nat) (gr : Nat) (sab : List UInt8) (le : List UInt8) (tac : List UInt8) (tbc : List UInt8) (na : List UInt8) (zr : List UInt8) (n9 : Nat) : List Value :=
  (hashVal ka) :: (hashVal kb) :: (hashVal kc) :: (.pointer (some ⟨g_base, 0, none⟩)) :: (.pointer (some ⟨gb, 0, none⟩)) :: (.pointer (some ⟨gc, 0, none⟩)) :: (.bool false) :: (.pointer (some ⟨gl, 0, none⟩)) :: (.pointer (some ⟨gr, 0, none⟩)) :: (.pointer (some ⟨n9, 0, none⟩)) :: (.bool true) :: (.bool false) :: (hashVal ka) :: (hashVal kb) :: (hashVal sab) :: (hashVal kc) :: (hashVal le) :: (hashVal ka) :: (hashVal kc) :: (hashVal tac) :: (hashVal kb) :: (hashVal kc) :: (hashVal tbc) :: (hashVal le) :: (hashVal ka) :: (hashVal ka) :: (hashVal na) :: (hashVal zr) :: undef :: undef :: undef :: undef :: undef :: undef :: undef :: undef :: undef :: undef :: undef :: undef :: undef :: undef :: undef :: undef :: undef :: undef :: undef :: undef :: undef :: undef :: undef :: undef :: undef :: undef :: undef :: undef :: undef :: undef :: undef :: undef :: []
def scVs6_3 (ka : List UInt8) (kb : List UInt8) (kc : List UInt8) (g_base : Nat) (gb : Nat) (gc : Nat) (gl : Nat) (gr : Nat) (gz : Nat) (sab : List UInt8) (le : List UInt8) (tac : List UInt8) (tbc : List UInt8) (na : List UInt8) (zr : List UInt8) (tab : List UInt8) (nt : List UInt8) : List Value :=
  (hashVal ka) :: (hashVal kb) :: (hashVal kc) :: (.pointer (some ⟨g_base, 0, none⟩)) :: (.pointer (some ⟨gb, 0, none⟩)) :: (.pointer (some ⟨gc, 0, none⟩)) :: (.bool true) :: (.pointer (some ⟨gl, 0, none⟩)) :: (.pointer (some ⟨gr, 0, none⟩)) :: (.pointer (some ⟨gz, 0, none⟩)) :: (.bool true) :: (.bool false) :: (hashVal ka) :: (hashVal kb) :: (hashVal sab) :: (hashVal kc) :: (hashVal le) :: (hashVal ka) :: (hashVal kc) :: (hashVal tac) :: (hashVal kb) :: (hashVal kc) :: (hashVal tbc) :: (hashVal le) :: (hashVal ka) :: (hashVal ka) :: (hashVal na) :: (hashVal zr) :: (hashVal le) :: (hashVal le) :: (.bool true) :: (.bool true) :: (hashVal zr) :: (hashVal zr) :: (.bool true) :: (.bool true) :: (.bool true) :: (hashVal le) :: (.bool true) :: (.bool true) :: (.bool true) :: (hashVal ka) :: (hashVal kb) :: (hashVal tab) :: (hashVal kb) :: (hashVal ka) :: (hashVal tab) :: (.bool true) :: (.bool true) :: (.bool true) :: (hashVal ka) :: (hashVal na) :: (hashVal kb) :: (hashVal nt) :: (hashVal ka) :: (hashVal kb) :: (hashVal tab) :: (hashVal nt) :: (.bool true) :: (.bool true) :: []
set_option maxRecDepth 100000 in
set_option maxHeartbeats 4000000 in
theorem scChains_over (ka kb kc sab le tac tbc na zr tab nt : List UInt8) (w : World)
    (Hka : Hid (ka.length = 32))
    (Hkb : Hid (kb.length = 32))
    (Hkc : Hid (kc.length = 32))
    (Hle : Hid (le.length = 32))
    (Hzr : Hid (zr.length = 32))
    (CAL : Hid (∀ W, TabsS W → Calls Tryd.prog 6 #[] W fun e w' => e = .returned (.bool true) ∧ Below W.heap.size W w'))
    (CA1 : Hid (∀ W, TabsS W → Calls Tryd.prog 11 #[hashVal ka, hashVal kb] W fun e w' => e = .returned (hashVal sab) ∧ Below W.heap.size W w'))
    (CT1 : Hid (∀ W, TabsS W → Calls Tryd.prog 13 #[hashVal sab, hashVal kc] W fun e w' => e = .returned (hashVal le) ∧ Below W.heap.size W w'))
    (CT2 : Hid (∀ W, TabsS W → Calls Tryd.prog 13 #[hashVal ka, hashVal kc] W fun e w' => e = .returned (hashVal tac) ∧ Below W.heap.size W w'))
    (CT3 : Hid (∀ W, TabsS W → Calls Tryd.prog 13 #[hashVal kb, hashVal kc] W fun e w' => e = .returned (hashVal tbc) ∧ Below W.heap.size W w'))
    (CA2 : Hid (∀ W, TabsS W → Calls Tryd.prog 11 #[hashVal tac, hashVal tbc] W fun e w' => e = .returned (hashVal le) ∧ Below W.heap.size W w'))
    (CN1 : Hid (∀ W, TabsS W → Calls Tryd.prog 15 #[hashVal ka] W fun e w' => e = .returned (hashVal na) ∧ Below W.heap.size W w'))
    (CA3 : Hid (∀ W, TabsS W → Calls Tryd.prog 11 #[hashVal ka, hashVal na] W fun e w' => e = .returned (hashVal zr) ∧ Below W.heap.size W w'))
    (CR : Hid (∀ W, TabsS W → Calls Tryd.prog 9 #[hashVal le] W fun e w' => e = .returned (.bool true) ∧ Below W.heap.size W w'))
    (CT4 : Hid (∀ W, TabsS W → Calls Tryd.prog 13 #[hashVal ka, hashVal kb] W fun e w' => e = .returned (hashVal tab) ∧ Below W.heap.size W w'))
    (CT5 : Hid (∀ W, TabsS W → Calls Tryd.prog 13 #[hashVal kb, hashVal ka] W fun e w' => e = .returned (hashVal tab) ∧ Below W.heap.size W w'))
    (CT6 : Hid (∀ W, TabsS W → Calls Tryd.prog 13 #[hashVal na, hashVal kb] W fun e w' => e = .returned (hashVal nt) ∧ Below W.heap.size W w'))
    (CN2 : Hid (∀ W, TabsS W → Calls Tryd.prog 15 #[hashVal tab] W fun e w' => e = .returned (hashVal nt) ∧ Below W.heap.size W w'))
    (BZ : ∀ w, (Instr.build 25 #[]).run Tryd.prog w = .ok (hashVal zr) w)
    (EL : ∀ w, (binOp .eql 25 (hashVal le) (hashVal le)).run Tryd.prog w = .ok (.bool true) w)
    (EZ : ∀ w, (binOp .eql 25 (hashVal zr) (hashVal zr)).run Tryd.prog w = .ok (.bool true) w)
    (EB : ∀ w, (binOp .eql 25 (hashVal tab) (hashVal tab)).run Tryd.prog w = .ok (.bool true) w)
    (EN : ∀ w, (binOp .eql 25 (hashVal nt) (hashVal nt)).run Tryd.prog w = .ok (.bool true) w)
    (hS : TabsS w) :
    Calls Tryd.prog 5 #[hashVal ka, hashVal kb, hashVal kc] w fun e w' => e = .returned (.bool true) ∧ Below w.heap.size w w' := by
  go_enter Tryd.func5, Tryd.ntmps5
  go_wp2_with (first
    | (refine take_step rfl 25 (.tmp 0) rfl ka rfl ?_
       intro w1 hb1 hva1 hz
       clear hz
       have hB1 := hb1
       have hgea : w.heap.size ≤ w.heap.size := Nat.le_refl _
       clear  hb1
       try simp only [Act.put, List.setIfInBounds_toArray, List.set_cons_zero, List.set_cons_succ]
       skip)
    | (refine take_step rfl 25 (.tmp 1) rfl kb rfl ?_
       intro w2 hb2 hvb2 hz
       clear hz
       have hB2 := below_then hB1 hb2
       have hgeb : w.heap.size ≤ w1.heap.size := hB1.size
       have hva2 := hva1.on hb2
       have hneab := Nat.ne_of_lt hva1.lt
       clear hB1 hva1 hb2
       try simp only [Act.put, List.setIfInBounds_toArray, List.set_cons_zero, List.set_cons_succ]
       skip)
    | (refine take_step rfl 25 (.tmp 2) rfl kc rfl ?_
       intro w3 hb3 hvc3 hz
       clear hz
       have hB3 := below_then hB2 hb3
       have hgec : w.heap.size ≤ w2.heap.size := hB2.size
       have hva3 := hva2.on hb3
       have hneac := Nat.ne_of_lt hva2.lt
       have hvb3 := hvb2.on hb3
       have hnebc := Nat.ne_of_lt hvb2.lt
       clear hB2 hva2 hvb2 hb3
       try simp only [Act.put, List.setIfInBounds_toArray, List.set_cons_zero, List.set_cons_succ]
       skip))
  generalize hqb : w1.heap.size = gb at *
  clear hqb
  generalize hqc : w2.heap.size = gc at *
  clear hqc
  refine (CAL.out w3 (hS.below hB3)).mono ?_
  rintro e w4 ⟨rfl, hb4⟩
  have hB4 := below_then hB3 hb4
  have hva4 := hva3.on hb4
  have hvb4 := hvb3.on hb4
  have hvc4 := hvc3.on hb4
  clear hB3 hva3 hvb3 hvc3 hb4
  go_wp2_with fail
  replace hva4 := hva4.drew
  replace hvb4 := hvb4.drew
  replace hvc4 := hvc4.drew
  have hBq := (show Below w.heap.size w w4.drew from hB4.drew)
  refine wp_region_any (by kernel_rfl) ?_
  refine wpAny_flatS (L := [0, 1, 2, 3, 4, 5, 6]) (by kernel_rfl) _ _ (scVs3 ka kb kc w.heap.size gb gc sab le) [(5, 7)] (fun _ => 25) (fun _ => kzeros) (fun _ => some (6, le.map cellOf)) [0, 1, 2, 3, 4, 5, 6, 8, 9, 10, 11, 17, 18, 19, 20, 21, 22, 23, 24, 25, 26, 27, 28, 29, 30, 31, 32, 33, 34, 35, 36, 37, 38, 39, 40, 41, 42, 43, 44, 45, 46, 47, 48, 49, 50, 51, 52, 53, 54, 55, 56, 57, 58, 59] (by kernel_rfl) (by kernel_rfl) ?_ (fun _ _ => zero_k32) ?_ ?_ ?_ (by rfl) ?_ 0 (by kernel_rfl) ?_
  · intro p hp
    rcases List.mem_cons.1 hp with rfl | hp
    · exact ⟨⟨_, rfl, rfl, rfl, rfl, by kernel_rfl, by kernel_rfl⟩⟩
    exact absurd hp List.not_mem_nil
  · intro p hp j l h
    rcases List.mem_cons.1 hp with rfl | hp
    · change some (6, le.map cellOf) = some (j, l) at h
      cases h
      exact ⟨⟨_, 16, rfl, rfl, rfl, rfl, by kernel_rfl, by kernel_rfl, by kernel_rfl, rfl, by rw [List.length_map, Hle.out]; exact size_k32, by rw [List.length_map, Hle.out]; rfl, kcells_one _⟩, by decide⟩
    exact absurd hp List.not_mem_nil
  · intro p hp q hq j l l2 h1 h2
    rcases List.mem_cons.1 hp with rfl | hp
    · rcases List.mem_cons.1 hq with rfl | hq
      · rfl
      exact absurd hq List.not_mem_nil
    exact absurd hp List.not_mem_nil
  · exact all_cons rfl (all_cons rfl (all_cons rfl (all_cons rfl (all_cons rfl (all_cons rfl (all_cons rfl (all_cons rfl (all_cons rfl (all_cons rfl (all_cons rfl (all_cons rfl (all_cons rfl (all_cons rfl (all_cons rfl (all_cons rfl (all_cons rfl (all_cons rfl (all_cons rfl (all_cons rfl (all_cons rfl (all_cons rfl (all_cons rfl (all_cons rfl (all_cons rfl (all_cons rfl (all_cons rfl (all_cons rfl (all_cons rfl (all_cons rfl (all_cons rfl (all_cons rfl (all_cons rfl (all_cons rfl (all_cons rfl (all_cons rfl (all_cons rfl (all_cons rfl (all_cons rfl (all_cons rfl (all_cons rfl (all_cons rfl (all_cons rfl (all_cons rfl (all_cons rfl (all_cons rfl (all_cons rfl (all_cons rfl (all_cons rfl (all_cons rfl (all_cons rfl (all_cons rfl (all_cons rfl (all_cons rfl (all_nil))))))))))))))))))))))))))))))))))))))))))))))))))))))
  · refine all_cons (.inr (.inl (mStep _ 12 rfl rfl rfl rfl (by kernel_rfl) (fun a hv => wanted_all rfl _) (fun a w K hb hv hK => mPure (hashVal ka) (exec_load _ _ _ _ rfl _ _ (hv 3 (by kernel_rfl) rfl) w (key_run (hva4.on hb) Hka.out)) hK)))) ?_
    refine all_cons (.inr (.inl (mStep _ 13 rfl rfl rfl rfl (by kernel_rfl) (fun a hv => wanted_all rfl _) (fun a w K hb hv hK => mPure (hashVal kb) (exec_load _ _ _ _ rfl _ _ (hv 4 (by kernel_rfl) rfl) w (key_run (hvb4.on hb) Hkb.out)) hK)))) ?_
    refine all_cons (.inr (.inl (mStep _ 14 rfl rfl rfl rfl (by kernel_rfl) (fun a hv => wanted_all rfl _) (fun a w K hb hv hK => mCall (hashVal sab) 11 _ _ rfl [hashVal ka, hashVal kb] (cons_eq (hv 12 (by kernel_rfl) rfl) (cons_eq (hv 13 (by kernel_rfl) rfl) (rfl))) (enters Tryd.func11 rfl rfl) (CA1.out w (hS.below (below_then hBq hb))) hK)))) ?_
    refine all_cons (.inr (.inl (mStep _ 15 rfl rfl rfl rfl (by kernel_rfl) (fun a hv => wanted_all rfl _) (fun a w K hb hv hK => mPure (hashVal kc) (exec_load _ _ _ _ rfl _ _ (hv 5 (by kernel_rfl) rfl) w (key_run (hvc4.on hb) Hkc.out)) hK)))) ?_
    refine all_cons (.inr (.inl (mStep _ 16 rfl rfl rfl rfl (by kernel_rfl) (fun a hv => wanted_all rfl _) (fun a w K hb hv hK => mCall (hashVal le) 13 _ _ rfl [hashVal sab, hashVal kc] (cons_eq (hv 14 (by kernel_rfl) rfl) (cons_eq (hv 15 (by kernel_rfl) rfl) (rfl))) (enters Tryd.func13 rfl rfl) (CT1.out w (hS.below (below_then hBq hb))) hK)))) ?_
    refine all_cons (.inl ⟨(5, 7), by simp, rfl⟩) ?_
    refine all_cons (.inr (.inr ⟨(5, 7), by simp, _, rfl⟩)) ?_
    exact all_nil
  intro w5 g hb5 hN5 hap5
  obtain ⟨hgel, hvl5⟩ := hN5 (5, 7) (by simp)
  clear hN5 hap5
  have hB5 := below_then (show Below w.heap.size w w4.drew from hB4.drew) hb5
  have hlta : w.heap.size < w4.heap.size := hva4.lt
  have hltb : gb < w4.heap.size := hvb4.lt
  have hltc : gc < w4.heap.size := hvc4.lt
  have hva5 := hva4.on hb5
  have hvb5 := hvb4.on hb5
  have hvc5 := hvc4.on hb5
  rw [show withNew g [(5, 7)] (scVs3 ka kb kc w.heap.size gb gc sab le) = scVs3N ka kb kc w.heap.size gb gc sab le (g 7) from rfl]
  replace hgel : w4.heap.size ≤ g 7 := hgel
  replace hvl5 : Cells w5 (g 7) (le.map cellOf) 25 := hvl5
  have hneal : w.heap.size ≠ g 7 := Nat.ne_of_lt (Nat.lt_of_lt_of_le hlta hgel)
  have hnebl : gb ≠ g 7 := Nat.ne_of_lt (Nat.lt_of_lt_of_le hltb hgel)
  have hnecl : gc ≠ g 7 := Nat.ne_of_lt (Nat.lt_of_lt_of_le hltc hgel)
  replace hgel : w.heap.size ≤ g 7 := Nat.le_trans (show w.heap.size ≤ w4.heap.size from hB4.size) hgel
  clear hlta hltb hltc
  generalize g 7 = gl at *
  clear hB4 hva4 hvb4 hvc4 hb5 hBq
  refine ⟨by kernel_rfl, ?_⟩
  rename_i K hKK
  show Exit.then K _ Exit.normal (⟨(scVs3N ka kb kc w.heap.size gb gc sab le gl).toArray, []⟩ : Act) w5
  simp only [Exit.then]
  refine hKK _ _ ?_
  clear hKK K g
  simp only [scVs3N]
  go_wp2_with fail
  replace hva5 := hva5.drew
  replace hvb5 := hvb5.drew
  replace hvc5 := hvc5.drew
  replace hvl5 := hvl5.drew
  have hBq := (show Below w.heap.size w w5.drew from hB5.drew)
  refine wp_region_any (by kernel_rfl) ?_
  refine wpAny_flatS (L := [0, 1, 2, 3, 4, 5, 6, 7, 8]) (by kernel_rfl) _ _ (scVs4_1 ka kb kc w.heap.size gb gc gl sab le tac tbc) [(7, 8)] (fun _ => 25) (fun _ => kzeros) (fun _ => some (8, le.map cellOf)) [0, 1, 2, 3, 4, 5, 6, 7, 9, 10, 11, 12, 13, 14, 15, 16, 24, 25, 26, 27, 28, 29, 30, 31, 32, 33, 34, 35, 36, 37, 38, 39, 40, 41, 42, 43, 44, 45, 46, 47, 48, 49, 50, 51, 52, 53, 54, 55, 56, 57, 58, 59] (by kernel_rfl) (by kernel_rfl) ?_ (fun _ _ => zero_k32) ?_ ?_ ?_ (by rfl) ?_ 0 (by kernel_rfl) ?_
  · intro p hp
    rcases List.mem_cons.1 hp with rfl | hp
    · exact ⟨⟨_, rfl, rfl, rfl, rfl, by kernel_rfl, by kernel_rfl⟩⟩
    exact absurd hp List.not_mem_nil
  · intro p hp j l h
    rcases List.mem_cons.1 hp with rfl | hp
    · change some (8, le.map cellOf) = some (j, l) at h
      cases h
      exact ⟨⟨_, 23, rfl, rfl, rfl, rfl, by kernel_rfl, by kernel_rfl, by kernel_rfl, rfl, by rw [List.length_map, Hle.out]; exact size_k32, by rw [List.length_map, Hle.out]; rfl, kcells_one _⟩, by decide⟩
    exact absurd hp List.not_mem_nil
  · intro p hp q hq j l l2 h1 h2
    rcases List.mem_cons.1 hp with rfl | hp
    · rcases List.mem_cons.1 hq with rfl | hq
      · rfl
      exact absurd hq List.not_mem_nil
    exact absurd hp List.not_mem_nil
  · exact all_cons rfl (all_cons rfl (all_cons rfl (all_cons rfl (all_cons rfl (all_cons rfl (all_cons rfl (all_cons rfl (all_cons rfl (all_cons rfl (all_cons rfl (all_cons rfl (all_cons rfl (all_cons rfl (all_cons rfl (all_cons rfl (all_cons rfl (all_cons rfl (all_cons rfl (all_cons rfl (all_cons rfl (all_cons rfl (all_cons rfl (all_cons rfl (all_cons rfl (all_cons rfl (all_cons rfl (all_cons rfl (all_cons rfl (all_cons rfl (all_cons rfl (all_cons rfl (all_cons rfl (all_cons rfl (all_cons rfl (all_cons rfl (all_cons rfl (all_cons rfl (all_cons rfl (all_cons rfl (all_cons rfl (all_cons rfl (all_cons rfl (all_cons rfl (all_cons rfl (all_cons rfl (all_cons rfl (all_cons rfl (all_cons rfl (all_cons rfl (all_cons rfl (all_cons rfl (all_nil))))))))))))))))))))))))))))))))))))))))))))))))))))
  · refine all_cons (.inr (.inl (mStep _ 17 rfl rfl rfl rfl (by kernel_rfl) (fun a hv => wanted_all rfl _) (fun a w K hb hv hK => mPure (hashVal ka) (exec_load _ _ _ _ rfl _ _ (hv 3 (by kernel_rfl) rfl) w (key_run (hva5.on hb) Hka.out)) hK)))) ?_
    refine all_cons (.inr (.inl (mStep _ 18 rfl rfl rfl rfl (by kernel_rfl) (fun a hv => wanted_all rfl _) (fun a w K hb hv hK => mPure (hashVal kc) (exec_load _ _ _ _ rfl _ _ (hv 5 (by kernel_rfl) rfl) w (key_run (hvc5.on hb) Hkc.out)) hK)))) ?_
    refine all_cons (.inr (.inl (mStep _ 19 rfl rfl rfl rfl (by kernel_rfl) (fun a hv => wanted_all rfl _) (fun a w K hb hv hK => mCall (hashVal tac) 13 _ _ rfl [hashVal ka, hashVal kc] (cons_eq (hv 17 (by kernel_rfl) rfl) (cons_eq (hv 18 (by kernel_rfl) rfl) (rfl))) (enters Tryd.func13 rfl rfl) (CT2.out w (hS.below (below_then hBq hb))) hK)))) ?_
    refine all_cons (.inr (.inl (mStep _ 20 rfl rfl rfl rfl (by kernel_rfl) (fun a hv => wanted_all rfl _) (fun a w K hb hv hK => mPure (hashVal kb) (exec_load _ _ _ _ rfl _ _ (hv 4 (by kernel_rfl) rfl) w (key_run (hvb5.on hb) Hkb.out)) hK)))) ?_
    refine all_cons (.inr (.inl (mStep _ 21 rfl rfl rfl rfl (by kernel_rfl) (fun a hv => wanted_all rfl _) (fun a w K hb hv hK => mPure (hashVal kc) (exec_load _ _ _ _ rfl _ _ (hv 5 (by kernel_rfl) rfl) w (key_run (hvc5.on hb) Hkc.out)) hK)))) ?_
    refine all_cons (.inr (.inl (mStep _ 22 rfl rfl rfl rfl (by kernel_rfl) (fun a hv => wanted_all rfl _) (fun a w K hb hv hK => mCall (hashVal tbc) 13 _ _ rfl [hashVal kb, hashVal kc] (cons_eq (hv 20 (by kernel_rfl) rfl) (cons_eq (hv 21 (by kernel_rfl) rfl) (rfl))) (enters Tryd.func13 rfl rfl) (CT3.out w (hS.below (below_then hBq hb))) hK)))) ?_
    refine all_cons (.inr (.inl (mStep _ 23 rfl rfl rfl rfl (by kernel_rfl) (fun a hv => wanted_all rfl _) (fun a w K hb hv hK => mCall (hashVal le) 11 _ _ rfl [hashVal tac, hashVal tbc] (cons_eq (hv 19 (by kernel_rfl) rfl) (cons_eq (hv 22 (by kernel_rfl) rfl) (rfl))) (enters Tryd.func11 rfl rfl) (CA2.out w (hS.below (below_then hBq hb))) hK)))) ?_
    refine all_cons (.inl ⟨(7, 8), by simp, rfl⟩) ?_
    refine all_cons (.inr (.inr ⟨(7, 8), by simp, _, rfl⟩)) ?_
    exact all_nil
  intro w6 g hb6 hN6 hap6
  obtain ⟨hger, hvr6⟩ := hN6 (7, 8) (by simp)
  clear hN6 hap6
  have hB6 := below_then (show Below w.heap.size w w5.drew from hB5.drew) hb6
  have hlta : w.heap.size < w5.heap.size := hva5.lt
  have hltb : gb < w5.heap.size := hvb5.lt
  have hltc : gc < w5.heap.size := hvc5.lt
  have hltl : gl < w5.heap.size := hvl5.lt
  have hva6 := hva5.on hb6
  have hvb6 := hvb5.on hb6
  have hvc6 := hvc5.on hb6
  have hvl6 := hvl5.on hb6
  rw [show withNew g [(7, 8)] (scVs4_1 ka kb kc w.heap.size gb gc gl sab le tac tbc) = scVs4_1N ka kb kc w.heap.size gb gc gl sab le tac tbc (g 8) from rfl]
  replace hger : w5.heap.size ≤ g 8 := hger
  replace hvr6 : Cells w6 (g 8) (le.map cellOf) 25 := hvr6
  have hnear : w.heap.size ≠ g 8 := Nat.ne_of_lt (Nat.lt_of_lt_of_le hlta hger)
  have hnebr : gb ≠ g 8 := Nat.ne_of_lt (Nat.lt_of_lt_of_le hltb hger)
  have hnecr : gc ≠ g 8 := Nat.ne_of_lt (Nat.lt_of_lt_of_le hltc hger)
  have hnelr : gl ≠ g 8 := Nat.ne_of_lt (Nat.lt_of_lt_of_le hltl hger)
  replace hger : w.heap.size ≤ g 8 := Nat.le_trans (show w.heap.size ≤ w5.heap.size from hB5.size) hger
  clear hlta hltb hltc hltl
  generalize g 8 = gr at *
  clear hB5 hva5 hvb5 hvc5 hvl5 hb6 hBq
  refine ⟨by kernel_rfl, ?_⟩
  rename_i K hKK
  show Exit.then K _ Exit.normal (⟨(scVs4_1N ka kb kc w.heap.size gb gc gl sab le tac tbc gr).toArray, []⟩ : Act) w6
  simp only [Exit.then]
  refine hKK _ _ ?_
  clear hKK K g
  simp only [scVs4_1N]
  go_wp2_with fail
  replace hva6 := hva6.drew
  replace hvb6 := hvb6.drew
  replace hvc6 := hvc6.drew
  replace hvl6 := hvl6.drew
  replace hvr6 := hvr6.drew
  have hBq := (show Below w.heap.size w w6.drew from hB6.drew)
  refine wp_region_any (by kernel_rfl) ?_
  refine wpAny_flatS (L := [0, 1, 2, 3, 4, 5]) (by kernel_rfl) _ _ (scVs5_2 ka kb kc w.heap.size gb gc gl gr sab le tac tbc na zr) [(4, 9)] (fun _ => 25) (fun _ => kzeros) (fun _ => some (5, zr.map cellOf)) [0, 1, 2, 3, 4, 5, 6, 7, 8, 10, 11, 12, 13, 14, 15, 16, 17, 18, 19, 20, 21, 22, 23, 28, 29, 30, 31, 32, 33, 34, 35, 36, 37, 38, 39, 40, 41, 42, 43, 44, 45, 46, 47, 48, 49, 50, 51, 52, 53, 54, 55, 56, 57, 58, 59] (by kernel_rfl) (by kernel_rfl) ?_ (fun _ _ => zero_k32) ?_ ?_ ?_ (by rfl) ?_ 0 (by kernel_rfl) ?_
  · intro p hp
    rcases List.mem_cons.1 hp with rfl | hp
    · exact ⟨⟨_, rfl, rfl, rfl, rfl, by kernel_rfl, by kernel_rfl⟩⟩
    exact absurd hp List.not_mem_nil
  · intro p hp j l h
    rcases List.mem_cons.1 hp with rfl | hp
    · change some (5, zr.map cellOf) = some (j, l) at h
      cases h
      exact ⟨⟨_, 27, rfl, rfl, rfl, rfl, by kernel_rfl, by kernel_rfl, by kernel_rfl, rfl, by rw [List.length_map, Hzr.out]; exact size_k32, by rw [List.length_map, Hzr.out]; rfl, kcells_one _⟩, by decide⟩
    exact absurd hp List.not_mem_nil
  · intro p hp q hq j l l2 h1 h2
    rcases List.mem_cons.1 hp with rfl | hp
    · rcases List.mem_cons.1 hq with rfl | hq
      · rfl
      exact absurd hq List.not_mem_nil
    exact absurd hp List.not_mem_nil
  · exact all_cons rfl (all_cons rfl (all_cons rfl (all_cons rfl (all_cons rfl (all_cons rfl (all_cons rfl (all_cons rfl (all_cons rfl (all_cons rfl (all_cons rfl (all_cons rfl (all_cons rfl (all_cons rfl (all_cons rfl (all_cons rfl (all_cons rfl (all_cons rfl (all_cons rfl (all_cons rfl (all_cons rfl (all_cons rfl (all_cons rfl (all_cons rfl (all_cons rfl (all_cons rfl (all_cons rfl (all_cons rfl (all_cons rfl (all_cons rfl (all_cons rfl (all_cons rfl (all_cons rfl (all_cons rfl (all_cons rfl (all_cons rfl (all_cons rfl (all_cons rfl (all_cons rfl (all_cons rfl (all_cons rfl (all_cons rfl (all_cons rfl (all_cons rfl (all_cons rfl (all_cons rfl (all_cons rfl (all_cons rfl (all_cons rfl (all_cons rfl (all_cons rfl (all_cons rfl (all_cons rfl (all_cons rfl (all_cons rfl (all_nil)))))))))))))))))))))))))))))))))))))))))))))))))))))))
  · refine all_cons (.inr (.inl (mStep _ 24 rfl rfl rfl rfl (by kernel_rfl) (fun a hv => wanted_all rfl _) (fun a w K hb hv hK => mPure (hashVal ka) (exec_load _ _ _ _ rfl _ _ (hv 3 (by kernel_rfl) rfl) w (key_run (hva6.on hb) Hka.out)) hK)))) ?_
    refine all_cons (.inr (.inl (mStep _ 25 rfl rfl rfl rfl (by kernel_rfl) (fun a hv => wanted_all rfl _) (fun a w K hb hv hK => mPure (hashVal ka) (exec_load _ _ _ _ rfl _ _ (hv 3 (by kernel_rfl) rfl) w (key_run (hva6.on hb) Hka.out)) hK)))) ?_
    refine all_cons (.inr (.inl (mStep _ 26 rfl rfl rfl rfl (by kernel_rfl) (fun a hv => wanted_all rfl _) (fun a w K hb hv hK => mCall (hashVal na) 15 _ _ rfl [hashVal ka] (cons_eq (hv 25 (by kernel_rfl) rfl) (rfl)) (enters Tryd.func15 rfl rfl) (CN1.out w (hS.below (below_then hBq hb))) hK)))) ?_
    refine all_cons (.inr (.inl (mStep _ 27 rfl rfl rfl rfl (by kernel_rfl) (fun a hv => wanted_all rfl _) (fun a w K hb hv hK => mCall (hashVal zr) 11 _ _ rfl [hashVal ka, hashVal na] (cons_eq (hv 24 (by kernel_rfl) rfl) (cons_eq (hv 26 (by kernel_rfl) rfl) (rfl))) (enters Tryd.func11 rfl rfl) (CA3.out w (hS.below (below_then hBq hb))) hK)))) ?_
    refine all_cons (.inl ⟨(4, 9), by simp, rfl⟩) ?_
    refine all_cons (.inr (.inr ⟨(4, 9), by simp, _, rfl⟩)) ?_
    exact all_nil
  intro w7 g hb7 hN7 hap7
  obtain ⟨hgez, hvz7⟩ := hN7 (4, 9) (by simp)
  clear hN7 hap7
  have hB7 := below_then (show Below w.heap.size w w6.drew from hB6.drew) hb7
  have hlta : w.heap.size < w6.heap.size := hva6.lt
  have hltb : gb < w6.heap.size := hvb6.lt
  have hltc : gc < w6.heap.size := hvc6.lt
  have hltl : gl < w6.heap.size := hvl6.lt
  have hltr : gr < w6.heap.size := hvr6.lt
  have hva7 := hva6.on hb7
  have hvb7 := hvb6.on hb7
  have hvc7 := hvc6.on hb7
  have hvl7 := hvl6.on hb7
  have hvr7 := hvr6.on hb7
  rw [show withNew g [(4, 9)] (scVs5_2 ka kb kc w.heap.size gb gc gl gr sab le tac tbc na zr) = scVs5_2N ka kb kc w.heap.size gb gc gl gr sab le tac tbc na zr (g 9) from rfl]
  replace hgez : w6.heap.size ≤ g 9 := hgez
  replace hvz7 : Cells w7 (g 9) (zr.map cellOf) 25 := hvz7
  have hneaz : w.heap.size ≠ g 9 := Nat.ne_of_lt (Nat.lt_of_lt_of_le hlta hgez)
  have hnebz : gb ≠ g 9 := Nat.ne_of_lt (Nat.lt_of_lt_of_le hltb hgez)
  have hnecz : gc ≠ g 9 := Nat.ne_of_lt (Nat.lt_of_lt_of_le hltc hgez)
  have hnelz : gl ≠ g 9 := Nat.ne_of_lt (Nat.lt_of_lt_of_le hltl hgez)
  have hnerz : gr ≠ g 9 := Nat.ne_of_lt (Nat.lt_of_lt_of_le hltr hgez)
  replace hgez : w.heap.size ≤ g 9 := Nat.le_trans (show w.heap.size ≤ w6.heap.size from hB6.size) hgez
  clear hlta hltb hltc hltl hltr
  generalize g 9 = gz at *
  clear hB6 hva6 hvb6 hvc6 hvl6 hvr6 hb7 hBq
  refine ⟨by kernel_rfl, ?_⟩
  rename_i K hKK
  show Exit.then K _ Exit.normal (⟨(scVs5_2N ka kb kc w.heap.size gb gc gl gr sab le tac tbc na zr gz).toArray, []⟩ : Act) w7
  simp only [Exit.then]
  refine hKK _ _ ?_
  clear hKK K g
  simp only [scVs5_2N]
  go_wp2_with fail
  replace hva7 := hva7.drew
  replace hvb7 := hvb7.drew
  replace hvc7 := hvc7.drew
  replace hvl7 := hvl7.drew
  replace hvr7 := hvr7.drew
  replace hvz7 := hvz7.drew
  have hBq := (show Below w.heap.size w w7.drew from hB7.drew)
  refine wp_region_any (by kernel_rfl) ?_
  refine wpAny_flatM (L := [0, 1, 2, 3, 4, 5, 6, 7, 8, 9, 10, 11, 12, 13, 14, 15, 16, 17, 18, 19, 20, 21, 22, 23, 24, 25, 26, 27, 28, 29, 30, 31, 32]) (by kernel_rfl) _ _ (scVs6_3 ka kb kc w.heap.size gb gc gl gr gz sab le tac tbc na zr tab nt) [] 25 kzeros [0, 1, 2, 3, 4, 5, 7, 8, 9, 10, 11, 12, 13, 14, 15, 16, 17, 18, 19, 20, 21, 22, 23, 24, 25, 26, 27] (by kernel_rfl) (by kernel_rfl) ?_ zero_k32 ?_ (by rfl) ?_ 0 (by kernel_rfl) ?_
  · intro p hp
    exact absurd hp List.not_mem_nil
  · exact all_cons rfl (all_cons rfl (all_cons rfl (all_cons rfl (all_cons rfl (all_cons rfl (all_cons rfl (all_cons rfl (all_cons rfl (all_cons rfl (all_cons rfl (all_cons rfl (all_cons rfl (all_cons rfl (all_cons rfl (all_cons rfl (all_cons rfl (all_cons rfl (all_cons rfl (all_cons rfl (all_cons rfl (all_cons rfl (all_cons rfl (all_cons rfl (all_cons rfl (all_cons rfl (all_cons rfl (all_nil)))))))))))))))))))))))))))
  · refine all_cons (.inr (mStep _ 28 rfl rfl rfl rfl (by kernel_rfl) (fun a hv => wanted_all rfl _) (fun a w K hb hv hK => mPure (hashVal le) (exec_load _ _ _ _ rfl _ _ (hv 7 (by kernel_rfl) rfl) w (key_run (hvl7.on hb) Hle.out)) hK))) ?_
    refine all_cons (.inr (mStep _ 29 rfl rfl rfl rfl (by kernel_rfl) (fun a hv => wanted_all rfl _) (fun a w K hb hv hK => mPure (hashVal le) (exec_load _ _ _ _ rfl _ _ (hv 8 (by kernel_rfl) rfl) w (key_run (hvr7.on hb) Hle.out)) hK))) ?_
    refine all_cons (.inr (mStep _ 30 rfl rfl rfl rfl (by kernel_rfl) (fun a hv => wanted_all rfl _) (fun a w K hb hv hK => mPure (.bool true) (exec_bin _ _ _ _ _ _ _ rfl (hashVal le) (hashVal le) _ (hv 28 (by kernel_rfl) rfl) (hv 29 (by kernel_rfl) rfl) w ((fun w => key_guard _ _ _ _ _ w) w) ((EL) w)) hK))) ?_
    refine all_cons (.inr (mStep _ 31 rfl rfl rfl rfl (by kernel_rfl) (fun a hv => wanted_all rfl _) (fun a w K hb hv hK => mPure (.bool true) (exec_move _ _ _ (.inl rfl) _ (hv 30 (by kernel_rfl) rfl) w) hK))) ?_
    refine all_cons (.inr (mStep _ 32 rfl rfl rfl rfl (by kernel_rfl) (fun a hv => (wanted_is (j := 3) (b := true) (c := true) rfl rfl rfl (hv 31 (by kernel_rfl) rfl)).trans rfl) (fun a w K hb hv hK => mPure (hashVal zr) (exec_load _ _ _ _ rfl _ _ (hv 9 (by kernel_rfl) rfl) w (key_run (hvz7.on hb) Hzr.out)) hK))) ?_
    refine all_cons (.inr (mStep _ 33 rfl rfl rfl rfl (by kernel_rfl) (fun a hv => (wanted_is (j := 3) (b := true) (c := true) rfl rfl rfl (hv 31 (by kernel_rfl) rfl)).trans rfl) (fun a w K hb hv hK => mPure (hashVal zr) (exec_build _ _ _ [] rfl [] rfl _ w (BZ w)) hK))) ?_
    refine all_cons (.inr (mStep _ 34 rfl rfl rfl rfl (by kernel_rfl) (fun a hv => (wanted_is (j := 3) (b := true) (c := true) rfl rfl rfl (hv 31 (by kernel_rfl) rfl)).trans rfl) (fun a w K hb hv hK => mPure (.bool true) (exec_bin _ _ _ _ _ _ _ rfl (hashVal zr) (hashVal zr) _ (hv 32 (by kernel_rfl) rfl) (hv 33 (by kernel_rfl) rfl) w ((fun w => key_guard _ _ _ _ _ w) w) ((EZ) w)) hK))) ?_
    refine all_cons (.inr (mStep _ 35 rfl rfl rfl rfl (by kernel_rfl) (fun a hv => wanted_all rfl _) (fun a w K hb hv hK => mPure (.bool true) (pick_true _ _ _ _ _ rfl (hv 31 (by kernel_rfl) rfl) (.bool true) (hv 34 (by kernel_rfl) rfl) w) hK))) ?_
    refine all_cons (.inr (mStep _ 36 rfl rfl rfl rfl (by kernel_rfl) (fun a hv => wanted_all rfl _) (fun a w K hb hv hK => mPure (.bool true) (exec_move _ _ _ (.inl rfl) _ (hv 35 (by kernel_rfl) rfl) w) hK))) ?_
    refine all_cons (.inr (mStep _ 37 rfl rfl rfl rfl (by kernel_rfl) (fun a hv => (wanted_is (j := 8) (b := true) (c := true) rfl rfl rfl (hv 36 (by kernel_rfl) rfl)).trans rfl) (fun a w K hb hv hK => mPure (hashVal le) (exec_load _ _ _ _ rfl _ _ (hv 7 (by kernel_rfl) rfl) w (key_run (hvl7.on hb) Hle.out)) hK))) ?_
    refine all_cons (.inr (mStep _ 38 rfl rfl rfl rfl (by kernel_rfl) (fun a hv => (wanted_is (j := 8) (b := true) (c := true) rfl rfl rfl (hv 36 (by kernel_rfl) rfl)).trans rfl) (fun a w K hb hv hK => mCall (.bool true) 9 _ _ rfl [hashVal le] (cons_eq (hv 37 (by kernel_rfl) rfl) (rfl)) (enters Tryd.func9 rfl rfl) (CR.out w (hS.below (below_then hBq hb))) hK))) ?_
    refine all_cons (.inr (mStep _ 39 rfl rfl rfl rfl (by kernel_rfl) (fun a hv => wanted_all rfl _) (fun a w K hb hv hK => mPure (.bool true) (pick_true _ _ _ _ _ rfl (hv 36 (by kernel_rfl) rfl) (.bool true) (hv 38 (by kernel_rfl) rfl) w) hK))) ?_
    refine all_cons (.inr (mStep _ 40 rfl rfl rfl rfl (by kernel_rfl) (fun a hv => wanted_all rfl _) (fun a w K hb hv hK => mPure (.bool true) (exec_move _ _ _ (.inl rfl) _ (hv 39 (by kernel_rfl) rfl) w) hK))) ?_
    refine all_cons (.inr (mStep _ 41 rfl rfl rfl rfl (by kernel_rfl) (fun a hv => (wanted_is (j := 12) (b := true) (c := true) rfl rfl rfl (hv 40 (by kernel_rfl) rfl)).trans rfl) (fun a w K hb hv hK => mPure (hashVal ka) (exec_load _ _ _ _ rfl _ _ (hv 3 (by kernel_rfl) rfl) w (key_run (hva7.on hb) Hka.out)) hK))) ?_
    refine all_cons (.inr (mStep _ 42 rfl rfl rfl rfl (by kernel_rfl) (fun a hv => (wanted_is (j := 12) (b := true) (c := true) rfl rfl rfl (hv 40 (by kernel_rfl) rfl)).trans rfl) (fun a w K hb hv hK => mPure (hashVal kb) (exec_load _ _ _ _ rfl _ _ (hv 4 (by kernel_rfl) rfl) w (key_run (hvb7.on hb) Hkb.out)) hK))) ?_
    refine all_cons (.inr (mStep _ 43 rfl rfl rfl rfl (by kernel_rfl) (fun a hv => (wanted_is (j := 12) (b := true) (c := true) rfl rfl rfl (hv 40 (by kernel_rfl) rfl)).trans rfl) (fun a w K hb hv hK => mCall (hashVal tab) 13 _ _ rfl [hashVal ka, hashVal kb] (cons_eq (hv 41 (by kernel_rfl) rfl) (cons_eq (hv 42 (by kernel_rfl) rfl) (rfl))) (enters Tryd.func13 rfl rfl) (CT4.out w (hS.below (below_then hBq hb))) hK))) ?_
    refine all_cons (.inr (mStep _ 44 rfl rfl rfl rfl (by kernel_rfl) (fun a hv => (wanted_is (j := 12) (b := true) (c := true) rfl rfl rfl (hv 40 (by kernel_rfl) rfl)).trans rfl) (fun a w K hb hv hK => mPure (hashVal kb) (exec_load _ _ _ _ rfl _ _ (hv 4 (by kernel_rfl) rfl) w (key_run (hvb7.on hb) Hkb.out)) hK))) ?_
    refine all_cons (.inr (mStep _ 45 rfl rfl rfl rfl (by kernel_rfl) (fun a hv => (wanted_is (j := 12) (b := true) (c := true) rfl rfl rfl (hv 40 (by kernel_rfl) rfl)).trans rfl) (fun a w K hb hv hK => mPure (hashVal ka) (exec_load _ _ _ _ rfl _ _ (hv 3 (by kernel_rfl) rfl) w (key_run (hva7.on hb) Hka.out)) hK))) ?_
    refine all_cons (.inr (mStep _ 46 rfl rfl rfl rfl (by kernel_rfl) (fun a hv => (wanted_is (j := 12) (b := true) (c := true) rfl rfl rfl (hv 40 (by kernel_rfl) rfl)).trans rfl) (fun a w K hb hv hK => mCall (hashVal tab) 13 _ _ rfl [hashVal kb, hashVal ka] (cons_eq (hv 44 (by kernel_rfl) rfl) (cons_eq (hv 45 (by kernel_rfl) rfl) (rfl))) (enters Tryd.func13 rfl rfl) (CT5.out w (hS.below (below_then hBq hb))) hK))) ?_
    refine all_cons (.inr (mStep _ 47 rfl rfl rfl rfl (by kernel_rfl) (fun a hv => (wanted_is (j := 12) (b := true) (c := true) rfl rfl rfl (hv 40 (by kernel_rfl) rfl)).trans rfl) (fun a w K hb hv hK => mPure (.bool true) (exec_bin _ _ _ _ _ _ _ rfl (hashVal tab) (hashVal tab) _ (hv 43 (by kernel_rfl) rfl) (hv 46 (by kernel_rfl) rfl) w ((fun w => key_guard _ _ _ _ _ w) w) ((EB) w)) hK))) ?_
    refine all_cons (.inr (mStep _ 48 rfl rfl rfl rfl (by kernel_rfl) (fun a hv => wanted_all rfl _) (fun a w K hb hv hK => mPure (.bool true) (pick_true _ _ _ _ _ rfl (hv 40 (by kernel_rfl) rfl) (.bool true) (hv 47 (by kernel_rfl) rfl) w) hK))) ?_
    refine all_cons (.inr (mStep _ 49 rfl rfl rfl rfl (by kernel_rfl) (fun a hv => wanted_all rfl _) (fun a w K hb hv hK => mPure (.bool true) (exec_move _ _ _ (.inl rfl) _ (hv 48 (by kernel_rfl) rfl) w) hK))) ?_
    refine all_cons (.inr (mStep _ 50 rfl rfl rfl rfl (by kernel_rfl) (fun a hv => (wanted_is (j := 21) (b := true) (c := true) rfl rfl rfl (hv 49 (by kernel_rfl) rfl)).trans rfl) (fun a w K hb hv hK => mPure (hashVal ka) (exec_load _ _ _ _ rfl _ _ (hv 3 (by kernel_rfl) rfl) w (key_run (hva7.on hb) Hka.out)) hK))) ?_
    refine all_cons (.inr (mStep _ 51 rfl rfl rfl rfl (by kernel_rfl) (fun a hv => (wanted_is (j := 21) (b := true) (c := true) rfl rfl rfl (hv 49 (by kernel_rfl) rfl)).trans rfl) (fun a w K hb hv hK => mCall (hashVal na) 15 _ _ rfl [hashVal ka] (cons_eq (hv 50 (by kernel_rfl) rfl) (rfl)) (enters Tryd.func15 rfl rfl) (CN1.out w (hS.below (below_then hBq hb))) hK))) ?_
    refine all_cons (.inr (mStep _ 52 rfl rfl rfl rfl (by kernel_rfl) (fun a hv => (wanted_is (j := 21) (b := true) (c := true) rfl rfl rfl (hv 49 (by kernel_rfl) rfl)).trans rfl) (fun a w K hb hv hK => mPure (hashVal kb) (exec_load _ _ _ _ rfl _ _ (hv 4 (by kernel_rfl) rfl) w (key_run (hvb7.on hb) Hkb.out)) hK))) ?_
    refine all_cons (.inr (mStep _ 53 rfl rfl rfl rfl (by kernel_rfl) (fun a hv => (wanted_is (j := 21) (b := true) (c := true) rfl rfl rfl (hv 49 (by kernel_rfl) rfl)).trans rfl) (fun a w K hb hv hK => mCall (hashVal nt) 13 _ _ rfl [hashVal na, hashVal kb] (cons_eq (hv 51 (by kernel_rfl) rfl) (cons_eq (hv 52 (by kernel_rfl) rfl) (rfl))) (enters Tryd.func13 rfl rfl) (CT6.out w (hS.below (below_then hBq hb))) hK))) ?_
    refine all_cons (.inr (mStep _ 54 rfl rfl rfl rfl (by kernel_rfl) (fun a hv => (wanted_is (j := 21) (b := true) (c := true) rfl rfl rfl (hv 49 (by kernel_rfl) rfl)).trans rfl) (fun a w K hb hv hK => mPure (hashVal ka) (exec_load _ _ _ _ rfl _ _ (hv 3 (by kernel_rfl) rfl) w (key_run (hva7.on hb) Hka.out)) hK))) ?_
    refine all_cons (.inr (mStep _ 55 rfl rfl rfl rfl (by kernel_rfl) (fun a hv => (wanted_is (j := 21) (b := true) (c := true) rfl rfl rfl (hv 49 (by kernel_rfl) rfl)).trans rfl) (fun a w K hb hv hK => mPure (hashVal kb) (exec_load _ _ _ _ rfl _ _ (hv 4 (by kernel_rfl) rfl) w (key_run (hvb7.on hb) Hkb.out)) hK))) ?_
    refine all_cons (.inr (mStep _ 56 rfl rfl rfl rfl (by kernel_rfl) (fun a hv => (wanted_is (j := 21) (b := true) (c := true) rfl rfl rfl (hv 49 (by kernel_rfl) rfl)).trans rfl) (fun a w K hb hv hK => mCall (hashVal tab) 13 _ _ rfl [hashVal ka, hashVal kb] (cons_eq (hv 54 (by kernel_rfl) rfl) (cons_eq (hv 55 (by kernel_rfl) rfl) (rfl))) (enters Tryd.func13 rfl rfl) (CT4.out w (hS.below (below_then hBq hb))) hK))) ?_
    refine all_cons (.inr (mStep _ 57 rfl rfl rfl rfl (by kernel_rfl) (fun a hv => (wanted_is (j := 21) (b := true) (c := true) rfl rfl rfl (hv 49 (by kernel_rfl) rfl)).trans rfl) (fun a w K hb hv hK => mCall (hashVal nt) 15 _ _ rfl [hashVal tab] (cons_eq (hv 56 (by kernel_rfl) rfl) (rfl)) (enters Tryd.func15 rfl rfl) (CN2.out w (hS.below (below_then hBq hb))) hK))) ?_
    refine all_cons (.inr (mStep _ 58 rfl rfl rfl rfl (by kernel_rfl) (fun a hv => (wanted_is (j := 21) (b := true) (c := true) rfl rfl rfl (hv 49 (by kernel_rfl) rfl)).trans rfl) (fun a w K hb hv hK => mPure (.bool true) (exec_bin _ _ _ _ _ _ _ rfl (hashVal nt) (hashVal nt) _ (hv 53 (by kernel_rfl) rfl) (hv 57 (by kernel_rfl) rfl) w ((fun w => key_guard _ _ _ _ _ w) w) ((EN) w)) hK))) ?_
    refine all_cons (.inr (mStep _ 59 rfl rfl rfl rfl (by kernel_rfl) (fun a hv => wanted_all rfl _) (fun a w K hb hv hK => mPure (.bool true) (pick_true _ _ _ _ _ rfl (hv 49 (by kernel_rfl) rfl) (.bool true) (hv 58 (by kernel_rfl) rfl) w) hK))) ?_
    refine all_cons (.inr (mStep _ 6 rfl rfl rfl rfl (by kernel_rfl) (fun a hv => wanted_all rfl _) (fun a w K hb hv hK => mPure (.bool true) (exec_move _ _ _ (.inr rfl) _ (hv 59 (by kernel_rfl) rfl) w) hK))) ?_
    exact all_nil
  intro w8 g hb8 hN8 hap8
  clear hN8 hap8
  have hB8 := below_then (show Below w.heap.size w w7.drew from hB7.drew) hb8
  have hva8 := hva7.on hb8
  have hvb8 := hvb7.on hb8
  have hvc8 := hvc7.on hb8
  have hvl8 := hvl7.on hb8
  have hvr8 := hvr7.on hb8
  have hvz8 := hvz7.on hb8
  clear hB7 hva7 hvb7 hvc7 hvl7 hvr7 hvz7 hb8 hBq
  refine ⟨by kernel_rfl, ?_⟩
  rename_i K hKK
  show Exit.then K _ Exit.normal (⟨(scVs6_3 ka kb kc w.heap.size gb gc gl gr gz sab le tac tbc na zr tab nt).toArray, []⟩ : Act) w8
  simp only [Exit.then]
  refine hKK _ _ ?_
  clear hKK K g
  simp only [scVs6_3]
  go_wp2
  go_ret
  exact ⟨rfl, hB8⟩
end Go.Proofs.YticgkabamelddaaDoor
