/- The walks of the law fellowshiplaw08.SealTags. -/
import Derived.Test.YtdaieklimdhkoaaDoorPart12
import Derived.Test.YtdaieklimdhkoaaDoorWGuard
import Derived.IntWalk
namespace Go.Proofs.YtdaieklimdhkoaaDoor.sealTags
open Go.ChangeShapes Go.WideShapes Go.ChangeAt Go.RowKit
set_option maxRecDepth 100000 in
theorem loose_frame133 (a : Act) (hs : a.tmps.size = 133) (hd : a.defers = []) : ∃ u : Nat → Value, a = ⟨(u 0 :: u 1 :: u 2 :: u 3 :: u 4 :: u 5 :: u 6 :: u 7 :: u 8 :: u 9 :: u 10 :: u 11 :: u 12 :: u 13 :: u 14 :: u 15 :: u 16 :: u 17 :: u 18 :: u 19 :: u 20 :: u 21 :: u 22 :: u 23 :: u 24 :: u 25 :: u 26 :: u 27 :: u 28 :: u 29 :: u 30 :: u 31 :: u 32 :: u 33 :: u 34 :: u 35 :: u 36 :: u 37 :: u 38 :: u 39 :: u 40 :: u 41 :: u 42 :: u 43 :: u 44 :: u 45 :: u 46 :: u 47 :: u 48 :: u 49 :: u 50 :: u 51 :: u 52 :: u 53 :: u 54 :: u 55 :: u 56 :: u 57 :: u 58 :: u 59 :: u 60 :: u 61 :: u 62 :: u 63 :: u 64 :: u 65 :: u 66 :: u 67 :: u 68 :: u 69 :: u 70 :: u 71 :: u 72 :: u 73 :: u 74 :: u 75 :: u 76 :: u 77 :: u 78 :: u 79 :: u 80 :: u 81 :: u 82 :: u 83 :: u 84 :: u 85 :: u 86 :: u 87 :: u 88 :: u 89 :: u 90 :: u 91 :: u 92 :: u 93 :: u 94 :: u 95 :: u 96 :: u 97 :: u 98 :: u 99 :: u 100 :: u 101 :: u 102 :: u 103 :: u 104 :: u 105 :: u 106 :: u 107 :: u 108 :: u 109 :: u 110 :: u 111 :: u 112 :: u 113 :: u 114 :: u 115 :: u 116 :: u 117 :: u 118 :: u 119 :: u 120 :: u 121 :: u 122 :: u 123 :: u 124 :: u 125 :: u 126 :: u 127 :: u 128 :: u 129 :: u 130 :: u 131 :: u 132 :: []).toArray, []⟩ := by
  obtain ⟨u, h⟩ := frame_of 133 a hs hd
  exact ⟨u, h⟩
/-- Of a frame only some slots are told. -/
theorem told8 {P : Program} {c : Code} {Q : Exit → Act → World → Prop} {a : Act} {w : World} (n : Nat) (l : List (Nat × Value)) (hF : Fr n l a) (h : ∀ a', Fr n l a' → c.wp P Q a' w) : c.wp P Q a w := h a hF
set_option maxRecDepth 100000 in
set_option maxHeartbeats 1000000 in
theorem long_walk (A B D : Option Addr) (d n la ca L c : Nat) (x : Int) (key : List UInt8) (w : World) (HK : Hid (key.length = 32)) (hn : ¬ n = 12 ∨ 500 < la ∨ L < 16 ∨ 500 < L)
    (CA : Hid (∀ W, Below w.heap.size w W → Calls Tryd.prog 7 #[] W fun e w' => e = .returned (.bool true) ∧ Below W.heap.size W w')) :
    Calls Tryd.prog 5 #[caseVal8 key A n d B la ca, .slice D L c, .int .u8 x] w fun e w' => e = .returned (.bool true) ∧ Below w.heap.size w w' := by
  go_enter Tryd.func5, Tryd.ntmps5
  go_wp2_with (first
    | (refine vtake_step rfl 26 _ rfl (caseCells8 key A n d B la ca) rfl ?_
       intro w1 hB1 hC1))
  refine (CA.out w1 hB1).mono ?_
  rintro e w2 ⟨rfl, hb2⟩
  have hB2 := below_then hB1 hb2
  have hC2 := hC1.on hb2
  have c32 := case8_nonce HK.out hC2
  have c33 := case8_with HK.out hC2
  clear CA hB1 hC1 hb2
  have h : (decide (¬ (n : Int) = 12) || decide ((500 : Int) < (la : Int)) || decide ((L : Int) < 16) || decide ((500 : Int) < (L : Int))) = true := by
    simp only [Bool.or_eq_true, decide_eq_true_eq]
    omega
  by_cases h1 : (n : Int) = 12
  · by_cases h2 : (500 : Int) < (la : Int)
    · clear h hn
      go_wp2
      go_ret
      exact ⟨rfl, hB2⟩
    · by_cases h3 : (L : Int) < 16
      · clear h hn
        go_wp2
        go_ret
        exact ⟨rfl, hB2⟩
      · have h4 : (500 : Int) < (L : Int) := by omega
        clear h hn
        go_wp2
        go_ret
        exact ⟨rfl, hB2⟩
  · clear h hn
    go_wp2
    go_ret
    exact ⟨rfl, hB2⟩
set_option maxRecDepth 100000 in
set_option maxHeartbeats 2000000 in
theorem tags_over (A B : Option Addr) (b off d la ca n m c : Nat) (u x : UInt8) (key pp ss ts s1 s2 : List UInt8) (r1 : Bool) (es : List Addr) (eb : Addr) (w : World) (HK : Hid (key.length = 32)) (hla : la ≤ 500) (hm : m ≤ 484) (HNM : Hid (n = m + 16)) (hc : n ≤ c) (HSL : Hid (ss.length = n)) (hS : Row w w.heap.size (some ⟨b, off, none⟩) ss)
    (HX1 : Hid ((s1.map cellOf)[n - 1 - u.toNat % 16]? = some (cellOf x))) (HXU : Hid (bits .xor .u8 (x.toNat : Int) (u.toNat : Int) = ((x ^^^ u).toNat : Int))) (HS2 : Hid ((s1.map cellOf).set (n - 1 - u.toNat % 16) (cellOf (x ^^^ u)) = s2.map cellOf))
    (HTH : Hid (n - 1 - u.toNat % 16 + 1 ≤ (s1.map cellOf).length)) (HTS : Hid (ts.length = m)) (HTT : Hid (∀ W, Below w.heap.size w W → Row W W.heap.size (some ⟨b, off, none⟩) ts)) (HE : Hid (Errs w es)) (HEB : Hid (es[6]? = some eb))
    (CP : Hid (∀ gs W, Below w.heap.size w W → Row W W.heap.size (some ⟨gs, 0, none⟩) s2 → Calls Tryd.prog 13 #[hashVal key, .slice A 12 d, .slice B la ca, .slice (some ⟨gs, 0, none⟩) n n] W fun e w' => (u = 0 → GivesOk W ts m e w') ∧ (u ≠ 0 → e = .returned (.tuple #[.slice none 0 0, errAt eb]) ∧ Below W.heap.size W w')))
    (CA : Hid (∀ W, Below w.heap.size w W → Calls Tryd.prog 7 #[] W fun e w' => e = .returned (.bool true) ∧ Below W.heap.size W w'))
    (CO : Hid (∀ W, Below w.heap.size w W → Calls Tryd.prog 13 #[hashVal key, .slice A 12 d, .slice B la ca, .slice (some ⟨b, off, none⟩) n c] W fun e w' => (r1 = true → GivesOk W pp m e w') ∧ (r1 = false → e = .returned (.tuple #[.slice none 0 0, errAt eb]) ∧ Below W.heap.size W w')))
    (CS : Hid (r1 = true → ∀ F cf W, Below w.heap.size w W → Row W W.heap.size F pp → Calls Tryd.prog 9 #[hashVal key, .slice A 12 d, .slice B la ca, .slice F m cf] W (GivesOk W ss n)))
    (CT : Hid (∀ W, Below w.heap.size w W → Calls Tryd.prog 9 #[hashVal key, .slice A 12 d, .slice B la ca, .slice (some ⟨b, off, none⟩) m c] W (GivesCells W s1 n))) :
    Calls Tryd.prog 5 #[caseVal8 key A 12 d B la ca, .slice (some ⟨b, off, none⟩) n c, .int .u8 (u.toNat : Int)] w fun e w' => e = .returned (.bool true) ∧ Below w.heap.size w w' := by
  have i1 : ¬ (500 : Int) < (la : Int) := by omega
  have i2 : ¬ (n : Int) < 16 := by have := HNM.out; omega
  have i3 : ¬ (500 : Int) < (n : Int) := by have := HNM.out; omega
  go_enter Tryd.func5, Tryd.ntmps5
  go_wp2_with (first
    | (refine vtake_step rfl 26 _ rfl (caseCells8 key A 12 d B la ca) rfl ?_
       intro w1 hB1 hC1))
  refine (CA.out w1 hB1).mono ?_
  rintro e w2 ⟨rfl, hb2⟩
  have hB2 := below_then hB1 hb2
  have hC2 := hC1.on hb2
  have c32 := case8_nonce HK.out hC2
  have c33 := case8_with HK.out hC2
  have hrg := case8_range hC2
  clear CA hB1 hC1 hb2
  go_wp2_with (first
    | (refine range_step rfl 23 _ rfl w.heap.size 0 32 key 5 rfl hrg Tryd.underlying23 size_key HK.out ?_))
  refine (CO.out w2 hB2).mono ?_
  clear CO
  cases r1 with
  | true =>
    rintro e w3 ⟨h, _⟩
    obtain ⟨F, cf, rfl, _, _, _, r3, hb3⟩ := h rfl
    have hB3 := below_then hB2 hb3
    have hC3 := hC2.on hb3
    have CS3 := Lib.hid (CS.out rfl F cf w3 hB3 r3)
    clear CS c32 c33 hrg hB2 hC2 hb3 h r3
    have c32 := case8_nonce HK.out hC3
    have c33 := case8_with HK.out hC3
    have hrg := case8_range hC3
    go_wp2_with (first
      | (refine range_step rfl 23 _ rfl w.heap.size 0 32 key 5 rfl hrg Tryd.underlying23 size_key HK.out ?_))
    refine CS3.out.mono ?_
    rintro e w4 ⟨F4, c4, rfl, _, _, _, r4, hb4⟩
    have hB4 := below_then hB3 hb4
    have hC4 := hC3.on hb4
    have k1 := conv_n HSL.out r4 c4 w4 (Below.refl _ _)
    have k2 := conv_n HSL.out (hS.on hB4) c w4 (Below.refl _ _)
    clear CS3 c32 c33 hrg hB3 hC3 hb4 r4
    go_wp2_with fail
    clear k1 k2
    refine told8 133 [(1, .slice (some ⟨b, off, none⟩) n c), (2, .int .u8 (u.toNat : Int)), (3, .pointer (some ⟨w.heap.size, 0, none⟩))] ⟨rfl, rfl, rfl, rfl, rfl, trivial⟩ ?_
    rintro a ⟨hs0, hd0, s1', s2', s3', _⟩
    obtain ⟨f, rfl⟩ := loose_frame133 a hs0 hd0
    change f 1 = _ at s1'
    change f 2 = _ at s2'
    change f 3 = _ at s3'
    rw [s1', s2', s3']
    clear hs0 hd0 s1' s2' s3'
    have hN16 : (n : Int) - 16 = (m : Int) := by have := HNM.out; omega
    have iw : IntKind.i64.wrap ((n : Int) - 16) = (m : Int) := by rw [hN16]; exact IntWalk.i64_in _ (by omega)
    have hs : ∀ W : World, (Instr.slice 24 (.slice (some ⟨b, off, none⟩) n c) none (some (.int .i64 (m : Int))) none).run Tryd.prog W = .ok (.slice (some ⟨b, off, none⟩) m c) W := fun W => by
      have h := slice_to (some ⟨b, off, none⟩) n c m (by have := HNM.out; omega) hc W
      rw [cutA_some _ _ _ _ (by have := HNM.out; omega), Nat.add_zero] at h
      exact h
    have i4 : (m : Int) ≤ (c : Int) := by have := HNM.out; omega
    replace hN16 := Lib.hid hN16
    refine wp_region_any (by kernel_rfl) ?_
    show wpAny _ _ _ _ _ _ _ w4.drew
    simp only [List.size_toArray, List.length_cons, List.length_nil, Nat.reduceAdd, Array.replicate_succ, Array.replicate_zero, List.push_toArray, List.nil_append, List.cons_append]
    have hB5 : Below w.heap.size w w4.drew := hB4.drew
    have hC5 : Cells w4.drew w.heap.size (caseCells8 key A 12 d B la ca) 26 := hC4
    clear hB4 hC4
    generalize w4.drew = w5 at *
    refine wpAny_take (i := 0) (oi := ⟨some 70, _, _, _, _, _⟩) (v := .pointer (some ⟨w.heap.size, 0, none⟩)) rfl (by kernel_rfl) (by kernel_rfl) (by kernel_rfl) (fun _ _ _ h => h) (Or.inl ⟨by rfl, ?_⟩) ?_
    · (intro w; go_simp; try with_reducible rfl)
    simp only [Act.put, List.setIfInBounds_toArray, List.set_cons_zero, List.set_cons_succ]
    refine wpAny_take (i := 2) (oi := ⟨some 72, _, _, _, _, _⟩) (v := .pointer (some ⟨w.heap.size, 32, none⟩)) rfl (by kernel_rfl) (by kernel_rfl) (by kernel_rfl) (fun _ _ _ h => h) (Or.inl ⟨by rfl, ?_⟩) ?_
    · (intro w; go_simp; try with_reducible rfl)
    simp only [Act.put, List.setIfInBounds_toArray, List.set_cons_zero, List.set_cons_succ]
    refine wpAny_take (i := 4) (oi := ⟨some 74, _, _, _, _, _⟩) (v := .pointer (some ⟨w.heap.size, 33, none⟩)) rfl (by kernel_rfl) (by kernel_rfl) (by kernel_rfl) (fun _ _ _ h => h) (Or.inl ⟨by rfl, ?_⟩) ?_
    · (intro w; go_simp; try with_reducible rfl)
    simp only [Act.put, List.setIfInBounds_toArray, List.set_cons_zero, List.set_cons_succ]
    refine wpAny_take (i := 6) (oi := ⟨some 76, _, _, _, _, _⟩) (v := ?_) rfl (by kernel_rfl) (by kernel_rfl) (by kernel_rfl) (fun _ _ _ h => h) (Or.inl ⟨by rfl, ?_⟩) ?_
    rotate_left
    · (intro w; go_simp; try with_reducible rfl)
    simp only [Act.put, List.setIfInBounds_toArray, List.set_cons_zero, List.set_cons_succ]
    refine wpAny_take (i := 7) (oi := ⟨some 77, _, _, _, _, _⟩) (v := ?_) rfl (by kernel_rfl) (by kernel_rfl) (by kernel_rfl) (fun _ _ _ h => h) (Or.inl ⟨by rfl, ?_⟩) ?_
    rotate_left
    · (intro w; go_simp; try with_reducible rfl)
    simp only [Act.put, List.setIfInBounds_toArray, List.set_cons_zero, List.set_cons_succ]
    refine wpAny_take (i := 8) (oi := ⟨some 78, _, _, _, _, _⟩) (v := ?_) rfl (by kernel_rfl) (by kernel_rfl) (by kernel_rfl) (fun _ _ _ h => h) (Or.inl ⟨by rfl, ?_⟩) ?_
    rotate_left
    · (intro w; go_simp; try with_reducible rfl)
    simp only [Act.put, List.setIfInBounds_toArray, List.set_cons_zero, List.set_cons_succ]
    refine wpAny_take (i := 9) (oi := ⟨some 79, _, _, _, _, _⟩) (v := .int .i64 (m : Int)) rfl (by kernel_rfl) (by kernel_rfl) (by kernel_rfl) (fun _ _ _ h => h) (Or.inl ⟨by rfl, ?_⟩) ?_
    · (intro w; go_simp; try with_reducible rfl)
    simp only [Act.put, List.setIfInBounds_toArray, List.set_cons_zero, List.set_cons_succ]
    refine wpAny_take (i := 10) (oi := ⟨some 80, _, _, _, _, _⟩) (v := .slice (some ⟨b, off, none⟩) m c) rfl (by kernel_rfl) (by kernel_rfl) (by kernel_rfl) (fun _ _ _ h => h) (Or.inl ⟨by rfl, ?_⟩) ?_
    · (intro w; go_simp; try with_reducible rfl)
    simp only [Act.put, List.setIfInBounds_toArray, List.set_cons_zero, List.set_cons_succ]
    clear iw hs
    have c32 := case8_nonce HK.out hC5
    have c33 := case8_with HK.out hC5
    have hrg := case8_range hC5
    refine wpAny_of_until (S := fun w' => w'.rangeAt w.heap.size 0 (key.map cellOf) ∧ w'.cell? ⟨w.heap.size, 32, none⟩ = some (.slice A 12 d) ∧ w'.cell? ⟨w.heap.size, 33, none⟩ = some (.slice B la ca)) (c := 11) _ _ _ _ ?_
    refine wpAnyU_take (i := 1) (oi := ⟨some 71, _, _, _, _, _⟩) (v := _) rfl (by decide) (by kernel_rfl) (by kernel_rfl) (by kernel_rfl) (by kernel_rfl) (fun _ _ _ h => h) (yieldsIf_load_mid (by rfl) _ _ rfl w.heap.size 0 rfl (key.map cellOf) _ (fun _ h => h.1) Tryd.underlying23 rfl (by rw [List.length_map, HK.out]; exact size_key)) ⟨hrg, c32, c33⟩ ?_
    simp only [Act.put, List.setIfInBounds_toArray, List.set_cons_zero, List.set_cons_succ]
    refine wpAnyU_take (i := 3) (oi := ⟨some 73, _, _, _, _, _⟩) (v := .slice A 12 d) rfl (by decide) (by kernel_rfl) (by kernel_rfl) (by kernel_rfl) (by kernel_rfl) (fun _ _ _ h => h) (Or.inl ⟨by rfl, ?_⟩) ⟨hrg, c32, c33⟩ ?_
    · (intro w hSw; obtain ⟨q0, q1, q2⟩ := hSw; go_simp; try with_reducible rfl)
    simp only [Act.put, List.setIfInBounds_toArray, List.set_cons_zero, List.set_cons_succ]
    refine wpAnyU_take (i := 5) (oi := ⟨some 75, _, _, _, _, _⟩) (v := .slice B la ca) rfl (by decide) (by kernel_rfl) (by kernel_rfl) (by kernel_rfl) (by kernel_rfl) (fun _ _ _ h => h) (Or.inl ⟨by rfl, ?_⟩) ⟨hrg, c32, c33⟩ ?_
    · (intro w hSw; obtain ⟨q0, q1, q2⟩ := hSw; go_simp; try with_reducible rfl)
    simp only [Act.put, List.setIfInBounds_toArray, List.set_cons_zero, List.set_cons_succ]
    clear c32 c33 hrg
    refine wpAnyU_end (by kernel_rfl) rfl (fun K hK => ?_)
    refine call_op rfl 9 [.tmp 71, .tmp 73, .tmp 75, .tmp 80] _ rfl [hashVal key, .slice A 12 d, .slice B la ca, .slice (some ⟨b, off, none⟩) m c] rfl (enters Tryd.func9 (by kernel_rfl) (by kernel_rfl)) (CT.out w5 hB5) ?_
    rintro e w6 ⟨gs, rfl, hgs, hG6, hb6⟩
    refine ⟨_, rfl, hK.out _ _ ?_⟩
    have hB6 := below_then hB5 hb6
    have hC6 := hC5.on hb6
    have hgs2 : w.heap.size < gs := Nat.lt_of_lt_of_le hC5.lt hgs
    clear hK K hB5 hC5 hb6 CT hgs
    simp only [Act.put, List.setIfInBounds_toArray, List.set_cons_zero, List.set_cons_succ]
    refine wpAny_take (i := 12) (oi := ⟨some 69, _, _, _, _, _⟩) (v := ?_) rfl (by kernel_rfl) (by kernel_rfl) (by kernel_rfl) (fun _ _ _ h => h) (Or.inl ⟨by rfl, ?_⟩) ?_
    rotate_left
    · (intro w; go_simp; try with_reducible rfl)
    simp only [Act.put, List.setIfInBounds_toArray, List.set_cons_zero, List.set_cons_succ]
    refine wpAny_take (i := 13) (oi := ⟨some 82, _, _, _, _, _⟩) (v := ?_) rfl (by kernel_rfl) (by kernel_rfl) (by kernel_rfl) (fun _ _ _ h => h) (Or.inl ⟨by rfl, ?_⟩) ?_
    rotate_left
    · (intro w; go_simp; try with_reducible rfl)
    simp only [Act.put, List.setIfInBounds_toArray, List.set_cons_zero, List.set_cons_succ]
    refine wpAny_take (i := 14) (oi := ⟨some 83, _, _, _, _, _⟩) (v := ?_) rfl (by kernel_rfl) (by kernel_rfl) (by kernel_rfl) (fun _ _ _ h => h) (Or.inl ⟨by rfl, ?_⟩) ?_
    rotate_left
    · (intro w; go_simp; try with_reducible rfl)
    simp only [Act.put, List.setIfInBounds_toArray, List.set_cons_zero, List.set_cons_succ]
    refine wpAny_rest 15 rfl (by kernel_rfl) ?_
    simp only [List.drop_succ_cons, List.drop_zero]
    have hce := hG6.get HX1.out
    have hfr := hG6.frozen (n - 1 - u.toNat % 16)
    go_wp2_with (first
      | (refine store_step rfl 5 (.tmp 98) (.tmp 97) rfl gs (n - 1 - u.toNat % 16) .u8 (bits .xor .u8 (x.toNat : Int) (u.toNat : Int)) rfl rfl size_u8 (hG6.there _ 1 HTH.out) ?_
         intro w7 hw7
         rw [HXU.out] at hw7
         have hb7 : But gs w6 w7 := by rw [hw7]; exact (But.refl gs w6).setCell _ _
         have hG7 : Cells w7 gs (s2.map cellOf) 5 := by rw [hw7, ← HS2.out]; exact hG6.set _ _
         have hB7 := hB6.trans (hb7.below (by omega) hB6.size)
         have hC7 := hC6.but hb7 (by omega)
         have c32 := case8_nonce HK.out hC7
         have c33 := case8_with HK.out hC7
         have hrg := case8_range hC7
         clear hw7 hb7 hG6 hB6 hC6 hce hfr)
      | (refine range_step rfl 23 _ rfl w.heap.size 0 32 key 5 rfl hrg Tryd.underlying23 size_key HK.out ?_))
    refine (CP.out gs w7 hB7 hG7.all).mono ?_
    clear CP c32 c33 hrg hC7 hG7
    by_cases hu : u = 0
    · rintro e w8 ⟨h, _⟩
      obtain ⟨F8, c8, rfl, _, _, _, r8, hb8⟩ := h hu
      have hB8 := below_then hB7 hb8
      have iu : (u.toNat : Int) = 0 := by rw [hu]; rfl
      have k1 := fun j => conv_n HTS.out r8 c8 (w8.drewN j) (below_drewN (Below.refl _ _) j)
      have k2 := fun j => conv_n HTS.out (HTT.out w8 hB8) c (w8.drewN j) (below_drewN (Below.refl _ _) j)
      clear h hB7 hb8 r8
      go_wp2_with fail
      have hs : ∀ W : World, (Instr.slice 24 (.slice (some ⟨b, off, none⟩) n c) none (some (.int .i64 (m : Int))) none).run Tryd.prog W = .ok (.slice (some ⟨b, off, none⟩) m c) W := fun W => by
        have h := slice_to (some ⟨b, off, none⟩) n c m (by have := HNM.out; omega) hc W
        rw [cutA_some _ _ _ _ (by have := HNM.out; omega), Nat.add_zero] at h
        exact h
      have hn16 := hN16.out
      go_quiet (fail)
      go_wp2
      go_ret
      exact ⟨rfl, below_drewN hB8 _⟩
    · rintro e w8 ⟨_, h⟩
      obtain ⟨rfl, hb8⟩ := h hu
      have hB8 := below_then hB7 hb8
      have iu : ¬ (u.toNat : Int) = 0 := by
        intro h0
        exact hu (UInt8.toNat.inj (by rw [show (0 : UInt8).toNat = 0 from rfl]; omega))
      clear h hB7 hb8
      go_wp2_with fail
      refine (num_is es 6 7 eb w8 (HE.out.below hB8) HEB.out rfl).mono ?_
      rintro e w9 ⟨rfl, hb9⟩
      go_wp2
      go_ret
      exact ⟨rfl, below_then hB8 hb9⟩
  | false =>
    rintro e w4 ⟨_, h⟩
    obtain ⟨rfl, hb4⟩ := h rfl
    have hB4 := below_then hB2 hb4
    have hC4 := hC2.on hb4
    clear CS c32 c33 hrg hB2 hC2 hb4 h
    go_wp2_with fail
    refine told8 133 [(1, .slice (some ⟨b, off, none⟩) n c), (2, .int .u8 (u.toNat : Int)), (3, .pointer (some ⟨w.heap.size, 0, none⟩))] ⟨rfl, rfl, rfl, rfl, rfl, trivial⟩ ?_
    rintro a ⟨hs0, hd0, s1', s2', s3', _⟩
    obtain ⟨f, rfl⟩ := loose_frame133 a hs0 hd0
    change f 1 = _ at s1'
    change f 2 = _ at s2'
    change f 3 = _ at s3'
    rw [s1', s2', s3']
    clear hs0 hd0 s1' s2' s3'
    have hN16 : (n : Int) - 16 = (m : Int) := by have := HNM.out; omega
    have iw : IntKind.i64.wrap ((n : Int) - 16) = (m : Int) := by rw [hN16]; exact IntWalk.i64_in _ (by omega)
    have hs : ∀ W : World, (Instr.slice 24 (.slice (some ⟨b, off, none⟩) n c) none (some (.int .i64 (m : Int))) none).run Tryd.prog W = .ok (.slice (some ⟨b, off, none⟩) m c) W := fun W => by
      have h := slice_to (some ⟨b, off, none⟩) n c m (by have := HNM.out; omega) hc W
      rw [cutA_some _ _ _ _ (by have := HNM.out; omega), Nat.add_zero] at h
      exact h
    have i4 : (m : Int) ≤ (c : Int) := by have := HNM.out; omega
    replace hN16 := Lib.hid hN16
    refine wp_region_any (by kernel_rfl) ?_
    show wpAny _ _ _ _ _ _ _ w4.drew
    simp only [List.size_toArray, List.length_cons, List.length_nil, Nat.reduceAdd, Array.replicate_succ, Array.replicate_zero, List.push_toArray, List.nil_append, List.cons_append]
    have hB5 : Below w.heap.size w w4.drew := hB4.drew
    have hC5 : Cells w4.drew w.heap.size (caseCells8 key A 12 d B la ca) 26 := hC4
    clear hB4 hC4
    generalize w4.drew = w5 at *
    refine wpAny_take (i := 0) (oi := ⟨some 70, _, _, _, _, _⟩) (v := .pointer (some ⟨w.heap.size, 0, none⟩)) rfl (by kernel_rfl) (by kernel_rfl) (by kernel_rfl) (fun _ _ _ h => h) (Or.inl ⟨by rfl, ?_⟩) ?_
    · (intro w; go_simp; try with_reducible rfl)
    simp only [Act.put, List.setIfInBounds_toArray, List.set_cons_zero, List.set_cons_succ]
    refine wpAny_take (i := 2) (oi := ⟨some 72, _, _, _, _, _⟩) (v := .pointer (some ⟨w.heap.size, 32, none⟩)) rfl (by kernel_rfl) (by kernel_rfl) (by kernel_rfl) (fun _ _ _ h => h) (Or.inl ⟨by rfl, ?_⟩) ?_
    · (intro w; go_simp; try with_reducible rfl)
    simp only [Act.put, List.setIfInBounds_toArray, List.set_cons_zero, List.set_cons_succ]
    refine wpAny_take (i := 4) (oi := ⟨some 74, _, _, _, _, _⟩) (v := .pointer (some ⟨w.heap.size, 33, none⟩)) rfl (by kernel_rfl) (by kernel_rfl) (by kernel_rfl) (fun _ _ _ h => h) (Or.inl ⟨by rfl, ?_⟩) ?_
    · (intro w; go_simp; try with_reducible rfl)
    simp only [Act.put, List.setIfInBounds_toArray, List.set_cons_zero, List.set_cons_succ]
    refine wpAny_take (i := 6) (oi := ⟨some 76, _, _, _, _, _⟩) (v := ?_) rfl (by kernel_rfl) (by kernel_rfl) (by kernel_rfl) (fun _ _ _ h => h) (Or.inl ⟨by rfl, ?_⟩) ?_
    rotate_left
    · (intro w; go_simp; try with_reducible rfl)
    simp only [Act.put, List.setIfInBounds_toArray, List.set_cons_zero, List.set_cons_succ]
    refine wpAny_take (i := 7) (oi := ⟨some 77, _, _, _, _, _⟩) (v := ?_) rfl (by kernel_rfl) (by kernel_rfl) (by kernel_rfl) (fun _ _ _ h => h) (Or.inl ⟨by rfl, ?_⟩) ?_
    rotate_left
    · (intro w; go_simp; try with_reducible rfl)
    simp only [Act.put, List.setIfInBounds_toArray, List.set_cons_zero, List.set_cons_succ]
    refine wpAny_take (i := 8) (oi := ⟨some 78, _, _, _, _, _⟩) (v := ?_) rfl (by kernel_rfl) (by kernel_rfl) (by kernel_rfl) (fun _ _ _ h => h) (Or.inl ⟨by rfl, ?_⟩) ?_
    rotate_left
    · (intro w; go_simp; try with_reducible rfl)
    simp only [Act.put, List.setIfInBounds_toArray, List.set_cons_zero, List.set_cons_succ]
    refine wpAny_take (i := 9) (oi := ⟨some 79, _, _, _, _, _⟩) (v := .int .i64 (m : Int)) rfl (by kernel_rfl) (by kernel_rfl) (by kernel_rfl) (fun _ _ _ h => h) (Or.inl ⟨by rfl, ?_⟩) ?_
    · (intro w; go_simp; try with_reducible rfl)
    simp only [Act.put, List.setIfInBounds_toArray, List.set_cons_zero, List.set_cons_succ]
    refine wpAny_take (i := 10) (oi := ⟨some 80, _, _, _, _, _⟩) (v := .slice (some ⟨b, off, none⟩) m c) rfl (by kernel_rfl) (by kernel_rfl) (by kernel_rfl) (fun _ _ _ h => h) (Or.inl ⟨by rfl, ?_⟩) ?_
    · (intro w; go_simp; try with_reducible rfl)
    simp only [Act.put, List.setIfInBounds_toArray, List.set_cons_zero, List.set_cons_succ]
    clear iw hs
    have c32 := case8_nonce HK.out hC5
    have c33 := case8_with HK.out hC5
    have hrg := case8_range hC5
    refine wpAny_of_until (S := fun w' => w'.rangeAt w.heap.size 0 (key.map cellOf) ∧ w'.cell? ⟨w.heap.size, 32, none⟩ = some (.slice A 12 d) ∧ w'.cell? ⟨w.heap.size, 33, none⟩ = some (.slice B la ca)) (c := 11) _ _ _ _ ?_
    refine wpAnyU_take (i := 1) (oi := ⟨some 71, _, _, _, _, _⟩) (v := _) rfl (by decide) (by kernel_rfl) (by kernel_rfl) (by kernel_rfl) (by kernel_rfl) (fun _ _ _ h => h) (yieldsIf_load_mid (by rfl) _ _ rfl w.heap.size 0 rfl (key.map cellOf) _ (fun _ h => h.1) Tryd.underlying23 rfl (by rw [List.length_map, HK.out]; exact size_key)) ⟨hrg, c32, c33⟩ ?_
    simp only [Act.put, List.setIfInBounds_toArray, List.set_cons_zero, List.set_cons_succ]
    refine wpAnyU_take (i := 3) (oi := ⟨some 73, _, _, _, _, _⟩) (v := .slice A 12 d) rfl (by decide) (by kernel_rfl) (by kernel_rfl) (by kernel_rfl) (by kernel_rfl) (fun _ _ _ h => h) (Or.inl ⟨by rfl, ?_⟩) ⟨hrg, c32, c33⟩ ?_
    · (intro w hSw; obtain ⟨q0, q1, q2⟩ := hSw; go_simp; try with_reducible rfl)
    simp only [Act.put, List.setIfInBounds_toArray, List.set_cons_zero, List.set_cons_succ]
    refine wpAnyU_take (i := 5) (oi := ⟨some 75, _, _, _, _, _⟩) (v := .slice B la ca) rfl (by decide) (by kernel_rfl) (by kernel_rfl) (by kernel_rfl) (by kernel_rfl) (fun _ _ _ h => h) (Or.inl ⟨by rfl, ?_⟩) ⟨hrg, c32, c33⟩ ?_
    · (intro w hSw; obtain ⟨q0, q1, q2⟩ := hSw; go_simp; try with_reducible rfl)
    simp only [Act.put, List.setIfInBounds_toArray, List.set_cons_zero, List.set_cons_succ]
    clear c32 c33 hrg
    refine wpAnyU_end (by kernel_rfl) rfl (fun K hK => ?_)
    refine call_op rfl 9 [.tmp 71, .tmp 73, .tmp 75, .tmp 80] _ rfl [hashVal key, .slice A 12 d, .slice B la ca, .slice (some ⟨b, off, none⟩) m c] rfl (enters Tryd.func9 (by kernel_rfl) (by kernel_rfl)) (CT.out w5 hB5) ?_
    rintro e w6 ⟨gs, rfl, hgs, hG6, hb6⟩
    refine ⟨_, rfl, hK.out _ _ ?_⟩
    have hB6 := below_then hB5 hb6
    have hC6 := hC5.on hb6
    have hgs2 : w.heap.size < gs := Nat.lt_of_lt_of_le hC5.lt hgs
    clear hK K hB5 hC5 hb6 CT hgs
    simp only [Act.put, List.setIfInBounds_toArray, List.set_cons_zero, List.set_cons_succ]
    refine wpAny_take (i := 12) (oi := ⟨some 69, _, _, _, _, _⟩) (v := ?_) rfl (by kernel_rfl) (by kernel_rfl) (by kernel_rfl) (fun _ _ _ h => h) (Or.inl ⟨by rfl, ?_⟩) ?_
    rotate_left
    · (intro w; go_simp; try with_reducible rfl)
    simp only [Act.put, List.setIfInBounds_toArray, List.set_cons_zero, List.set_cons_succ]
    refine wpAny_take (i := 13) (oi := ⟨some 82, _, _, _, _, _⟩) (v := ?_) rfl (by kernel_rfl) (by kernel_rfl) (by kernel_rfl) (fun _ _ _ h => h) (Or.inl ⟨by rfl, ?_⟩) ?_
    rotate_left
    · (intro w; go_simp; try with_reducible rfl)
    simp only [Act.put, List.setIfInBounds_toArray, List.set_cons_zero, List.set_cons_succ]
    refine wpAny_take (i := 14) (oi := ⟨some 83, _, _, _, _, _⟩) (v := ?_) rfl (by kernel_rfl) (by kernel_rfl) (by kernel_rfl) (fun _ _ _ h => h) (Or.inl ⟨by rfl, ?_⟩) ?_
    rotate_left
    · (intro w; go_simp; try with_reducible rfl)
    simp only [Act.put, List.setIfInBounds_toArray, List.set_cons_zero, List.set_cons_succ]
    refine wpAny_rest 15 rfl (by kernel_rfl) ?_
    simp only [List.drop_succ_cons, List.drop_zero]
    have hce := hG6.get HX1.out
    have hfr := hG6.frozen (n - 1 - u.toNat % 16)
    go_wp2_with (first
      | (refine store_step rfl 5 (.tmp 98) (.tmp 97) rfl gs (n - 1 - u.toNat % 16) .u8 (bits .xor .u8 (x.toNat : Int) (u.toNat : Int)) rfl rfl size_u8 (hG6.there _ 1 HTH.out) ?_
         intro w7 hw7
         rw [HXU.out] at hw7
         have hb7 : But gs w6 w7 := by rw [hw7]; exact (But.refl gs w6).setCell _ _
         have hG7 : Cells w7 gs (s2.map cellOf) 5 := by rw [hw7, ← HS2.out]; exact hG6.set _ _
         have hB7 := hB6.trans (hb7.below (by omega) hB6.size)
         have hC7 := hC6.but hb7 (by omega)
         have c32 := case8_nonce HK.out hC7
         have c33 := case8_with HK.out hC7
         have hrg := case8_range hC7
         clear hw7 hb7 hG6 hB6 hC6 hce hfr)
      | (refine range_step rfl 23 _ rfl w.heap.size 0 32 key 5 rfl hrg Tryd.underlying23 size_key HK.out ?_))
    refine (CP.out gs w7 hB7 hG7.all).mono ?_
    clear CP c32 c33 hrg hC7 hG7
    by_cases hu : u = 0
    · rintro e w8 ⟨h, _⟩
      obtain ⟨F8, c8, rfl, _, _, _, r8, hb8⟩ := h hu
      have hB8 := below_then hB7 hb8
      have iu : (u.toNat : Int) = 0 := by rw [hu]; rfl
      have k1 := fun j => conv_n HTS.out r8 c8 (w8.drewN j) (below_drewN (Below.refl _ _) j)
      have k2 := fun j => conv_n HTS.out (HTT.out w8 hB8) c (w8.drewN j) (below_drewN (Below.refl _ _) j)
      clear h hB7 hb8 r8
      go_wp2_with fail
      have hs : ∀ W : World, (Instr.slice 24 (.slice (some ⟨b, off, none⟩) n c) none (some (.int .i64 (m : Int))) none).run Tryd.prog W = .ok (.slice (some ⟨b, off, none⟩) m c) W := fun W => by
        have h := slice_to (some ⟨b, off, none⟩) n c m (by have := HNM.out; omega) hc W
        rw [cutA_some _ _ _ _ (by have := HNM.out; omega), Nat.add_zero] at h
        exact h
      have hn16 := hN16.out
      go_quiet (fail)
      go_wp2
      go_ret
      exact ⟨rfl, below_drewN hB8 _⟩
    · rintro e w8 ⟨_, h⟩
      obtain ⟨rfl, hb8⟩ := h hu
      have hB8 := below_then hB7 hb8
      have iu : ¬ (u.toNat : Int) = 0 := by
        intro h0
        exact hu (UInt8.toNat.inj (by rw [show (0 : UInt8).toNat = 0 from rfl]; omega))
      clear h hB7 hb8
      go_wp2_with fail
      refine (num_is es 6 7 eb w8 (HE.out.below hB8) HEB.out rfl).mono ?_
      rintro e w9 ⟨rfl, hb9⟩
      go_wp2
      go_ret
      exact ⟨rfl, below_then hB8 hb9⟩
end Go.Proofs.YtdaieklimdhkoaaDoor.sealTags
