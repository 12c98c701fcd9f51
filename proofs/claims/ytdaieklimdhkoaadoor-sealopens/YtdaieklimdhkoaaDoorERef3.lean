/- The document's Seal and Open. -/
import Derived.Test.YtdaieklimdhkoaaDoorERef2
import Derived.Test.YtdaieklimdhkoaaDoorWGuard
import Derived.IntWalk
namespace Go.Proofs.YtdaieklimdhkoaaDoor
open Go.RowKit
/-- What a call answers that makes a row of these bytes, and a number. -/
def GivesNum (w : World) (bs : List UInt8) (n : Nat) (z : Int) (e : Ending) (w' : World) : Prop :=
  ∃ A c, e = .returned (.tuple #[.slice A n c, .int .i64 z]) ∧ (A = none → c = 0) ∧ n ≤ c ∧ c ≤ maxLen ∧ Row w' w'.heap.size A bs ∧ Below w.heap.size w w'
set_option maxRecDepth 100000 in
set_option maxHeartbeats 1000000 in
theorem refSeal_over (A B D : Option Addr) (d la ca L c : Nat) (key tt code out : List UInt8) (w : World) (HK : Hid (key.length = 32)) (HTL : Hid (tt.length = L)) (HCL : Hid (code.length = 16)) (HOUT : Hid (tt ++ code = out)) (HOL : Hid (out.length = L + 16)) (hla : la ≤ 16384) (hL : L ≤ 16384)
    (CT : Hid (∀ W, Below w.heap.size w W → Calls Tryd.prog 19 #[hashVal key, .int .u32 1, .slice A 12 d, .slice D L c] W (GivesOwn W tt L)))
    (CC : Hid (∀ g ce W, Below w.heap.size w W → Row W W.heap.size (some ⟨g, 0, none⟩) tt → Calls Tryd.prog 20 #[hashVal key, .slice A 12 d, .slice B la ca, .slice (some ⟨g, 0, none⟩) L ce] W (GivesArr W code))) :
    Calls Tryd.prog 10 #[hashVal key, .slice A 12 d, .slice B la ca, .slice D L c] w (GivesNum w out (L + 16) 0) := by
  have i1 : ¬ (16384 : Int) < (la : Int) := by omega
  have i2 : ¬ (16384 : Int) < (L : Int) := by omega
  go_enter Tryd.func10, Tryd.ntmps10
  go_wp2_with (first
    | (refine take_step rfl 22 (.tmp 0) rfl key rfl ?_
       intro w1 hB1 hK1 hz1
       clear hz1)
    | (refine get_step rfl 22 (.tmp 4) rfl w.heap.size 32 key 5 rfl hK1 Tryd.underlying22 size_r32 HK.out ?_))
  refine (CT.out w1 hB1).mono ?_
  rintro e w2 ⟨g, ct, rfl, hO2, hb2⟩
  have hB2 := below_then hB1 hb2
  have hK2 := hK1.on hb2
  have hz2 := hb2.size
  have hz1 := hB1.size
  clear CT hB1 hK1 hb2
  obtain ⟨b', off', hA', _, _, hT2⟩ : ∃ A' c', Value.slice (some ⟨g, 0, none⟩) L ct = .slice A' L c' ∧ True ∧ True ∧ Row w2 w2.heap.size A' tt := by
    obtain ⟨A', c', hv, _, _, _, h4⟩ := hO2.form2
    rw [HTL.out] at hv
    exact ⟨A', c', hv, trivial, trivial, h4⟩
  injection hA' with hA' _ hc'
  subst hA' hc'
  go_wp2_with (first
    | (refine get_step rfl 22 (.tmp 4) rfl w.heap.size 32 key 5 rfl hK2 Tryd.underlying22 size_r32 HK.out ?_))
  refine (CC.out g ct w2 hB2 hT2).mono ?_
  rintro e w3 ⟨gc, rfl, hg3, hC3, hb3⟩
  have hB3 := below_then hB2 hb3
  have hO3 := hO2.on hb3
  have hz3 := hb3.size
  clear CC hB2 hK2 hb3 hO2 hT2
  go_wp2_with (first
    | (at_builtin
       refine append_rowN rfl (.tmp 26) (.tmp 31) rfl w1.heap.size _ tt code w3.heap.size (some ⟨gc, 0, none⟩) 16 16 rfl hO3 rfl HCL.out (fun h => by cases h) hC3.all (by rw [HTL.out, HCL.out]; omega) (by omega) ?_
       intro v4 w4 hO4 hb4
       rw [HOUT.out] at hO4
       have hB4 := hB3.trans (hb4.mono hz1)
       obtain ⟨A4, c4, rfl, h1, h2, h3, h4⟩ := hO4.form2
       rw [HOL.out] at h1 ⊢
       clear hO3 hC3 hb4 hB3 hO4))
  go_ret2
  exact ⟨A4, c4, rfl, h3, h1, h2, h4, hB4⟩
theorem refSeal_any (A B D : Option Addr) (d la ca L c : Nat) (key nonce aas bs : List UInt8) (w : World) (hk : key.length = 32) (hn : nonce.length = 12) (rA : Row w w.heap.size A nonce) (hal : aas.length = la) (rB : Row w w.heap.size B aas) (hB : B = none → ca = 0) (hla : la ≤ 16384) (hbl : bs.length = L) (rD : Row w w.heap.size D bs) (hL : L ≤ 16384) :
    Calls Tryd.prog 10 #[hashVal key, .slice A 12 d, .slice B la ca, .slice D L c] w (GivesNum w (sealL key nonce aas bs) (L + 16) 0) := by
  have lt : (chTurn key 1 nonce bs).length = L := (chTurn_length _ _ _ _).trans hbl
  exact refSeal_over A B D d la ca L c key (chTurn key 1 nonce bs) (sealCode key nonce aas (chTurn key 1 nonce bs)) _ w hk lt (sealCode_length _ _ _ _) rfl (show _ = _ by rw [sealL_length, hbl]) hla hL
    (fun W hW => refStream_own A D d c L key nonce bs 1 W hk hn (rA.on hW) hbl (rD.on hW) (by omega))
    (fun g ce W hW hR => refCode_any A B _ d la ca L ce key nonce aas _ W hk hn (rA.on hW) hal (rB.on hW) hB hla lt hR (fun h => by cases h) hL)
set_option maxRecDepth 100000 in
theorem refSeal_out (A B D : Option Addr) (d n la ca L c : Nat) (key : List UInt8) (w : World) (hn : n ≠ 12) :
    Calls Tryd.prog 10 #[hashVal key, .slice A n d, .slice B la ca, .slice D L c] w fun e w' => e = .returned (.tuple #[.slice none 0 0, .int .i64 4]) ∧ Below w.heap.size w w' := by
  have i1 : ¬ (n : Int) = 12 := by omega
  go_enter Tryd.func10, Tryd.ntmps10
  go_wp2_with (first
    | (refine take_step rfl 22 (.tmp 0) rfl key rfl ?_
       intro w1 hB1 hK1 hz1
       clear hz1))
  go_ret2
  exact ⟨rfl, hB1⟩
set_option maxRecDepth 100000 in
theorem refSeal_long (A B D : Option Addr) (d la ca L c : Nat) (key : List UInt8) (w : World) (hl : 16384 < la ∨ 16384 < L) :
    Calls Tryd.prog 10 #[hashVal key, .slice A 12 d, .slice B la ca, .slice D L c] w fun e w' => e = .returned (.tuple #[.slice none 0 0, .int .i64 3]) ∧ Below w.heap.size w w' := by
  by_cases i1 : (16384 : Int) < (la : Int)
  all_goals
    try have i2 : (16384 : Int) < (L : Int) := by omega
    clear hl
    go_enter Tryd.func10, Tryd.ntmps10
    go_wp2_with (first
      | (refine take_step rfl 22 (.tmp 0) rfl key rfl ?_
         intro w1 hB1 hK1 hz1
         clear hz1))
    go_ret2
    exact ⟨rfl, hB1⟩
set_option maxRecDepth 100000 in
theorem loose_frame47 (a : Act) (hs : a.tmps.size = 47) (hd : a.defers = []) : ∃ u : Nat → Value, a = ⟨(u 0 :: u 1 :: u 2 :: u 3 :: u 4 :: u 5 :: u 6 :: u 7 :: u 8 :: u 9 :: u 10 :: u 11 :: u 12 :: u 13 :: u 14 :: u 15 :: u 16 :: u 17 :: u 18 :: u 19 :: u 20 :: u 21 :: u 22 :: u 23 :: u 24 :: u 25 :: u 26 :: u 27 :: u 28 :: u 29 :: u 30 :: u 31 :: u 32 :: u 33 :: u 34 :: u 35 :: u 36 :: u 37 :: u 38 :: u 39 :: u 40 :: u 41 :: u 42 :: u 43 :: u 44 :: u 45 :: u 46 :: []).toArray, []⟩ := by
  obtain ⟨u, h⟩ := frame_of 47 a hs hd
  exact ⟨u, h⟩
/-- What the operations of the code's test yield. -/
def rOpenYields (key code tag : List UInt8) (i : Nat) (v : Value) (w : World) : Prop := match i with
  | 0 => v = hashVal key
  | 6 => ∃ g, v = .slice (some ⟨g, 0, none⟩) 16 16 ∧ Cells w g (code.map cellOf) 45
  | 7 => v = .string (str code)
  | 11 => v = .string (str tag)
  | _ => True
theorem rOpenYields_on {key code tag : List UInt8} {i : Nat} {v : Value} {w w' : World} (h : rOpenYields key code tag i v w) (hb : Below w.heap.size w w') : rOpenYields key code tag i v w' := by
  unfold rOpenYields at h ⊢
  split
  all_goals first
    | exact h
    | trivial
    | (obtain ⟨gq, h1, h3⟩ := h
       exact ⟨gq, h1, h3.on hb⟩)
set_option maxRecDepth 100000 in
set_option maxHeartbeats 2000000 in
theorem refOpen_over (A B : Option Addr) (b off d la ca n m c : Nat) (key pp code tag : List UInt8) (r : Bool) (w : World) (HK : Hid (key.length = 32)) (HCL : Hid (code.length = 16)) (HTG : Hid (tag.length = 16)) (hla : la ≤ 16384) (HNM : Hid (n = m + 16)) (hm : m ≤ 16384) (hc : n ≤ c) (rC : Row w w.heap.size (some ⟨b, off + m, none⟩) tag) (HR : Hid ((code == tag) = r))
    (CC : Hid (∀ W, Below w.heap.size w W → Calls Tryd.prog 20 #[hashVal key, .slice A 12 d, .slice B la ca, .slice (some ⟨b, off, none⟩) m c] W (GivesArr W code)))
    (CT : Hid (∀ W, Below w.heap.size w W → Calls Tryd.prog 19 #[hashVal key, .int .u32 1, .slice A 12 d, .slice (some ⟨b, off, none⟩) m c] W (Gives W pp m))) :
    Calls Tryd.prog 14 #[hashVal key, .slice A 12 d, .slice B la ca, .slice (some ⟨b, off, none⟩) n c] w fun e w' => (r = true → GivesNum w pp m 0 e w') ∧ (r = false → e = .returned (.tuple #[.slice none 0 0, .int .i64 7]) ∧ Below w.heap.size w w') := by
  have i1 : ¬ (16384 : Int) < (la : Int) := by omega
  have i2 : ¬ (16400 : Int) < (n : Int) := by have := HNM.out; omega
  have i3 : ¬ (n : Int) < 16 := by have := HNM.out; omega
  have HN : Hid ((n : Int) - 16 = (m : Int)) := by show _ = _; have := HNM.out; omega
  go_enter Tryd.func14, Tryd.ntmps14
  go_wp2_with (first
    | (refine take_step rfl 22 (.tmp 0) rfl key rfl ?_
       intro w1 hB1 hK1 hz1
       clear hz1))
  rw [HN.out]
  have hs1 : ∀ W : World, (Instr.slice 24 (.slice (some ⟨b, off, none⟩) n c) none (some (.int .i64 (m : Int))) none).run Tryd.prog W = .ok (.slice (some ⟨b, off, none⟩) m c) W := fun W => by
    have h := slice_to (some ⟨b, off, none⟩) n c m (by have := HNM.out; omega) hc W
    rw [cutA_some _ _ _ _ (by have := HNM.out; omega), Nat.add_zero] at h
    exact h
  have hs2 : ∀ W : World, (Instr.slice 24 (.slice (some ⟨b, off, none⟩) n c) (some (.int .i64 (m : Int))) none none).run Tryd.prog W = .ok (.slice (some ⟨b, off + m, none⟩) 16 (c - m)) W := fun W => by
    have h := slice_from (some ⟨b, off, none⟩) n c m (by have := HNM.out; omega) W
    rw [cutA_some _ _ _ _ (by have := HNM.out; omega), show n - m = 16 by have := HNM.out; omega] at h
    exact h
  have i4 : (m : Int) ≤ (c : Int) := by have := HNM.out; omega
  have i5 : (m : Int) ≤ (n : Int) := by have := HNM.out; omega
  refine wp_region_any (by kernel_rfl) ?_
  show wpAny _ _ _ _ _ _ _ w1.drew
  simp only [List.size_toArray, List.length_cons, List.length_nil, Nat.reduceAdd, Array.replicate_succ, Array.replicate_zero, List.push_toArray, List.nil_append, List.cons_append]
  refine wpAny_take (i := 1) (oi := ⟨some 29, _, _, _, _, _⟩) (v := ?_) rfl (by kernel_rfl) (by kernel_rfl) (by kernel_rfl) (fun _ _ _ h => h) (Or.inl ⟨by rfl, ?_⟩) ?_
  rotate_left
  · (intro w; go_simp; try with_reducible rfl)
  simp only [Act.put, List.setIfInBounds_toArray, List.set_cons_zero, List.set_cons_succ]
  refine wpAny_take (i := 2) (oi := ⟨some 30, _, _, _, _, _⟩) (v := ?_) rfl (by kernel_rfl) (by kernel_rfl) (by kernel_rfl) (fun _ _ _ h => h) (Or.inl ⟨by rfl, ?_⟩) ?_
  rotate_left
  · (intro w; go_simp; try with_reducible rfl)
  simp only [Act.put, List.setIfInBounds_toArray, List.set_cons_zero, List.set_cons_succ]
  refine wpAny_take (i := 3) (oi := ⟨some 31, _, _, _, _, _⟩) (v := ?_) rfl (by kernel_rfl) (by kernel_rfl) (by kernel_rfl) (fun _ _ _ h => h) (Or.inl ⟨by rfl, ?_⟩) ?_
  rotate_left
  · (intro w; go_simp; try with_reducible rfl)
  simp only [Act.put, List.setIfInBounds_toArray, List.set_cons_zero, List.set_cons_succ]
  refine wpAny_take (i := 4) (oi := ⟨some 32, _, _, _, _, _⟩) (v := ?_) rfl (by kernel_rfl) (by kernel_rfl) (by kernel_rfl) (fun _ _ _ h => h) (Or.inl ⟨by rfl, ?_⟩) ?_
  rotate_left
  · (intro w; go_simp; try with_reducible rfl)
  simp only [Act.put, List.setIfInBounds_toArray, List.set_cons_zero, List.set_cons_succ]
  refine wpAny_take (i := 5) (oi := ⟨some 33, _, _, _, _, _⟩) (v := .slice (some ⟨b, off, none⟩) m c) rfl (by kernel_rfl) (by kernel_rfl) (by kernel_rfl) (fun _ _ _ h => h) (Or.inl ⟨by rfl, ?_⟩) ?_
  · (intro w; go_simp; try with_reducible rfl)
  simp only [Act.put, List.setIfInBounds_toArray, List.set_cons_zero, List.set_cons_succ]
  refine wpAny_take (i := 8) (oi := ⟨some 36, _, _, _, _, _⟩) (v := ?_) rfl (by kernel_rfl) (by kernel_rfl) (by kernel_rfl) (fun _ _ _ h => h) (Or.inl ⟨by rfl, ?_⟩) ?_
  rotate_left
  · (intro w; go_simp; try with_reducible rfl)
  simp only [Act.put, List.setIfInBounds_toArray, List.set_cons_zero, List.set_cons_succ]
  refine wpAny_take (i := 9) (oi := ⟨some 37, _, _, _, _, _⟩) (v := ?_) rfl (by kernel_rfl) (by kernel_rfl) (by kernel_rfl) (fun _ _ _ h => h) (Or.inl ⟨by rfl, ?_⟩) ?_
  rotate_left
  · (intro w; go_simp; try with_reducible rfl)
  simp only [Act.put, List.setIfInBounds_toArray, List.set_cons_zero, List.set_cons_succ]
  refine wpAny_take (i := 10) (oi := ⟨some 38, _, _, _, _, _⟩) (v := .slice (some ⟨b, off + m, none⟩) 16 (c - m)) rfl (by kernel_rfl) (by kernel_rfl) (by kernel_rfl) (fun _ _ _ h => h) (Or.inl ⟨by rfl, ?_⟩) ?_
  · (intro w; go_simp; try with_reducible rfl)
  simp only [Act.put, List.setIfInBounds_toArray, List.set_cons_zero, List.set_cons_succ]
  have hB2 : Below w.heap.size w w1.drew := hB1.drew
  have hK2 : Cells w1.drew w.heap.size (key.map cellOf) 22 := hK1
  clear hB1 hK1
  generalize w1.drew = w2 at *
  have hk2 := hK2.range 0 32
  rw [List.drop_zero, List.take_of_length_le (by rw [List.length_map, HK.out]; omega)] at hk2
  have hkw2 : w.heap.size < w2.heap.size := hK2.lt
  have kT := conv_n HTG.out (rC.on hB2) (c - m)
  refine wpAny_loose (L := [0, 6, 7, 11]) (fins := [(#[true, true, true, true, true, true, true, true, true, true, true, true, false], 1)]) (LooseAt w2 _ [(0, 28), (6, 34), (7, 35), (11, 39)] (rOpenYields key code tag)) ?_ ?_ 5 _ _ _ (by kernel_rfl) ⟨Below.refl _ _, rfl, rfl, fun _ _ => rfl, ?_⟩
  rotate_left 2
  · intro p hp hl
    simp only [List.mem_cons, List.not_mem_nil, or_false] at hp
    rcases hp with rfl | rfl | rfl | rfl
    all_goals cases hl
  · intro i hi
    simp only [List.mem_cons, List.not_mem_nil, or_false] at hi
    rcases hi with rfl | rfl | rfl | rfl
    · refine loose_step (slots := [(0, 28), (6, 34), (7, 35), (11, 39)]) (prop := rOpenYields key code tag) (by decide) (by decide) 47 rfl (by decide) (fun _ _ _ _ h hb => rOpenYields_on h hb) (i := 0) (s := 28) (by decide) rfl rfl ?_
      intro a w6 K hb hs hd hsame hfact hK
      exact load_op rfl 22 (.tmp 4) rfl w.heap.size 0 (hsame 4 (by decide)) (key.map cellOf) _ (range_on hk2 hkw2 hb) Tryd.underlying22 rfl (by rw [List.length_map, HK.out]; exact size_r32) (hK _ _ (Below.refl _ _) rfl)
    · refine loose_step (slots := [(0, 28), (6, 34), (7, 35), (11, 39)]) (prop := rOpenYields key code tag) (by decide) (by decide) 47 rfl (by decide) (fun _ _ _ _ h hb => rOpenYields_on h hb) (i := 6) (s := 34) (by decide) rfl rfl ?_
      intro a w6 K hb hs hd hsame hfact hK
      have s28 : a.tmps.getD 28 undef = hashVal key := hfact (0, 28) (by decide) (by kernel_rfl)
      refine call_op rfl 20 [.tmp 28, .tmp 29, .tmp 30, .tmp 33] _ rfl [hashVal key, .slice A 12 d, .slice B la ca, .slice (some ⟨b, off, none⟩) m c] ?_ (enters Tryd.func20 (by kernel_rfl) (by kernel_rfl)) (CC.out w6 (below_then hB2 hb)) ?_
      · simp only [List.map_cons, List.map_nil]
        rw [show a.eval (.tmp 28) = hashVal key from s28, show a.eval (.tmp 29) = .slice A 12 d from hsame 29 (by decide), show a.eval (.tmp 30) = .slice B la ca from hsame 30 (by decide), show a.eval (.tmp 33) = .slice (some ⟨b, off, none⟩) m c from hsame 33 (by decide)]
      · rintro e w7 ⟨gc, rfl, _, hC7, hb7⟩
        exact ⟨_, rfl, hK _ _ hb7 ⟨gc, rfl, hC7⟩⟩
    · refine loose_step (slots := [(0, 28), (6, 34), (7, 35), (11, 39)]) (prop := rOpenYields key code tag) (by decide) (by decide) 47 rfl (by decide) (fun _ _ _ _ h hb => rOpenYields_on h hb) (i := 7) (s := 35) (by decide) rfl rfl ?_
      intro a w6 K hb hs hd hsame hfact hK
      obtain ⟨gc, s34, hC⟩ := hfact (6, 34) (by decide) (by kernel_rfl)
      exact conv_op rfl 24 9 (.tmp 34) rfl (.slice (some ⟨gc, 0, none⟩) 16 16) _ s34 (conv_n HCL.out hC.all 16 w6 (Below.refl _ _)) (hK _ _ (Below.refl _ _) rfl)
    · refine loose_step (slots := [(0, 28), (6, 34), (7, 35), (11, 39)]) (prop := rOpenYields key code tag) (by decide) (by decide) 47 rfl (by decide) (fun _ _ _ _ h hb => rOpenYields_on h hb) (i := 11) (s := 39) (by decide) rfl rfl ?_
      intro a w6 K hb hs hd hsame hfact hK
      exact conv_op rfl 24 9 (.tmp 38) rfl (.slice (some ⟨b, off + m, none⟩) 16 (c - m)) _ (hsame 38 (by decide)) (kT w6 hb) (hK _ _ (Below.refl _ _) rfl)
  · intro f hf a w6 hA
    obtain rfl := List.mem_singleton.1 hf
    have hB6 := below_then hB2 hA.below
    have hK6 := hK2.on hA.below
    have s1 := hA.same 1 (by decide)
    have s3 := hA.same 3 (by decide)
    have s4 := hA.same 4 (by decide)
    have s10 := hA.same 10 (by decide)
    have s35 : a.tmps.getD 35 undef = .string (str code) := hA.fact (7, 35) (by decide) (by kernel_rfl)
    have s39 : a.tmps.getD 39 undef = .string (str tag) := hA.fact (11, 39) (by decide) (by kernel_rfl)
    obtain ⟨u, rfl⟩ := loose_frame47 a hA.size hA.defers
    change u 1 = .slice A 12 d at s1
    change u 3 = .slice (some ⟨b, off, none⟩) n c at s3
    change u 4 = .pointer (some ⟨w.heap.size, 0, none⟩) at s4
    change u 10 = .int .i64 (m : Int) at s10
    change u 35 = _ at s35
    change u 39 = _ at s39
    rw [s1, s3, s4, s10, s35, s39]
    clear s1 s3 s4 s10 s35 s39 hA hB2 hK2 hk2 hkw2 CC kT hs2
    refine wpAny_rest 12 rfl (by kernel_rfl) ?_
    simp only [List.drop_succ_cons, List.drop_zero]
    have sb : ((str code).toList == (str tag).toList) = r := (str_beq code tag).trans HR.out
    cases r with
    | false =>
      go_wp2
      go_ret2
      exact ⟨rfl, hB6⟩
    | true =>
      go_wp2_with fail
      have hk6 := hK6.range 0 32
      rw [List.drop_zero, List.take_of_length_le (by rw [List.length_map, HK.out]; omega)] at hk6
      refine wp_region_any (by kernel_rfl) ?_
      show wpAny _ _ _ _ _ _ _ w6.drew
      simp only [List.size_toArray, List.length_cons, List.length_nil, Nat.reduceAdd, Array.replicate_succ, Array.replicate_zero, List.push_toArray, List.nil_append, List.cons_append]
      refine wpAny_take (i := 1) (oi := ⟨some 42, _, _, _, _, _⟩) (v := ?_) rfl (by kernel_rfl) (by kernel_rfl) (by kernel_rfl) (fun _ _ _ h => h) (Or.inl ⟨by rfl, ?_⟩) ?_
      rotate_left
      · (intro w; go_simp; try with_reducible rfl)
      simp only [Act.put, List.setIfInBounds_toArray, List.set_cons_zero, List.set_cons_succ]
      refine wpAny_take (i := 2) (oi := ⟨some 43, _, _, _, _, _⟩) (v := ?_) rfl (by kernel_rfl) (by kernel_rfl) (by kernel_rfl) (fun _ _ _ h => h) (Or.inl ⟨by rfl, ?_⟩) ?_
      rotate_left
      · (intro w; go_simp; try with_reducible rfl)
      simp only [Act.put, List.setIfInBounds_toArray, List.set_cons_zero, List.set_cons_succ]
      refine wpAny_take (i := 3) (oi := ⟨some 44, _, _, _, _, _⟩) (v := ?_) rfl (by kernel_rfl) (by kernel_rfl) (by kernel_rfl) (fun _ _ _ h => h) (Or.inl ⟨by rfl, ?_⟩) ?_
      rotate_left
      · (intro w; go_simp; try with_reducible rfl)
      simp only [Act.put, List.setIfInBounds_toArray, List.set_cons_zero, List.set_cons_succ]
      refine wpAny_take (i := 4) (oi := ⟨some 45, _, _, _, _, _⟩) (v := .slice (some ⟨b, off, none⟩) m c) rfl (by kernel_rfl) (by kernel_rfl) (by kernel_rfl) (fun _ _ _ h => h) (Or.inl ⟨by rfl, ?_⟩) ?_
      · (intro w; go_simp; try with_reducible rfl)
      simp only [Act.put, List.setIfInBounds_toArray, List.set_cons_zero, List.set_cons_succ]
      have hB7 : Below w.heap.size w w6.drew := hB6.drew
      have hk7 : w6.drew.rangeAt w.heap.size 0 (key.map cellOf) := hk6
      clear hB6 hk6 hK6
      generalize w6.drew = w7 at *
      refine wpAny_one (i := 0) (by kernel_rfl) rfl (fun K hK => ?_)
      refine load_op rfl 22 (.tmp 4) rfl w.heap.size 0 rfl (key.map cellOf) _ hk7 Tryd.underlying22 rfl (by rw [List.length_map, HK.out]; exact size_r32) (hK.out _ _ ?_)
      simp only [Act.put, List.setIfInBounds_toArray, List.set_cons_zero]
      refine wpAny_rest 5 rfl (by kernel_rfl) ?_
      simp only [List.drop_succ_cons, List.drop_zero]
      change wpList _ _ _ _ ⟨(_ :: _ :: _ :: _ :: _ :: _).toArray, _⟩ _
      go_wp2_with fail
      refine (CT.out w7 hB7).mono ?_
      rintro e w8 ⟨F, cf, rfl, hF1, hF2, hF3, r8, hb8⟩
      go_wp2
      go_ret2
      exact ⟨F, cf, rfl, hF1, hF2, hF3, r8, below_then hB7 hb8⟩
theorem refOpen_any (A B D : Option Addr) (d la ca n c m : Nat) (key nonce aas ss : List UInt8) (r : Bool) (w : World) (hk : key.length = 32) (hn : nonce.length = 12) (rA : Row w w.heap.size A nonce) (hal : aas.length = la) (rB : Row w w.heap.size B aas) (hB : B = none → ca = 0) (hla : la ≤ 16384)
    (hsl : ss.length = n) (rD : Row w w.heap.size D ss) (hm : n = m + 16) (hm2 : m ≤ 16384) (hc : n ≤ c) (hr : (sealCode key nonce aas (ss.take m) == ss.drop m) = r) :
    Calls Tryd.prog 14 #[hashVal key, .slice A 12 d, .slice B la ca, .slice D n c] w fun e w' => (r = true → GivesNum w (chTurn key 1 nonce (ss.take m)) m 0 e w') ∧ (r = false → e = .returned (.tuple #[.slice none 0 0, .int .i64 7]) ∧ Below w.heap.size w w') := by
  obtain ⟨b, off, rfl⟩ := rD.some (by omega)
  have l1 : (ss.take m).length = m := by rw [List.length_take]; omega
  have l2 : (ss.drop m).length = 16 := by rw [List.length_drop]; omega
  have rT := rD.take m
  have rC : Row w w.heap.size (some ⟨b, off + m, none⟩) (ss.drop m) := by
    have h := rD.piece m 16
    rwa [List.take_of_length_le (by omega)] at h
  exact refOpen_over A B b off d la ca n m c key (chTurn key 1 nonce (ss.take m)) (sealCode key nonce aas (ss.take m)) (ss.drop m) r w hk (sealCode_length _ _ _ _) l2 hla hm hm2 hc rC hr
    (fun W hW => refCode_any A B _ d la ca m c key nonce aas _ W hk hn (rA.on hW) hal (rB.on hW) hB hla l1 (rT.on hW) (fun h => by cases h) hm2)
    (fun W hW => refStream_any A _ d c m key nonce (ss.take m) 1 W hk hn (rA.on hW) l1 (rT.on hW) (by omega))
set_option maxRecDepth 100000 in
theorem refOpen_out (A B D : Option Addr) (d n la ca L c : Nat) (key : List UInt8) (w : World) (hn : n ≠ 12) :
    Calls Tryd.prog 14 #[hashVal key, .slice A n d, .slice B la ca, .slice D L c] w fun e w' => e = .returned (.tuple #[.slice none 0 0, .int .i64 4]) ∧ Below w.heap.size w w' := by
  have i1 : ¬ (n : Int) = 12 := by omega
  go_enter Tryd.func14, Tryd.ntmps14
  go_wp2_with (first
    | (refine take_step rfl 22 (.tmp 0) rfl key rfl ?_
       intro w1 hB1 hK1 hz1
       clear hz1))
  go_ret2
  exact ⟨rfl, hB1⟩
set_option maxRecDepth 100000 in
theorem refOpen_short (A B D : Option Addr) (d la ca L c : Nat) (key : List UInt8) (w : World) (hl : L < 16) :
    Calls Tryd.prog 14 #[hashVal key, .slice A 12 d, .slice B la ca, .slice D L c] w fun e w' => e = .returned (.tuple #[.slice none 0 0, .int .i64 2]) ∧ Below w.heap.size w w' := by
  have i1 : (L : Int) < 16 := by omega
  go_enter Tryd.func14, Tryd.ntmps14
  go_wp2_with (first
    | (refine take_step rfl 22 (.tmp 0) rfl key rfl ?_
       intro w1 hB1 hK1 hz1
       clear hz1))
  go_ret2
  exact ⟨rfl, hB1⟩
set_option maxRecDepth 100000 in
theorem refOpen_long (A B D : Option Addr) (d la ca L c : Nat) (key : List UInt8) (w : World) (h16 : 16 ≤ L) (hl : 16384 < la ∨ 16400 < L) :
    Calls Tryd.prog 14 #[hashVal key, .slice A 12 d, .slice B la ca, .slice D L c] w fun e w' => e = .returned (.tuple #[.slice none 0 0, .int .i64 3]) ∧ Below w.heap.size w w' := by
  have i0 : ¬ (L : Int) < 16 := by omega
  by_cases i1 : (16384 : Int) < (la : Int)
  all_goals
    try have i2 : (16400 : Int) < (L : Int) := by omega
    clear hl
    go_enter Tryd.func14, Tryd.ntmps14
    go_wp2_with (first
      | (refine take_step rfl 22 (.tmp 0) rfl key rfl ?_
         intro w1 hB1 hK1 hz1
         clear hz1))
    go_ret2
    exact ⟨rfl, hB1⟩
end Go.Proofs.YtdaieklimdhkoaaDoor
