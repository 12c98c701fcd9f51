/- Part 11 of what the laws of this seat share: EOpen, CRefQ, CRefQ2, WOwnW, WAppAt. -/
import Derived.BigQuiet
import Derived.Deep.QuietTactic
import Derived.Deep.WholeRow
import Derived.Test.YtdaieklimdhkoaaDoorPart10
namespace Go.Proofs.YtdaieklimdhkoaaDoor
open Go.RowKit
set_option maxRecDepth 100000 in
theorem loose_frame61 (a : Act) (hs : a.tmps.size = 61) (hd : a.defers = []) : ∃ u : Nat → Value, a = ⟨(u 0 :: u 1 :: u 2 :: u 3 :: u 4 :: u 5 :: u 6 :: u 7 :: u 8 :: u 9 :: u 10 :: u 11 :: u 12 :: u 13 :: u 14 :: u 15 :: u 16 :: u 17 :: u 18 :: u 19 :: u 20 :: u 21 :: u 22 :: u 23 :: u 24 :: u 25 :: u 26 :: u 27 :: u 28 :: u 29 :: u 30 :: u 31 :: u 32 :: u 33 :: u 34 :: u 35 :: u 36 :: u 37 :: u 38 :: u 39 :: u 40 :: u 41 :: u 42 :: u 43 :: u 44 :: u 45 :: u 46 :: u 47 :: u 48 :: u 49 :: u 50 :: u 51 :: u 52 :: u 53 :: u 54 :: u 55 :: u 56 :: u 57 :: u 58 :: u 59 :: u 60 :: []).toArray, []⟩ := by
  obtain ⟨u, h⟩ := frame_of 61 a hs hd
  exact ⟨u, h⟩
/-- What the operations of the code's test yield. -/
def openYields (once cod : List UInt8) (N : Nat) (r : Bool) (i : Nat) (v : Value) (w : World) : Prop := match i with
  | 0 => v = hashVal once
  | 4 => ∃ A c, v = .slice A N c ∧ (A = none → c = 0) ∧ N ≤ c ∧ c ≤ maxLen ∧ Row w w.heap.size A cod
  | 5 => ∃ g A c, v = .slice (some ⟨g, 0, none⟩) 1 1 ∧ Cells w g [.slice A N c] 24 ∧ (A = none → c = 0) ∧ N ≤ c ∧ c ≤ maxLen ∧ Row w w.heap.size A cod
  | 6 => v = .bool r
  | _ => True
theorem openYields_on {once cod : List UInt8} {N i : Nat} {r : Bool} {v : Value} {w w' : World} (h : openYields once cod N r i v w) (hb : Below w.heap.size w w') : openYields once cod N r i v w' := by
  unfold openYields at h ⊢
  split
  all_goals first
    | exact h
    | trivial
    | (obtain ⟨A, c, h1, h2, h3, h4, h5⟩ := h
       exact ⟨A, c, h1, h2, h3, h4, h5.on hb⟩)
    | (obtain ⟨g, A, c, h1, h2, h3, h4, h5, h6⟩ := h
       exact ⟨g, A, c, h1, h2.on hb, h3, h4, h5, h6.on hb⟩)
set_option maxRecDepth 100000 in
set_option maxHeartbeats 2000000 in
theorem open_over (A B : Option Addr) (b off d la ca n m c N : Nat) (key once pp cod : List UInt8) (r : Bool) (ae : Addr) (w : World) (HK : Hid (key.length = 32)) (HO : Hid (once.length = 32)) (hla : la ≤ 16384) (HNM : Hid (n = m + 16)) (hm : m ≤ 16384) (hc : n ≤ c)
    (HE : Hid (∀ W, Below w.heap.size w W → W.cell? ⟨6, 0, none⟩ = some (errAt ae)))
    (CO : Hid (∀ W, Below w.heap.size w W → Calls Tryd.prog 15 #[hashVal key, .slice A 12 d] W fun e w' => e = .returned (.tuple #[hashVal once, .nilIface]) ∧ Below W.heap.size W w'))
    (CT : Hid (∀ W, Below w.heap.size w W → Calls Tryd.prog 16 #[hashVal key, .int .u32 1, .slice A 12 d, .slice (some ⟨b, off, none⟩) m c] W (GivesOk W pp m)))
    (CC : Hid (∀ W, Below w.heap.size w W → Calls Tryd.prog 18 #[.slice B la ca, .slice (some ⟨b, off, none⟩) m c] W (Gives W cod N)))
    (CR : Hid (∀ g E ce W, Below w.heap.size w W → Cells W g [.slice E N ce] 24 → Row W W.heap.size E cod → (E = none → ce = 0) → N ≤ ce → ce ≤ maxLen → Calls Tryd.prog 22 #[hashVal once, .slice (some ⟨b, off + m, none⟩) 16 (c - m), .slice (some ⟨g, 0, none⟩) 1 1] W fun e w' => e = .returned (.bool r) ∧ Below W.heap.size W w')) :
    Calls Tryd.prog 13 #[hashVal key, .slice A 12 d, .slice B la ca, .slice (some ⟨b, off, none⟩) n c] w fun e w' => (r = true → GivesOk w pp m e w') ∧ (r = false → e = .returned (.tuple #[.slice none 0 0, errAt ae]) ∧ Below w.heap.size w w') := by
  have i1 : ¬ (16384 : Int) < (la : Int) := by omega
  have i2 : ¬ (16400 : Int) < (n : Int) := by have := HNM.out; omega
  have i3 : ¬ (n : Int) < 16 := by have := HNM.out; omega
  have HN : Hid ((n : Int) - 16 = (m : Int)) := by show _ = _; have := HNM.out; omega
  go_enter Tryd.func13, Tryd.ntmps13
  go_wp2_with (first
    | (refine take_step rfl 23 (.tmp 0) rfl key rfl ?_
       intro w1 hB1 hK1 hz1
       clear hz1)
    | (refine get_step rfl 23 (.tmp 4) rfl w.heap.size 32 key 5 rfl hK1 Tryd.underlying23 size_key HK.out ?_))
  refine (CO.out w1 hB1).mono ?_
  rintro e w2 ⟨rfl, hb2⟩
  have hB2 := below_then hB1 hb2
  have hK2 := hK1.on hb2
  clear CO hB1 hK1 hb2
  go_wp2_with (first
    | (refine put_step rfl rfl 23 (.tmp 10) (.tmp 19) rfl rfl 32 once rfl rfl zero_key size_key HO.out ?_
       intro w3 hb3 hO3 hz3
       have hB3 := below_then hB2 hb3
       have hK3 := hK2.on hb3
       clear hz3 hB2 hK2 hb3))
  generalize hgo : w2.heap.size = go at *
  clear hgo
  rw [HN.out]
  have hs1 : ∀ W : World, (Instr.slice 24 (.slice (some ⟨b, off, none⟩) n c) none (some (.int .i64 (m : Int))) none).run Tryd.prog W = .ok (.slice (some ⟨b, off, none⟩) m c) W := fun W => by
    have h := slice_to (some ⟨b, off, none⟩) n c m (by have := HNM.out; omega) hc W
    rw [cutA_some _ _ _ _ (by have := HNM.out; omega), Nat.add_zero] at h
    exact h
  have hs2 : ∀ W : World, (Instr.slice 24 (.slice (some ⟨b, off, none⟩) n c) (some (.int .i64 (m : Int))) none none).run Tryd.prog W = .ok (.slice (some ⟨b, off + m, none⟩) 16 (c - m)) W := fun W => by
    have h := slice_from (some ⟨b, off, none⟩) n c m (by have := HNM.out; omega) W
    rw [cutA_some _ _ _ _ (by have := HNM.out; omega), show n - m = 16 by have := HNM.out; omega] at h
    exact h
  have i4 : (m : Int) ≤ (c : Int) := by have := HNM.out; omega
  have i5 : (m : Int) ≤ (n : Int) := by have := HNM.out; omega
  refine wp_region_any (by kernel_rfl) ?_
  show wpAny _ _ _ _ _ _ _ w3.drew
  simp only [List.size_toArray, List.length_cons, List.length_nil, Nat.reduceAdd, Array.replicate_succ, Array.replicate_zero, List.push_toArray, List.nil_append, List.cons_append]
  refine wpAny_take (i := 0) (oi := ⟨some 40, _, _, _, _, _⟩) (v := ?_) rfl (by kernel_rfl) (by kernel_rfl) (by kernel_rfl) (fun _ _ _ h => h) (Or.inl ⟨by rfl, ?_⟩) ?_
  rotate_left
  · (intro w; go_simp; try with_reducible rfl)
  simp only [Act.put, List.setIfInBounds_toArray, List.set_cons_zero, List.set_cons_succ]
  refine wpAny_take (i := 1) (oi := ⟨some 41, _, _, _, _, _⟩) (v := ?_) rfl (by kernel_rfl) (by kernel_rfl) (by kernel_rfl) (fun _ _ _ h => h) (Or.inl ⟨by rfl, ?_⟩) ?_
  rotate_left
  · (intro w; go_simp; try with_reducible rfl)
  simp only [Act.put, List.setIfInBounds_toArray, List.set_cons_zero, List.set_cons_succ]
  refine wpAny_take (i := 2) (oi := ⟨some 42, _, _, _, _, _⟩) (v := .slice (some ⟨b, off, none⟩) m c) rfl (by kernel_rfl) (by kernel_rfl) (by kernel_rfl) (fun _ _ _ h => h) (Or.inl ⟨by rfl, ?_⟩) ?_
  · (intro w; go_simp; try with_reducible rfl)
  simp only [Act.put, List.setIfInBounds_toArray, List.set_cons_zero, List.set_cons_succ]
  refine wpAny_take (i := 3) (oi := ⟨some 43, _, _, _, _, _⟩) (v := ?_) rfl (by kernel_rfl) (by kernel_rfl) (by kernel_rfl) (fun _ _ _ h => h) (Or.inl ⟨by rfl, ?_⟩) ?_
  rotate_left
  · (intro w; go_simp; try with_reducible rfl)
  simp only [Act.put, List.setIfInBounds_toArray, List.set_cons_zero, List.set_cons_succ]
  refine wpAny_take (i := 4) (oi := ⟨some 44, _, _, _, _, _⟩) (v := ?_) rfl (by kernel_rfl) (by kernel_rfl) (by kernel_rfl) (fun _ _ _ h => h) (Or.inl ⟨by rfl, ?_⟩) ?_
  rotate_left
  · (intro w; go_simp; try with_reducible rfl)
  simp only [Act.put, List.setIfInBounds_toArray, List.set_cons_zero, List.set_cons_succ]
  refine wpAny_take (i := 5) (oi := ⟨some 45, _, _, _, _, _⟩) (v := .slice (some ⟨b, off + m, none⟩) 16 (c - m)) rfl (by kernel_rfl) (by kernel_rfl) (by kernel_rfl) (fun _ _ _ h => h) (Or.inl ⟨by rfl, ?_⟩) ?_
  · (intro w; go_simp; try with_reducible rfl)
  simp only [Act.put, List.setIfInBounds_toArray, List.set_cons_zero, List.set_cons_succ]
  refine wpAny_rest 6 rfl (by kernel_rfl) ?_
  simp only [List.drop_succ_cons, List.drop_zero]
  have hB4 : Below w.heap.size w w3.drew := hB3.drew
  have hK4 : Cells w3.drew w.heap.size (key.map cellOf) 23 := hK3
  have hO4 : Cells w3.drew go (once.map cellOf) 23 := hO3
  clear hB3 hK3 hO3 hs1 hs2
  generalize w3.drew = w4 at *
  go_wp2_with fail
  refine wp_region_any (by kernel_rfl) ?_
  show wpAny _ _ _ _ _ _ _ w4.drew
  simp only [List.size_toArray, List.length_cons, List.length_nil, Nat.reduceAdd, Array.replicate_succ, Array.replicate_zero, List.push_toArray, List.nil_append, List.cons_append]
  have hB5 : Below w.heap.size w w4.drew := hB4.drew
  have hK5 : Cells w4.drew w.heap.size (key.map cellOf) 23 := hK4
  have hO5 : Cells w4.drew go (once.map cellOf) 23 := hO4
  clear hB4 hO4 hK4
  generalize w4.drew = w5 at *
  have ho5 := hO5.range 0 32
  rw [List.drop_zero, List.take_of_length_le (by rw [List.length_map, HO.out]; omega)] at ho5
  have how5 : go < w5.heap.size := hO5.lt
  refine wpAny_take (i := 1) (oi := ⟨some 47, _, _, _, _, _⟩) (v := ?_) rfl (by kernel_rfl) (by kernel_rfl) (by kernel_rfl) (fun _ _ _ h => h) (Or.inl ⟨by rfl, ?_⟩) ?_
  rotate_left
  · (intro w; go_simp; try with_reducible rfl)
  simp only [Act.put, List.setIfInBounds_toArray, List.set_cons_zero, List.set_cons_succ]
  refine wpAny_take (i := 2) (oi := ⟨some 48, _, _, _, _, _⟩) (v := ?_) rfl (by kernel_rfl) (by kernel_rfl) (by kernel_rfl) (fun _ _ _ h => h) (Or.inl ⟨by rfl, ?_⟩) ?_
  rotate_left
  · (intro w; go_simp; try with_reducible rfl)
  simp only [Act.put, List.setIfInBounds_toArray, List.set_cons_zero, List.set_cons_succ]
  refine wpAny_take (i := 3) (oi := ⟨some 49, _, _, _, _, _⟩) (v := ?_) rfl (by kernel_rfl) (by kernel_rfl) (by kernel_rfl) (fun _ _ _ h => h) (Or.inl ⟨by rfl, ?_⟩) ?_
  rotate_left
  · (intro w; go_simp; try with_reducible rfl)
  simp only [Act.put, List.setIfInBounds_toArray, List.set_cons_zero, List.set_cons_succ]
  refine wpAny_loose (L := [0, 4, 5, 6]) (fins := [(#[true, true, true, true, true, true, true, false], 1)]) (LooseAt w5 _ [(0, 46), (4, 50), (5, 51), (6, 52)] (openYields once cod N r)) ?_ ?_ 5 _ _ _ (by kernel_rfl) ⟨Below.refl _ _, rfl, rfl, fun _ _ => rfl, ?_⟩
  rotate_left 2
  · intro p hp hl
    simp only [List.mem_cons, List.not_mem_nil, or_false] at hp
    rcases hp with rfl | rfl | rfl | rfl
    all_goals cases hl
  · intro i hi
    simp only [List.mem_cons, List.not_mem_nil, or_false] at hi
    rcases hi with rfl | rfl | rfl | rfl
    · refine loose_step (slots := [(0, 46), (4, 50), (5, 51), (6, 52)]) (prop := openYields once cod N r) (by decide) (by decide) 61 rfl (by decide) (fun _ _ _ _ h hb => openYields_on h hb) (i := 0) (s := 46) (by decide) rfl rfl ?_
      intro a w6 K hb hs hd hsame hfact hK
      exact load_op rfl 23 (.tmp 10) rfl go 0 (hsame 10 (by decide)) (once.map cellOf) _ (range_on ho5 how5 hb) Tryd.underlying23 rfl (by rw [List.length_map, HO.out]; exact size_key) (hK _ _ (Below.refl _ _) rfl)
    · refine loose_step (slots := [(0, 46), (4, 50), (5, 51), (6, 52)]) (prop := openYields once cod N r) (by decide) (by decide) 61 rfl (by decide) (fun _ _ _ _ h hb => openYields_on h hb) (i := 4) (s := 50) (by decide) rfl rfl ?_
      intro a w6 K hb hs hd hsame hfact hK
      refine call_op rfl 18 [.tmp 48, .tmp 49] _ rfl [.slice B la ca, .slice (some ⟨b, off, none⟩) m c] ?_ (enters Tryd.func18 (by kernel_rfl) (by kernel_rfl)) (CC.out w6 (below_then hB5 hb)) ?_
      · simp only [List.map_cons, List.map_nil]
        rw [show a.eval (.tmp 48) = .slice B la ca from hsame 48 (by decide), show a.eval (.tmp 49) = .slice (some ⟨b, off, none⟩) m c from hsame 49 (by decide)]
      · rintro e w7 ⟨F, cf, rfl, hF1, hF2, hF3, r7, hb7⟩
        exact ⟨_, rfl, hK _ _ hb7 ⟨F, cf, rfl, hF1, hF2, hF3, r7⟩⟩
    · refine loose_step (slots := [(0, 46), (4, 50), (5, 51), (6, 52)]) (prop := openYields once cod N r) (by decide) (by decide) 61 rfl (by decide) (fun _ _ _ _ h hb => openYields_on h hb) (i := 5) (s := 51) (by decide) rfl rfl ?_
      intro a w6 K hb hs hd hsame hfact hK
      obtain ⟨F, cf, s50, hF1, hF2, hF3, rF⟩ := hfact (4, 50) (by decide) (by kernel_rfl)
      refine lit_op rfl 58 1 [(0, .tmp 50)] rfl [(0, .slice F N cf)] ?_ 24 [.slice F N cf] (fun w => by kernel_rfl) (fun w' hb' hc' => hK _ _ hb' ⟨_, F, cf, rfl, hc', hF1, hF2, hF3, rF.on hb'⟩)
      simp only [List.map_cons, List.map_nil]
      rw [show a.eval (.tmp 50) = .slice F N cf from s50]
    · refine loose_step (slots := [(0, 46), (4, 50), (5, 51), (6, 52)]) (prop := openYields once cod N r) (by decide) (by decide) 61 rfl (by decide) (fun _ _ _ _ h hb => openYields_on h hb) (i := 6) (s := 52) (by decide) rfl rfl ?_
      intro a w6 K hb hs hd hsame hfact hK
      have s46 : a.tmps.getD 46 undef = hashVal once := hfact (0, 46) (by decide) (by kernel_rfl)
      obtain ⟨gl, F, cf, s51, hl2, hF1, hF2, hF3, rF⟩ := hfact (5, 51) (by decide) (by kernel_rfl)
      refine call_op rfl 22 [.tmp 46, .tmp 47, .tmp 51] _ rfl [hashVal once, .slice (some ⟨b, off + m, none⟩) 16 (c - m), .slice (some ⟨gl, 0, none⟩) 1 1] ?_ (enters Tryd.func22 (by kernel_rfl) (by kernel_rfl)) (CR.out gl F cf w6 (below_then hB5 hb) hl2 rF hF1 hF2 hF3) ?_
      · simp only [List.map_cons, List.map_nil]
        rw [show a.eval (.tmp 46) = hashVal once from s46, show a.eval (.tmp 47) = .slice (some ⟨b, off + m, none⟩) 16 (c - m) from hsame 47 (by decide), show a.eval (.tmp 51) = .slice (some ⟨gl, 0, none⟩) 1 1 from s51]
      · rintro e w7 ⟨rfl, hb7⟩
        exact ⟨_, rfl, hK _ _ hb7 rfl⟩
  · intro f hf a w6 hA
    obtain rfl := List.mem_singleton.1 hf
    have hB6 := below_then hB5 hA.below
    have hK6 := hK5.on hA.below
    have s1 := hA.same 1 (by decide)
    have s4 := hA.same 4 (by decide)
    have s13 := hA.same 13 (by decide)
    have s52 : a.tmps.getD 52 undef = .bool r := hA.fact (6, 52) (by decide) (by kernel_rfl)
    obtain ⟨u, rfl⟩ := loose_frame61 a hA.size hA.defers
    change u 1 = .slice A 12 d at s1
    change u 4 = .pointer (some ⟨w.heap.size, 0, none⟩) at s4
    change u 13 = .slice (some ⟨b, off, none⟩) m c at s13
    change u 52 = _ at s52
    rw [s1, s4, s13, s52]
    clear s1 s4 s13 s52 hA hB5 hO5 hK5 ho5 how5 CC CR
    refine wpAny_rest 7 rfl (by kernel_rfl) ?_
    simp only [List.drop_succ_cons, List.drop_zero]
    cases r with
    | false =>
      have hE6 := HE.out w6 hB6
      go_wp2_with fail
      go_quiet (fail)
      go_wp2
      go_ret2
      exact ⟨rfl, below_drewN hB6 _⟩
    | true =>
      go_wp2_with (first
        | (refine get_step rfl 23 (.tmp 4) rfl w.heap.size 32 key 5 rfl hK6 Tryd.underlying23 size_key HK.out ?_))
      refine (CT.out w6 hB6).mono ?_
      rintro e w7 ⟨F, cf, rfl, hF1, hF2, hF3, r7, hb7⟩
      go_wp2
      go_ret2
      exact ⟨F, cf, rfl, hF1, hF2, hF3, r7, below_then hB6 hb7⟩
theorem sealOpen_any (A B D : Option Addr) (d la ca n c m : Nat) (key nonce aas ss : List UInt8) (ae : Addr) (r : Bool) (w : World) (hk : key.length = 32) (hn : nonce.length = 12) (rA : Row w w.heap.size A nonce) (hA : A = none → d = 0) (hd : 12 ≤ d) (hd2 : d ≤ maxLen)
    (hal : aas.length = la) (rB : Row w w.heap.size B aas) (hla : la ≤ 16384) (hsl : ss.length = n) (rD : Row w w.heap.size D ss) (hm : n = m + 16) (hm2 : m ≤ 16384) (hc : n ≤ c) (hE : w.cell? ⟨6, 0, none⟩ = some (errAt ae)) (hr : (sealCode key nonce aas (ss.take m) == ss.drop m) = r) :
    Calls Tryd.prog 13 #[hashVal key, .slice A 12 d, .slice B la ca, .slice D n c] w fun e w' => (r = true → GivesOk w (chTurn key 1 nonce (ss.take m)) m e w') ∧ (r = false → e = .returned (.tuple #[.slice none 0 0, errAt ae]) ∧ Below w.heap.size w w') := by
  obtain ⟨b, off, rfl⟩ := rD.some (by omega)
  have l1 : (ss.take m).length = m := by rw [List.length_take]; omega
  have l2 : (ss.drop m).length = 16 := by rw [List.length_drop]; omega
  have rT := rD.take m
  have rC : Row w w.heap.size (some ⟨b, off + m, none⟩) (ss.drop m) := by
    have h := rD.piece m 16
    rwa [List.take_of_length_le (by omega)] at h
  exact open_over A B b off d la ca n m c (codedL aas (ss.take m)).length key (onceL key nonce) (chTurn key 1 nonce (ss.take m)) (codedL aas (ss.take m)) r ae w hk (onceL_length _ _) hla hm hm2 hc (fun W hW => (hW.cell (block_lt_of_cell hE)).trans hE)
    (fun W hW => once_any A d key nonce W hk hn (rA.on hW) hA hd hd2) (fun W hW => streamTurn_any A _ d c m key nonce (ss.take m) 1 W hk hn (rA.on hW) hA hd hd2 l1 (rT.on hW) (by omega))
    (fun W hW => coded_any B _ la ca m c _ aas _ W hal l1 (by omega) (by omega) (rB.on hW) (rT.on hW) rfl)
    (fun g E ce W hW hC hR h1 h2 h3 => right_lit7 (onceL_length _ _) hC rfl hR h1 h2 h3 l2 (rC.on hW) r hr)
set_option maxRecDepth 100000 in
set_option maxHeartbeats 1000000 in
/-- The nonce hasn't 12 bytes. -/
theorem sealOpen_out (A B D : Option Addr) (d n la ca L c : Nat) (key : List UInt8) (a : Addr) (w : World) (hk : key.length = 32) (hn : n ≠ 12) (hE : w.cell? ⟨3, 0, none⟩ = some (errAt a)) :
    Calls Tryd.prog 13 #[hashVal key, .slice A n d, .slice B la ca, .slice D L c] w fun e w' => e = .returned (.tuple #[.slice none 0 0, errAt a]) ∧ Below w.heap.size w w' := by
  have CO : Hid (∀ W, Below w.heap.size w W → Calls Tryd.prog 15 #[hashVal key, .slice A n d] W fun e w' => e = .returned (.tuple #[hashVal key0, errAt a]) ∧ Below W.heap.size W w') := fun W hW => once_out A d n key a W hk hn ((hW.cell (block_lt_of_cell hE)).trans hE)
  have HK := Lib.hid hk
  have H0 : Hid (key0.length = 32) := rfl
  clear hE hk
  generalize key0 = k0 at *
  go_enter Tryd.func13, Tryd.ntmps13
  go_wp2_with (first
    | (refine take_step rfl 23 (.tmp 0) rfl key rfl ?_
       intro w1 hB1 hK1 hz1
       clear hz1)
    | (refine get_step rfl 23 (.tmp 4) rfl w.heap.size 32 key 5 rfl hK1 Tryd.underlying23 size_key HK.out ?_))
  refine (CO.out w1 hB1).mono ?_
  rintro e w2 ⟨rfl, hb2⟩
  have hB2 := below_then hB1 hb2
  clear CO hB1 hK1 hb2
  go_wp2_with (first
    | (refine put_step rfl rfl 23 (.tmp 10) (.tmp 19) rfl rfl 32 k0 rfl rfl zero_key size_key H0.out ?_
       intro w3 hb3 hO3 hz3
       have hB3 := below_then hB2 hb3
       skip
       clear hz3 hB2 hb3 hO3))
  go_ret2
  exact ⟨rfl, hB3⟩
set_option maxRecDepth 100000 in
set_option maxHeartbeats 1000000 in
/-- Too few bytes. -/
theorem sealOpen_short (A B D : Option Addr) (d la ca L c : Nat) (key nonce : List UInt8) (a : Addr) (w : World) (hk : key.length = 32) (hn : nonce.length = 12) (rA : Row w w.heap.size A nonce) (hA : A = none → d = 0) (hd : 12 ≤ d) (hd2 : d ≤ maxLen) (hl : L < 16) (hE : w.cell? ⟨2, 0, none⟩ = some (errAt a)) :
    Calls Tryd.prog 13 #[hashVal key, .slice A 12 d, .slice B la ca, .slice D L c] w fun e w' => e = .returned (.tuple #[.slice none 0 0, errAt a]) ∧ Below w.heap.size w w' := by
  have CO := Lib.hid (fun W (hW : Below w.heap.size w W) => once_any A d key nonce W hk hn (rA.on hW) hA hd hd2)
  have HK := Lib.hid hk
  have H0 := Lib.hid (onceL_length key nonce)
  have HE := Lib.hid (fun W (hW : Below w.heap.size w W) => (hW.cell (block_lt_of_cell hE)).trans hE)
  clear hE hk
  generalize onceL key nonce = k0 at *
  have i1 : (L : Int) < 16 := by omega
  go_enter Tryd.func13, Tryd.ntmps13
  go_wp2_with (first
    | (refine take_step rfl 23 (.tmp 0) rfl key rfl ?_
       intro w1 hB1 hK1 hz1
       clear hz1)
    | (refine get_step rfl 23 (.tmp 4) rfl w.heap.size 32 key 5 rfl hK1 Tryd.underlying23 size_key HK.out ?_))
  refine (CO.out w1 hB1).mono ?_
  rintro e w2 ⟨rfl, hb2⟩
  have hB2 := below_then hB1 hb2
  clear CO hB1 hK1 hb2
  go_wp2_with (first
    | (refine put_step rfl rfl 23 (.tmp 10) (.tmp 19) rfl rfl 32 k0 rfl rfl zero_key size_key H0.out ?_
       intro w3 hb3 hO3 hz3
       have hB3 := below_then hB2 hb3
       have hE3 := HE.out w3 hB3
       clear hz3 hB2 hb3 hO3))
  go_quiet (fail)
  go_wp2
  go_ret2
  exact ⟨rfl, below_drewN hB3 _⟩
set_option maxRecDepth 100000 in
set_option maxHeartbeats 1000000 in
/-- Too many bytes. -/
theorem sealOpen_long (A B D : Option Addr) (d la ca L c : Nat) (key nonce : List UInt8) (a : Addr) (w : World) (hk : key.length = 32) (hn : nonce.length = 12) (rA : Row w w.heap.size A nonce) (hA : A = none → d = 0) (hd : 12 ≤ d) (hd2 : d ≤ maxLen) (h16 : 16 ≤ L) (hl : 16384 < la ∨ 16400 < L) (hE : w.cell? ⟨0, 0, none⟩ = some (errAt a)) :
    Calls Tryd.prog 13 #[hashVal key, .slice A 12 d, .slice B la ca, .slice D L c] w fun e w' => e = .returned (.tuple #[.slice none 0 0, errAt a]) ∧ Below w.heap.size w w' := by
  have CO := Lib.hid (fun W (hW : Below w.heap.size w W) => once_any A d key nonce W hk hn (rA.on hW) hA hd hd2)
  have HK := Lib.hid hk
  have H0 := Lib.hid (onceL_length key nonce)
  have HE := Lib.hid (fun W (hW : Below w.heap.size w W) => (hW.cell (block_lt_of_cell hE)).trans hE)
  clear hE hk
  generalize onceL key nonce = k0 at *
  have i0 : ¬ (L : Int) < 16 := by omega
  by_cases i1 : (16384 : Int) < (la : Int)
  all_goals
    try have i2 : (16400 : Int) < (L : Int) := by omega
    clear hl
    go_enter Tryd.func13, Tryd.ntmps13
    go_wp2_with (first
      | (refine take_step rfl 23 (.tmp 0) rfl key rfl ?_
         intro w1 hB1 hK1 hz1
         clear hz1)
      | (refine get_step rfl 23 (.tmp 4) rfl w.heap.size 32 key 5 rfl hK1 Tryd.underlying23 size_key HK.out ?_))
    refine (CO.out w1 hB1).mono ?_
    rintro e w2 ⟨rfl, hb2⟩
    have hB2 := below_then hB1 hb2
    clear CO hB1 hK1 hb2
    go_wp2_with (first
      | (refine put_step rfl rfl 23 (.tmp 10) (.tmp 19) rfl rfl 32 k0 rfl rfl zero_key size_key H0.out ?_
         intro w3 hb3 hO3 hz3
         have hB3 := below_then hB2 hb3
         have hE3 := HE.out w3 hB3
         clear hz3 hB2 hb3 hO3))
    go_quiet (fail)
    go_wp2
    go_ret2
    exact ⟨rfl, below_drewN hB3 _⟩
end Go.Proofs.YtdaieklimdhkoaaDoor
namespace Go.Proofs.YtdaieklimdhkoaaDoor
open Go.RowKit
theorem turn6_any (x : BitVec 32) (n : Nat) (w : World) (hn0 : 0 < n) (hn : n < 32) :
    Calls Tryd.prog 59 #[.int .u32 x.toNat, .int .u64 n] w fun e w' => e = .returned (.int .u32 ((rotL32 x n).toNat : Int)) ∧ w' = w := by
  have HR : Hid (bits .or .u32 ((x.toNat : Int) * 2 ^ n % 4294967296) ((x.toNat : Int) / 2 ^ (32 - n)) = ((rotL32 x n).toNat : Int)) := by
    show _ = _
    rw [rotl32 x n hn]
    unfold rotL32
    rw [show ((n : Int) % 32).toNat = n by omega]
  have h1 : (32 : Int) - n = ((32 - n : Nat) : Int) := by omega
  have h2 : ((32 : Int) - (n : Int)).toNat = 32 - n := by omega
  go_enter Tryd.func59, Tryd.ntmps59
  go_wp2
  go_ret
  exact ⟨ret_int HR.out, rfl⟩
theorem turn6_at (x : BitVec 32) (z : Int) (w : World) (h0 : 0 < z) (h : z < 32) :
    Calls Tryd.prog 59 #[.int .u32 x.toNat, .int .u64 z] w fun e w' => e = .returned (.int .u32 ((rotL32 x z).toNat : Int)) ∧ w' = w := by
  obtain ⟨n, rfl⟩ := Int.eq_ofNat_of_zero_le (show 0 ≤ z by omega)
  exact turn6_any x n w (by omega) (by omega)
theorem wrest_at (l : List (BitVec 32)) (rest : List Value) (k : Nat) (hk : k < l.length) : (l.map wcell ++ rest)[k]? = some (wcell (l.getD k 0)) := by
  rw [List.getElem?_append_left (by rw [List.length_map]; exact hk), list_at l k hk]
theorem wrest_set (l : List (BitVec 32)) (rest : List Value) (k : Nat) (x : BitVec 32) (hk : k < l.length) : (l.map wcell ++ rest).set k (wcell x) = (l.set k x).map wcell ++ rest := by
  rw [List.set_append_left _ _ (by rw [List.length_map]; exact hk), wset_map]
/-- The quarter round statement by statement, in place. -/
def qstep (l : List (BitVec 32)) (i j k m : Nat) : List (BitVec 32) :=
  let l1 := l.set i (l.getD i 0 + l.getD j 0)
  let l2 := l1.set m (rotL32 (l1.getD m 0 ^^^ l1.getD i 0) 16)
  let l3 := l2.set k (l2.getD k 0 + l2.getD m 0)
  let l4 := l3.set j (rotL32 (l3.getD j 0 ^^^ l3.getD k 0) 12)
  let l5 := l4.set i (l4.getD i 0 + l4.getD j 0)
  let l6 := l5.set m (rotL32 (l5.getD m 0 ^^^ l5.getD i 0) 8)
  let l7 := l6.set k (l6.getD k 0 + l6.getD m 0)
  l7.set j (rotL32 (l7.getD j 0 ^^^ l7.getD k 0) 7)
theorem getD_set_self (l : List (BitVec 32)) (k : Nat) (x : BitVec 32) (h : k < l.length) : (l.set k x).getD k 0 = x := by
  rw [List.getD_eq_getElem?_getD, List.getElem?_set_self h]; rfl
theorem getD_set_other (l : List (BitVec 32)) (k j : Nat) (x : BitVec 32) (h : k ≠ j) : (l.set k x).getD j 0 = l.getD j 0 := by
  rw [List.getD_eq_getElem?_getD, List.getElem?_set_ne h, List.getD_eq_getElem?_getD]
theorem qstep_eq (l : List (BitVec 32)) (i j k m : Nat) (hi : i < l.length) (hj : j < l.length) (hk : k < l.length) (hm : m < l.length) (h1 : i ≠ j) (h2 : i ≠ k) (h3 : i ≠ m) (h4 : j ≠ k) (h5 : j ≠ m) (h6 : k ≠ m) : qstep l i j k m = qset l i j k m := by
  simp only [qstep, qset, qput, quarter, getD_set_self, getD_set_other, List.length_set, hi, hj, hk, hm, h1, h2, h3, h4, h5, h6, h1.symm, h2.symm, h3.symm, h4.symm, h5.symm, h6.symm, ne_eq, not_false_eq_true]
  generalize l.getD i 0 = a
  generalize l.getD j 0 = b
  generalize l.getD k 0 = c
  generalize l.getD m 0 = d
  generalize a + b = a1
  generalize rotL32 (d ^^^ a1) 16 = d1
  generalize c + d1 = c1
  generalize rotL32 (b ^^^ c1) 12 = b1
  generalize a1 + b1 = a2
  generalize rotL32 (d1 ^^^ a2) 8 = d2
  generalize c1 + d2 = c2
  generalize rotL32 (b1 ^^^ c2) 7 = b2
  refine List.ext_getElem? fun t => ?_
  simp only [List.getElem?_set, List.length_set]
  by_cases t1 : i = t
  · subst t1; simp [h1.symm, h2.symm, h3.symm, hi]
  · by_cases t2 : j = t
    · subst t2; simp [h4.symm, h5.symm, hj]
    · by_cases t3 : k = t
      · subst t3; simp [h4, h6.symm, hk]
      · by_cases t4 : m = t
        · subst t4; simp [h5, h6, hm]
        · simp [t1, t2, t3, t4]
end Go.Proofs.YtdaieklimdhkoaaDoor
namespace Go.Proofs.YtdaieklimdhkoaaDoor
open Go.RowKit
set_option maxRecDepth 100000 in
set_option maxHeartbeats 2000000 in
theorem refQuarter_step (g n c i j k m : Nat) (l : List (BitVec 32)) (rest : List Value) (w : World) (hl : l.length = n) (hi : i < n) (hj : j < n) (hk : k < n) (hm : m < n) (hC : Cells w g (l.map wcell ++ rest) 44) :
    Calls Tryd.prog 51 #[.slice (some ⟨g, 0, none⟩) n c, .int .i64 (i : Int), .int .i64 (j : Int), .int .i64 (k : Int), .int .i64 (m : Int)] w fun e w' => e = .returned (.tuple #[]) ∧ But g w w' ∧ Cells w' g ((qstep l i j k m).map wcell ++ rest) 44 := by
  have HL0 := Lib.hid hl
  have HI := Lib.hid hi
  have HJ := Lib.hid hj
  have HK := Lib.hid hk
  have HM := Lib.hid hm
  have i1 : (0 : Int) ≤ (i : Int) := by omega
  have i2 : (0 : Int) ≤ (j : Int) := by omega
  have i3 : (0 : Int) ≤ (k : Int) := by omega
  have i4 : (0 : Int) ≤ (m : Int) := by omega
  have j1 : (i : Int) < (n : Int) := by omega
  have j2 : (j : Int) < (n : Int) := by omega
  have j3 : (k : Int) < (n : Int) := by omega
  have j4 : (m : Int) < (n : Int) := by omega
  clear hl hi hj hk hm
  have hb0 : But g w w := But.refl g w
  obtain ⟨l0, hl0⟩ : ∃ l0, l0 = l := ⟨_, rfl⟩
  rw [← hl0] at hC HL0
  have HE0 := Lib.hid hl0
  clear hl0
  go_enter Tryd.func51, Tryd.ntmps51
  go_wp2_with fail
  refine wp_region_tail 12 (by kernel_rfl) (by kernel_rfl) ?_
  intro v0 hv
  have hd : Cells v0 g (l0.map wcell ++ rest) 44 := by rw [hv]; exact hC
  have hbd : But g w v0 := by rw [hv]; exact hb0.drew
  clear hv hC hb0
  have ca := hd.get (wrest_at l0 rest i (by rw [HL0.out]; exact HI.out))
  have cb := hd.get (wrest_at l0 rest j (by rw [HL0.out]; exact HJ.out))
  have ht := hd.there i 1 (by have h1 := HL0.out; have h2 := HI.out; rw [List.length_append, List.length_map]; omega)
  have HT := Lib.hid ht
  clear ht
  have HE1 : Hid (l0.set i (l0.getD i 0 + l0.getD j 0) = l0.set i (l0.getD i 0 + l0.getD j 0)) := rfl
  generalize hl1 : l0.set i (l0.getD i 0 + l0.getD j 0) = l1 at HE1
  clear HE1
  have HE1 := Lib.hid hl1
  clear hl1
  have HL1 : Hid (l1.length = n) := by show _ = _; rw [← HE1.out, List.length_set, HL0.out]
  have HX1 : Hid (∀ W, Cells W g (l0.map wcell ++ rest) 44 → Cells (W.setCell ⟨g, i, none⟩ (wcell (l0.getD i 0 + l0.getD j 0))) g (l1.map wcell ++ rest) 44) := by
    intro W h
    rw [← HE1.out, ← wrest_set l0 rest i _ (by rw [HL0.out]; exact HI.out)]
    exact h.set i _
  generalize l0.getD i 0 = xa at ca HX1
  generalize l0.getD j 0 = xb at cb HX1
  simp only [List.take_succ_cons, List.take_zero, List.drop_succ_cons, List.drop_zero]
  iterate 12 still_step
  refine wpStill_nil ?_
  clear ca cb
  go_wp2_with (first
    | (refine store_step rfl 44 _ _ rfl g i .u32 _ rfl rfl size_u32 HT.out ?_
       intro w1 hw
       have hC : Cells w1 g (l1.map wcell ++ rest) 44 := by rw [hw, wadd32]; exact HX1.out _ hd
       have hb1 : But g w w1 := by rw [hw]; exact hbd.setCell _ _
       clear hw hd hbd HT HX1))
  go_wp2_with fail
  refine wp_region_tail 13 (by kernel_rfl) (by kernel_rfl) ?_
  intro v1 hv
  have hd : Cells v1 g (l1.map wcell ++ rest) 44 := by rw [hv]; exact hC
  have hbd : But g w v1 := by rw [hv]; exact hb1.drew
  clear hv hC hb1
  have ca := hd.get (wrest_at l1 rest m (by rw [HL1.out]; exact HM.out))
  have cb := hd.get (wrest_at l1 rest i (by rw [HL1.out]; exact HI.out))
  have ht := hd.there m 1 (by have h1 := HL1.out; have h2 := HM.out; rw [List.length_append, List.length_map]; omega)
  have HT := Lib.hid ht
  clear ht
  have HE2 : Hid (l1.set m (rotL32 (l1.getD m 0 ^^^ l1.getD i 0) 16) = l1.set m (rotL32 (l1.getD m 0 ^^^ l1.getD i 0) 16)) := rfl
  generalize hl2 : l1.set m (rotL32 (l1.getD m 0 ^^^ l1.getD i 0) 16) = l2 at HE2
  clear HE2
  have HE2 := Lib.hid hl2
  clear hl2
  have HL2 : Hid (l2.length = n) := by show _ = _; rw [← HE2.out, List.length_set, HL1.out]
  have HX2 : Hid (∀ W, Cells W g (l1.map wcell ++ rest) 44 → Cells (W.setCell ⟨g, m, none⟩ (wcell (rotL32 (l1.getD m 0 ^^^ l1.getD i 0) 16))) g (l2.map wcell ++ rest) 44) := by
    intro W h
    rw [← HE2.out, ← wrest_set l1 rest m _ (by rw [HL1.out]; exact HM.out)]
    exact h.set m _
  generalize l1.getD m 0 = xa at ca HX2
  generalize l1.getD i 0 = xb at cb HX2
  simp only [List.take_succ_cons, List.take_zero, List.drop_succ_cons, List.drop_zero]
  have q := turn6_at (xa ^^^ xb) 16 v1 (by omega) (by omega)
  rw [← xor32] at q
  iterate 11 still_step
  still_call q
  still_step
  clear q
  refine wpStill_nil ?_
  clear ca cb
  go_wp2_with (first
    | (refine store_step rfl 44 _ _ rfl g m .u32 _ rfl rfl size_u32 HT.out ?_
       intro w2 hw
       have hC : Cells w2 g (l2.map wcell ++ rest) 44 := by rw [hw]; exact HX2.out _ hd
       have hb2 : But g w w2 := by rw [hw]; exact hbd.setCell _ _
       clear hw hd hbd HT HX2))
  go_wp2_with fail
  refine wp_region_tail 12 (by kernel_rfl) (by kernel_rfl) ?_
  intro v2 hv
  have hd : Cells v2 g (l2.map wcell ++ rest) 44 := by rw [hv]; exact hC
  have hbd : But g w v2 := by rw [hv]; exact hb2.drew
  clear hv hC hb2
  have ca := hd.get (wrest_at l2 rest k (by rw [HL2.out]; exact HK.out))
  have cb := hd.get (wrest_at l2 rest m (by rw [HL2.out]; exact HM.out))
  have ht := hd.there k 1 (by have h1 := HL2.out; have h2 := HK.out; rw [List.length_append, List.length_map]; omega)
  have HT := Lib.hid ht
  clear ht
  have HE3 : Hid (l2.set k (l2.getD k 0 + l2.getD m 0) = l2.set k (l2.getD k 0 + l2.getD m 0)) := rfl
  generalize hl3 : l2.set k (l2.getD k 0 + l2.getD m 0) = l3 at HE3
  clear HE3
  have HE3 := Lib.hid hl3
  clear hl3
  have HL3 : Hid (l3.length = n) := by show _ = _; rw [← HE3.out, List.length_set, HL2.out]
  have HX3 : Hid (∀ W, Cells W g (l2.map wcell ++ rest) 44 → Cells (W.setCell ⟨g, k, none⟩ (wcell (l2.getD k 0 + l2.getD m 0))) g (l3.map wcell ++ rest) 44) := by
    intro W h
    rw [← HE3.out, ← wrest_set l2 rest k _ (by rw [HL2.out]; exact HK.out)]
    exact h.set k _
  generalize l2.getD k 0 = xa at ca HX3
  generalize l2.getD m 0 = xb at cb HX3
  simp only [List.take_succ_cons, List.take_zero, List.drop_succ_cons, List.drop_zero]
  iterate 12 still_step
  refine wpStill_nil ?_
  clear ca cb
  go_wp2_with (first
    | (refine store_step rfl 44 _ _ rfl g k .u32 _ rfl rfl size_u32 HT.out ?_
       intro w3 hw
       have hC : Cells w3 g (l3.map wcell ++ rest) 44 := by rw [hw, wadd32]; exact HX3.out _ hd
       have hb3 : But g w w3 := by rw [hw]; exact hbd.setCell _ _
       clear hw hd hbd HT HX3))
  go_wp2_with fail
  refine wp_region_tail 13 (by kernel_rfl) (by kernel_rfl) ?_
  intro v3 hv
  have hd : Cells v3 g (l3.map wcell ++ rest) 44 := by rw [hv]; exact hC
  have hbd : But g w v3 := by rw [hv]; exact hb3.drew
  clear hv hC hb3
  have ca := hd.get (wrest_at l3 rest j (by rw [HL3.out]; exact HJ.out))
  have cb := hd.get (wrest_at l3 rest k (by rw [HL3.out]; exact HK.out))
  have ht := hd.there j 1 (by have h1 := HL3.out; have h2 := HJ.out; rw [List.length_append, List.length_map]; omega)
  have HT := Lib.hid ht
  clear ht
  have HE4 : Hid (l3.set j (rotL32 (l3.getD j 0 ^^^ l3.getD k 0) 12) = l3.set j (rotL32 (l3.getD j 0 ^^^ l3.getD k 0) 12)) := rfl
  generalize hl4 : l3.set j (rotL32 (l3.getD j 0 ^^^ l3.getD k 0) 12) = l4 at HE4
  clear HE4
  have HE4 := Lib.hid hl4
  clear hl4
  have HL4 : Hid (l4.length = n) := by show _ = _; rw [← HE4.out, List.length_set, HL3.out]
  have HX4 : Hid (∀ W, Cells W g (l3.map wcell ++ rest) 44 → Cells (W.setCell ⟨g, j, none⟩ (wcell (rotL32 (l3.getD j 0 ^^^ l3.getD k 0) 12))) g (l4.map wcell ++ rest) 44) := by
    intro W h
    rw [← HE4.out, ← wrest_set l3 rest j _ (by rw [HL3.out]; exact HJ.out)]
    exact h.set j _
  generalize l3.getD j 0 = xa at ca HX4
  generalize l3.getD k 0 = xb at cb HX4
  simp only [List.take_succ_cons, List.take_zero, List.drop_succ_cons, List.drop_zero]
  have q := turn6_at (xa ^^^ xb) 12 v3 (by omega) (by omega)
  rw [← xor32] at q
  iterate 11 still_step
  still_call q
  still_step
  clear q
  refine wpStill_nil ?_
  clear ca cb
  go_wp2_with (first
    | (refine store_step rfl 44 _ _ rfl g j .u32 _ rfl rfl size_u32 HT.out ?_
       intro w4 hw
       have hC : Cells w4 g (l4.map wcell ++ rest) 44 := by rw [hw]; exact HX4.out _ hd
       have hb4 : But g w w4 := by rw [hw]; exact hbd.setCell _ _
       clear hw hd hbd HT HX4))
  go_wp2_with fail
  refine wp_region_tail 12 (by kernel_rfl) (by kernel_rfl) ?_
  intro v4 hv
  have hd : Cells v4 g (l4.map wcell ++ rest) 44 := by rw [hv]; exact hC
  have hbd : But g w v4 := by rw [hv]; exact hb4.drew
  clear hv hC hb4
  have ca := hd.get (wrest_at l4 rest i (by rw [HL4.out]; exact HI.out))
  have cb := hd.get (wrest_at l4 rest j (by rw [HL4.out]; exact HJ.out))
  have ht := hd.there i 1 (by have h1 := HL4.out; have h2 := HI.out; rw [List.length_append, List.length_map]; omega)
  have HT := Lib.hid ht
  clear ht
  have HE5 : Hid (l4.set i (l4.getD i 0 + l4.getD j 0) = l4.set i (l4.getD i 0 + l4.getD j 0)) := rfl
  generalize hl5 : l4.set i (l4.getD i 0 + l4.getD j 0) = l5 at HE5
  clear HE5
  have HE5 := Lib.hid hl5
  clear hl5
  have HL5 : Hid (l5.length = n) := by show _ = _; rw [← HE5.out, List.length_set, HL4.out]
  have HX5 : Hid (∀ W, Cells W g (l4.map wcell ++ rest) 44 → Cells (W.setCell ⟨g, i, none⟩ (wcell (l4.getD i 0 + l4.getD j 0))) g (l5.map wcell ++ rest) 44) := by
    intro W h
    rw [← HE5.out, ← wrest_set l4 rest i _ (by rw [HL4.out]; exact HI.out)]
    exact h.set i _
  generalize l4.getD i 0 = xa at ca HX5
  generalize l4.getD j 0 = xb at cb HX5
  simp only [List.take_succ_cons, List.take_zero, List.drop_succ_cons, List.drop_zero]
  iterate 12 still_step
  refine wpStill_nil ?_
  clear ca cb
  go_wp2_with (first
    | (refine store_step rfl 44 _ _ rfl g i .u32 _ rfl rfl size_u32 HT.out ?_
       intro w5 hw
       have hC : Cells w5 g (l5.map wcell ++ rest) 44 := by rw [hw, wadd32]; exact HX5.out _ hd
       have hb5 : But g w w5 := by rw [hw]; exact hbd.setCell _ _
       clear hw hd hbd HT HX5))
  go_wp2_with fail
  refine wp_region_tail 13 (by kernel_rfl) (by kernel_rfl) ?_
  intro v5 hv
  have hd : Cells v5 g (l5.map wcell ++ rest) 44 := by rw [hv]; exact hC
  have hbd : But g w v5 := by rw [hv]; exact hb5.drew
  clear hv hC hb5
  have ca := hd.get (wrest_at l5 rest m (by rw [HL5.out]; exact HM.out))
  have cb := hd.get (wrest_at l5 rest i (by rw [HL5.out]; exact HI.out))
  have ht := hd.there m 1 (by have h1 := HL5.out; have h2 := HM.out; rw [List.length_append, List.length_map]; omega)
  have HT := Lib.hid ht
  clear ht
  have HE6 : Hid (l5.set m (rotL32 (l5.getD m 0 ^^^ l5.getD i 0) 8) = l5.set m (rotL32 (l5.getD m 0 ^^^ l5.getD i 0) 8)) := rfl
  generalize hl6 : l5.set m (rotL32 (l5.getD m 0 ^^^ l5.getD i 0) 8) = l6 at HE6
  clear HE6
  have HE6 := Lib.hid hl6
  clear hl6
  have HL6 : Hid (l6.length = n) := by show _ = _; rw [← HE6.out, List.length_set, HL5.out]
  have HX6 : Hid (∀ W, Cells W g (l5.map wcell ++ rest) 44 → Cells (W.setCell ⟨g, m, none⟩ (wcell (rotL32 (l5.getD m 0 ^^^ l5.getD i 0) 8))) g (l6.map wcell ++ rest) 44) := by
    intro W h
    rw [← HE6.out, ← wrest_set l5 rest m _ (by rw [HL5.out]; exact HM.out)]
    exact h.set m _
  generalize l5.getD m 0 = xa at ca HX6
  generalize l5.getD i 0 = xb at cb HX6
  simp only [List.take_succ_cons, List.take_zero, List.drop_succ_cons, List.drop_zero]
  have q := turn6_at (xa ^^^ xb) 8 v5 (by omega) (by omega)
  rw [← xor32] at q
  iterate 11 still_step
  still_call q
  still_step
  clear q
  refine wpStill_nil ?_
  clear ca cb
  go_wp2_with (first
    | (refine store_step rfl 44 _ _ rfl g m .u32 _ rfl rfl size_u32 HT.out ?_
       intro w6 hw
       have hC : Cells w6 g (l6.map wcell ++ rest) 44 := by rw [hw]; exact HX6.out _ hd
       have hb6 : But g w w6 := by rw [hw]; exact hbd.setCell _ _
       clear hw hd hbd HT HX6))
  go_wp2_with fail
  refine wp_region_tail 12 (by kernel_rfl) (by kernel_rfl) ?_
  intro v6 hv
  have hd : Cells v6 g (l6.map wcell ++ rest) 44 := by rw [hv]; exact hC
  have hbd : But g w v6 := by rw [hv]; exact hb6.drew
  clear hv hC hb6
  have ca := hd.get (wrest_at l6 rest k (by rw [HL6.out]; exact HK.out))
  have cb := hd.get (wrest_at l6 rest m (by rw [HL6.out]; exact HM.out))
  have ht := hd.there k 1 (by have h1 := HL6.out; have h2 := HK.out; rw [List.length_append, List.length_map]; omega)
  have HT := Lib.hid ht
  clear ht
  have HE7 : Hid (l6.set k (l6.getD k 0 + l6.getD m 0) = l6.set k (l6.getD k 0 + l6.getD m 0)) := rfl
  generalize hl7 : l6.set k (l6.getD k 0 + l6.getD m 0) = l7 at HE7
  clear HE7
  have HE7 := Lib.hid hl7
  clear hl7
  have HL7 : Hid (l7.length = n) := by show _ = _; rw [← HE7.out, List.length_set, HL6.out]
  have HX7 : Hid (∀ W, Cells W g (l6.map wcell ++ rest) 44 → Cells (W.setCell ⟨g, k, none⟩ (wcell (l6.getD k 0 + l6.getD m 0))) g (l7.map wcell ++ rest) 44) := by
    intro W h
    rw [← HE7.out, ← wrest_set l6 rest k _ (by rw [HL6.out]; exact HK.out)]
    exact h.set k _
  generalize l6.getD k 0 = xa at ca HX7
  generalize l6.getD m 0 = xb at cb HX7
  simp only [List.take_succ_cons, List.take_zero, List.drop_succ_cons, List.drop_zero]
  iterate 12 still_step
  refine wpStill_nil ?_
  clear ca cb
  go_wp2_with (first
    | (refine store_step rfl 44 _ _ rfl g k .u32 _ rfl rfl size_u32 HT.out ?_
       intro w7 hw
       have hC : Cells w7 g (l7.map wcell ++ rest) 44 := by rw [hw, wadd32]; exact HX7.out _ hd
       have hb7 : But g w w7 := by rw [hw]; exact hbd.setCell _ _
       clear hw hd hbd HT HX7))
  go_wp2_with fail
  refine wp_region_tail 13 (by kernel_rfl) (by kernel_rfl) ?_
  intro v7 hv
  have hd : Cells v7 g (l7.map wcell ++ rest) 44 := by rw [hv]; exact hC
  have hbd : But g w v7 := by rw [hv]; exact hb7.drew
  clear hv hC hb7
  have ca := hd.get (wrest_at l7 rest j (by rw [HL7.out]; exact HJ.out))
  have cb := hd.get (wrest_at l7 rest k (by rw [HL7.out]; exact HK.out))
  have ht := hd.there j 1 (by have h1 := HL7.out; have h2 := HJ.out; rw [List.length_append, List.length_map]; omega)
  have HT := Lib.hid ht
  clear ht
  have HE8 : Hid (l7.set j (rotL32 (l7.getD j 0 ^^^ l7.getD k 0) 7) = l7.set j (rotL32 (l7.getD j 0 ^^^ l7.getD k 0) 7)) := rfl
  generalize hl8 : l7.set j (rotL32 (l7.getD j 0 ^^^ l7.getD k 0) 7) = l8 at HE8
  clear HE8
  have HE8 := Lib.hid hl8
  clear hl8
  have HL8 : Hid (l8.length = n) := by show _ = _; rw [← HE8.out, List.length_set, HL7.out]
  have HX8 : Hid (∀ W, Cells W g (l7.map wcell ++ rest) 44 → Cells (W.setCell ⟨g, j, none⟩ (wcell (rotL32 (l7.getD j 0 ^^^ l7.getD k 0) 7))) g (l8.map wcell ++ rest) 44) := by
    intro W h
    rw [← HE8.out, ← wrest_set l7 rest j _ (by rw [HL7.out]; exact HJ.out)]
    exact h.set j _
  generalize l7.getD j 0 = xa at ca HX8
  generalize l7.getD k 0 = xb at cb HX8
  simp only [List.take_succ_cons, List.take_zero, List.drop_succ_cons, List.drop_zero]
  have q := turn6_at (xa ^^^ xb) 7 v7 (by omega) (by omega)
  rw [← xor32] at q
  iterate 11 still_step
  still_call q
  still_step
  clear q
  refine wpStill_nil ?_
  clear ca cb
  go_wp2_with (first
    | (refine store_step rfl 44 _ _ rfl g j .u32 _ rfl rfl size_u32 HT.out ?_
       intro w8 hw
       have hC : Cells w8 g (l8.map wcell ++ rest) 44 := by rw [hw]; exact HX8.out _ hd
       have hb8 : But g w w8 := by rw [hw]; exact hbd.setCell _ _
       clear hw hd hbd HT HX8))
  go_end0
  refine ⟨rfl, hb8, ?_⟩
  have e : qstep l i j k m = l8 := by
    unfold qstep
    rw [← HE8.out, ← HE7.out, ← HE6.out, ← HE5.out, ← HE4.out, ← HE3.out, ← HE2.out, ← HE1.out, HE0.out]
  rw [e]
  exact hC
theorem refQuarter_any (g n c i j k m : Nat) (l : List (BitVec 32)) (rest : List Value) (w : World) (hl : l.length = n) (hi : i < n) (hj : j < n) (hk : k < n) (hm : m < n) (h1 : i ≠ j) (h2 : i ≠ k) (h3 : i ≠ m) (h4 : j ≠ k) (h5 : j ≠ m) (h6 : k ≠ m) (hC : Cells w g (l.map wcell ++ rest) 44) :
    Calls Tryd.prog 51 #[.slice (some ⟨g, 0, none⟩) n c, .int .i64 (i : Int), .int .i64 (j : Int), .int .i64 (k : Int), .int .i64 (m : Int)] w fun e w' => e = .returned (.tuple #[]) ∧ But g w w' ∧ Cells w' g ((qset l i j k m).map wcell ++ rest) 44 := by
  have h := refQuarter_step g n c i j k m l rest w hl hi hj hk hm hC
  rw [qstep_eq l i j k m (by omega) (by omega) (by omega) (by omega) h1 h2 h3 h4 h5 h6] at h
  exact h
end Go.Proofs.YtdaieklimdhkoaaDoor
namespace Go.Proofs.YtdaieklimdhkoaaDoor
open Go.RowKit
theorem four_at (ms : List UInt8) (i : Nat) (h : i + 3 < ms.length) : (ms.drop i).take 4 = [ms.getD i 0, ms.getD (i + 1) 0, ms.getD (i + 2) 0, ms.getD (i + 3) 0] := by
  rw [getD_lt ms i (by omega), getD_lt ms (i + 1) (by omega), getD_lt ms (i + 2) (by omega), getD_lt ms (i + 3) h, List.drop_eq_getElem_cons (by omega), List.drop_eq_getElem_cons (by omega), List.drop_eq_getElem_cons (by omega), List.drop_eq_getElem_cons (by omega)]
  rfl
theorem zero_r32 : ∀ w, (zeroValue 22).run Tryd.prog w = .ok (.agg (List.replicate 32 (cellOf 0)).toArray) w := (zero_of_info (P := Tryd.prog) (t := 22) (v := .agg (List.replicate 32 (cellOf 0)).toArray) (n := 32) (by kernel_rfl)).1
theorem size_r32 : (Tryd.prog.info? 22).map (·.size) = some 32 := by kernel_rfl
/-- The slice v is a row of the call's own (blocks from base on) that begins with these words. -/
def OwnsW (w : World) (base : Nat) (v : Value) (l : List (BitVec 32)) : Prop := w.ownsRow base 44 1 v l.length (l.map wcell)
section
variable {w w' : World} {base : Nat} {v : Value} {l : List (BitVec 32)}
theorem OwnsW.lit (w : World) (l : List (BitVec 32)) (hb : base ≤ w.heap.size) (hc : l.length ≤ 1000000) : OwnsW (w.alloc (.cells (l.map wcell).toArray 44)) base (.slice (some ⟨w.heap.size, 0, none⟩) l.length l.length) l := by
  have h := World.ownsRow_lit (base := base) (e := 44) (size := 1) w (l.map wcell).toArray l.length hb (by simp only [maxLen]; omega) (by simp)
  simp only at h ⊢
  exact h
theorem OwnsW.keep (h : OwnsW w base v l) (hk : ∀ g, v.ownBlock = some g → w'.heap[g]? = w.heap[g]?) : OwnsW w' base v l := by
  obtain ⟨h1, h2⟩ := h
  refine ⟨h1, ?_⟩
  rcases h2 with h2 | ⟨g, cap, cur, hv, hg, hh, r⟩
  · exact .inl h2
  · refine .inr ⟨g, cap, cur, hv, hg, ?_, r⟩
    rw [hk g (by rw [hv]; rfl)]
    exact hh
theorem OwnsW.on (h : OwnsW w base v l) (hb : Below w.heap.size w w') : OwnsW w' base v l := h.keep fun g hg => hb.block g (World.ownsRow.lt h g hg).2
theorem OwnsW.far (h : OwnsW w base v l) : ∀ k, v.ownBlock = some k → base ≤ k := fun k hk => (World.ownsRow.lt h k hk).1
/-- The row's block, known whole. -/
theorem OwnsW.cells (h : OwnsW w base v l) (hp : 0 < l.length) : ∃ g c rest, v = .slice (some ⟨g, 0, none⟩) l.length c ∧ base ≤ g ∧ l.length ≤ c ∧ c ≤ maxLen ∧ Cells w g (l.map wcell ++ rest) 44 := by
  rcases h.2 with ⟨rfl, hn⟩ | ⟨g, cap, cur, rfl, hb, hg, hnc, hcm, hsz, htk⟩
  · omega
  · refine ⟨g, cap, cur.toList.drop l.length, rfl, hb, hnc, hcm, ?_⟩
    rw [Nat.mul_one] at htk
    unfold Cells
    rw [← htk, List.take_append_drop]
    exact hg
end
/-- 'append(s, us...)' of words. -/
theorem append_words {w : World} {ops : Array Oper} {rest : List Oper} {o : Oper} {a : Act} {Q : Exit → Act → World → Prop} (hgd : o.guard = none) (s x : Operand)
    (ho : o.op = .call { callee := .builtin .append, args := #[s, x], argTypes := #[92, 92] }) (base : Nat)
    (v : Value) (l us : List (BitVec 32)) (b m c : Nat) (hs : a.eval s = v) (hown : OwnsW w base v l) (hx : a.eval x = .slice (some ⟨b, 0, none⟩) m c) (hm : us.length = m) (hcl : w.rangeAt b 0 (us.map wcell))
    (hlen : l.length + us.length ≤ 1000000) (hbase : base ≤ w.heap.size)
    (h : ∀ v' w', OwnsW w' base v' (l ++ us) → Below base w w' → wpList Tryd.prog ops Q rest (a.put o.dst v') w') : wpList Tryd.prog ops Q (o :: rest) a w := by
  subst hm
  obtain ⟨i0, hi0, hz0, hz1, hz2⟩ := info_parts u32_info
  refine wpList_append_own w hgd s x 92 ho base 44 i0 _ 1 4 Tryd.underlying92 hi0 hz0 hz1 hz2 rfl (by omega) v l.length (l.map wcell) hs hown ⟨b, 0, none⟩ us.length c (us.map wcell) hx (by simp) ?_ ?_ (by simp only [maxLen]; omega) (by omega) hbase ?_
  · intro j u hu
    rw [Addr.add_mid]
    exact hcl j u hu
  · intro u hu
    obtain ⟨q, _, rfl⟩ := List.mem_map.1 hu
    rfl
  · intro v' w' h2 h3 _
    refine h v' w' ?_ ((Below.refl _ _).grown h3 hbase (fun k hk => hown.far k hk))
    unfold OwnsW
    simpa using h2
end Go.Proofs.YtdaieklimdhkoaaDoor
namespace Go.Proofs.YtdaieklimdhkoaaDoor
open Go.RowKit
/-- 'append(out, b...)': of the old blocks only out's may have turned, and the new row lies there, or in a new block. -/
theorem append_at {w : World} {ops : Array Oper} {rest : List Oper} {o : Oper} {a : Act} {Q : Exit → Act → World → Prop} (hgd : o.guard = none) (s x : Operand)
    (ho : o.op = .call { callee := .builtin .append, args := #[s, x], argTypes := #[24, 24] }) (base g l c0 B b off m c : Nat)
    (bs us : List UInt8) (hs : a.eval s = .slice (some ⟨g, 0, none⟩) l c0) (hown : Owns w base (.slice (some ⟨g, 0, none⟩) l c0) bs) (hl : bs.length = l) (hx : a.eval x = .slice (some ⟨b, off, none⟩) m c) (hm : us.length = m) (hpos : 0 < m) (hr : Row w B (some ⟨b, off, none⟩) us)
    (hlen : l + m ≤ 1000000) (hbase : base ≤ w.heap.size)
    (h : ∀ g' c' w', Owns w' base (.slice (some ⟨g', 0, none⟩) (l + m) c') (bs ++ us) → But g w w' → (g' = g ∨ g' = w.heap.size) → wpList Tryd.prog ops Q rest (a.put o.dst (.slice (some ⟨g', 0, none⟩) (l + m) c')) w') : wpList Tryd.prog ops Q (o :: rest) a w := by
  subst hl hm
  obtain ⟨i0, hi0, hz0, hz1, hz2⟩ := info_parts u8_info
  refine wpList_append_own_at w hgd s x 24 ho base 5 i0 _ 1 1 Tryd.underlying24 hi0 hz0 hz1 hz2 rfl (by omega) _ bs.length (bs.map cellOf) hs hown ⟨b, off, none⟩ us.length c (us.map cellOf) hx (by simp) ?_ ?_ (by simp only [maxLen]; omega) (by omega) hbase ?_
  · intro j u hu
    rw [List.getElem?_map] at hu
    cases hj : us[j]? with
    | none => rw [hj] at hu; cases hu
    | some q =>
      rw [hj] at hu
      rcases hr with rfl | ⟨b', off', hb1, _, hc⟩
      · simp at hj
      · cases hb1
        rw [Addr.add_mid, hc j q hj]
        exact hu
  · intro u hu
    obtain ⟨q, _, rfl⟩ := List.mem_map.1 hu
    rfl
  · intro v' w' h2 h3 _ h5
    have hO : Owns w' base v' (bs ++ us) := by
      unfold Owns
      simpa using h2
    obtain ⟨g', c', hv, _, _, _, _⟩ := hO.form_pos (by rw [List.length_append]; omega)
    rw [List.length_append] at hv
    subst hv
    refine h g' c' w' hO ⟨h3.os, h3.tape, h3.output, h3.size, fun k hk hne => h3.block k hk (fun e => hne (by simpa [Value.ownBlock] using e))⟩ ?_
    simpa [Value.ownBlock] using h5
/-- What a call answers that makes a row of these bytes in a block of its own. -/
def GivesAt (w : World) (bs : List UInt8) (n : Nat) (e : Ending) (w' : World) : Prop :=
  ∃ g c, e = .returned (.slice (some ⟨g, 0, none⟩) n c) ∧ w.heap.size ≤ g ∧ n ≤ c ∧ c ≤ maxLen ∧ Row w' w'.heap.size (some ⟨g, 0, none⟩) bs ∧ Below w.heap.size w w'
end Go.Proofs.YtdaieklimdhkoaaDoor
