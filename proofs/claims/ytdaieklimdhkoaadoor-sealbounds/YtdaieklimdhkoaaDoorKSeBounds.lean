/- The walk of the law fellowshiplaw08.SealBounds. -/
import Derived.Test.YtdaieklimdhkoaaDoorPart12
import Derived.Test.YtdaieklimdhkoaaDoorWGuard
import Derived.IntWalk
namespace Go.Proofs.YtdaieklimdhkoaaDoor.sealBounds
open Go.ChangeShapes Go.WideShapes Go.ChangeAt Go.RowKit
set_option maxRecDepth 100000 in
theorem loose_frame84 (a : Act) (hs : a.tmps.size = 84) (hd : a.defers = []) : ∃ u : Nat → Value, a = ⟨(u 0 :: u 1 :: u 2 :: u 3 :: u 4 :: u 5 :: u 6 :: u 7 :: u 8 :: u 9 :: u 10 :: u 11 :: u 12 :: u 13 :: u 14 :: u 15 :: u 16 :: u 17 :: u 18 :: u 19 :: u 20 :: u 21 :: u 22 :: u 23 :: u 24 :: u 25 :: u 26 :: u 27 :: u 28 :: u 29 :: u 30 :: u 31 :: u 32 :: u 33 :: u 34 :: u 35 :: u 36 :: u 37 :: u 38 :: u 39 :: u 40 :: u 41 :: u 42 :: u 43 :: u 44 :: u 45 :: u 46 :: u 47 :: u 48 :: u 49 :: u 50 :: u 51 :: u 52 :: u 53 :: u 54 :: u 55 :: u 56 :: u 57 :: u 58 :: u 59 :: u 60 :: u 61 :: u 62 :: u 63 :: u 64 :: u 65 :: u 66 :: u 67 :: u 68 :: u 69 :: u 70 :: u 71 :: u 72 :: u 73 :: u 74 :: u 75 :: u 76 :: u 77 :: u 78 :: u 79 :: u 80 :: u 81 :: u 82 :: u 83 :: []).toArray, []⟩ := by
  obtain ⟨u, h⟩ := frame_of 84 a hs hd
  exact ⟨u, h⟩
/-- 'make([]byte, m, n)' as a loose operation. -/
theorem make_op {w : World} {ops : Array Oper} {o : Oper} {a : Act} {K : Act → World → Prop} {Q : Exit → Act → World → Prop} (hgd : o.guard = none) (l c : Operand) (ho : o.op = .makeSlice 24 l c) (m n : Nat) (hl : a.eval l = .int .i64 (m : Int)) (hc : a.eval c = .int .i64 (n : Int)) (hmn : m ≤ n) (hn : n ≤ 1000000)
    (h : ∀ w', Below w.heap.size w w' → Made w' w.heap.size (List.replicate n 0) → K (a.put o.dst (.slice (some ⟨w.heap.size, 0, none⟩) m n)) w') : if Region.wanted o (yielded ops a.tmps) = true then Oper.wp Tryd.prog o a w K Q else K (a.put o.dst undef) w := by
  rw [if_pos (by simp [Region.wanted, hgd])]
  have hrun := make_bytes m n hmn hn w
  unfold Oper.wp
  simp only [execOp, ho, hl, hc, hrun, Sem.run_bind, Sem.run_pure, Result.andThen_ok]
  exact h _ ((Below.refl _ _).alloc (Nat.le_refl _) _) (Made.new w _)
/-- What the loose operations of the law's calls yield. -/
def bndYields (key : List UInt8) (N : Nat) (zz : List UInt8) (k i : Nat) (v : Value) (w : World) : Prop := (i = 0 → v = hashVal key) ∧ (i = k → ∃ g, v = .slice (some ⟨g, 0, none⟩) N N ∧ Row w w.heap.size (some ⟨g, 0, none⟩) zz)
theorem bndYields_on {key zz : List UInt8} {N k i : Nat} {v : Value} {w w' : World} (h : bndYields key N zz k i v w) (hb : Below w.heap.size w w') : bndYields key N zz k i v w' := by
  refine ⟨h.1, fun hi => ?_⟩
  obtain ⟨g, h1, h2⟩ := h.2 hi
  exact ⟨g, h1, h2.on hb⟩
/-- Of a frame only some slots are told. -/
theorem told8 {P : Program} {c : Code} {Q : Exit → Act → World → Prop} {a : Act} {w : World} (n : Nat) (l : List (Nat × Value)) (hF : Fr n l a) (h : ∀ a', Fr n l a' → c.wp P Q a' w) : c.wp P Q a w := h a hF
set_option maxRecDepth 100000 in
set_option maxHeartbeats 4000000 in
theorem bounds_over (x : Int) (n m1 : Nat) (key nn zn zm : List UInt8) (E1 E2 E3 : Value) (es : List Addr) (ea eb : Addr) (w : World) (HK : Hid (key.length = 32)) (HX : Hid (wrap64 (16382 + wrap64 ((IntKind.u64.wrap x).tmod 5)) = (n : Int))) (hn : n ≤ 17000) (HE : Hid (Errs w es)) (HEA : Hid (es[2]? = some ea)) (HEB : Hid (es[6]? = some eb))
    (HNN : Hid (∀ W g, Made W g (List.replicate 12 0) → Row W W.heap.size (some ⟨g, 0, none⟩) nn)) (HZN : Hid (∀ W g, Made W g (List.replicate n 0) → Row W W.heap.size (some ⟨g, 0, none⟩) zn)) (HZM : Hid (∀ W g, Made W g (List.replicate (n + 16) 0) → Row W W.heap.size (some ⟨g, 0, none⟩) zm))
    (HC : Hid ((16384 < n ∧ m1 = 0 ∧ E1 = errAt ea ∧ E2 = errAt ea ∧ E3 = errAt ea) ∨ (n ≤ 16384 ∧ m1 = n + 16 ∧ E1 = .nilIface ∧ E2 = .nilIface ∧ (E3 = .nilIface ∨ E3 = errAt eb))))
    (CA : Hid (∀ W, Below w.heap.size w W → Calls Tryd.prog 7 #[] W fun e w' => e = .returned (.bool true) ∧ Below W.heap.size W w'))
    (C1 : Hid (∀ gn gp W, Below w.heap.size w W → Row W W.heap.size (some ⟨gn, 0, none⟩) nn → Row W W.heap.size (some ⟨gp, 0, none⟩) zn → Calls Tryd.prog 9 #[hashVal key, .slice (some ⟨gn, 0, none⟩) 12 12, .slice none 0 0, .slice (some ⟨gp, 0, none⟩) n n] W fun e w' => ∃ B c, e = .returned (.tuple #[.slice B m1 c, E1]) ∧ Below W.heap.size W w'))
    (C2 : Hid (∀ gn gp W, Below w.heap.size w W → Row W W.heap.size (some ⟨gn, 0, none⟩) nn → Row W W.heap.size (some ⟨gp, 0, none⟩) zn → Calls Tryd.prog 9 #[hashVal key, .slice (some ⟨gn, 0, none⟩) 12 12, .slice (some ⟨gp, 0, none⟩) n n, .slice none 0 0] W fun e w' => ∃ B m c, e = .returned (.tuple #[.slice B m c, E2]) ∧ Below W.heap.size W w'))
    (C3 : Hid (∀ gn gp W, Below w.heap.size w W → Row W W.heap.size (some ⟨gn, 0, none⟩) nn → Row W W.heap.size (some ⟨gp, 0, none⟩) zm → Calls Tryd.prog 13 #[hashVal key, .slice (some ⟨gn, 0, none⟩) 12 12, .slice none 0 0, .slice (some ⟨gp, 0, none⟩) (n + 16) (n + 16)] W fun e w' => ∃ B m c, e = .returned (.tuple #[.slice B m c, E3]) ∧ Below W.heap.size W w')) :
    Calls Tryd.prog 6 #[hashVal key, .int .i64 x] w fun e w' => e = .returned (.bool true) ∧ Below w.heap.size w w' := by
  go_enter Tryd.func6, Tryd.ntmps6
  go_wp2_with (first
    | (refine take_step rfl 23 (.tmp 0) rfl key rfl ?_
       intro w1 hB1 hK1 hz1
       clear hz1))
  refine (CA.out w1 hB1).mono ?_
  rintro e w2 ⟨rfl, hb2⟩
  have hB2 := below_then hB1 hb2
  have hK2 := hK1.on hb2
  clear CA hB1 hK1 hb2
  go_wp2_with (first
    | (refine make_step rfl _ _ rfl 12 12 rfl rfl (Nat.le_refl _) (by omega) ?_
       intro w3 hb3 hM3 hzz
       have hBw3 := below_then hB2 hb3
       have hKw3 := hK2.on hb3
       have rNw3 := HNN.out _ _ hM3
       clear hzz hM3 hb3 hB2 hK2 HNN))
  rw [HX.out]
  generalize w2.heap.size = gn at *
  clear HX
  refine told8 84 [(2, .pointer (some ⟨w.heap.size, 0, none⟩)), (5, .int .i64 (n : Int)), (6, .slice (some ⟨gn, 0, none⟩) 12 12)] ⟨rfl, rfl, rfl, rfl, rfl, trivial⟩ ?_
  rintro a ⟨hs0, hd0, s2, s5, s6, _⟩
  obtain ⟨u, rfl⟩ := loose_frame84 a hs0 hd0
  change u 2 = _ at s2
  change u 5 = _ at s5
  change u 6 = _ at s6
  rw [s2, s5, s6]
  clear hs0 hd0 s2 s5 s6
  refine wp_region_any (by kernel_rfl) ?_
  show wpAny _ _ _ _ _ _ _ w3.drew
  simp only [List.size_toArray, List.length_cons, List.length_nil, Nat.reduceAdd, Array.replicate_succ, Array.replicate_zero, List.push_toArray, List.nil_append, List.cons_append]
  have hBw3d : Below w.heap.size w w3.drew := hBw3.drew
  have hKw3d : Cells w3.drew w.heap.size (key.map cellOf) 23 := hKw3
  have rNw3d : Row w3.drew w3.drew.heap.size (some ⟨gn, 0, none⟩) nn := rNw3.on (Below.refl _ _).drew
  clear hBw3 hKw3 rNw3
  generalize w3.drew = w3d at *
  have hkw3d := hKw3d.range 0 32
  rw [List.drop_zero, List.take_of_length_le (by rw [List.length_map, HK.out]; omega)] at hkw3d
  have hww3d : w.heap.size < w3d.heap.size := hKw3d.lt
  refine wpAny_take (i := 1) (oi := ⟨some 23, _, _, _, _, _⟩) (v := ?_) rfl (by kernel_rfl) (by kernel_rfl) (by kernel_rfl) (fun _ _ _ h => h) (Or.inl ⟨by rfl, ?_⟩) ?_
  rotate_left
  · (intro w; go_simp; try with_reducible rfl)
  simp only [Act.put, List.setIfInBounds_toArray, List.set_cons_zero, List.set_cons_succ]
  refine wpAny_take (i := 2) (oi := ⟨some 24, _, _, _, _, _⟩) (v := ?_) rfl (by kernel_rfl) (by kernel_rfl) (by kernel_rfl) (fun _ _ _ h => h) (Or.inl ⟨by rfl, ?_⟩) ?_
  rotate_left
  · (intro w; go_simp; try with_reducible rfl)
  simp only [Act.put, List.setIfInBounds_toArray, List.set_cons_zero, List.set_cons_succ]
  refine wpAny_loose (L := [0, 3]) (fins := [(#[true, true, true, true, false, false, false, false, false, false], 6)]) (LooseAt w3d _ [(0, 22), (3, 25)] (bndYields key n zn 3)) ?_ ?_ 8 _ _ _ (by kernel_rfl) ⟨Below.refl _ _, rfl, rfl, fun _ _ => rfl, ?_⟩
  rotate_left 2
  · intro p hp hl
    simp only [List.mem_cons, List.not_mem_nil, or_false] at hp
    rcases hp with rfl | rfl
    all_goals cases hl
  · intro i hi
    simp only [List.mem_cons, List.not_mem_nil, or_false] at hi
    rcases hi with rfl | rfl
    · refine loose_step (slots := [(0, 22), (3, 25)]) (prop := bndYields key n zn 3) (by decide) (by decide) 84 rfl (by decide) (fun _ _ _ _ h hb => bndYields_on h hb) (i := 0) (s := 22) (by decide) rfl rfl ?_
      intro a w6 K hb hs hd hsame hfact hK
      exact load_op rfl 23 (.tmp 2) rfl w.heap.size 0 (hsame 2 (by decide)) (key.map cellOf) _ (range_on hkw3d hww3d hb) Tryd.underlying23 rfl (by rw [List.length_map, HK.out]; exact size_key) (hK _ _ (Below.refl _ _) ⟨fun _ => rfl, fun h => absurd h (by decide)⟩)
    · refine loose_step (slots := [(0, 22), (3, 25)]) (prop := bndYields key n zn 3) (by decide) (by decide) 84 rfl (by decide) (fun _ _ _ _ h hb => bndYields_on h hb) (i := 3) (s := 25) (by decide) rfl rfl ?_
      intro a w6 K hb hs hd hsame hfact hK
      exact make_op rfl (.tmp 24) (.tmp 24) rfl (n) (n) (hsame 24 (by decide)) (hsame 24 (by decide)) (Nat.le_refl _) (by omega) (fun w' hb' hM' => hK _ _ hb' ⟨fun h => absurd h (by decide), fun _ => ⟨_, rfl, HZN.out _ _ hM'⟩⟩)
  · intro f hf a w6 hA
    obtain rfl := List.mem_singleton.1 hf
    have hB6 := below_then hBw3d hA.below
    have hK6 := hKw3d.on hA.below
    have rN6 := rNw3d.on hA.below
    have s2 := hA.same 2 (by decide)
    have s5 := hA.same 5 (by decide)
    have s6 := hA.same 6 (by decide)
    have s23 : a.tmps.getD 23 undef = .slice (some ⟨gn, 0, none⟩) 12 12 := hA.same 23 (by decide)
    have s22 : a.tmps.getD 22 undef = hashVal key := (hA.fact (0, 22) (by decide) (by kernel_rfl)).1 rfl
    obtain ⟨gp, s25, rP6⟩ := (hA.fact (3, 25) (by decide) (by kernel_rfl)).2 rfl
    obtain ⟨u, rfl⟩ := loose_frame84 a hA.size hA.defers
    change u 2 = .pointer (some ⟨w.heap.size, 0, none⟩) at s2
    change u 5 = .int .i64 (n : Int) at s5
    change u 6 = .slice (some ⟨gn, 0, none⟩) 12 12 at s6
    change u 23 = _ at s23
    change u 22 = _ at s22
    change u 25 = _ at s25
    rw [s2, s5, s6, s23, s22, s25]
    clear s2 s5 s6 s23 s22 s25 hA hBw3d hKw3d rNw3d hkw3d hww3d
    refine wpAny_one (i := 4) (by kernel_rfl) rfl (fun K hK => ?_)
    refine call_op rfl 9 [.tmp 22, .tmp 23, .const (.slice none 0 0), .tmp 25] _ rfl [hashVal key, .slice (some ⟨gn, 0, none⟩) 12 12, .slice none 0 0, .slice (some ⟨gp, 0, none⟩) n n] rfl (enters Tryd.func9 (by kernel_rfl) (by kernel_rfl)) (C1.out gn gp w6 hB6 rN6 rP6) ?_
    rintro e w7 ⟨B, c, rfl, hb7⟩
    refine ⟨_, rfl, hK.out _ _ ?_⟩
    have hB7 := below_then hB6 hb7
    have hK7 := hK6.on hb7
    have rN7 := rN6.on hb7
    clear hK K hB6 hK6 rN6 hb7 rP6 C1
    simp only [Act.put, List.setIfInBounds_toArray, List.set_cons_zero, List.set_cons_succ]
    refine wpAny_take (i := 5) (oi := ⟨some 21, _, _, _, _, _⟩) (v := ?_) rfl (by kernel_rfl) (by kernel_rfl) (by kernel_rfl) (fun _ _ _ h => h) (Or.inl ⟨by rfl, ?_⟩) ?_
    rotate_left
    · (intro w; go_simp; try with_reducible rfl)
    simp only [Act.put, List.setIfInBounds_toArray, List.set_cons_zero, List.set_cons_succ]
    refine wpAny_take (i := 6) (oi := ⟨some 27, _, _, _, _, _⟩) (v := ?_) rfl (by kernel_rfl) (by kernel_rfl) (by kernel_rfl) (fun _ _ _ h => h) (Or.inl ⟨by rfl, ?_⟩) ?_
    rotate_left
    · (intro w; go_simp; try with_reducible rfl)
    simp only [Act.put, List.setIfInBounds_toArray, List.set_cons_zero, List.set_cons_succ]
    refine wpAny_take (i := 7) (oi := ⟨some 28, _, _, _, _, _⟩) (v := ?_) rfl (by kernel_rfl) (by kernel_rfl) (by kernel_rfl) (fun _ _ _ h => h) (Or.inl ⟨by rfl, ?_⟩) ?_
    rotate_left
    · (intro w; go_simp; try with_reducible rfl)
    simp only [Act.put, List.setIfInBounds_toArray, List.set_cons_zero, List.set_cons_succ]
    refine wpAny_rest 8 rfl (by kernel_rfl) ?_
    simp only [List.drop_succ_cons, List.drop_zero]
    go_wp2_with fail
    replace hB7 : Below w.heap.size w w7 := hB7
    have hBw7 := hB7
    have hKw7 := hK7
    have rNw7 := rN7
    clear hB7 hK7 rN7
    refine told8 84 [(2, .pointer (some ⟨w.heap.size, 0, none⟩)), (5, .int .i64 (n : Int)), (6, .slice (some ⟨gn, 0, none⟩) 12 12), (7, .slice B m1 c), (8, E1)] ⟨rfl, rfl, rfl, rfl, rfl, rfl, rfl, trivial⟩ ?_
    rintro a ⟨hs0, hd0, s2, s5, s6, s7, s8, _⟩
    obtain ⟨u, rfl⟩ := loose_frame84 a hs0 hd0
    change u 2 = _ at s2
    change u 5 = _ at s5
    change u 6 = _ at s6
    change u 7 = _ at s7
    change u 8 = _ at s8
    rw [s2, s5, s6, s7, s8]
    clear hs0 hd0 s2 s5 s6 s7 s8
    refine wp_region_any (by kernel_rfl) ?_
    show wpAny _ _ _ _ _ _ _ w7.drew
    simp only [List.size_toArray, List.length_cons, List.length_nil, Nat.reduceAdd, Array.replicate_succ, Array.replicate_zero, List.push_toArray, List.nil_append, List.cons_append]
    have hBw7d : Below w.heap.size w w7.drew := hBw7.drew
    have hKw7d : Cells w7.drew w.heap.size (key.map cellOf) 23 := hKw7
    have rNw7d : Row w7.drew w7.drew.heap.size (some ⟨gn, 0, none⟩) nn := rNw7.on (Below.refl _ _).drew
    clear hBw7 hKw7 rNw7
    generalize w7.drew = w7d at *
    have hkw7d := hKw7d.range 0 32
    rw [List.drop_zero, List.take_of_length_le (by rw [List.length_map, HK.out]; omega)] at hkw7d
    have hww7d : w.heap.size < w7d.heap.size := hKw7d.lt
    refine wpAny_take (i := 1) (oi := ⟨some 31, _, _, _, _, _⟩) (v := ?_) rfl (by kernel_rfl) (by kernel_rfl) (by kernel_rfl) (fun _ _ _ h => h) (Or.inl ⟨by rfl, ?_⟩) ?_
    rotate_left
    · (intro w; go_simp; try with_reducible rfl)
    simp only [Act.put, List.setIfInBounds_toArray, List.set_cons_zero, List.set_cons_succ]
    refine wpAny_take (i := 2) (oi := ⟨some 32, _, _, _, _, _⟩) (v := ?_) rfl (by kernel_rfl) (by kernel_rfl) (by kernel_rfl) (fun _ _ _ h => h) (Or.inl ⟨by rfl, ?_⟩) ?_
    rotate_left
    · (intro w; go_simp; try with_reducible rfl)
    simp only [Act.put, List.setIfInBounds_toArray, List.set_cons_zero, List.set_cons_succ]
    refine wpAny_loose (L := [0, 3]) (fins := [(#[true, true, true, true, false, false, false, false, false, false], 6)]) (LooseAt w7d _ [(0, 30), (3, 33)] (bndYields key n zn 3)) ?_ ?_ 8 _ _ _ (by kernel_rfl) ⟨Below.refl _ _, rfl, rfl, fun _ _ => rfl, ?_⟩
    rotate_left 2
    · intro p hp hl
      simp only [List.mem_cons, List.not_mem_nil, or_false] at hp
      rcases hp with rfl | rfl
      all_goals cases hl
    · intro i hi
      simp only [List.mem_cons, List.not_mem_nil, or_false] at hi
      rcases hi with rfl | rfl
      · refine loose_step (slots := [(0, 30), (3, 33)]) (prop := bndYields key n zn 3) (by decide) (by decide) 84 rfl (by decide) (fun _ _ _ _ h hb => bndYields_on h hb) (i := 0) (s := 30) (by decide) rfl rfl ?_
        intro a w6 K hb hs hd hsame hfact hK
        exact load_op rfl 23 (.tmp 2) rfl w.heap.size 0 (hsame 2 (by decide)) (key.map cellOf) _ (range_on hkw7d hww7d hb) Tryd.underlying23 rfl (by rw [List.length_map, HK.out]; exact size_key) (hK _ _ (Below.refl _ _) ⟨fun _ => rfl, fun h => absurd h (by decide)⟩)
      · refine loose_step (slots := [(0, 30), (3, 33)]) (prop := bndYields key n zn 3) (by decide) (by decide) 84 rfl (by decide) (fun _ _ _ _ h hb => bndYields_on h hb) (i := 3) (s := 33) (by decide) rfl rfl ?_
        intro a w6 K hb hs hd hsame hfact hK
        exact make_op rfl (.tmp 32) (.tmp 32) rfl (n) (n) (hsame 32 (by decide)) (hsame 32 (by decide)) (Nat.le_refl _) (by omega) (fun w' hb' hM' => hK _ _ hb' ⟨fun h => absurd h (by decide), fun _ => ⟨_, rfl, HZN.out _ _ hM'⟩⟩)
    · intro f hf a w8 hA
      obtain rfl := List.mem_singleton.1 hf
      have hB8 := below_then hBw7d hA.below
      have hK8 := hKw7d.on hA.below
      have rN8 := rNw7d.on hA.below
      have s2 := hA.same 2 (by decide)
      have s5 := hA.same 5 (by decide)
      have s6 := hA.same 6 (by decide)
      have s7 := hA.same 7 (by decide)
      have s8 := hA.same 8 (by decide)
      have s31 : a.tmps.getD 31 undef = .slice (some ⟨gn, 0, none⟩) 12 12 := hA.same 31 (by decide)
      have s30 : a.tmps.getD 30 undef = hashVal key := (hA.fact (0, 30) (by decide) (by kernel_rfl)).1 rfl
      obtain ⟨gp, s33, rP8⟩ := (hA.fact (3, 33) (by decide) (by kernel_rfl)).2 rfl
      obtain ⟨u, rfl⟩ := loose_frame84 a hA.size hA.defers
      change u 2 = .pointer (some ⟨w.heap.size, 0, none⟩) at s2
      change u 5 = .int .i64 (n : Int) at s5
      change u 6 = .slice (some ⟨gn, 0, none⟩) 12 12 at s6
      change u 7 = .slice B m1 c at s7
      change u 8 = E1 at s8
      change u 31 = _ at s31
      change u 30 = _ at s30
      change u 33 = _ at s33
      rw [s2, s5, s6, s7, s8, s31, s30, s33]
      clear s2 s5 s6 s7 s8 s31 s30 s33 hA hBw7d hKw7d rNw7d hkw7d hww7d
      refine wpAny_one (i := 4) (by kernel_rfl) rfl (fun K hK => ?_)
      refine call_op rfl 9 [.tmp 30, .tmp 31, .tmp 33, .const (.slice none 0 0)] _ rfl [hashVal key, .slice (some ⟨gn, 0, none⟩) 12 12, .slice (some ⟨gp, 0, none⟩) n n, .slice none 0 0] rfl (enters Tryd.func9 (by kernel_rfl) (by kernel_rfl)) (C2.out gn gp w8 hB8 rN8 rP8) ?_
      rintro e w9 ⟨B2, m2, c2, rfl, hb9⟩
      refine ⟨_, rfl, hK.out _ _ ?_⟩
      have hB9 := below_then hB8 hb9
      have hK9 := hK8.on hb9
      have rN9 := rN8.on hb9
      clear hK K hB8 hK8 rN8 hb9 rP8 C2
      simp only [Act.put, List.setIfInBounds_toArray, List.set_cons_zero, List.set_cons_succ]
      refine wpAny_take (i := 5) (oi := ⟨some 29, _, _, _, _, _⟩) (v := ?_) rfl (by kernel_rfl) (by kernel_rfl) (by kernel_rfl) (fun _ _ _ h => h) (Or.inl ⟨by rfl, ?_⟩) ?_
      rotate_left
      · (intro w; go_simp; try with_reducible rfl)
      simp only [Act.put, List.setIfInBounds_toArray, List.set_cons_zero, List.set_cons_succ]
      refine wpAny_take (i := 6) (oi := ⟨some 35, _, _, _, _, _⟩) (v := ?_) rfl (by kernel_rfl) (by kernel_rfl) (by kernel_rfl) (fun _ _ _ h => h) (Or.inl ⟨by rfl, ?_⟩) ?_
      rotate_left
      · (intro w; go_simp; try with_reducible rfl)
      simp only [Act.put, List.setIfInBounds_toArray, List.set_cons_zero, List.set_cons_succ]
      refine wpAny_take (i := 7) (oi := ⟨some 36, _, _, _, _, _⟩) (v := ?_) rfl (by kernel_rfl) (by kernel_rfl) (by kernel_rfl) (fun _ _ _ h => h) (Or.inl ⟨by rfl, ?_⟩) ?_
      rotate_left
      · (intro w; go_simp; try with_reducible rfl)
      simp only [Act.put, List.setIfInBounds_toArray, List.set_cons_zero, List.set_cons_succ]
      refine wpAny_rest 8 rfl (by kernel_rfl) ?_
      simp only [List.drop_succ_cons, List.drop_zero]
      go_wp2_with fail
      have hBw9 := hB9
      have hKw9 := hK9
      have rNw9 := rN9
      clear hB9 hK9 rN9
      refine told8 84 [(2, .pointer (some ⟨w.heap.size, 0, none⟩)), (5, .int .i64 (n : Int)), (6, .slice (some ⟨gn, 0, none⟩) 12 12), (7, .slice B m1 c), (8, E1), (10, E2)] ⟨rfl, rfl, rfl, rfl, rfl, rfl, rfl, rfl, trivial⟩ ?_
      rintro a ⟨hs0, hd0, s2, s5, s6, s7, s8, s10, _⟩
      obtain ⟨u, rfl⟩ := loose_frame84 a hs0 hd0
      change u 2 = _ at s2
      change u 5 = _ at s5
      change u 6 = _ at s6
      change u 7 = _ at s7
      change u 8 = _ at s8
      change u 10 = _ at s10
      rw [s2, s5, s6, s7, s8, s10]
      clear hs0 hd0 s2 s5 s6 s7 s8 s10
      refine wp_region_any (by kernel_rfl) ?_
      show wpAny _ _ _ _ _ _ _ w9.drew
      simp only [List.size_toArray, List.length_cons, List.length_nil, Nat.reduceAdd, Array.replicate_succ, Array.replicate_zero, List.push_toArray, List.nil_append, List.cons_append]
      have hBw9d : Below w.heap.size w w9.drew := hBw9.drew
      have hKw9d : Cells w9.drew w.heap.size (key.map cellOf) 23 := hKw9
      have rNw9d : Row w9.drew w9.drew.heap.size (some ⟨gn, 0, none⟩) nn := rNw9.on (Below.refl _ _).drew
      clear hBw9 hKw9 rNw9
      generalize w9.drew = w9d at *
      have hkw9d := hKw9d.range 0 32
      rw [List.drop_zero, List.take_of_length_le (by rw [List.length_map, HK.out]; omega)] at hkw9d
      have hww9d : w.heap.size < w9d.heap.size := hKw9d.lt
      refine wpAny_take (i := 1) (oi := ⟨some 39, _, _, _, _, _⟩) (v := ?_) rfl (by kernel_rfl) (by kernel_rfl) (by kernel_rfl) (fun _ _ _ h => h) (Or.inl ⟨by rfl, ?_⟩) ?_
      rotate_left
      · (intro w; go_simp; try with_reducible rfl)
      simp only [Act.put, List.setIfInBounds_toArray, List.set_cons_zero, List.set_cons_succ]
      refine wpAny_take (i := 2) (oi := ⟨some 40, _, _, _, _, _⟩) (v := ?_) rfl (by kernel_rfl) (by kernel_rfl) (by kernel_rfl) (fun _ _ _ h => h) (Or.inl ⟨by rfl, ?_⟩) ?_
      rotate_left
      · (intro w; go_simp; try with_reducible rfl)
      simp only [Act.put, List.setIfInBounds_toArray, List.set_cons_zero, List.set_cons_succ]
      have iw : IntKind.i64.wrap ((n : Int) + 16) = (n : Int) + 16 := IntWalk.i64_in _ (by omega)
      refine wpAny_take (i := 3) (oi := ⟨some 41, _, _, _, _, _⟩) (v := .int .i64 ((n : Int) + 16)) rfl (by kernel_rfl) (by kernel_rfl) (by kernel_rfl) (fun _ _ _ h => h) (Or.inl ⟨by rfl, ?_⟩) ?_
      · (intro w; go_simp; try with_reducible rfl)
      simp only [Act.put, List.setIfInBounds_toArray, List.set_cons_zero, List.set_cons_succ]
      refine wpAny_loose (L := [0, 4]) (fins := [(#[true, true, true, true, true, false, false, false, false, false, false], 6)]) (LooseAt w9d _ [(0, 38), (4, 42)] (bndYields key (n + 16) zm 4)) ?_ ?_ 8 _ _ _ (by kernel_rfl) ⟨Below.refl _ _, rfl, rfl, fun _ _ => rfl, ?_⟩
      rotate_left 2
      · intro p hp hl
        simp only [List.mem_cons, List.not_mem_nil, or_false] at hp
        rcases hp with rfl | rfl
        all_goals cases hl
      · intro i hi
        simp only [List.mem_cons, List.not_mem_nil, or_false] at hi
        rcases hi with rfl | rfl
        · refine loose_step (slots := [(0, 38), (4, 42)]) (prop := bndYields key (n + 16) zm 4) (by decide) (by decide) 84 rfl (by decide) (fun _ _ _ _ h hb => bndYields_on h hb) (i := 0) (s := 38) (by decide) rfl rfl ?_
          intro a w6 K hb hs hd hsame hfact hK
          exact load_op rfl 23 (.tmp 2) rfl w.heap.size 0 (hsame 2 (by decide)) (key.map cellOf) _ (range_on hkw9d hww9d hb) Tryd.underlying23 rfl (by rw [List.length_map, HK.out]; exact size_key) (hK _ _ (Below.refl _ _) ⟨fun _ => rfl, fun h => absurd h (by decide)⟩)
        · refine loose_step (slots := [(0, 38), (4, 42)]) (prop := bndYields key (n + 16) zm 4) (by decide) (by decide) 84 rfl (by decide) (fun _ _ _ _ h hb => bndYields_on h hb) (i := 4) (s := 42) (by decide) rfl rfl ?_
          intro a w6 K hb hs hd hsame hfact hK
          exact make_op rfl (.tmp 41) (.tmp 41) rfl ((n + 16)) ((n + 16)) (hsame 41 (by decide)) (hsame 41 (by decide)) (Nat.le_refl _) (by omega) (fun w' hb' hM' => hK _ _ hb' ⟨fun h => absurd h (by decide), fun _ => ⟨_, rfl, HZM.out _ _ hM'⟩⟩)
      · intro f hf a w10 hA
        obtain rfl := List.mem_singleton.1 hf
        have hB10 := below_then hBw9d hA.below
        have hK10 := hKw9d.on hA.below
        have rN10 := rNw9d.on hA.below
        have s2 := hA.same 2 (by decide)
        have s5 := hA.same 5 (by decide)
        have s6 := hA.same 6 (by decide)
        have s7 := hA.same 7 (by decide)
        have s8 := hA.same 8 (by decide)
        have s10 := hA.same 10 (by decide)
        have s39 : a.tmps.getD 39 undef = .slice (some ⟨gn, 0, none⟩) 12 12 := hA.same 39 (by decide)
        have s38 : a.tmps.getD 38 undef = hashVal key := (hA.fact (0, 38) (by decide) (by kernel_rfl)).1 rfl
        obtain ⟨gp, s42, rP10⟩ := (hA.fact (4, 42) (by decide) (by kernel_rfl)).2 rfl
        obtain ⟨u, rfl⟩ := loose_frame84 a hA.size hA.defers
        change u 2 = .pointer (some ⟨w.heap.size, 0, none⟩) at s2
        change u 5 = .int .i64 (n : Int) at s5
        change u 6 = .slice (some ⟨gn, 0, none⟩) 12 12 at s6
        change u 7 = .slice B m1 c at s7
        change u 8 = E1 at s8
        change u 10 = E2 at s10
        change u 39 = _ at s39
        change u 38 = _ at s38
        change u 42 = _ at s42
        rw [s2, s5, s6, s7, s8, s10, s39, s38, s42]
        clear s2 s5 s6 s7 s8 s10 s39 s38 s42 hA hBw9d hKw9d rNw9d hkw9d hww9d
        refine wpAny_one (i := 5) (by kernel_rfl) rfl (fun K hK => ?_)
        refine call_op rfl 13 [.tmp 38, .tmp 39, .const (.slice none 0 0), .tmp 42] _ rfl [hashVal key, .slice (some ⟨gn, 0, none⟩) 12 12, .slice none 0 0, .slice (some ⟨gp, 0, none⟩) (n + 16) (n + 16)] rfl (enters Tryd.func13 (by kernel_rfl) (by kernel_rfl)) (C3.out gn gp w10 hB10 rN10 rP10) ?_
        rintro e w11 ⟨B3, m3, c3, rfl, hb11⟩
        refine ⟨_, rfl, hK.out _ _ ?_⟩
        have hB11 := below_then hB10 hb11
        have hK11 := hK10.on hb11
        have rN11 := rN10.on hb11
        clear hK K hB10 hK10 rN10 hb11 rP10 C3
        simp only [Act.put, List.setIfInBounds_toArray, List.set_cons_zero, List.set_cons_succ]
        refine wpAny_take (i := 6) (oi := ⟨some 37, _, _, _, _, _⟩) (v := ?_) rfl (by kernel_rfl) (by kernel_rfl) (by kernel_rfl) (fun _ _ _ h => h) (Or.inl ⟨by rfl, ?_⟩) ?_
        rotate_left
        · (intro w; go_simp; try with_reducible rfl)
        simp only [Act.put, List.setIfInBounds_toArray, List.set_cons_zero, List.set_cons_succ]
        refine wpAny_take (i := 7) (oi := ⟨some 44, _, _, _, _, _⟩) (v := ?_) rfl (by kernel_rfl) (by kernel_rfl) (by kernel_rfl) (fun _ _ _ h => h) (Or.inl ⟨by rfl, ?_⟩) ?_
        rotate_left
        · (intro w; go_simp; try with_reducible rfl)
        simp only [Act.put, List.setIfInBounds_toArray, List.set_cons_zero, List.set_cons_succ]
        refine wpAny_take (i := 8) (oi := ⟨some 45, _, _, _, _, _⟩) (v := ?_) rfl (by kernel_rfl) (by kernel_rfl) (by kernel_rfl) (fun _ _ _ h => h) (Or.inl ⟨by rfl, ?_⟩) ?_
        rotate_left
        · (intro w; go_simp; try with_reducible rfl)
        simp only [Act.put, List.setIfInBounds_toArray, List.set_cons_zero, List.set_cons_succ]
        refine wpAny_rest 9 rfl (by kernel_rfl) ?_
        simp only [List.drop_succ_cons, List.drop_zero]
        clear hK11 rN11
        rcases HC.out with ⟨h1, h2, h3, h4, h5⟩ | ⟨h1, h2, h3, h4, h5⟩
        · subst h2 h3 h4 h5
          have i1 : (16384 : Int) < (n : Int) := by omega
          clear HC HZN HZM HEB
          go_wp2_with fail
          refine (num_is es 2 3 ea w11 (HE.out.below hB11) HEA.out rfl).mono ?_
          rintro e w12 ⟨rfl, hb12⟩
          have hB12 := below_then hB11 hb12
          clear hB11 hb12
          go_wp2_with fail
          refine (num_is es 2 3 ea w12 (HE.out.below hB12) HEA.out rfl).mono ?_
          rintro e w13 ⟨rfl, hb13⟩
          have hB13 := below_then hB12 hb13
          clear hB12 hb13
          go_wp2_with fail
          refine (num_is es 2 3 ea w13 (HE.out.below hB13) HEA.out rfl).mono ?_
          rintro e w14 ⟨rfl, hb14⟩
          have hB14 := below_then hB13 hb14
          clear hB13 hb14
          go_wp2
          go_ret
          exact ⟨rfl, hB14⟩
        · subst h2 h3 h4
          have i1 : ¬ (16384 : Int) < (n : Int) := by omega
          clear HC HZN HZM HEA
          rcases h5 with rfl | rfl
          · go_wp2_with fail
            refine (num_nil w11).mono ?_
            rintro e w12 ⟨rfl, rfl⟩
            go_wp2
            go_ret
            exact ⟨rfl, hB11⟩
          · go_wp2_with fail
            refine (num_is es 6 7 eb w11 (HE.out.below hB11) HEB.out rfl).mono ?_
            rintro e w12 ⟨rfl, hb12⟩
            have hB12 := below_then hB11 hb12
            clear hB11 hb12
            go_wp2
            go_ret
            exact ⟨rfl, hB12⟩
end Go.Proofs.YtdaieklimdhkoaaDoor.sealBounds
