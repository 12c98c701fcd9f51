/- OnetimeSums: the walk. -/
import Derived.Test.YtiadgningbogmaaDoorPart7
import Derived.Test.YtiadgningbogmaaDoorQSumC
import Derived.Test.YtiadgningbogmaaDoorKOtEdges
import Derived.IntWalk
namespace Go.Proofs.YtiadgningbogmaaDoor
open Go.RowKit
/-- A guarded operation that is wanted, as one with no guard. -/
theorem under_guard {P : Program} {ops : Array Oper} {Q : Exit → Act → World → Prop} {w : World} {o : Oper} {a : Act} {K : Act → World → Prop} (hw : Region.wanted o (yielded ops a.tmps) = true)
    (h : if Region.wanted { o with guard := none } (yielded ops a.tmps) = true then Oper.wp P { o with guard := none } a w K Q else K (a.put o.dst undef) w) : if Region.wanted o (yielded ops a.tmps) = true then Oper.wp P o a w K Q else K (a.put o.dst undef) w := by
  rw [if_pos hw]
  rw [if_pos (by simp [Region.wanted])] at h
  exact h
theorem wanted_by {ops : Array Oper} {o : Oper} {a : Act} {j s : Nat} (hg : o.guard = some (j, true)) {oj : Oper} (hj : ops[j]? = some oj) (hd : oj.dst = some s) (hv : a.tmps.getD s undef = .bool true) : Region.wanted o (yielded ops a.tmps) = true := by
  simp only [Region.wanted, hg]
  unfold yielded
  rw [Array.getD_eq_getD_getElem?] at hv
  cases h : a.tmps[s]? with
  | none => rw [h] at hv; cases hv
  | some v =>
    rw [h] at hv
    obtain rfl : v = .bool true := hv
    simp [hj, hd, h]
theorem conv_op {P : Program} {ops : Array Oper} {Q : Exit → Act → World → Prop} {w : World} {o : Oper} {a : Act} {K : Act → World → Prop} (hgd : o.guard = none) (t1 t2 : TypeId) (x : Operand) (ho : o.op = .convert t1 t2 x) (v u : Value) (hx : a.eval x = v) (hr : (convert t1 t2 v).run P w = .ok u w) (h : K (a.put o.dst u) w) : if Region.wanted o (yielded ops a.tmps) = true then Oper.wp P o a w K Q else K (a.put o.dst undef) w := by
  refine quiet_op hgd u ?_ h
  simp [execOp, ho, hx, hr]
set_option maxRecDepth 100000 in
/-- Two texts compared. -/
theorem str_eql_op {ops : Array Oper} {Q : Exit → Act → World → Prop} {w : World} {o : Oper} {a : Act} {K : Act → World → Prop} (hgd : o.guard = none) (x y : Operand) (ho : o.op = .binOp .eql 9 x y 9) (s t : List UInt8) (r : Bool) (hx : a.eval x = .string (str s)) (hy : a.eval y = .string (str t)) (hr : (s == t) = r) (h : K (a.put o.dst (.bool r)) w) :
    if Region.wanted o (yielded ops a.tmps) = true then Oper.wp Tryd.prog o a w K Q else K (a.put o.dst undef) w := by
  refine quiet_op hgd (.bool r) ?_ h
  have sb := str_beq
  obtain ⟨dst, op, ty, pos, after, guard⟩ := o
  simp only at ho
  subst ho
  simp only [execOp]
  rw [hx, hy]
  go_simp
/-- What the operations of the statement's last line yield. -/
def sumsYields (key X tag : List UInt8) (A6 : Option Addr) (LF c6 : Nat) (r : Bool) (i : Nat) (v : Value) (w : World) : Prop := match i with
  | 0 => v = hashVal key
  | 2 => v = hashVal X
  | 3 => v = hashVal X
  | 6 => v = hashVal key
  | 9 => ∃ g, v = .slice (some ⟨g, 0, none⟩) 1 1 ∧ Cells w g [.slice A6 LF c6] 25
  | 10 => v = .bool r
  | 12 => v = .string (str tag)
  | 14 => v = .string (str X)
  | 15 => v = .bool r
  | 19 => v = hashVal key
  | 22 => ∃ g, v = .slice (some ⟨g, 0, none⟩) 1 1 ∧ Cells w g [.slice A6 LF c6] 25
  | 23 => v = .bool true
  | _ => True
theorem sumsYields_on {key X tag : List UInt8} {A6 : Option Addr} {LF c6 : Nat} {r : Bool} {i : Nat} {v : Value} {w w' : World} (h : sumsYields key X tag A6 LF c6 r i v w) (hb : Below w.heap.size w w') : sumsYields key X tag A6 LF c6 r i v w' := by
  unfold sumsYields at h ⊢
  split
  all_goals first
    | exact h
    | trivial
    | (obtain ⟨gq, h1, h3⟩ := h
       exact ⟨gq, h1, h3.on hb⟩)
/-- Of a frame only some slots are told. -/
theorem told7 {P : Program} {c : Code} {Q : Exit → Act → World → Prop} {a : Act} {w : World} (n : Nat) (l : List (Nat × Value)) (hF : Fr n l a) (h : ∀ a', Fr n l a' → c.wp P Q a' w) : c.wp P Q a w := h a hF
set_option maxRecDepth 100000 in
set_option maxHeartbeats 2000000 in
theorem sums_over (D T : Option Addr) (d m tl tc LF : Nat) (key tag X F : List UInt8) (ps : List (List UInt8)) (r : Bool) (w : World) (HK : Hid (key.length = 32)) (HPL : Hid (ps.length = m)) (hP : Parts w w.heap.size D ps) (hm : m ≤ 10) (htl : tl ≤ 50) (HTL : Hid (tag.length = tl)) (hT : Row w w.heap.size T tag) (HX : Hid (X.length = 16)) (HF : Hid (ps.flatten = F)) (HLF : Hid (F.length = LF)) (HR1 : Hid ((X == tag) = r))
    (CA : Hid (∀ W, Calls Tryd.prog 6 #[] W fun e w' => e = .returned (.bool true) ∧ Below W.heap.size W w'))
    (CR : Hid (∀ A6 c6 W, Row W W.heap.size A6 F → LF ≤ c6 → LF ≤ 100000 → Calls Tryd.prog 7 #[hashVal key, .slice A6 LF c6] W fun e w' => e = .returned (hashVal X) ∧ Below W.heap.size W w'))
    (CS : Hid (∀ W, Below w.heap.size w W → Calls Tryd.prog 8 #[hashVal key, .slice D m d] W fun e w' => e = .returned (hashVal X) ∧ Below W.heap.size W w'))
    (C1 : Hid (∀ g A6 c6 W, Below w.heap.size w W → Cells W g [.slice A6 LF c6] 25 → Row W W.heap.size A6 F → (A6 = none → c6 = 0) → LF ≤ c6 → c6 ≤ maxLen → Calls Tryd.prog 9 #[hashVal key, .slice T tl tc, .slice (some ⟨g, 0, none⟩) 1 1] W fun e w' => e = .returned (.bool r) ∧ Below W.heap.size W w'))
    (C2 : Hid (∀ g go A6 c6 W, Cells W go (X.map cellOf) 27 → Cells W g [.slice A6 LF c6] 25 → Row W W.heap.size A6 F → (A6 = none → c6 = 0) → LF ≤ c6 → c6 ≤ maxLen → Calls Tryd.prog 9 #[hashVal key, .slice (some ⟨go, 0, none⟩) 16 16, .slice (some ⟨g, 0, none⟩) 1 1] W fun e w' => e = .returned (.bool true) ∧ Below W.heap.size W w')) :
    Calls Tryd.prog 3 #[hashVal key, .slice D m d, .slice T tl tc] w fun e w' => e = .returned (.bool true) ∧ Below w.heap.size w w' := by
  have i1 : ¬ (10 : Int) < (m : Int) := by omega
  have i2 : ¬ (50 : Int) < (tl : Int) := by omega
  go_enter Tryd.func3, Tryd.ntmps3
  go_wp2_with (first
    | (refine take_step rfl 23 (.tmp 0) rfl key rfl ?_
       intro w0 hB0 hK0 hz
       clear hz))
  refine (CA.out w0).mono ?_
  rintro e w1 ⟨rfl, hb1⟩
  have hB1 := below_then hB0 hb1
  have hK1 := hK0.on hb1
  clear CA hB0 hK0 hb1
  have hB2 := hB1.alloc hB1.size (.cells (rowCells []) 5)
  have hK2 := hK1.alloc (.cells (rowCells []) 5)
  have hW2 := Owns.lit (base := w1.heap.size) w1 [] (Nat.le_refl _) (by simp)
  have hz2 : w1.heap.size ≤ (w1.alloc (.cells (rowCells []) 5)).heap.size := by simp
  have HE : Hid (rowCells [] = #[]) := rfl
  rw [HE.out] at hB2 hW2 hz2 hK2
  have hkb : w.heap.size < w1.heap.size := hK1.lt
  go_wp2_with fail
  generalize w1.alloc (.cells #[] 5) = w2 at *
  have hW3 : Owns w2 w1.heap.size (.slice (some ⟨w1.heap.size, 0, none⟩) 0 0) [] := hW2
  have HS1 : Hid (w.heap.size ≤ w1.heap.size) := hB1.size
  clear hW2 hB1 hK1
  obtain ⟨v0, hv0⟩ : ∃ v0 : Value, v0 = .slice (some ⟨w1.heap.size, 0, none⟩) 0 0 := ⟨_, rfl⟩
  generalize w1.heap.size = base at *
  rw [← hv0] at hW3
  replace hv0 := Lib.hid hv0
  go_loopw [7, 9, 24, 25, 26, 27, 28, 29, 30, 31, 32, 33, 34] (fun v _ i _ _ _ _ _ _ _ _ _ _ wr => ∃ k : Nat, k ≤ m ∧ i = .int .i64 k ∧ Below w.heap.size w wr ∧ base ≤ wr.heap.size ∧ Cells wr w.heap.size (key.map cellOf) 23 ∧ Owns wr base v (ps.take k).flatten ∧ (ps.take k).flatten.length ≤ 200 * k) (fun _ _ i _ _ _ _ _ _ _ _ _ _ _ => m - (intOf i).toNat)
  case atStart => exact ⟨0, Nat.zero_le _, rfl, hB2, hz2, hK2, by rw [hv0.out] at hW3; exact hW3, by simp⟩
  case round =>
    clear hB2 hz2 hW3 hK2
    obtain ⟨k, hk, rfl, hB, hz, hKc, hW, hle⟩ := hrel
    by_cases hlt : k < m
    · have hlt2 : k < ps.length := by rw [HPL.out]; exact hlt
      obtain ⟨b, off, A1, c1, rfl, hcl, hr1, h1, h2, h3⟩ := (hP.below hB).at k hlt2
      have HS := Lib.hid (show (ps.take (k + 1)).flatten = (ps.take k).flatten ++ ps[k] by rw [take_snoc ps k hlt2, List.flatten_append]; simp)
      clear CR CS C1 C2
      generalize ps[k] = us at *
      generalize hul : us.length = q at *
      replace hul := Lib.hid hul
      by_cases hbig : 200 < q
      · have i3 : (200 : Int) < (q : Int) := by omega
        go_wp2
        go_ret
        exact ⟨rfl, hB⟩
      · have i3 : ¬ (200 : Int) < (q : Int) := by omega
        have HLF2 : Hid ((ps.take k).flatten.length ≤ 2000) := by show _ ≤ _; omega
        have HLE : Hid ((ps.take k).flatten.length ≤ 200 * k) := hle
        clear hle
        generalize hFk : (ps.take k).flatten = Fk at *
        replace hFk := Lib.hid hFk
        have hsz := hB.size
        go_wp2_with (first
          | (at_builtin
             refine append_row rfl (.tmp 31) (.tmp 32) rfl base _ Fk us _ A1 c1 rfl hW (by rw [hul.out]; rfl) h3 (hr1.more hsz) (by rw [hul.out]; have := HLF2.out; omega) hz ?_
             intro v7 w7 hW7 hB7))
        go_roundw
        case rel => exact ⟨k + 1, by omega, by go_num, hB.trans (hB7.mono HS1.out), Nat.le_trans hz hB7.size, hKc.below hB7 hkb, by rw [HS.out]; exact hW7, by rw [HS.out, List.length_append, hul.out]; have := HLE.out; omega⟩
        case measure => simp [intOf]; omega
    · obtain rfl : k = m := by omega
      have eF : ps.take k = ps := List.take_of_length_le (by rw [HPL.out]; exact Nat.le_refl _)
      rw [eF, HF.out] at hW hle
      clear eF
      have hLF2 : LF ≤ 2000 := by rw [← HLF.out]; omega
      clear hle
      obtain ⟨A6, c6, rfl, hc6, hc6m, hA6, hR6⟩ := hW.form2
      rw [HLF.out] at hc6 ⊢
      clear hW
      have CR1 := Lib.hid (CR.out A6 c6 wr hR6 hc6 (by omega))
      go_wp2_with (first
        | (refine get_step rfl 23 (.tmp 3) rfl w.heap.size 32 key _ rfl hKc Tryd.underlying23 size_key HK.out ?_))
      refine CR1.out.mono ?_
      rintro e w3 ⟨rfl, hb3⟩
      have hB3 := below_then hB hb3
      have hK3 := hKc.on hb3
      have hR3 := hR6.on hb3
      clear CR1 CR hB hKc hR6 hb3 hz
      go_wp2_with (first
        | (refine put_step rfl rfl 27 (.tmp 10) (.tmp 37) rfl rfl 16 X rfl rfl zero_b16 size_b16 HX.out ?_
           intro w4 hb4 hC4 hz4
           clear hz4
           have hB4 := below_then hB3 hb4
           have hK4 := hK3.on hb4
           have hR4 := hR3.on hb4
           generalize w3.heap.size = go at *
           clear hb4 hB3 hK3 hR3))
      refine told7 63 [(1, .slice D k d), (2, .slice T tl tc), (3, .pointer (some ⟨w.heap.size, 0, none⟩)), (7, .slice A6 LF c6), (10, .pointer (some ⟨go, 0, none⟩))] ⟨rfl, rfl, rfl, rfl, rfl, rfl, rfl, trivial⟩ ?_
      rintro a ⟨hs0, hd0, s1, s2, s3, s7, s10, _⟩
      obtain ⟨u, rfl⟩ := loose_frame63 a hs0 hd0
      change u 1 = _ at s1
      change u 2 = _ at s2
      change u 3 = _ at s3
      change u 7 = _ at s7
      change u 10 = _ at s10
      rw [s1, s2, s3, s7, s10]
      clear hs0 hd0 s1 s2 s3 s7 s10
      refine wp_region_any (by kernel_rfl) ?_
      show wpAny _ _ _ _ _ _ _ w4.drew
      simp only [List.size_toArray, List.length_cons, List.length_nil, Nat.reduceAdd, Array.replicate_succ, Array.replicate_zero, List.push_toArray, List.nil_append, List.cons_append]
      have hB5 : Below w.heap.size w w4.drew := hB4.drew
      have hK5 : Cells w4.drew w.heap.size (key.map cellOf) 23 := hK4
      have hC5 : Cells w4.drew go (X.map cellOf) 27 := hC4
      have hR5 : Row w4.drew w4.drew.heap.size A6 F := hR4.on (Below.refl _ _).drew
      clear hB4 hK4 hC4 hR4
      generalize w4.drew = w5 at *
      have hk5 := hK5.range 0 32
      rw [List.drop_zero, List.take_of_length_le (by rw [List.length_map, HK.out]; omega)] at hk5
      have hkw5 : w.heap.size < w5.heap.size := hK5.lt
      have hx5 := hC5.range 0 16
      rw [List.drop_zero, List.take_of_length_le (by rw [List.length_map, HX.out]; omega)] at hx5
      have hxw5 : go < w5.heap.size := hC5.lt
      refine wpAny_take (i := 1) (oi := ⟨some 39, _, _, _, _, _⟩) (v := ?_) rfl (by kernel_rfl) (by kernel_rfl) (by kernel_rfl) (fun _ _ _ h => h) (Or.inl ⟨by rfl, ?_⟩) ?_
      rotate_left
      · (intro w; go_simp; try with_reducible rfl)
      simp only [Act.put, List.setIfInBounds_toArray, List.set_cons_zero, List.set_cons_succ]
      refine wpAny_loose (L := [0, 2, 3]) (fins := [(#[true, true, true, true, false, false, false, false, false, false, false, false, false, false, false, false, false, false, false, false, false, false, false, false, false, false], 22)]) (LooseAt w5 _ [(0, 38), (2, 40), (3, 41)] (sumsYields key X tag A6 LF c6 r)) ?_ ?_ 25 _ _ _ (by kernel_rfl) ⟨Below.refl _ _, rfl, rfl, fun _ _ => rfl, ?_⟩
      rotate_left 2
      · intro p hp hl
        simp only [List.mem_cons, List.not_mem_nil, or_false] at hp
        rcases hp with rfl | rfl | rfl
        all_goals cases hl
      · intro i hi
        simp only [List.mem_cons, List.not_mem_nil, or_false] at hi
        rcases hi with rfl | rfl | rfl
        · refine loose_step (slots := [(0, 38), (2, 40), (3, 41)]) (prop := sumsYields key X tag A6 LF c6 r) (by decide) (by decide) 63 rfl (by decide) (fun _ _ _ _ h hb => sumsYields_on h hb) (i := 0) (s := 38) (by decide) rfl rfl ?_
          intro a w6 K hb hs hd hsame hfact hK
          exact load_op rfl 23 (.tmp 3) rfl w.heap.size 0 (hsame 3 (by decide)) (key.map cellOf) _ (range_on hk5 hkw5 hb) Tryd.underlying23 rfl (by rw [List.length_map, HK.out]; exact size_key) (hK _ _ (Below.refl _ _) rfl)
        · refine loose_step (slots := [(0, 38), (2, 40), (3, 41)]) (prop := sumsYields key X tag A6 LF c6 r) (by decide) (by decide) 63 rfl (by decide) (fun _ _ _ _ h hb => sumsYields_on h hb) (i := 2) (s := 40) (by decide) rfl rfl ?_
          intro a w6 K hb hs hd hsame hfact hK
          have s38 : a.tmps.getD 38 undef = hashVal key := hfact (0, 38) (by decide) (by kernel_rfl)
          refine call_op rfl 8 [.tmp 38, .tmp 39] _ rfl [hashVal key, .slice D k d] ?_ (enters Tryd.func8 (by kernel_rfl) (by kernel_rfl)) (CS.out w6 (below_then hB5 hb)) ?_
          · simp only [List.map_cons, List.map_nil]
            rw [show a.eval (.tmp 38) = hashVal key from s38, show a.eval (.tmp 39) = .slice D k d from hsame 39 (by decide)]
          · rintro e w7 ⟨rfl, hb7⟩
            exact ⟨_, rfl, hK _ _ hb7 rfl⟩
        · refine loose_step (slots := [(0, 38), (2, 40), (3, 41)]) (prop := sumsYields key X tag A6 LF c6 r) (by decide) (by decide) 63 rfl (by decide) (fun _ _ _ _ h hb => sumsYields_on h hb) (i := 3) (s := 41) (by decide) rfl rfl ?_
          intro a w6 K hb hs hd hsame hfact hK
          exact load_op rfl 27 (.tmp 10) rfl go 0 (hsame 10 (by decide)) (X.map cellOf) _ (range_on hx5 hxw5 hb) Tryd.underlying27 rfl (by rw [List.length_map, HX.out]; exact size_b16) (hK _ _ (Below.refl _ _) rfl)
      · intro f hf a w7 hA
        obtain rfl := List.mem_singleton.1 hf
        have hB7 := below_then hB5 hA.below
        have hK7 := hK5.on hA.below
        have hR7 := hR5.on hA.below
        have hC7 := hC5.on hA.below
        have hk7 := hK7.range 0 32
        rw [List.drop_zero, List.take_of_length_le (by rw [List.length_map, HK.out]; omega)] at hk7
        have hkw7 : w.heap.size < w7.heap.size := hK7.lt
        have s1 := hA.same 1 (by decide)
        have s2 := hA.same 2 (by decide)
        have s3 := hA.same 3 (by decide)
        have s7 := hA.same 7 (by decide)
        have s10 := hA.same 10 (by decide)
        have s40 : a.tmps.getD 40 undef = hashVal X := hA.fact (2, 40) (by decide) (by kernel_rfl)
        have s41 : a.tmps.getD 41 undef = hashVal X := hA.fact (3, 41) (by decide) (by kernel_rfl)
        obtain ⟨u, rfl⟩ := loose_frame63 a hA.size hA.defers
        change u 1 = .slice D k d at s1
        change u 2 = .slice T tl tc at s2
        change u 3 = .pointer (some ⟨w.heap.size, 0, none⟩) at s3
        change u 7 = .slice A6 LF c6 at s7
        change u 10 = .pointer (some ⟨go, 0, none⟩) at s10
        change u 40 = _ at s40
        change u 41 = _ at s41
        rw [s1, s2, s3, s7, s10, s40, s41]
        clear s1 s2 s3 s7 s10 s40 s41
        clear hA hB5 hK5 hC5 hR5 hk5 hkw5 hx5 hxw5 CS
        have HQ := sum_eql X HX.out
        have HG := sum_guard
        refine wpAny_take (i := 4) (oi := ⟨some 42, _, _, _, _, _⟩) (v := .bool true) rfl (by kernel_rfl) (by kernel_rfl) (by kernel_rfl) (fun _ _ _ h => h) (Or.inl ⟨by rfl, ?_⟩) ?_
        · (intro w; go_simp; try with_reducible rfl)
        simp only [Act.put, List.setIfInBounds_toArray, List.set_cons_zero, List.set_cons_succ]
        refine wpAny_take (i := 5) (oi := ⟨some 43, _, _, _, _, _⟩) (v := ?_) rfl (by kernel_rfl) (by kernel_rfl) (by kernel_rfl) (fun _ _ _ h => h) (Or.inl ⟨by rfl, ?_⟩) ?_
        rotate_left
        · (intro w; go_simp; try with_reducible rfl)
        simp only [Act.put, List.setIfInBounds_toArray, List.set_cons_zero, List.set_cons_succ]
        clear HQ HG
        refine wpAny_take (i := 7) (oi := ⟨some 45, _, _, _, _, _⟩) (v := ?_) rfl (by kernel_rfl) (by kernel_rfl) (by kernel_rfl) (fun _ _ _ h => h) (Or.inl ⟨by rfl, ?_⟩) ?_
        rotate_left
        · (intro w; go_simp; try with_reducible rfl)
        simp only [Act.put, List.setIfInBounds_toArray, List.set_cons_zero, List.set_cons_succ]
        refine wpAny_take (i := 8) (oi := ⟨some 46, _, _, _, _, _⟩) (v := ?_) rfl (by kernel_rfl) (by kernel_rfl) (by kernel_rfl) (fun _ _ _ h => h) (Or.inl ⟨by rfl, ?_⟩) ?_
        rotate_left
        · (intro w; go_simp; try with_reducible rfl)
        simp only [Act.put, List.setIfInBounds_toArray, List.set_cons_zero, List.set_cons_succ]
        refine wpAny_take (i := 11) (oi := ⟨some 49, _, _, _, _, _⟩) (v := ?_) rfl (by kernel_rfl) (by kernel_rfl) (by kernel_rfl) (fun _ _ _ h => h) (Or.inl ⟨by rfl, ?_⟩) ?_
        rotate_left
        · (intro w; go_simp; try with_reducible rfl)
        simp only [Act.put, List.setIfInBounds_toArray, List.set_cons_zero, List.set_cons_succ]
        refine wpAny_take (i := 13) (oi := ⟨some 51, _, _, _, _, _⟩) (v := .slice (some ⟨go, 0, none⟩) 16 16) rfl (by kernel_rfl) (by kernel_rfl) (by kernel_rfl) (fun _ _ _ h => h) (Or.inl ⟨by rfl, ?_⟩) ?_
        · (intro w; go_simp; try with_reducible rfl)
        simp only [Act.put, List.setIfInBounds_toArray, List.set_cons_zero, List.set_cons_succ]
        have hres2 : (tag == X) = r := by rw [← HR1.out, Bool.eq_iff_iff, beq_iff_eq, beq_iff_eq]; exact eq_comm
        have kT := conv_n HTL.out (hT.on hB7) tc
        have kX := conv_n HX.out hC7.all 16
        refine wpAny_loose (L := [6, 9, 10, 12, 14, 15]) (fins := [(#[true, true, true, true, true, true, true, true, true, true, true, true, true, true, true, true, false, false, false, false, false, false, false, false, false, false], 10)]) (LooseAt w7 _ [(6, 44), (9, 47), (10, 48), (12, 50), (14, 52), (15, 53)] (sumsYields key X tag A6 LF c6 r)) ?_ ?_ 16 _ _ _ (by kernel_rfl) ⟨Below.refl _ _, rfl, rfl, fun _ _ => rfl, ?_⟩
        rotate_left 2
        · intro p hp hl
          simp only [List.mem_cons, List.not_mem_nil, or_false] at hp
          rcases hp with rfl | rfl | rfl | rfl | rfl | rfl
          all_goals cases hl
        · intro i hi
          simp only [List.mem_cons, List.not_mem_nil, or_false] at hi
          rcases hi with rfl | rfl | rfl | rfl | rfl | rfl
          · refine loose_step (slots := [(6, 44), (9, 47), (10, 48), (12, 50), (14, 52), (15, 53)]) (prop := sumsYields key X tag A6 LF c6 r) (by decide) (by decide) 63 rfl (by decide) (fun _ _ _ _ h hb => sumsYields_on h hb) (i := 6) (s := 44) (by decide) rfl rfl ?_
            intro a w6 K hb hs hd hsame hfact hK
            refine under_guard (wanted_by (j := 5) (s := 43) rfl rfl rfl (hsame 43 (by decide))) ?_
            exact load_op rfl 23 (.tmp 3) rfl w.heap.size 0 (hsame 3 (by decide)) (key.map cellOf) _ (range_on hk7 hkw7 hb) Tryd.underlying23 rfl (by rw [List.length_map, HK.out]; exact size_key) (hK _ _ (Below.refl _ _) rfl)
          · refine loose_step (slots := [(6, 44), (9, 47), (10, 48), (12, 50), (14, 52), (15, 53)]) (prop := sumsYields key X tag A6 LF c6 r) (by decide) (by decide) 63 rfl (by decide) (fun _ _ _ _ h hb => sumsYields_on h hb) (i := 9) (s := 47) (by decide) rfl rfl ?_
            intro a w6 K hb hs hd hsame hfact hK
            refine under_guard (wanted_by (j := 5) (s := 43) rfl rfl rfl (hsame 43 (by decide))) ?_
            refine lit_op rfl 24 1 [(0, .tmp 46)] rfl [(0, .slice A6 LF c6)] ?_ 25 [.slice A6 LF c6] (fun w => by kernel_rfl) (fun w' hb' hc' => hK _ _ hb' ⟨_, rfl, hc'⟩)
            simp only [List.map_cons, List.map_nil]
            rw [show a.eval (.tmp 46) = .slice A6 LF c6 from hsame 46 (by decide)]
          · refine loose_step (slots := [(6, 44), (9, 47), (10, 48), (12, 50), (14, 52), (15, 53)]) (prop := sumsYields key X tag A6 LF c6 r) (by decide) (by decide) 63 rfl (by decide) (fun _ _ _ _ h hb => sumsYields_on h hb) (i := 10) (s := 48) (by decide) rfl rfl ?_
            intro a w6 K hb hs hd hsame hfact hK
            have s44 : a.tmps.getD 44 undef = hashVal key := hfact (6, 44) (by decide) (by kernel_rfl)
            obtain ⟨gl, hl1, hl2⟩ := hfact (9, 47) (by decide) (by kernel_rfl)
            refine under_guard (wanted_by (j := 5) (s := 43) rfl rfl rfl (hsame 43 (by decide))) ?_
            refine call_op rfl 9 [.tmp 44, .tmp 45, .tmp 47] _ rfl [hashVal key, .slice T tl tc, .slice (some ⟨gl, 0, none⟩) 1 1] ?_ (enters Tryd.func9 (by kernel_rfl) (by kernel_rfl)) (C1.out gl A6 c6 w6 (below_then hB7 hb) hl2 (hR7.on hb) hA6 hc6 hc6m) ?_
            · simp only [List.map_cons, List.map_nil]
              rw [show a.eval (.tmp 44) = hashVal key from s44, show a.eval (.tmp 45) = .slice T tl tc from hsame 45 (by decide), show a.eval (.tmp 47) = .slice (some ⟨gl, 0, none⟩) 1 1 from hl1]
            · rintro e w8 ⟨rfl, hb8⟩
              exact ⟨_, rfl, hK _ _ hb8 rfl⟩
          · refine loose_step (slots := [(6, 44), (9, 47), (10, 48), (12, 50), (14, 52), (15, 53)]) (prop := sumsYields key X tag A6 LF c6 r) (by decide) (by decide) 63 rfl (by decide) (fun _ _ _ _ h hb => sumsYields_on h hb) (i := 12) (s := 50) (by decide) rfl rfl ?_
            intro a w6 K hb hs hd hsame hfact hK
            refine under_guard (wanted_by (j := 5) (s := 43) rfl rfl rfl (hsame 43 (by decide))) ?_
            exact conv_op rfl 25 9 (.tmp 49) rfl (.slice T tl tc) _ (hsame 49 (by decide)) (kT w6 hb) (hK _ _ (Below.refl _ _) rfl)
          · refine loose_step (slots := [(6, 44), (9, 47), (10, 48), (12, 50), (14, 52), (15, 53)]) (prop := sumsYields key X tag A6 LF c6 r) (by decide) (by decide) 63 rfl (by decide) (fun _ _ _ _ h hb => sumsYields_on h hb) (i := 14) (s := 52) (by decide) rfl rfl ?_
            intro a w6 K hb hs hd hsame hfact hK
            refine under_guard (wanted_by (j := 5) (s := 43) rfl rfl rfl (hsame 43 (by decide))) ?_
            exact conv_op rfl 25 9 (.tmp 51) rfl (.slice (some ⟨go, 0, none⟩) 16 16) _ (hsame 51 (by decide)) (kX w6 hb) (hK _ _ (Below.refl _ _) rfl)
          · refine loose_step (slots := [(6, 44), (9, 47), (10, 48), (12, 50), (14, 52), (15, 53)]) (prop := sumsYields key X tag A6 LF c6 r) (by decide) (by decide) 63 rfl (by decide) (fun _ _ _ _ h hb => sumsYields_on h hb) (i := 15) (s := 53) (by decide) rfl rfl ?_
            intro a w6 K hb hs hd hsame hfact hK
            have s50 : a.tmps.getD 50 undef = .string (str tag) := hfact (12, 50) (by decide) (by kernel_rfl)
            have s52 : a.tmps.getD 52 undef = .string (str X) := hfact (14, 52) (by decide) (by kernel_rfl)
            refine under_guard (wanted_by (j := 5) (s := 43) rfl rfl rfl (hsame 43 (by decide))) ?_
            exact str_eql_op rfl (.tmp 50) (.tmp 52) rfl tag X r s50 s52 hres2 (hK _ _ (Below.refl _ _) rfl)
        · intro f hf a w8 hA
          obtain rfl := List.mem_singleton.1 hf
          have hB8 := below_then hB7 hA.below
          have hK8 := hK7.on hA.below
          have hR8 := hR7.on hA.below
          have hC8 := hC7.on hA.below
          have hk8 := hK8.range 0 32
          rw [List.drop_zero, List.take_of_length_le (by rw [List.length_map, HK.out]; omega)] at hk8
          have hkw8 : w.heap.size < w8.heap.size := hK8.lt
          have s1 := hA.same 1 (by decide)
          have s2 := hA.same 2 (by decide)
          have s3 := hA.same 3 (by decide)
          have s7 := hA.same 7 (by decide)
          have s10 := hA.same 10 (by decide)
          have s43 := hA.same 43 (by decide)
          have s48 : a.tmps.getD 48 undef = .bool r := hA.fact (10, 48) (by decide) (by kernel_rfl)
          have s53 : a.tmps.getD 53 undef = .bool r := hA.fact (15, 53) (by decide) (by kernel_rfl)
          obtain ⟨u, rfl⟩ := loose_frame63 a hA.size hA.defers
          change u 1 = .slice D k d at s1
          change u 2 = .slice T tl tc at s2
          change u 3 = .pointer (some ⟨w.heap.size, 0, none⟩) at s3
          change u 7 = .slice A6 LF c6 at s7
          change u 10 = .pointer (some ⟨go, 0, none⟩) at s10
          change u 43 = .bool true at s43
          change u 48 = _ at s48
          change u 53 = _ at s53
          rw [s1, s2, s3, s7, s10, s43, s48, s53]
          clear s1 s2 s3 s7 s10 s43 s48 s53
          clear hA hB7 hK7 hC7 hR7 hk7 hkw7 C1 kT kX hres2
          refine wpAny_take (i := 16) (oi := ⟨some 54, _, _, _, _, _⟩) (v := .bool true) rfl (by kernel_rfl) (by kernel_rfl) (by kernel_rfl) (fun _ _ _ h => h) (Or.inl ⟨by rfl, ?_⟩) ?_
          · (intro w; go_simp; try with_reducible rfl)
          simp only [Act.put, List.setIfInBounds_toArray, List.set_cons_zero, List.set_cons_succ]
          refine wpAny_take (i := 17) (oi := ⟨some 55, _, _, _, _, _⟩) (v := .bool true) rfl (by kernel_rfl) (by kernel_rfl) (by kernel_rfl) (fun _ _ _ h => h) (Or.inl ⟨by rfl, ?_⟩) ?_
          · (intro w; go_simp; try with_reducible rfl)
          simp only [Act.put, List.setIfInBounds_toArray, List.set_cons_zero, List.set_cons_succ]
          refine wpAny_take (i := 18) (oi := ⟨some 56, _, _, _, _, _⟩) (v := .bool true) rfl (by kernel_rfl) (by kernel_rfl) (by kernel_rfl) (fun _ _ _ h => h) (Or.inl ⟨by rfl, ?_⟩) ?_
          · (intro w; go_simp; try with_reducible rfl)
          simp only [Act.put, List.setIfInBounds_toArray, List.set_cons_zero, List.set_cons_succ]
          refine wpAny_take (i := 20) (oi := ⟨some 58, _, _, _, _, _⟩) (v := .slice (some ⟨go, 0, none⟩) 16 16) rfl (by kernel_rfl) (by kernel_rfl) (by kernel_rfl) (fun _ _ _ h => h) (Or.inl ⟨by rfl, ?_⟩) ?_
          · (intro w; go_simp; try with_reducible rfl)
          simp only [Act.put, List.setIfInBounds_toArray, List.set_cons_zero, List.set_cons_succ]
          refine wpAny_take (i := 21) (oi := ⟨some 59, _, _, _, _, _⟩) (v := ?_) rfl (by kernel_rfl) (by kernel_rfl) (by kernel_rfl) (fun _ _ _ h => h) (Or.inl ⟨by rfl, ?_⟩) ?_
          rotate_left
          · (intro w; go_simp; try with_reducible rfl)
          simp only [Act.put, List.setIfInBounds_toArray, List.set_cons_zero, List.set_cons_succ]
          refine wpAny_loose (L := [19, 22, 23]) (fins := [(#[true, true, true, true, true, true, true, true, true, true, true, true, true, true, true, true, true, true, true, true, true, true, true, true, false, false], 2)]) (LooseAt w8 _ [(19, 57), (22, 60), (23, 61)] (sumsYields key X tag A6 LF c6 r)) ?_ ?_ 5 _ _ _ (by kernel_rfl) ⟨Below.refl _ _, rfl, rfl, fun _ _ => rfl, ?_⟩
          rotate_left 2
          · intro p hp hl
            simp only [List.mem_cons, List.not_mem_nil, or_false] at hp
            rcases hp with rfl | rfl | rfl
            all_goals cases hl
          · intro i hi
            simp only [List.mem_cons, List.not_mem_nil, or_false] at hi
            rcases hi with rfl | rfl | rfl
            · refine loose_step (slots := [(19, 57), (22, 60), (23, 61)]) (prop := sumsYields key X tag A6 LF c6 r) (by decide) (by decide) 63 rfl (by decide) (fun _ _ _ _ h hb => sumsYields_on h hb) (i := 19) (s := 57) (by decide) rfl rfl ?_
              intro a w6 K hb hs hd hsame hfact hK
              refine under_guard (wanted_by (j := 18) (s := 56) rfl rfl rfl (hsame 56 (by decide))) ?_
              exact load_op rfl 23 (.tmp 3) rfl w.heap.size 0 (hsame 3 (by decide)) (key.map cellOf) _ (range_on hk8 hkw8 hb) Tryd.underlying23 rfl (by rw [List.length_map, HK.out]; exact size_key) (hK _ _ (Below.refl _ _) rfl)
            · refine loose_step (slots := [(19, 57), (22, 60), (23, 61)]) (prop := sumsYields key X tag A6 LF c6 r) (by decide) (by decide) 63 rfl (by decide) (fun _ _ _ _ h hb => sumsYields_on h hb) (i := 22) (s := 60) (by decide) rfl rfl ?_
              intro a w6 K hb hs hd hsame hfact hK
              refine under_guard (wanted_by (j := 18) (s := 56) rfl rfl rfl (hsame 56 (by decide))) ?_
              refine lit_op rfl 24 1 [(0, .tmp 59)] rfl [(0, .slice A6 LF c6)] ?_ 25 [.slice A6 LF c6] (fun w => by kernel_rfl) (fun w' hb' hc' => hK _ _ hb' ⟨_, rfl, hc'⟩)
              simp only [List.map_cons, List.map_nil]
              rw [show a.eval (.tmp 59) = .slice A6 LF c6 from hsame 59 (by decide)]
            · refine loose_step (slots := [(19, 57), (22, 60), (23, 61)]) (prop := sumsYields key X tag A6 LF c6 r) (by decide) (by decide) 63 rfl (by decide) (fun _ _ _ _ h hb => sumsYields_on h hb) (i := 23) (s := 61) (by decide) rfl rfl ?_
              intro a w6 K hb hs hd hsame hfact hK
              have s57 : a.tmps.getD 57 undef = hashVal key := hfact (19, 57) (by decide) (by kernel_rfl)
              obtain ⟨gl, hl1, hl2⟩ := hfact (22, 60) (by decide) (by kernel_rfl)
              refine under_guard (wanted_by (j := 18) (s := 56) rfl rfl rfl (hsame 56 (by decide))) ?_
              refine call_op rfl 9 [.tmp 57, .tmp 58, .tmp 60] _ rfl [hashVal key, .slice (some ⟨go, 0, none⟩) 16 16, .slice (some ⟨gl, 0, none⟩) 1 1] ?_ (enters Tryd.func9 (by kernel_rfl) (by kernel_rfl)) (C2.out gl go A6 c6 w6 (hC8.on hb) hl2 (hR8.on hb) hA6 hc6 hc6m) ?_
              · simp only [List.map_cons, List.map_nil]
                rw [show a.eval (.tmp 57) = hashVal key from s57, show a.eval (.tmp 58) = .slice (some ⟨go, 0, none⟩) 16 16 from hsame 58 (by decide), show a.eval (.tmp 60) = .slice (some ⟨gl, 0, none⟩) 1 1 from hl1]
              · rintro e w9 ⟨rfl, hb9⟩
                exact ⟨_, rfl, hK _ _ hb9 rfl⟩
          · intro f hf a w9 hA
            obtain rfl := List.mem_singleton.1 hf
            have hB9 := below_then hB8 hA.below
            have s56 := hA.same 56 (by decide)
            have s61 : a.tmps.getD 61 undef = .bool true := hA.fact (23, 61) (by decide) (by kernel_rfl)
            obtain ⟨u, rfl⟩ := loose_frame63 a hA.size hA.defers
            change u 56 = .bool true at s56
            change u 61 = _ at s61
            rw [s56, s61]
            clear s56 s61
            clear hA
            refine wpAny_rest 24 rfl (by kernel_rfl) ?_
            simp only [List.drop_succ_cons, List.drop_zero]
            go_wp2
            go_ret
            exact ⟨rfl, hB9⟩
end Go.Proofs.YtiadgningbogmaaDoor
