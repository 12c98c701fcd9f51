/- Part 3 of what the laws of this seat share: WKeep, WZeros, SWork, SBlock, SHash, SSum. -/
import Derived.Lib.AppendStr
import Derived.IntWalk
import Derived.Deep.QuietTactic
import Derived.BigQuiet
import Derived.Deep.WholeRow
import Derived.Test.YtmhelmmonkgmmaaDoorPart2
namespace Go.Proofs.YtmhelmmonkgmmaaDoor
open Go.RowKit
section
variable {w : World} {ops : Array Oper} {rest : List Oper} {o o1 o2 : Oper} {a : Act} {Q : Exit → Act → World → Prop}
/-- 'x := f(..)', x an array of bytes: a new variable, and the value stored into it. -/
theorem put_step (hg1 : o1.guard = none) (hg2 : o2.guard = none) (t : TypeId) (x y : Operand) (h1 : o1.op = .alloc t) (h2 : o2.op = .store t x y) (n : Nat) (ds : List UInt8)
    (hx : (a.put o1.dst (.pointer (some ⟨w.heap.size, 0, none⟩))).eval x = .pointer (some ⟨w.heap.size, 0, none⟩)) (hy : (a.put o1.dst (.pointer (some ⟨w.heap.size, 0, none⟩))).eval y = hashVal ds)
    (hz : ∀ w, (zeroValue t).run Tryd.prog w = .ok (.agg (List.replicate n (cellOf 0)).toArray) w) (hs : (Tryd.prog.info? t).map (·.size) = some n) (hl : ds.length = n)
    (h : ∀ w', Below w.heap.size w w' → Cells w' w.heap.size (ds.map cellOf) t → w'.heap.size = w.heap.size + 1 → wpList Tryd.prog ops Q rest ((a.put o1.dst (.pointer (some ⟨w.heap.size, 0, none⟩))).put o2.dst undef) w') : wpList Tryd.prog ops Q (o1 :: o2 :: rest) a w := by
  refine alloc_step hg1 t h1 _ hz ?_
  intro w1 hw1
  have hB1 : Below w.heap.size w w1 := by rw [hw1]; exact (Below.refl _ _).alloc (Nat.le_refl _) _
  have hC1 : Cells w1 w.heap.size (List.replicate n (cellOf 0)) t := by rw [hw1]; exact Cells.new w _ _
  have hz1 : w1.heap.size = w.heap.size + 1 := by rw [hw1]; simp
  clear hw1
  have hsz : (ds.map cellOf).toArray.size = n := by rw [List.size_toArray, List.length_map, hl]
  refine wpList_store_mid hg2 t x y h2 w.heap.size 0 (ds.map cellOf).toArray hx hy (by rw [hsz]; exact hC1.there 0 n (by simp)) (by rw [hsz]; exact hs) (all_oneCell_toArray (cells8_one ds)) ?_
  have hC2 := hC1.setCells (cs := ds.map cellOf) (o := 0) (by simp [hl])
  rw [splice_all _ _ (by simp [hl])] at hC2
  exact h _ (below_setCells hB1 (Nat.le_refl _) _ _) hC2 (by rw [(heap_setCells _ _ _ _).2.2.2.1, hz1])
/-- A variable that is an array of bytes, as a value. -/
theorem get_step (hgd : o.guard = none) (t : TypeId) (x : Operand) (ho : o.op = .load t x) (g n : Nat) (ds : List UInt8) (e : TypeId) (hx : a.eval x = .pointer (some ⟨g, 0, none⟩)) (hC : Cells w g (ds.map cellOf) t) (hu : Tryd.prog.underlying t = some (.array n e))
    (hs : (Tryd.prog.info? t).map (·.size) = some n) (hl : ds.length = n) (h : wpList Tryd.prog ops Q rest (a.put o.dst (hashVal ds)) w) : wpList Tryd.prog ops Q (o :: rest) a w :=
  wpList_load_row hgd t x ho g hx t (ds.map cellOf).toArray (0, 0) _ hC hu rfl (by rw [List.size_toArray, List.length_map, hl]; exact hs) h
/-- An array of bytes stored over a variable. -/
theorem set_step (hgd : o.guard = none) (t : TypeId) (x y : Operand) (ho : o.op = .store t x y) (g n : Nat) (vs : List Value) (ds : List UInt8) (hx : a.eval x = .pointer (some ⟨g, 0, none⟩)) (hy : a.eval y = hashVal ds) (hC : Cells w g vs t) (hv : vs.length = n)
    (hs : (Tryd.prog.info? t).map (·.size) = some n) (hl : ds.length = n) (h : ∀ w', But g w w' → Cells w' g (ds.map cellOf) t → w'.heap.size = w.heap.size → wpList Tryd.prog ops Q rest (a.put o.dst undef) w') : wpList Tryd.prog ops Q (o :: rest) a w := by
  have hsz : (ds.map cellOf).toArray.size = n := by rw [List.size_toArray, List.length_map, hl]
  refine wpList_store_mid hgd t x y ho g 0 (ds.map cellOf).toArray hx hy (by rw [hsz]; exact hC.there 0 n (by omega)) (by rw [hsz]; exact hs) (all_oneCell_toArray (cells8_one ds)) ?_
  have hC2 := hC.setCells (cs := ds.map cellOf) (o := 0) (by simp [hl, hv])
  rw [splice_all _ _ (by simp [hl, hv])] at hC2
  exact h _ ((But.refl g w).setCells _ _) hC2 (heap_setCells _ _ _ _).2.2.2.1
/-- A new variable of a type whose zero value is an array of noughts. -/
theorem zero_step (hgd : o.guard = none) (t : TypeId) (ho : o.op = .alloc t) (n : Nat) (hz : ∀ w, (zeroValue t).run Tryd.prog w = .ok (.agg (List.replicate n (cellOf 0)).toArray) w)
    (h : ∀ w', Below w.heap.size w w' → Cells w' w.heap.size (List.replicate n (cellOf 0)) t → w'.heap.size = w.heap.size + 1 → wpList Tryd.prog ops Q rest (a.put o.dst (.pointer (some ⟨w.heap.size, 0, none⟩))) w') : wpList Tryd.prog ops Q (o :: rest) a w := by
  refine alloc_step hgd t ho _ hz ?_
  intro w1 hw1
  exact h w1 (by rw [hw1]; exact (Below.refl _ _).alloc (Nat.le_refl _) _) (by rw [hw1]; exact Cells.new w _ _) (by rw [hw1]; simp)
/-- An array of bytes that comes as a value, laid into a new variable. -/
theorem take_step (hgd : o.guard = none) (t : TypeId) (x : Operand) (ho : o.op = .box t x) (ds : List UInt8) (hx : a.eval x = hashVal ds)
    (h : ∀ w', Below w.heap.size w w' → Cells w' w.heap.size (ds.map cellOf) t → w'.heap.size = w.heap.size + 1 → wpList Tryd.prog ops Q rest (a.put o.dst (.pointer (some ⟨w.heap.size, 0, none⟩))) w') : wpList Tryd.prog ops Q (o :: rest) a w := by
  refine box_step hgd t x ho _ hx ?_
  intro w1 hw1
  exact h w1 (by rw [hw1]; exact (Below.refl _ _).alloc (Nat.le_refl _) _) (by rw [hw1]; exact Cells.new w _ _) (by rw [hw1]; simp)
end
/-- A function whose result is an array of bytes in a block of its own. -/
theorem ret_hash {fn : Func} {R : Ending → World → Prop} {a : Act} {w : World} {p : Tmp} {ty e : TypeId} {n : Nat} (hres : fn.results = #[.cell p ty]) (g : Nat) (ds : List UInt8)
    (hp : a.tmps.getD p undef = .pointer (some ⟨g, 0, none⟩)) (hg : Cells w g (ds.map cellOf) ty) (hu : Tryd.prog.underlying ty = some (.array n e)) (hi : (Tryd.prog.info? ty).map (·.size) = some n) (hl : ds.length = n)
    (hdf : a.defers = []) (hR : R (.returned (hashVal ds)) w) : bodyPost Tryd.prog fn R .ret a w :=
  ret_block hres g (ds.map cellOf) ty hp hg hu rfl (by rw [List.length_map, hl]; exact hi) hdf hR
theorem Cells.all {w : World} {g : Nat} {ds : List UInt8} {t : TypeId} (h : Cells w g (ds.map cellOf) t) : Row w w.heap.size (some ⟨g, 0, none⟩) ds :=
  h.row (m := ds.length) (by rw [← List.length_map cellOf, List.take_length])
theorem Cells.on {w w' : World} {g : Nat} {vs : List Value} {t : TypeId} (h : Cells w g vs t) (hb : Below w.heap.size w w') : Cells w' g vs t := h.below hb h.lt
/-- 'append(out, b...)' onto a whole row of the call's own, block g: of the old blocks only g may have turned. -/
theorem append_but {w : World} {ops : Array Oper} {rest : List Oper} {o : Oper} {a : Act} {Q : Exit → Act → World → Prop} (hgd : o.guard = none) (s x : Operand)
    (ho : o.op = .call { callee := .builtin .append, args := #[s, x], argTypes := #[22, 22] }) (base g l c0 : Nat)
    (bs us : List UInt8) (B : Nat) (A : Option Addr) (c n : Nat) (hs : a.eval s = .slice (some ⟨g, 0, none⟩) l c0) (hown : Owns w base (.slice (some ⟨g, 0, none⟩) l c0) bs) (hx : a.eval x = .slice A n c) (hn : us.length = n) (hA : A = none → c = 0) (hr : Row w B A us)
    (hlen : bs.length + n ≤ 1000000) (hbase : base ≤ w.heap.size)
    (h : ∀ v' w', Owns w' base v' (bs ++ us) → But g w w' → wpList Tryd.prog ops Q rest (a.put o.dst v') w') : wpList Tryd.prog ops Q (o :: rest) a w := by
  subst hn
  obtain ⟨i0, hi0, hz0, hz1, hz2⟩ := info_parts u8_info
  rcases A with _ | ad
  · have : us = [] := by
      rcases hr with h | ⟨_, _, h, _⟩
      · exact h
      · cases h
    subst this
    rw [hA rfl] at hx
    exact wpList_append_own_none hgd s x 22 ho base 5 i0 1 Tryd.underlying22 hi0 _ bs.length (bs.map cellOf) hs hown hx (h _ w (by simpa using hown) (But.refl _ _))
  · refine wpList_append_own w hgd s x 22 ho base 5 i0 _ 1 1 Tryd.underlying22 hi0 hz0 hz1 hz2 rfl (by omega) _ bs.length (bs.map cellOf) hs hown ad us.length c (us.map cellOf) hx (by simp) ?_ ?_ (by simp only [maxLen]; omega) (by omega) hbase ?_
    · intro j u hu
      rw [List.getElem?_map] at hu
      cases hj : us[j]? with
      | none => rw [hj] at hu; cases hu
      | some q =>
        rw [hj] at hu
        rcases hr with rfl | ⟨b, off, hb1, _, hc⟩
        · simp at hj
        · cases hb1
          rw [Go.WideShapes.add_plain, hc j q hj]
          exact hu
    · intro u hu
      obtain ⟨q, _, rfl⟩ := List.mem_map.1 hu
      rfl
    · intro v' w' h2 h3 _
      refine h v' w' ?_ ⟨h3.os, h3.tape, h3.output, h3.size, fun k hk hne => h3.block k hk (fun e => hne (by simpa [Value.ownBlock] using e))⟩
      unfold Owns
      simpa using h2
end Go.Proofs.YtmhelmmonkgmmaaDoor
namespace Go.Proofs.YtmhelmmonkgmmaaDoor
open Go.RowKit
theorem zeroCells_u8 (n : Nat) : Builtin.zeroCells (Value.int .u8 0).cells n = (List.replicate n (cellOf 0)).toArray := by
  apply Array.ext_getElem?
  intro i
  simp only [Builtin.zeroCells, Value.cells]
  by_cases h : i < n
  · simp [h, Nat.mod_one]
  · simp [h]
theorem str_size (bs : List UInt8) : (str bs).size = bs.length := by simp [str, ByteArray.size]
theorem strCells_str (bs : List UInt8) : Lib.strCells (str bs) = bs.map cellOf := by simp [Lib.strCells, str]
theorem run_append_zeros (w : World) (ty : TypeId) (A : Option Addr) (l c n : Nat) (hn : l + n ≤ 1000000) :
    (Builtin.append_ #[22, 3] ty #[.slice A l c, .int .i64 (n : Int)]).run Tryd.prog w = (Builtin.append_ #[22, 9] ty #[.slice A l c, .string (str (List.replicate n 0))]).run Tryd.prog w := by
  obtain ⟨i0, hi0, hz0, hz1, hz2⟩ := info_parts u8_info
  have hs : (str (List.replicate n 0)).size = n := by rw [str_size, List.length_replicate]
  have hf : ∀ w, (Builtin.firstCells 1 n (.string (str (List.replicate n 0)))).run Tryd.prog w = .ok (List.replicate n (cellOf 0)).toArray w := fun w => by
    have h := Lib.run_firstCells_string (P := Tryd.prog) w 1 (str (List.replicate n 0))
    rw [hs, strCells_str, List.map_replicate] at h
    exact h
  have hwr : IntKind.i64.wrap (n : Int) = (n : Int) := IntWalk.i64_in _ (by omega)
  have h1 : ¬ (n : Int) < 0 := by omega
  have h2 : ¬ (281474976710656 : Int) < (n : Int) := by omega
  have hzc := zeroCells_u8
  have ha : ∀ (n : Int) w, (asInt (.int .i64 n)).run Tryd.prog w = .ok n w := fun n w => by simp [asInt, asIntOf]
  have hw0 : IntKind.i64.wrap 0 = 0 := by decide
  by_cases h0 : n = 0
  · subst h0
    rw [List.replicate_zero] at hs hf
    have hf' : ∀ w, (Builtin.firstCells 1 0 (.string (str []))).run Tryd.prog w = .ok #[] w := hf
    by_cases hroom : l ≤ c
    · simp [Builtin.append_, run_underlying Tryd.underlying22, run_underlying Tryd.underlying3, run_underlying Tryd.underlying9, sizeOf, typeInfo, zeroValue, hi0, hz0, hz1, hz2, Builtin.lenOf, hs, hf', ha, hroom, hw0, hzc]
    · have h63 : ¬ (9223372036854775807 < (l : Int)) := by omega
      have h48 : ¬ (281474976710656 < Builtin.nextslicecap l c) := by
        have := growslice_fits (need := l) (old := c) (bytes := 1) (by omega) (by omega)
        omega
      simp [Builtin.append_, run_underlying Tryd.underlying22, run_underlying Tryd.underlying3, run_underlying Tryd.underlying9, sizeOf, typeInfo, zeroValue, hi0, hz0, hz1, hz2, Builtin.lenOf, hs, hf', ha, hroom, hw0, hzc, h63, h48]
  · by_cases hroom : l + n ≤ c
    · simp [Builtin.append_, run_underlying Tryd.underlying22, run_underlying Tryd.underlying3, run_underlying Tryd.underlying9, sizeOf, typeInfo, zeroValue, hi0, hz0, hz1, hz2, Builtin.lenOf, hs, hwr, h1, h2, hf, ha, hroom, h0, hzc]
    · have h63 : ¬ (9223372036854775807 < (l : Int) + (n : Int)) := by omega
      have h48 : ¬ (281474976710656 < Builtin.nextslicecap (l + n) c) := by
        have := growslice_fits (need := l + n) (old := c) (bytes := 1) (by omega) (by omega)
        omega
      simp [Builtin.append_, run_underlying Tryd.underlying22, run_underlying Tryd.underlying3, run_underlying Tryd.underlying9, sizeOf, typeInfo, zeroValue, hi0, hz0, hz1, hz2, Builtin.lenOf, hs, hwr, h1, h2, hf, ha, hroom, h0, hzc, h63, h48]
theorem Owns.form2 {w : World} {base : Nat} {v : Value} {bs : List UInt8} (h : Owns w base v bs) : ∃ A c, v = .slice A bs.length c ∧ bs.length ≤ c ∧ c ≤ maxLen ∧ (A = none → c = 0) ∧ Row w w.heap.size A bs := by
  obtain ⟨A, c, hv, hc, hA, hR⟩ := h.form
  refine ⟨A, c, hv, hc, ?_, hA, hR⟩
  rcases h.2 with ⟨h0, _⟩ | ⟨g, cap, cur, h0, _, _, _, hcm, _⟩
  · rw [hv] at h0; injection h0 with _ _ e; rw [e]; exact Nat.zero_le _
  · rw [hv] at h0; injection h0 with _ _ e; rw [e]; exact hcm
/-- 'append(out, make([]byte, n)...)'. -/
theorem append_zeros {w : World} {ops : Array Oper} {rest : List Oper} {o : Oper} {a : Act} {Q : Exit → Act → World → Prop} (hgd : o.guard = none) (s x : Operand)
    (ho : o.op = .call { callee := .builtin .append, args := #[s, x], argTypes := #[22, 3] }) (base n : Nat)
    (v : Value) (bs : List UInt8) (hs : a.eval s = v) (hown : Owns w base v bs) (hx : a.eval x = .int .i64 (n : Int))
    (hlen : bs.length + n ≤ 1000000) (hbase : base ≤ w.heap.size)
    (h : ∀ v' w', Owns w' base v' (bs ++ List.replicate n 0) → Below base w w' → wpList Tryd.prog ops Q rest (a.put o.dst v') w') : wpList Tryd.prog ops Q (o :: rest) a w := by
  obtain ⟨i0, hi0, hz0, hz1, hz2⟩ := info_parts u8_info
  have hsz : (str (List.replicate n 0)).size = n := by rw [str_size, List.length_replicate]
  refine wpList_plain hgd fun K hK => ?_
  obtain ⟨v', w', hr, h2, h3, _⟩ := Lib.run_append_own_string (P := Tryd.prog) w base 22 9 o.type 5 i0 Tryd.underlying22 Tryd.underlying9 hi0 hz0 hz1 hz2 v bs.length (bs.map cellOf) hown (str (List.replicate n 0)) (by rw [hsz]; simp only [maxLen]; omega) (by rw [hsz]; omega) hbase
  obtain ⟨A, c, rfl, _, _, _⟩ := hown.form
  rw [← run_append_zeros w o.type A bs.length c n hlen] at hr
  unfold Oper.wp execOp
  simp only [ho, resolve, invoke, builtin, Sem.run_bind, Sem.run_pure, Result.andThen_ok, List.map_toArray, List.map_cons, List.map_nil, hs, hx, hr]
  refine hK _ _ (h v' w' ?_ ((Below.refl _ _).grown h3 hbase (fun k hk => hown.far k hk)))
  rw [strCells_str, hsz, ← List.map_append] at h2
  unfold Owns
  rw [List.length_append, List.length_replicate]
  exact h2
end Go.Proofs.YtmhelmmonkgmmaaDoor
namespace Go.Proofs.YtmhelmmonkgmmaaDoor
open Go.RowKit
theorem turns_any (x : BitVec 32) (i j k : Int) (w : World) :
    Calls Tryd.prog 45 #[.int .u32 x.toNat, .int .i64 i, .int .i64 j, .int .i64 k] w fun e w' => e = .returned (.int .u32 ((tri32 x i j k).toNat : Int)) ∧ w = w' := by
  go_enter Tryd.func45, Tryd.ntmps45
  go_wp2_with (go_at_call 48; refine (right_any _ _ _).mono ?_; rintro e w' ⟨rfl, rfl⟩)
  go_ret
  exact ⟨ret_int (by rw [xor32, xor32]; rfl), rfl⟩
theorem shaBig_any (A : Option Addr) (c : Nat) (bs : List UInt8) (w : World) (hr : Row w w.heap.size A bs) (hn : bs.length = 4) :
    Calls Tryd.prog 47 #[.slice A 4 c] w fun e w' => e = .returned (.int .u32 ((BitVec.ofNat 32 (bigN bs)).toNat : Int)) ∧ w = w' := by
  have h := big_few A c bs w hr (by omega)
  rw [hn] at h
  have hb := bigN_lt bs
  rw [hn] at hb
  have HC := Lib.hid h
  clear h hn
  go_enter Tryd.func47, Tryd.ntmps47
  go_wp2_with fail
  refine HC.out.mono ?_
  rintro e w' ⟨rfl, rfl⟩
  go_wp2
  go_ret
  exact ⟨ret_int (by rw [BitVec.toNat_ofNat]; omega), rfl⟩
/-- A word as a cell holds it. -/
abbrev wcell (x : BitVec 32) : Value := .int .u32 (x.toNat : Int)
theorem zerosW : (List.replicate 64 (wcell 0)).toArray = #[.int .u32 0, .int .u32 0, .int .u32 0, .int .u32 0, .int .u32 0, .int .u32 0, .int .u32 0, .int .u32 0, .int .u32 0, .int .u32 0, .int .u32 0, .int .u32 0, .int .u32 0, .int .u32 0, .int .u32 0, .int .u32 0, .int .u32 0, .int .u32 0, .int .u32 0, .int .u32 0, .int .u32 0, .int .u32 0, .int .u32 0, .int .u32 0, .int .u32 0, .int .u32 0, .int .u32 0, .int .u32 0, .int .u32 0, .int .u32 0, .int .u32 0, .int .u32 0, .int .u32 0, .int .u32 0, .int .u32 0, .int .u32 0, .int .u32 0, .int .u32 0, .int .u32 0, .int .u32 0, .int .u32 0, .int .u32 0, .int .u32 0, .int .u32 0, .int .u32 0, .int .u32 0, .int .u32 0, .int .u32 0, .int .u32 0, .int .u32 0, .int .u32 0, .int .u32 0, .int .u32 0, .int .u32 0, .int .u32 0, .int .u32 0, .int .u32 0, .int .u32 0, .int .u32 0, .int .u32 0, .int .u32 0, .int .u32 0, .int .u32 0, .int .u32 0] := by rfl
/-- The 64 words on their way. -/
def spreadTo (bs : List UInt8) (k : Nat) : List Value := (shaSpread bs k).map wcell ++ List.replicate (64 - k) (wcell 0)
theorem spreadTo_length (bs : List UInt8) (k : Nat) (h : k ≤ 64) : (spreadTo bs k).length = 64 := by simp [spreadTo, shaSpread_length]; omega
theorem spreadTo_next (bs : List UInt8) (k : Nat) (h : k < 64) (x : BitVec 32) (hx : x = if k < 16 then shaWord bs k else shaNext (shaSpread bs k) k) : (spreadTo bs k).set k (wcell x) = spreadTo bs (k + 1) := by
  subst hx
  rw [spreadTo, set_nextV _ k 64 _ _ (by simp [shaSpread_length]) h, spreadTo, shaSpread, List.map_append]
  rfl
theorem spreadTo_at (bs : List UInt8) (k j : Nat) (h : j < k) : (spreadTo bs k)[j]? = some (wcell ((shaSpread bs k).getD j 0)) := by
  rw [spreadTo, List.getElem?_append_left (by simp [shaSpread_length]; omega), List.getElem?_map, List.getElem?_eq_getElem (by rw [shaSpread_length]; omega)]
  simp [List.getD, shaSpread_length, h]
set_option maxRecDepth 100000 in
theorem spread_any (b off c : Nat) (bs : List UInt8) (w : World) (hr : Row w w.heap.size (some ⟨b, off, none⟩) bs) (hn : bs.length = 64) (hc : 64 ≤ c) (hc2 : c ≤ maxLen) :
    Calls Tryd.prog 44 #[.slice (some ⟨b, off, none⟩) 64 c] w fun e w' => e = .returned (.agg ((shaSpread bs 64).map wcell).toArray) ∧ Below w.heap.size w w' := by
  have HN := Lib.hid hn
  clear hn
  unfold maxLen at hc2
  go_enter Tryd.func44, Tryd.ntmps44
  go_wp2
  rw [← zerosW]
  have hS : Below w.heap.size w ((w.alloc (.cells (List.replicate 64 (wcell 0)).toArray 91)).alloc (.cells (List.replicate 64 (wcell 0)).toArray 91)) ∧ Cells ((w.alloc (.cells (List.replicate 64 (wcell 0)).toArray 91)).alloc (.cells (List.replicate 64 (wcell 0)).toArray 91)) w.heap.size (List.replicate 64 (wcell 0)) 91 ∧ Cells ((w.alloc (.cells (List.replicate 64 (wcell 0)).toArray 91)).alloc (.cells (List.replicate 64 (wcell 0)).toArray 91)) (w.heap.size + 1) (spreadTo bs 0) 91 := by
    refine ⟨((Below.refl _ _).alloc (Nat.le_refl _) _).alloc (by simp) _, ?_, ?_⟩
    · have := (Cells.new w (List.replicate 64 (wcell 0)).toArray 91).alloc (.cells (List.replicate 64 (wcell 0)).toArray 91)
      simpa using this
    · have := Cells.new (w.alloc (.cells (List.replicate 64 (wcell 0)).toArray 91)) (List.replicate 64 (wcell 0)).toArray 91
      simpa [spreadTo, shaSpread] using this
  generalize (w.alloc (.cells (List.replicate 64 (wcell 0)).toArray 91)).alloc (.cells (List.replicate 64 (wcell 0)).toArray 91) = w0 at *
  obtain ⟨hB0, hR0, hS0⟩ := hS
  go_loopw [10] (fun i wr => ∃ k : Nat, k ≤ 16 ∧ i = .int .i64 k ∧ Below w.heap.size w wr ∧ Cells wr w.heap.size (List.replicate 64 (wcell 0)) 91 ∧ Cells wr (w.heap.size + 1) (spreadTo bs k) 91) (fun i _ => 16 - (intOf i).toNat)
  case atStart => exact ⟨0, Nat.zero_le _, rfl, hB0, hR0, hS0⟩
  case round =>
    clear hB0 hR0 hS0
    obtain ⟨k, hk, rfl, hB, hR, hS⟩ := hrel
    by_cases hlt : k < 16
    · have e4 : 4 * (k + 1) - 4 * k = 4 := by omega
      go_wp2_with fail
      refine (shaBig_any _ _ ((bs.drop (4 * k)).take 4) _ ((hr.on hB).piece (4 * k) 4) (by have := HN.out; rw [List.length_take, List.length_drop]; omega)).mono ?_
      rintro e w' ⟨rfl, rfl⟩
      have hf := hS.frozen k
      obtain ⟨v3, hc3⟩ : ∃ v, wr.cell? ⟨w.heap.size + 1, k, none⟩ = some v := ⟨_, hS.cell k (by rw [spreadTo_length _ _ (by omega)]; omega)⟩
      go_wp2
      go_roundw
      case rel =>
        refine ⟨k + 1, by omega, by go_num, hB.setCell (p := ⟨w.heap.size + 1, k, none⟩) (Nat.le_succ _) _, ?_, ?_⟩
        · exact (Below.heap_setCell _ _ _ _ (by simp)).trans hR
        · have h := hS.set k (wcell (shaWord bs k))
          rw [spreadTo_next bs k (by omega) _ (by rw [if_pos hlt])] at h
          exact h
      case measure => simp [intOf]; omega
    · obtain rfl : k = 16 := by omega
      go_wp2_with fail
      rw [show ((16 : Nat) : Int) = 16 from rfl]
      have d16 : decide ((16 : Int) < 16) = false := by decide
      try rw [d16]
      clear d16
      go_loopw [5] (fun i wr => ∃ k : Nat, 16 ≤ k ∧ k ≤ 64 ∧ i = .int .i64 k ∧ Below w.heap.size w wr ∧ Cells wr w.heap.size (List.replicate 64 (wcell 0)) 91 ∧ Cells wr (w.heap.size + 1) (spreadTo bs k) 91) (fun i _ => 64 - (intOf i).toNat)
      case atStart => exact ⟨16, by omega, by omega, rfl, hB, hR, hS⟩
      case round =>
        clear hB hR hS
        obtain ⟨k, hk1, hk2, rfl, hB, hR, hS⟩ := hrel
        by_cases hlt : k < 64
        · have c15 := hS.get (spreadTo_at bs k (k - 15) (by omega))
          have c2 := hS.get (spreadTo_at bs k (k - 2) (by omega))
          have c16 := hS.get (spreadTo_at bs k (k - 16) (by omega))
          have c7 := hS.get (spreadTo_at bs k (k - 7) (by omega))
          have HX : Hid (shaNext (shaSpread bs k) k = (shaSpread bs k).getD (k - 16) 0 + shaLow ((shaSpread bs k).getD (k - 15) 0) + (shaSpread bs k).getD (k - 7) 0 + shaHigh ((shaSpread bs k).getD (k - 2) 0)) := rfl
          generalize (shaSpread bs k).getD (k - 15) 0 = x15 at *
          generalize (shaSpread bs k).getD (k - 2) 0 = x2 at *
          generalize (shaSpread bs k).getD (k - 16) 0 = x16 at *
          generalize (shaSpread bs k).getD (k - 7) 0 = x7 at *
          have i15 : (0 : Int) ≤ (k : Int) - 15 := by omega
          have j15 : (k : Int) - 15 < 64 := by omega
          have t15 : ((k : Int) - 15).toNat = k - 15 := by omega
          have i2 : (0 : Int) ≤ (k : Int) - 2 := by omega
          have j2 : (k : Int) - 2 < 64 := by omega
          have t2 : ((k : Int) - 2).toNat = k - 2 := by omega
          have i16 : (0 : Int) ≤ (k : Int) - 16 := by omega
          have j16 : (k : Int) - 16 < 64 := by omega
          have t16 : ((k : Int) - 16).toNat = k - 16 := by omega
          have i7 : (0 : Int) ≤ (k : Int) - 7 := by omega
          have j7 : (k : Int) - 7 < 64 := by omega
          have t7 : ((k : Int) - 7).toNat = k - 7 := by omega
          have hf := hS.frozen k
          obtain ⟨v3, hc3⟩ : ∃ v, wr.cell? ⟨w.heap.size + 1, k, none⟩ = some v := ⟨_, hS.cell k (by rw [spreadTo_length _ _ (by omega)]; omega)⟩
          go_wp2
          go_quiet (fail)
          go_wp2_with (go_at_call 48; refine (right_any _ _ _).mono ?_; rintro e w' ⟨rfl, rfl⟩)
          refine wp_region_tail 15 (by kernel_rfl) (by kernel_rfl) ?_
          intro w1 hw1
          have hB1 : Below w.heap.size w w1 := by rw [hw1]; exact (below_drewN hB nq).drew
          have hR1 : Cells w1 w.heap.size (List.replicate 64 (wcell 0)) 91 := by rw [hw1]; exact hR
          have hS1 : Cells w1 (w.heap.size + 1) (spreadTo bs k) 91 := by rw [hw1]; exact hS
          have d16 : w1.cell? ⟨w.heap.size + 1, k - 16, none⟩ = some (wcell x16) := by rw [hw1]; exact c16
          have d7 : w1.cell? ⟨w.heap.size + 1, k - 7, none⟩ = some (wcell x7) := by rw [hw1]; exact c7
          have df := hS1.frozen k
          obtain ⟨v4, dc3⟩ : ∃ v, w1.cell? ⟨w.heap.size + 1, k, none⟩ = some v := ⟨_, hS1.cell k (by rw [spreadTo_length _ _ (by omega)]; omega)⟩
          clear hw1 hB hR hS c15 c2 c16 c7 hf hc3
          simp only [List.take_succ_cons, List.take_zero, List.drop_succ_cons, List.drop_zero]
          have s16 : IntKind.i64.wrap ((k : Int) - 16) = (k : Int) - 16 := IntWalk.i64_in _ (by omega)
          have s7 : IntKind.i64.wrap ((k : Int) - 7) = (k : Int) - 7 := IntWalk.i64_in _ (by omega)
          have m16 : (16 : Int) ≤ (k : Int) := by omega
          have m7 : (7 : Int) ≤ (k : Int) := by omega
          repeat still_step
          clear s16 s7
          refine wpStill_nil ?_
          go_wp2
          go_roundw
          case rel =>
            refine ⟨k + 1, by omega, by omega, by go_num, hB1.setCell (p := ⟨w.heap.size + 1, k, none⟩) (Nat.le_succ _) _, hR1.other (by simp) _, ?_⟩
            have e8 := shr32 x15 3
            have e10 := shr32 x2 10
            rw [show (2 : Int) ^ 3 = 8 from rfl] at e8
            rw [show (2 : Int) ^ 10 = 1024 from rfl] at e10
            rw [e8, e10, xor32, xor32, xor32, xor32, add32_4]
            have h := hS1.set k (wcell (shaNext (shaSpread bs k) k))
            rw [spreadTo_next bs k (by omega) _ (by rw [if_neg (by omega)]), HX.out] at h
            exact h
          case measure => simp [intOf]; omega
        · obtain rfl : k = 64 := by omega
          have hv : (spreadTo bs 64).length = 64 := spreadTo_length _ _ (Nat.le_refl _)
          have HV := Lib.hid (show spreadTo bs 64 = (shaSpread bs 64).map wcell by simp [spreadTo])
          generalize spreadTo bs 64 = vs at *
          have hi : (Tryd.prog.info? 91).map (·.size) = some vs.toArray.size := by
            rw [List.size_toArray, hv]
            kernel_rfl
          have hi0 : (Tryd.prog.info? 91).map (·.size) = some (List.replicate 64 (wcell 0)).toArray.size := by
            rw [List.size_toArray, List.length_replicate]
            kernel_rfl
          have hT : wr.there w.heap.size 0 vs.toArray.size := by rw [show vs.toArray.size = 64 by simpa using hv]; exact hR.there 0 64 (by simp)
          have h1 : vs.toArray.all (·.oneCell') = true := all_oneCell_toArray (by rw [HV.out]; intro v hv; obtain ⟨x, _, rfl⟩ := List.mem_map.1 hv; rfl)
          have HL := Lib.hid hv
          clear hv
          go_wp2_with (first
            | (refine wpList_load_row rfl 91 _ rfl (w.heap.size + 1) rfl 91 _ (0, 0) _ hS Tryd.underlying91 rfl hi ?_)
            | (refine wpList_store_mid rfl 91 _ _ rfl w.heap.size 0 vs.toArray rfl rfl hT hi h1 ?_))
          have hC := hR.setCells (cs := vs) (o := 0) (by simp [HL.out])
          rw [splice_all _ _ (by simp [HL.out])] at hC
          refine ret_block Tryd.results44 w.heap.size vs 91 rfl hC Tryd.underlying91 rfl (by simpa using hi) rfl ⟨by rw [HV.out], below_setCells hB (Nat.le_refl _) _ _⟩
end Go.Proofs.YtmhelmmonkgmmaaDoor
namespace Go.Proofs.YtmhelmmonkgmmaaDoor
open Go.RowKit
/-- What a hash holds: the chain, the bytes that wait (and what lies behind them), how many there are. -/
def hashCells (o : Oct) (rest : List UInt8) (n : Nat) : List Value := o.list.map wcell ++ rest.map cellOf ++ [.int .u64 (n : Int)]
theorem hashCells_length (o : Oct) (rest : List UInt8) (n : Nat) (h : rest.length = 64) : (hashCells o rest n).length = 73 := by simp [hashCells, Oct.list, h]
def HashIs (w : World) (g : Nat) (o : Oct) (rest : List UInt8) (n : Nat) : Prop := rest.length = 64 ∧ Cells w g (hashCells o rest n) 88
theorem hash_links (o : Oct) (rest : List UInt8) (n : Nat) : ((hashCells o rest n).drop 0).take 8 = o.list.map wcell := by
  simp [hashCells, Oct.list]
theorem size_u32 : (Tryd.prog.info? 61).map (·.size) = some 1 := by kernel_rfl
theorem turns_same (x : BitVec 32) (i j k : Int) (w : World) :
    Calls Tryd.prog 45 #[.int .u32 x.toNat, .int .i64 i, .int .i64 j, .int .i64 k] w fun e w' => e = .returned (.int .u32 ((tri32 x i j k).toNat : Int)) ∧ w' = w :=
  (turns_any x i j k w).mono fun _ _ ⟨h1, h2⟩ => ⟨h1, h2.symm⟩
theorem size_eight : (Tryd.prog.info? 84).map (·.size) = some 8 := by kernel_rfl
theorem wcells_one (l : List (BitVec 32)) : (l.map wcell).toArray.all (·.oneCell') = true := all_oneCell_toArray (by intro v hv; obtain ⟨x, _, rfl⟩ := List.mem_map.1 hv; rfl)
/-- A new array of eight words, and these laid into it. -/
def eightNew (w : World) (l : List Value) : World := (w.alloc (.cells #[.int .u32 0, .int .u32 0, .int .u32 0, .int .u32 0, .int .u32 0, .int .u32 0, .int .u32 0, .int .u32 0] 84)).setCells w.heap.size 0 l
theorem eight_there (w : World) : (w.alloc (.cells #[.int .u32 0, .int .u32 0, .int .u32 0, .int .u32 0, .int .u32 0, .int .u32 0, .int .u32 0, .int .u32 0] 84)).there w.heap.size 0 8 := (Cells.new w _ _).there 0 8 (by simp)
theorem eightNew_below (w : World) (l : List Value) : Below w.heap.size w (eightNew w l) := below_setCells ((Below.refl _ _).alloc (Nat.le_refl _) _) (Nat.le_refl _) _ _
theorem eightNew_cells (w : World) (l : List Value) (hl : l.length = 8) : Cells (eightNew w l) w.heap.size l 84 := by
  have h := (Cells.new w #[.int .u32 0, .int .u32 0, .int .u32 0, .int .u32 0, .int .u32 0, .int .u32 0, .int .u32 0, .int .u32 0] 84).setCells (cs := l) (o := 0) (by simp [hl])
  rw [splice_all _ _ (by simp [hl])] at h
  exact h
/-- The package's two tables lie where the program's text lays them. -/
def Tabs (w : World) : Prop := w.rangeAt 19 0 (shaStart.list.map wcell) ∧ w.rangeAt 20 0 (shaK.map wcell)
theorem rangeAt_but {w w' : World} {g b o : Nat} {cs : List Value} (h : w.rangeAt b o cs) (hb : But g w w') (hg : b ≠ g) : w'.rangeAt b o cs := fun j v hv => by
  have h1 := h j v hv
  rw [World.cell?_of_block (w := w) (hb.block b (block_lt_of_cell h1) hg)]
  exact h1
theorem Tabs.but {w w' : World} {g : Nat} (h : Tabs w) (hb : But g w w') (hg : 21 ≤ g) : Tabs w' := ⟨rangeAt_but h.1 hb (Nat.ne_of_lt (Nat.lt_of_lt_of_le (by decide) hg)), rangeAt_but h.2 hb (Nat.ne_of_lt (Nat.lt_of_lt_of_le (by decide) hg))⟩
theorem rangeAt_below {w w' : World} {b o : Nat} {cs : List Value} (h : w.rangeAt b o cs) (hb : Below w.heap.size w w') : w'.rangeAt b o cs := fun j v hv => by
  have h1 := h j v hv
  rw [hb.cell (block_lt_of_cell h1)]
  exact h1
theorem Tabs.below {w w' : World} (h : Tabs w) (hb : Below w.heap.size w w') : Tabs w' := ⟨rangeAt_below h.1 hb, rangeAt_below h.2 hb⟩
theorem Tabs.drewN {w : World} (h : Tabs w) (n : Nat) : Tabs (w.drewN n) := h
theorem Tabs.round {w : World} (h : Tabs w) (k : Nat) (hk : k < 64) : w.cell? ⟨20, k, none⟩ = some (wcell (shaK.getD k 0)) := by
  have h1 := h.2 k (wcell (shaK.getD k 0)) (by
    rw [List.getElem?_map, List.getD_eq_getElem?_getD, List.getElem?_eq_getElem (show k < shaK.length from hk)]
    rfl)
  rwa [Nat.zero_add] at h1
theorem HashIs.below {w w' : World} {g n : Nat} {o : Oct} {rest : List UInt8} (h : HashIs w g o rest n) (hb : Below w.heap.size w w') : HashIs w' g o rest n := ⟨h.1, h.2.below hb h.2.lt⟩
/-- A chain to which another is added, up to the k-th word. -/
def sumTo (o q : Oct) (k : Nat) : List Value := ((o.plus q).list.take k).map wcell ++ (o.list.drop k).map wcell
theorem sumTo_next (o q : Oct) (k : Nat) (hk : k < 8) (t : List Value) : (sumTo o q k ++ t).set k (wcell (o.list.getD k 0 + q.list.getD k 0)) = sumTo o q (k + 1) ++ t := by
  match k, hk with
  | 0, _ => rfl
  | 1, _ => rfl
  | 2, _ => rfl
  | 3, _ => rfl
  | 4, _ => rfl
  | 5, _ => rfl
  | 6, _ => rfl
  | 7, _ => rfl
theorem sumTo_at (o q : Oct) (k : Nat) (hk : k < 8) (t : List Value) : (sumTo o q k ++ t)[k]? = some (wcell (o.list.getD k 0)) := by
  match k, hk with
  | 0, _ => rfl
  | 1, _ => rfl
  | 2, _ => rfl
  | 3, _ => rfl
  | 4, _ => rfl
  | 5, _ => rfl
  | 6, _ => rfl
  | 7, _ => rfl
theorem oct_at (q : Oct) (k : Nat) (hk : k < 8) : (q.list.map wcell)[k]? = some (wcell (q.list.getD k 0)) := by
  rw [List.getElem?_map, List.getD_eq_getElem?_getD, List.getElem?_eq_getElem (show k < q.list.length from hk)]
  rfl
set_option maxRecDepth 100000 in
theorem work_any (g b off c n : Nat) (o : Oct) (rest bs : List UInt8) (w : World) (hK : Tabs w) (hH : HashIs w g o rest n) (hr : Row w w.heap.size (some ⟨b, off, none⟩) bs) (hn : bs.length = 64) (hc : 64 ≤ c) (hc2 : c ≤ maxLen) :
    Calls Tryd.prog 41 #[.pointer (some ⟨g, 0, none⟩), .slice (some ⟨b, off, none⟩) 64 c] w fun e w' => e = .returned (.tuple #[]) ∧ But g w w' ∧ HashIs w' g (shaBlock o bs) rest n := by
  have hR := hH.2.range 0 8
  rw [hash_links] at hR
  have HN := Lib.hid hn
  clear hn
  unfold maxLen at hc2
  go_enter Tryd.func41, Tryd.ntmps41
  go_wp2_with (first
    | (refine wpList_load_mid rfl 84 _ rfl g 0 rfl (o.list.map wcell) _ hR Tryd.underlying84 rfl size_eight ?_)
    | (refine wpList_store_mid rfl 84 _ _ rfl w.heap.size 0 (o.list.map wcell).toArray rfl rfl (eight_there w) size_eight (wcells_one _) ?_))
  generalize hw0 : (w.alloc (.cells #[.int .u32 0, .int .u32 0, .int .u32 0, .int .u32 0, .int .u32 0, .int .u32 0, .int .u32 0, .int .u32 0] 84)).setCells w.heap.size 0 (o.list.map wcell) = w0
  have hB0 : Below w.heap.size w w0 := hw0 ▸ eightNew_below w _
  have hC0 : Cells w0 w.heap.size (o.list.map wcell) 84 := hw0 ▸ eightNew_cells w _ rfl
  clear hw0
  go_simp
  have c0 := hC0.get (j := 0) (v := wcell o.a) rfl
  have c1 := hC0.get (j := 1) (v := wcell o.b) rfl
  have c2 := hC0.get (j := 2) (v := wcell o.c) rfl
  have c3 := hC0.get (j := 3) (v := wcell o.d) rfl
  have c4 := hC0.get (j := 4) (v := wcell o.e) rfl
  have c5 := hC0.get (j := 5) (v := wcell o.f) rfl
  have c6 := hC0.get (j := 6) (v := wcell o.g) rfl
  have c7 := hC0.get (j := 7) (v := wcell o.h) rfl
  go_quiet (fail)
  have hB1 := below_drewN hB0 nq
  clear hB0 hC0 c0 c1 c2 c3 c4 c5 c6 c7
  generalize w0.drewN nq = w1 at *
  go_wp2_with fail
  refine (spread_any b off c bs _ (hr.on hB1) HN.out hc (by unfold maxLen; omega)).mono ?_
  rintro e w2 ⟨rfl, hB2⟩
  replace hB2 := below_then hB1 hB2
  clear hB1
  have HS := Lib.hid (shaSpread_length bs 64)
  have HO : Hid (shaBlock o bs = o.plus (shaRounds o (shaSpread bs 64) 64)) := rfl
  generalize shaSpread bs 64 = ws at *
  have hK2 := hK.below hB2
  have hH2 := hH.below hB2
  go_wp2_with fail
  go_loopw [5, 6, 7, 8, 9, 10, 11, 12, 41] (fun p q r s t u v x i wr => ∃ k : Nat, k ≤ 64 ∧ i = .int .i64 k ∧ Below w.heap.size w wr ∧ Tabs wr ∧ HashIs wr g o rest n ∧ p = wcell (shaRounds o ws k).a ∧ q = wcell (shaRounds o ws k).b ∧ r = wcell (shaRounds o ws k).c ∧ s = wcell (shaRounds o ws k).d ∧ t = wcell (shaRounds o ws k).e ∧ u = wcell (shaRounds o ws k).f ∧ v = wcell (shaRounds o ws k).g ∧ x = wcell (shaRounds o ws k).h) (fun _ _ _ _ _ _ _ _ i _ => 64 - (intOf i).toNat)
  case atStart => exact ⟨0, Nat.zero_le _, rfl, hB2, hK2, hH2, rfl, rfl, rfl, rfl, rfl, rfl, rfl, rfl⟩
  case round =>
    clear hB2 hK2 hH2
    obtain ⟨k, hk, rfl, hB, hT, hH', rfl, rfl, rfl, rfl, rfl, rfl, rfl, rfl⟩ := hrel
    by_cases hlt : k < 64
    · have hcK := hT.round k hlt
      have hix := run_index_int (P := Tryd.prog) (t := 91) (ws.map wcell) k (wcell (ws.getD k 0)) wr Tryd.underlying91 Tryd.underlying61 size_u32 hlt (by
        rw [List.getElem?_map, List.getD_eq_getElem?_getD, List.getElem?_eq_getElem (by rw [HS.out]; exact hlt)]
        rfl)
      have HX : Hid (shaRounds o ws (k + 1) = shaRound (shaRounds o ws k) (shaK.getD k 0) (ws.getD k 0)) := rfl
      generalize shaRounds o ws k = q at *
      generalize ws.getD k 0 = xw at *
      generalize shaK.getD k 0 = xk at *
      have i1 : (0 : Int) ≤ (k : Int) := by omega
      have i2 : (k : Int) < 64 := by omega
      go_wp2_with fail
      go_quiet ((go_at_call 45; exact Calls.quiet_of_same (turns_same _ _ _ _ _)))
      go_wp2_with (go_at_call 45; refine (turns_any _ _ _ _ _).mono ?_; rintro e w' ⟨rfl, rfl⟩)
      go_roundw
      case rel =>
        rw [one_eq, two_eq, add32, add32]
        exact ⟨k + 1, by omega, by go_num, below_drewN hB nq, hT, hH', by rw [HX.out]; rfl, by rw [HX.out]; rfl, by rw [HX.out]; rfl, by rw [HX.out]; rfl, by rw [HX.out]; rfl, by rw [HX.out]; rfl, by rw [HX.out]; rfl, by rw [HX.out]; rfl⟩
      case measure => simp [intOf]; omega
    · obtain rfl : k = 64 := by omega
      have HQ := HO.out
      generalize shaRounds o ws 64 = q at *
      replace HQ := Lib.hid HQ
      clear HO
      go_wp2_with fail
      rw [show ((64 : Nat) : Int) = 64 from rfl]
      go_loopw [100] (fun i wr => ∃ k : Nat, k ≤ 8 ∧ i = .int .i64 k ∧ But g w wr ∧ Cells wr g (sumTo o q k ++ (rest.map cellOf ++ [.int .u64 (n : Int)])) 88) (fun i _ => 8 - (intOf i).toNat)
      case atStart => exact ⟨0, Nat.zero_le _, rfl, But.of_below hB, by have h := hH'.2; unfold hashCells at h; rw [List.append_assoc] at h; exact h⟩
      case round =>
        have h64 := hH'.1
        clear hB hT hH'
        obtain ⟨k, hk, rfl, hB, hC⟩ := hrel
        by_cases hlt : k < 8
        · have hix : ∀ W : World, (Instr.index 84 (.agg #[wcell q.a, wcell q.b, wcell q.c, wcell q.d, wcell q.e, wcell q.f, wcell q.g, wcell q.h]) (.int .i64 (k : Int))).run Tryd.prog W = .ok (wcell (q.list.getD k 0)) W := fun W =>
            run_index_int (P := Tryd.prog) (t := 84) (q.list.map wcell) k (wcell (q.list.getD k 0)) W Tryd.underlying84 Tryd.underlying61 size_u32 hlt (oct_at q k hlt)
          have i1 : (0 : Int) ≤ (k : Int) := by omega
          have i2 : (k : Int) < 8 := by omega
          go_wp2_with fail
          refine wp_region_tail 11 (by kernel_rfl) (by kernel_rfl) ?_
          intro w3 hw3
          have hB3 : But g w w3 := by rw [hw3]; exact hB.drew
          have hC3 : Cells w3 g (sumTo o q k ++ (rest.map cellOf ++ [.int .u64 (n : Int)])) 88 := by rw [hw3]; exact hC
          clear hw3 hB hC
          have d1 := hC3.get (sumTo_at o q k hlt _)
          have d2 := hC3.frozen k
          have HN := Lib.hid (sumTo_next o q k hlt (rest.map cellOf ++ [.int .u64 (n : Int)]))
          simp only [List.take_succ_cons, List.take_zero, List.drop_succ_cons, List.drop_zero]
          repeat still_step
          refine wpStill_nil ?_
          go_wp2
          go_roundw
          case rel =>
            rw [add32]
            refine ⟨k + 1, by omega, by go_num, hB3.setCell _ _, ?_⟩
            have h := hC3.set k (wcell (o.list.getD k 0 + q.list.getD k 0))
            rw [HN.out] at h
            exact h
          case measure => simp [intOf]; omega
        · obtain rfl : k = 8 := by omega
          go_wp2_with fail
          go_end0
          refine ⟨rfl, hB, h64, ?_⟩
          rw [HQ.out]
          unfold hashCells
          rw [List.append_assoc]
          exact hC
end Go.Proofs.YtmhelmmonkgmmaaDoor
namespace Go.Proofs.YtmhelmmonkgmmaaDoor
open Go.RowKit
/-- A chain and the waiting bytes are those of the bytes bs. -/
def Holds (bs : List UInt8) (o : Oct) (rest : List UInt8) : Prop := o = shaChain bs (bs.length / 64) ∧ rest.take (bs.length % 64) = bs.drop (64 * (bs.length / 64))
theorem holds_less {bs us : List UInt8} {o : Oct} {rest : List UInt8} (h : Holds bs o rest) (hr : rest.length = 64) (hl : bs.length % 64 + us.length < 64) : Holds (bs ++ us) o (restPut rest us (bs.length % 64)) := by
  have e1 : (bs ++ us).length / 64 = bs.length / 64 := by rw [List.length_append]; omega
  have e2 : (bs ++ us).length % 64 = bs.length % 64 + us.length := by rw [List.length_append]; omega
  refine ⟨?_, ?_⟩
  · rw [e1, shaChain_append _ _ _ (by omega)]; exact h.1
  · rw [e1, e2, restPut_take _ _ _ (by omega), h.2, List.drop_append_of_le_length (by omega)]
theorem holds_full {bs us : List UInt8} {o : Oct} {rest : List UInt8} (h : Holds bs o rest) (hr : rest.length = 64) (hl : bs.length % 64 + us.length = 64) (rest' : List UInt8) : Holds (bs ++ us) (shaBlock o (restPut rest us (bs.length % 64))) rest' := by
  have e1 : (bs ++ us).length / 64 = bs.length / 64 + 1 := by rw [List.length_append]; omega
  have e2 : (bs ++ us).length % 64 = 0 := by rw [List.length_append]; omega
  have e3 : restPut rest us (bs.length % 64) = ((bs ++ us).drop (64 * (bs.length / 64))).take 64 := by
    have := restPut_take rest us (bs.length % 64) (by omega)
    rw [List.take_of_length_le (by rw [restPut_length _ _ _ (by omega)]; omega), h.2] at this
    rw [this, List.drop_append_of_le_length (by omega), List.take_of_length_le]
    rw [List.length_append, List.length_drop]; omega
  refine ⟨?_, ?_⟩
  · rw [e1, shaChain, shaChain_append _ _ _ (by omega), ← h.1, e3]
  · rw [e1, e2, List.take_zero, List.drop_eq_nil_of_le (by rw [List.length_append]; omega)]
/-- The hash in block g has taken these bytes. -/
def HashOf (w : World) (g : Nat) (bs : List UInt8) : Prop := ∃ o rest, HashIs w g o rest bs.length ∧ Holds bs o rest
theorem hash_count (o : Oct) (rest : List UInt8) (n : Nat) (h : rest.length = 64) : (hashCells o rest n)[72]? = some (.int .u64 (n : Int)) := by
  rw [hashCells, List.getElem?_append_right (by simp [Oct.list, h])]
  simp [Oct.list, h]
theorem hash_setCount (o : Oct) (rest : List UInt8) (n m : Nat) (h : rest.length = 64) : (hashCells o rest n).set 72 (.int .u64 (m : Int)) = hashCells o rest m := by
  rw [hashCells, List.set_append_right _ _ (by simp [Oct.list, h])]
  simp [Oct.list, h, hashCells]
theorem hash_splice (o : Oct) (rest us : List UInt8) (n h : Nat) (hr : rest.length = 64) (hl : h + us.length ≤ 64) : splice (hashCells o rest n) (8 + h) (us.map cellOf) = hashCells o (restPut rest us h) n := by
  have e := splice_mid (o.list.map wcell) (rest.map cellOf) [.int .u64 (n : Int)] (us.map cellOf) h (by simp; omega)
  rw [show (o.list.map wcell).length = 8 by simp [Oct.list]] at e
  unfold hashCells restPut
  rw [e]
  simp [List.map_take, List.map_drop]
theorem HashIs.count {w : World} {g n : Nat} {o : Oct} {rest : List UInt8} (h : HashIs w g o rest n) : w.cell? ⟨g, 72, none⟩ = some (.int .u64 (n : Int)) := h.2.get (hash_count o rest n h.1)
theorem HashIs.row {w : World} {g n : Nat} {o : Oct} {rest : List UInt8} (h : HashIs w g o rest n) : Row w w.heap.size (some ⟨g, 8, none⟩) rest := by
  refine .inr ⟨g, 8, rfl, h.2.lt, fun j u hu => h.2.get ?_⟩
  have hj : j < rest.length := by
    rcases Nat.lt_or_ge j rest.length with hlt | hge
    · exact hlt
    · rw [List.getElem?_eq_none hge] at hu; cases hu
  rw [hashCells, List.append_assoc, List.getElem?_append_right (by simp [Oct.list])]
  simp [Oct.list]
  rw [List.getElem?_append_left (by simpa using hj), List.getElem?_map, hu]
  rfl
theorem held_any (g n : Nat) (o : Oct) (rest : List UInt8) (w : World) (hH : HashIs w g o rest n) (_hn : n ≤ 1000000) :
    Calls Tryd.prog 40 #[.pointer (some ⟨g, 0, none⟩)] w fun e w' => e = .returned (.int .i64 ((n % 64 : Nat) : Int)) ∧ w = w' := by
  have hc := hH.count
  go_enter Tryd.func40, Tryd.ntmps40
  go_wp2
  go_ret
  exact ⟨ret_int (by omega), rfl⟩
theorem copied {wr w3 : World} {g hd n : Nat} {o : Oct} {rest : List UInt8} (us : List UInt8) (hI : HashIs wr g o rest n) (hl : hd + us.length ≤ 64) (hw3 : w3 = wr.setCells g (8 + hd) (us.map cellOf)) : But g wr w3 ∧ HashIs w3 g o (restPut rest us hd) n := by
  subst hw3
  refine ⟨(But.refl g wr).setCells _ _, by rw [restPut_length _ _ _ (by rw [hI.1]; omega)]; exact hI.1, ?_⟩
  have h := hI.2.setCells (cs := us.map cellOf) (o := 8 + hd) (by rw [hashCells_length _ _ _ hI.1, List.length_map]; omega)
  rw [hash_splice _ _ _ _ _ hI.1 hl] at h
  exact h
set_option maxRecDepth 100000 in
theorem write_any (g : Nat) (bs us : List UInt8) (A : Option Addr) (n c : Nat) (w : World) (hK : Tabs w) (hg : 21 ≤ g) (hH : HashOf w g bs) (hl : us.length = n) (hr : Row w w.heap.size A us) (hA : us ≠ [] → ∀ p, A = some p → p.block ≠ g) (hc : n ≤ c) (hc2 : c ≤ maxLen) (hn : bs.length + n ≤ 1000000) :
    Calls Tryd.prog 38 #[.pointer (some ⟨g, 0, none⟩), .slice A n c] w fun e w' => e = .returned (.tuple #[]) ∧ But g w w' ∧ HashOf w' g (bs ++ us) := by
  obtain ⟨o, rest, hI, hh⟩ := hH
  have HL := Lib.hid hl
  clear hl
  unfold maxLen at hc2
  have hcnt := hI.count
  have hf := hI.2.frozen 72
  have hm := Nat.mod_lt bs.length (show 64 > 0 by omega)
  go_enter Tryd.func38, Tryd.ntmps38
  go_wp2_with fail
  refine (held_any g _ o rest _ hI (by omega)).mono ?_
  rintro e w' ⟨rfl, rfl⟩
  go_wp2_with fail
  have hB0 : But g w (w.setCell ⟨g, 72, none⟩ (.int .u64 ((bs.length : Int) + (n : Int)))) := (But.refl g w).setCell _ _
  have hI0 : HashIs (w.setCell ⟨g, 72, none⟩ (.int .u64 ((bs.length : Int) + (n : Int)))) g o rest (bs.length + n) := by
    refine ⟨hI.1, ?_⟩
    have h := hI.2.set 72 (.int .u64 ((bs.length + n : Nat) : Int))
    rw [hash_setCount _ _ _ _ hI.1, Int.natCast_add] at h
    exact h
  generalize w.setCell ⟨g, 72, none⟩ (.int .u64 ((bs.length : Int) + (n : Int))) = w0 at *
  clear hcnt hf
  go_loopw [1, 4] (fun b h wr => ∃ (k : Nat) (A' : Option Addr) (c' : Nat) (o' : Oct) (rest' : List UInt8), k ≤ n ∧ b = .slice A' (n - k) c' ∧ h = .int .i64 (((bs.length + k) % 64 : Nat) : Int) ∧ n - k ≤ c' ∧ c' ≤ 9223372036854775807 ∧ But g w wr ∧ Row wr wr.heap.size A' (us.drop k) ∧ (us.drop k ≠ [] → ∀ p, A' = some p → p.block ≠ g) ∧ HashIs wr g o' rest' (bs.length + n) ∧ Holds (bs ++ us.take k) o' rest') (fun b _ _ => lenOf b)
  case atStart => exact ⟨0, A, c, o, rest, Nat.zero_le _, rfl, by simp, by omega, by omega, hB0, by simpa using hr.but hB0 hA, hA, hI0, by simpa using hh⟩
  case round =>
    clear hB0 hI0 hh hI
    obtain ⟨k, A', c', o', rest', hk, rfl, rfl, hc', hc3, hB, hR, hA', hI, hh⟩ := hrel
    have HX : Hid ((us.drop k).length = n - k) := by show _ = _; rw [List.length_drop, HL.out]
    have hKr := hK.but hB hg
    have h64 := hI.1
    have hT := hI.2.there 8 64 (by rw [hashCells_length _ _ _ h64]; omega)
    have HD := Lib.hid (show (bs ++ us.take k).length % 64 = (bs.length + k) % 64 by rw [List.length_append, List.length_take, HL.out, Nat.min_eq_left hk])
    have hlt64 := Nat.mod_lt (bs.length + k) (show 64 > 0 by omega)
    have HR : Hid (n - k ≤ n ∧ k + (n - k) = n) := ⟨by omega, by omega⟩
    have HP := Lib.hid (rfl : (bs.length + k) % 64 = (bs.length + k) % 64)
    generalize hdd : (bs.length + k) % 64 = hd at *
    generalize hrr : n - k = r at *
    replace hdd := Lib.hid hdd
    replace hrr := Lib.hid hrr
    have hle : hd ≤ 64 := by omega
    have hleI : (hd : Int) ≤ 64 := by omega
    have hne : ¬ 64 = hd := by omega
    by_cases h0 : 0 < r
    · by_cases hfull : 64 ≤ hd + r
      · have HM : Hid (min r (64 - hd) = 64 - hd) := by show _ = _; omega
        have HU : Hid (((us.drop k).take (64 - hd)).length = 64 - hd) := by show _ = _; rw [List.length_take, HX.out]; omega
        have hTT := hI.2.there (8 + hd) (64 - hd) (by rw [hashCells_length _ _ _ h64]; omega)
        have f1 : (64 : Int) = (hd : Int) + ((64 - hd : Nat) : Int) := by omega
        have F1 := Lib.hid f1
        have F2 : Hid (((hd : Int) + ((64 - hd : Nat) : Int) == 64) = true) := by show _ = true; rw [← f1]; rfl
        clear f1
        have hm1 : 64 - hd ≤ r := by omega
        have hm2 : 64 - hd ≤ 64 := by omega
        generalize hmm : 64 - hd = m at *
        have f2 := F2.out
        go_wp2_with (first
          | (refine copy_row rfl (.tmp 25) (.tmp 26) rfl g (8 + hd) m m r c' wr.heap.size m A' (us.drop k) rfl rfl HX.out HM.out hR hTT ?_
             intro w3 hw3
             obtain ⟨hB3, hI3⟩ := copied _ hI (by rw [HU.out]; have := F1.out; omega) hw3
             clear hw3)
          | (clear hmm
             refine cut_from rfl (.tmp 28) (.tmp 29) rfl A' r c' m rfl rfl hm1 ?_))
        have f3 : (hd : Int) + (m : Int) = 64 := by have := F1.out; omega
        clear f2
        refine wp_region_tail 7 (by kernel_rfl) (by kernel_rfl) ?_
        intro w4 hw4
        have hB4 : But g wr w4 := by rw [hw4]; exact hB3.drew
        have hI4 : HashIs w4 g o' (restPut rest' ((us.drop k).take m) hd) (bs.length + n) := by rw [hw4]; exact hI3
        clear hw4 hB3 hI3
        simp only [List.take_succ_cons, List.take_zero, List.drop_succ_cons, List.drop_zero]
        repeat still_step
        refine wpStill_nil ?_
        go_wp2_with fail
        refine (work_any g g 8 64 _ o' _ _ _ (hKr.but hB4 hg) hI4 hI4.row hI4.1 (by omega) (by unfold maxLen; omega)).mono ?_
        rintro e w5 ⟨rfl, hB5, hI5⟩
        have hB6 := hB4.trans hB5
        go_wp2_with fail
        go_roundw
        case rel =>
          have hdv := hdd.out
          refine ⟨k + m, cutA A' m c', c' - m, _, _, by have := HR.out; omega, ?_, ?_, ?_, by omega, hB.trans hB6, ?_, ?_, hI5, ?_⟩
          · rw [show r - m = n - (k + m) by have := hrr.out; omega]
          · rw [show (bs.length + (k + m)) % 64 = 0 by omega]; rfl
          · have := hrr.out; omega
          · have h := (hR.but hB6 hA').cut m c' (by rw [HX.out]; exact hc')
            rw [List.drop_drop] at h
            exact h
          · intro hne p hp
            obtain ⟨q, hq, e⟩ := cutA_block hp
            rw [e]
            refine hA' (fun e0 => hne ?_) q hq
            rw [← List.drop_drop, e0, List.drop_nil]
          · have h := holds_full hh h64 (us := (us.drop k).take m) (by rw [HD.out, HU.out]; omega) (restPut rest' ((us.drop k).take m) hd)
            rw [HD.out, List.append_assoc, ← List.take_add] at h
            exact h
        case measure => simp [lenOf]; omega
      · have hm1 : r ≤ 64 - hd := by omega
        have HM : Hid (min r (64 - hd) = r) := by show _ = _; omega
        have HU : Hid ((us.drop k).take (64 - hd) = us.drop k) := by show _ = _; rw [List.take_of_length_le (by rw [HX.out]; omega)]
        have hTT := hI.2.there (8 + hd) r (by rw [hashCells_length _ _ _ h64]; omega)
        have f2 : ((hd : Int) + (r : Int) == 64) = false := by simp; omega
        go_wp2_with (first
          | (refine copy_row rfl (.tmp 25) (.tmp 26) rfl g (8 + hd) (64 - hd) (64 - hd) r c' wr.heap.size r A' (us.drop k) rfl rfl HX.out HM.out hR hTT ?_
             intro w3 hw3
             rw [HU.out] at hw3
             obtain ⟨hB3, hI3⟩ := copied _ hI (by rw [HX.out]; omega) hw3
             clear hw3)
          | (refine cut_from rfl (.tmp 28) (.tmp 29) rfl A' r c' r rfl rfl (Nat.le_refl _) ?_))
        go_roundw
        case rel =>
          have hdv := hdd.out
          refine ⟨k + r, cutA A' r c', c' - r, _, _, by have := HR.out; omega, ?_, ?_, ?_, by omega, hB.trans hB3, ?_, ?_, hI3, ?_⟩
          · rw [show n - (k + r) = 0 by have := hrr.out; omega]
          · rw [show (bs.length + (k + r)) % 64 = hd + r by omega, Int.natCast_add]
          · have := hrr.out; omega
          · have h := (hR.but hB3 hA').cut r c' (by rw [HX.out]; exact hc')
            rw [List.drop_drop] at h
            exact h
          · intro hne p hp
            obtain ⟨q, hq, e⟩ := cutA_block hp
            rw [e]
            refine hA' (fun e0 => hne ?_) q hq
            rw [← List.drop_drop, e0, List.drop_nil]
          · have h := holds_less hh h64 (us := us.drop k) (by rw [HD.out, HX.out]; omega)
            rw [HD.out, List.append_assoc] at h
            have e : us.take (k + r) = us.take k ++ us.drop k := by rw [List.take_append_drop, List.take_of_length_le (by have := HL.out; have := HR.out; omega)]
            rw [e]
            exact h
        case measure => simp [lenOf]; omega
    · go_wp2_with fail
      go_end0
      refine ⟨rfl, hB, o', rest', ?_, ?_⟩
      · rw [List.length_append, HL.out]; exact hI
      · rw [List.take_of_length_le (by have := HL.out; have := HR.out; omega)] at hh
        exact hh
end Go.Proofs.YtmhelmmonkgmmaaDoor
namespace Go.Proofs.YtmhelmmonkgmmaaDoor
open Go.RowKit
theorem HashOf.start {w : World} {g : Nat} (h : Cells w g (hashCells shaStart (List.replicate 64 0) 0) 88) : HashOf w g [] :=
  ⟨shaStart, List.replicate 64 0, ⟨by simp, h⟩, rfl, rfl⟩
theorem hash_one (o : Oct) (rest : List UInt8) (n : Nat) : (hashCells o rest n).toArray.all (·.oneCell') = true := all_oneCell_toArray (by
  intro v hv
  unfold hashCells at hv
  rcases List.mem_append.1 hv with h | h
  · rcases List.mem_append.1 h with h | h
    · obtain ⟨x, _, rfl⟩ := List.mem_map.1 h; rfl
    · obtain ⟨x, _, rfl⟩ := List.mem_map.1 h; rfl
  · cases List.mem_singleton.1 h; rfl)
theorem zero_hash : ∀ w, (zeroValue 88).run Tryd.prog w = .ok (.agg (hashCells ⟨0, 0, 0, 0, 0, 0, 0, 0⟩ (List.replicate 64 0) 0).toArray) w := (zero_of_info (P := Tryd.prog) (t := 88) (v := .agg (hashCells ⟨0, 0, 0, 0, 0, 0, 0, 0⟩ (List.replicate 64 0) 0).toArray) (n := 73) (by kernel_rfl)).1
theorem size_hash : (Tryd.prog.info? 88).map (·.size) = some 73 := by kernel_rfl
theorem build_chain (w : World) : (Instr.build 86 #[(0, .agg (shaStart.list.map wcell).toArray)]).run Tryd.prog w = .ok (.agg (shaStart.list.map wcell).toArray) w := by kernel_rfl
theorem build_hash (w : World) : (Instr.build 88 #[(0, .agg (shaStart.list.map wcell).toArray)]).run Tryd.prog w = .ok (.agg (hashCells shaStart (List.replicate 64 0) 0).toArray) w := by kernel_rfl
set_option maxRecDepth 100000 in
theorem new_any (w : World) (hK : Tabs w) : Calls Tryd.prog 37 #[] w fun e w' => e = .returned (.pointer (some ⟨w.heap.size, 0, none⟩)) ∧ Below w.heap.size w w' ∧ HashOf w' w.heap.size [] := by
  have hS := hK.1
  have HL : Hid ((Tryd.prog.info? 84).map (·.size) = some (shaStart.list.map wcell).length) := size_eight
  have HB := build_chain
  have HC := build_hash
  have HE := HashOf.start (w := w.alloc (.cells (hashCells shaStart (List.replicate 64 0) 0).toArray 88)) (g := w.heap.size) (Cells.new w _ _)
  replace HE := Lib.hid HE
  generalize shaStart.list.map wcell = L at *
  generalize hashCells shaStart (List.replicate 64 0) 0 = C at *
  go_enter Tryd.func37, Tryd.ntmps37
  go_wp2_with (first
    | (refine wpList_load_mid rfl 84 _ rfl 19 0 rfl L _ hS Tryd.underlying84 rfl HL.out ?_)
    | (refine build_step rfl 86 _ rfl [(0, .agg L.toArray)] rfl _ HB ?_)
    | (refine build_step rfl 88 _ rfl [(0, .agg L.toArray)] rfl _ HC ?_)
    | (refine box_step rfl 88 _ rfl C.toArray rfl ?_
       intro w1 hw1
       have hB1 : Below w.heap.size w w1 := by rw [hw1]; exact (Below.refl _ _).alloc (Nat.le_refl _) _
       have HE1 : HashOf w1 w.heap.size [] := by rw [hw1]; exact HE.out
       clear hw1))
  go_ret
  exact ⟨rfl, hB1, HE1⟩
end Go.Proofs.YtmhelmmonkgmmaaDoor
