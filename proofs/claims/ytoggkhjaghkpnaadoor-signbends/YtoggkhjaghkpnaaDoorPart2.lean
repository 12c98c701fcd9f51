/- Part 2 of what the laws of this seat share: WKeep, WZeros, DOwn, DConcat, ZParts, VMath, VWork. -/
import Derived.Lib.AppendStr
import Derived.Laws.IdiomStrings
import Derived.Lib.AppendZerosOnto
import Derived.Lib.Walk
import Derived.IntWalk
import Derived.Deep.WholeRow
import Derived.Deep.QuietTactic
import Derived.BigQuiet
import Derived.Test.YtoggkhjaghkpnaaDoorPart1
namespace Go.Proofs.YtoggkhjaghkpnaaDoor
open Go.RowKit
section
variable {w : World} {ops : Array Oper} {rest : List Oper} {o o1 o2 : Oper} {a : Act} {Q : Exit → Act → World → Prop}
/-- A variable that is an array of bytes, as a value. -/
theorem get_step (hgd : o.guard = none) (t : TypeId) (x : Operand) (ho : o.op = .load t x) (g n : Nat) (ds : List UInt8) (e : TypeId) (hx : a.eval x = .pointer (some ⟨g, 0, none⟩)) (hC : Cells w g (ds.map cellOf) t) (hu : Tryd.prog.underlying t = some (.array n e))
    (hs : (Tryd.prog.info? t).map (·.size) = some n) (hl : ds.length = n) (h : wpList Tryd.prog ops Q rest (a.put o.dst (hashVal ds)) w) : wpList Tryd.prog ops Q (o :: rest) a w :=
  wpList_load_row hgd t x ho g hx t (ds.map cellOf).toArray (0, 0) _ hC hu rfl (by rw [List.size_toArray, List.length_map, hl]; exact hs) h
/-- An array of bytes stored over a variable. -/
theorem set_step (hgd : o.guard = none) (t : TypeId) (x y : Operand) (ho : o.op = .store t x y) (g n : Nat) (vs : List Value) (ds : List UInt8) (hx : a.eval x = .pointer (some ⟨g, 0, none⟩)) (hy : a.eval y = hashVal ds) (hC : Cells w g vs t) (hv : vs.length = n)
    (hs : (Tryd.prog.info? t).map (·.size) = some n) (hl : ds.length = n) (h : ∀ w', But g w w' → Cells w' g (ds.map cellOf) t → w'.heap.size = w.heap.size → wpList Tryd.prog ops Q rest (a.put o.dst undef) w') : wpList Tryd.prog ops Q (o :: rest) a w := by
  have hsz : (ds.map cellOf).toArray.size = n := by rw [List.size_toArray, List.length_map, hl]
  refine wpList_store_mid hgd t x y ho g 0 (ds.map cellOf).toArray hx hy (by rw [hsz]; exact hC.there 0 n (by omega)) (by rw [hsz]; exact hs) (all_oneCell_toArray (cells8_one ds)) ?_
  have hC2 := hC.setCells (cs := ds.map cellOf) (o := 0) (by simp [hl, hv])
  rw [splice_all _ _ (by simp [hl, hv])] at hC2
  exact h _ ((But.refl g w).setCells _ _) hC2 (heap_setCells _ _ _ _).2.2.2.1
/-- A new variable of a type whose zero value is an array of noughts. -/
theorem zero_step (hgd : o.guard = none) (t : TypeId) (ho : o.op = .alloc t) (n : Nat) (hz : ∀ w, (zeroValue t).run Tryd.prog w = .ok (.agg (List.replicate n (cellOf 0)).toArray) w)
    (h : ∀ w', Below w.heap.size w w' → Cells w' w.heap.size (List.replicate n (cellOf 0)) t → w'.heap.size = w.heap.size + 1 → wpList Tryd.prog ops Q rest (a.put o.dst (.pointer (some ⟨w.heap.size, 0, none⟩))) w') : wpList Tryd.prog ops Q (o :: rest) a w := by
  refine alloc_step hgd t ho _ hz ?_
  intro w1 hw1
  exact h w1 (by rw [hw1]; exact (Below.refl _ _).alloc (Nat.le_refl _) _) (by rw [hw1]; exact Cells.new w _ _) (by rw [hw1]; simp)
/-- An array of bytes that comes as a value, laid into a new variable. -/
theorem take_step (hgd : o.guard = none) (t : TypeId) (x : Operand) (ho : o.op = .box t x) (ds : List UInt8) (hx : a.eval x = hashVal ds)
    (h : ∀ w', Below w.heap.size w w' → Cells w' w.heap.size (ds.map cellOf) t → w'.heap.size = w.heap.size + 1 → wpList Tryd.prog ops Q rest (a.put o.dst (.pointer (some ⟨w.heap.size, 0, none⟩))) w') : wpList Tryd.prog ops Q (o :: rest) a w := by
  refine box_step hgd t x ho _ hx ?_
  intro w1 hw1
  exact h w1 (by rw [hw1]; exact (Below.refl _ _).alloc (Nat.le_refl _) _) (by rw [hw1]; exact Cells.new w _ _) (by rw [hw1]; simp)
end
/-- A function whose result is an array of bytes in a block of its own. -/
theorem ret_hash {fn : Func} {R : Ending → World → Prop} {a : Act} {w : World} {p : Tmp} {ty e : TypeId} {n : Nat} (hres : fn.results = #[.cell p ty]) (g : Nat) (ds : List UInt8)
    (hp : a.tmps.getD p undef = .pointer (some ⟨g, 0, none⟩)) (hg : Cells w g (ds.map cellOf) ty) (hu : Tryd.prog.underlying ty = some (.array n e)) (hi : (Tryd.prog.info? ty).map (·.size) = some n) (hl : ds.length = n)
    (hdf : a.defers = []) (hR : R (.returned (hashVal ds)) w) : bodyPost Tryd.prog fn R .ret a w :=
  ret_block hres g (ds.map cellOf) ty hp hg hu rfl (by rw [List.length_map, hl]; exact hi) hdf hR
theorem Cells.all {w : World} {g : Nat} {ds : List UInt8} {t : TypeId} (h : Cells w g (ds.map cellOf) t) : Row w w.heap.size (some ⟨g, 0, none⟩) ds :=
  h.row (m := ds.length) (by rw [← List.length_map cellOf, List.take_length])
theorem Cells.on {w w' : World} {g : Nat} {vs : List Value} {t : TypeId} (h : Cells w g vs t) (hb : Below w.heap.size w w') : Cells w' g vs t := h.below hb h.lt
theorem zeroCells_u8 (n : Nat) : Builtin.zeroCells (Value.int .u8 0).cells n = (List.replicate n (cellOf 0)).toArray := by
  apply Array.ext_getElem?
  intro i
  simp only [Builtin.zeroCells, Value.cells]
  by_cases h : i < n
  · simp [h, Nat.mod_one]
  · simp [h]
theorem str_size (bs : List UInt8) : (str bs).size = bs.length := by simp [str, ByteArray.size]
theorem strCells_str (bs : List UInt8) : Lib.strCells (str bs) = bs.map cellOf := by simp [Lib.strCells, str]
theorem run_append_zeros (w : World) (ty : TypeId) (A : Option Addr) (l c n : Nat) (hn : l + n ≤ 1000000) :
    (Builtin.append_ #[24, 3] ty #[.slice A l c, .int .i64 (n : Int)]).run Tryd.prog w = (Builtin.append_ #[24, 9] ty #[.slice A l c, .string (str (List.replicate n 0))]).run Tryd.prog w := by
  obtain ⟨i0, hi0, hz0, hz1, hz2⟩ := info_parts u8_info
  have hs : (str (List.replicate n 0)).size = n := by rw [str_size, List.length_replicate]
  have hf : ∀ w, (Builtin.firstCells 1 n (.string (str (List.replicate n 0)))).run Tryd.prog w = .ok (List.replicate n (cellOf 0)).toArray w := fun w => by
    have h := Lib.run_firstCells_string (P := Tryd.prog) w 1 (str (List.replicate n 0))
    rw [hs, strCells_str, List.map_replicate] at h
    exact h
  have hwr : IntKind.i64.wrap (n : Int) = (n : Int) := IntWalk.i64_in _ (by omega)
  have h1 : ¬ (n : Int) < 0 := by omega
  have h2 : ¬ (281474976710656 : Int) < (n : Int) := by omega
  have hzc := zeroCells_u8
  have ha : ∀ (n : Int) w, (asInt (.int .i64 n)).run Tryd.prog w = .ok n w := fun n w => by simp [asInt, asIntOf]
  have hw0 : IntKind.i64.wrap 0 = 0 := by decide
  by_cases h0 : n = 0
  · subst h0
    rw [List.replicate_zero] at hs hf
    have hf' : ∀ w, (Builtin.firstCells 1 0 (.string (str []))).run Tryd.prog w = .ok #[] w := hf
    by_cases hroom : l ≤ c
    · simp [Builtin.append_, run_underlying Tryd.underlying24, run_underlying Tryd.underlying3, run_underlying Tryd.underlying9, sizeOf, typeInfo, zeroValue, hi0, hz0, hz1, hz2, Builtin.lenOf, hs, hf', ha, hroom, hw0, hzc]
    · have h63 : ¬ (9223372036854775807 < (l : Int)) := by omega
      have h48 : ¬ (281474976710656 < Builtin.nextslicecap l c) := by
        have := growslice_fits (need := l) (old := c) (bytes := 1) (by omega) (by omega)
        omega
      simp [Builtin.append_, run_underlying Tryd.underlying24, run_underlying Tryd.underlying3, run_underlying Tryd.underlying9, sizeOf, typeInfo, zeroValue, hi0, hz0, hz1, hz2, Builtin.lenOf, hs, hf', ha, hroom, hw0, hzc, h63, h48]
  · by_cases hroom : l + n ≤ c
    · simp [Builtin.append_, run_underlying Tryd.underlying24, run_underlying Tryd.underlying3, run_underlying Tryd.underlying9, sizeOf, typeInfo, zeroValue, hi0, hz0, hz1, hz2, Builtin.lenOf, hs, hwr, h1, h2, hf, ha, hroom, h0, hzc]
    · have h63 : ¬ (9223372036854775807 < (l : Int) + (n : Int)) := by omega
      have h48 : ¬ (281474976710656 < Builtin.nextslicecap (l + n) c) := by
        have := growslice_fits (need := l + n) (old := c) (bytes := 1) (by omega) (by omega)
        omega
      simp [Builtin.append_, run_underlying Tryd.underlying24, run_underlying Tryd.underlying3, run_underlying Tryd.underlying9, sizeOf, typeInfo, zeroValue, hi0, hz0, hz1, hz2, Builtin.lenOf, hs, hwr, h1, h2, hf, ha, hroom, h0, hzc, h63, h48]
theorem Owns.form2 {w : World} {base : Nat} {v : Value} {bs : List UInt8} (h : Owns w base v bs) : ∃ A c, v = .slice A bs.length c ∧ bs.length ≤ c ∧ c ≤ maxLen ∧ (A = none → c = 0) ∧ Row w w.heap.size A bs := by
  obtain ⟨A, c, hv, hc, hA, hR⟩ := h.form
  refine ⟨A, c, hv, hc, ?_, hA, hR⟩
  rcases h.2 with ⟨h0, _⟩ | ⟨g, cap, cur, h0, _, _, _, hcm, _⟩
  · rw [hv] at h0; injection h0 with _ _ e; rw [e]; exact Nat.zero_le _
  · rw [hv] at h0; injection h0 with _ _ e; rw [e]; exact hcm
/-- 'append(out, make([]byte, n)...)'. -/
theorem append_zeros {w : World} {ops : Array Oper} {rest : List Oper} {o : Oper} {a : Act} {Q : Exit → Act → World → Prop} (hgd : o.guard = none) (s x : Operand)
    (ho : o.op = .call { callee := .builtin .append, args := #[s, x], argTypes := #[24, 3] }) (base n : Nat)
    (v : Value) (bs : List UInt8) (hs : a.eval s = v) (hown : Owns w base v bs) (hx : a.eval x = .int .i64 (n : Int))
    (hlen : bs.length + n ≤ 1000000) (hbase : base ≤ w.heap.size)
    (h : ∀ v' w', Owns w' base v' (bs ++ List.replicate n 0) → Below base w w' → wpList Tryd.prog ops Q rest (a.put o.dst v') w') : wpList Tryd.prog ops Q (o :: rest) a w := by
  obtain ⟨i0, hi0, hz0, hz1, hz2⟩ := info_parts u8_info
  have hsz : (str (List.replicate n 0)).size = n := by rw [str_size, List.length_replicate]
  refine wpList_plain hgd fun K hK => ?_
  obtain ⟨v', w', hr, h2, h3, _⟩ := Lib.run_append_own_string (P := Tryd.prog) w base 24 9 o.type 5 i0 Tryd.underlying24 Tryd.underlying9 hi0 hz0 hz1 hz2 v bs.length (bs.map cellOf) hown (str (List.replicate n 0)) (by rw [hsz]; simp only [maxLen]; omega) (by rw [hsz]; omega) hbase
  obtain ⟨A, c, rfl, _, _, _⟩ := hown.form
  rw [← run_append_zeros w o.type A bs.length c n hlen] at hr
  unfold Oper.wp execOp
  simp only [ho, resolve, invoke, builtin, Sem.run_bind, Sem.run_pure, Result.andThen_ok, List.map_toArray, List.map_cons, List.map_nil, hs, hx, hr]
  refine hK _ _ (h v' w' ?_ ((Below.refl _ _).grown h3 hbase (fun k hk => hown.far k hk)))
  rw [strCells_str, hsz, ← List.map_append] at h2
  unfold Owns
  rw [List.length_append, List.length_replicate]
  exact h2
theorem Owns.cutTo {w : World} {base n c : Nat} {A : Option Addr} {bs : List UInt8} (h : Owns w base (.slice A n c) bs) (k : Nat) (hk : k ≤ n) : Owns w base (.slice A k c) (bs.take k) := by
  obtain ⟨h1, h2⟩ := h
  rcases h2 with ⟨hv, hn⟩ | ⟨g, cap, cur, hv, hg, hh, hnc, hcm, hsz, htk⟩
  · injection hv with hA hn2 hc
    obtain rfl : k = 0 := by omega
    subst hA hc
    exact ⟨by simp, .inl ⟨rfl, by simp⟩⟩
  · injection hv with hA hn2 hc
    subst hA hc
    have hl : (bs.take k).length = k := by rw [List.length_take]; omega
    refine ⟨by simp, .inr ⟨g, c, cur, by rw [hl], hg, hh, by omega, hcm, hsz, ?_⟩⟩
    rw [hl, Nat.mul_one, List.map_take, ← htk, Nat.mul_one, List.take_take, Nat.min_eq_left (by omega)]
section
variable {w : World} {ops : Array Oper} {rest : List Oper} {o : Oper} {a : Act} {Q : Exit → Act → World → Prop}
end
/-- 'b[:i]'. -/
theorem cut_to {w : World} {ops : Array Oper} {rest : List Oper} {o : Oper} {a : Act} {Q : Exit → Act → World → Prop} (hgd : o.guard = none) (x y : Operand) (ho : o.op = .slice 24 x none (some y) none)
    (A : Option Addr) (len cap i : Nat) (z : Int) (hx : a.eval x = .slice A len cap) (hy : a.eval y = .int .i64 z) (hz : z = (i : Int)) (hi : i ≤ cap)
    (h : wpList Tryd.prog ops Q rest (a.put o.dst (.slice (cutA A 0 cap) i cap)) w) : wpList Tryd.prog ops Q (o :: rest) a w := by
  subst hz
  refine wpList_plain hgd fun K hK => ?_
  obtain ⟨i0, hi0, hs0⟩ := Option.map_eq_some_iff.1 size_u8
  have hrun : (Instr.sliceAt 24 (.slice A len cap) none (some (.int .i64 (i : Int))) none).run Tryd.prog w = .ok (.slice (cutA A 0 cap) i cap) w := by
    have hu : Tryd.prog.underlying 24 = some (.slice 5) := Tryd.underlying24
    have h1 : (Instr.sliceAt 24 (.slice A len cap) none (some (.int .i64 (i : Int))) none).run Tryd.prog w = (Instr.slice 24 (.slice A len cap) none (some (.int .i64 (i : Int))) none).run Tryd.prog w := by
      simp [Instr.sliceAt, run_underlying hu]
    rw [h1]
    have h4 : (i : Int) ≤ (cap : Int) := by omega
    simp [Instr.slice, run_underlying hu, Instr.sliceBounds, run_sliceBound, sizeOf, typeInfo, hi0, cutA, h4]
  unfold Oper.wp
  simp only [execOp, ho, hx, hy, Option.map_some, Option.map_none, hrun, Sem.run_bind, Sem.run_pure, Result.andThen_ok]
  exact hK _ _ h
theorem Row.cutTo {w : World} {B : Nat} {A : Option Addr} {us : List UInt8} (h : Row w B A us) (i cap : Nat) (hl : us.length ≤ cap) : Row w B (cutA A 0 cap) (us.take i) := by
  have h := (h.cut 0 cap hl).take i
  rwa [List.drop_zero] at h
theorem cutA_zero (g o cap : Nat) : cutA (some ⟨g, o, none⟩) 0 cap = some ⟨g, o, none⟩ := by
  unfold cutA
  split <;> simp [Addr.add_mid]
/-- A slice of these bytes, as a part. -/
theorem Part.mk {w : World} {B : Nat} {A : Option Addr} {n c : Nat} {us : List UInt8} (hl : us.length = n) (hr : Row w B A us) (hA : A = none → c = 0) (hc : n ≤ c) (hc2 : c ≤ maxLen) : Part w B (.slice A n c) us := ⟨A, c, by rw [hl], hr, by omega, hc2, hA⟩
theorem Part.on {w w' : World} {v : Value} {us : List UInt8} (h : Part w w.heap.size v us) (hb : Below w.heap.size w w') : Part w' w'.heap.size v us := (h.below hb).more hb.size
theorem Cells.rangeAll {w : World} {g : Nat} {vs : List Value} {t : TypeId} (h : Cells w g vs t) : w.rangeAt g 0 vs := fun j v hj => by
  rw [Nat.zero_add]
  exact h.get hj
theorem Row.rangeAll {w : World} {B b off : Nat} {ds : List UInt8} (h : Row w B (some ⟨b, off, none⟩) ds) : w.rangeAt b off (ds.map cellOf) := fun j v hj => by
  rw [List.getElem?_map] at hj
  cases hd : ds[j]? with
  | none => rw [hd] at hj; cases hj
  | some u =>
    rw [hd] at hj
    cases hj
    rcases h with rfl | ⟨b', off', hA, _, hc⟩
    · simp at hd
    · cases hA
      exact hc j u hd
theorem Row.some {w : World} {B : Nat} {A : Option Addr} {ds : List UInt8} (h : Row w B A ds) (hp : 0 < ds.length) : ∃ b off, A = some ⟨b, off, none⟩ := by
  rcases h with rfl | ⟨b, off, rfl, _, _⟩
  · simp at hp
  · exact ⟨b, off, rfl⟩
/-- What a call answers that makes a row of these bytes. -/
def Gives (w : World) (bs : List UInt8) (n : Nat) (e : Ending) (w' : World) : Prop :=
  ∃ A c, e = .returned (.slice A n c) ∧ (A = none → c = 0) ∧ n ≤ c ∧ c ≤ maxLen ∧ Row w' w'.heap.size A bs ∧ Below w.heap.size w w'
set_option maxRecDepth 100000 in
/-- Room for n bytes, none of them taken. -/
theorem grow_none (n : Nat) (w : World) (hn : n ≤ 1000000) :
    Calls Tryd.prog 54 #[.slice none 0 0, .int .i64 (n : Int)] w fun e w' => ∃ v, e = .returned v ∧ Owns w' w.heap.size v [] ∧ Below w.heap.size w w' := by
  have h0 : Owns w w.heap.size (.slice none 0 0) [] := ⟨by simp, .inl ⟨rfl, by simp⟩⟩
  have i0 : ¬ (n : Int) < 0 := by omega
  by_cases hz : n = 0
  · subst hz
    go_enter Tryd.func54, Tryd.ntmps54
    go_wp2
    go_ret
    exact ⟨_, rfl, h0, Below.refl _ _⟩
  · have i1 : (0 : Int) < (n : Int) := by omega
    go_enter Tryd.func54, Tryd.ntmps54
    go_wp2_with (first
      | (at_builtin
         refine append_zeros rfl (.tmp 20) (.tmp 21) rfl w.heap.size n _ [] rfl h0 rfl (by simpa using hn) (Nat.le_refl _) ?_
         intro v1 w1 hO1 hB1
         rw [List.nil_append] at hO1
         obtain ⟨g1, c1, hv1, _, _, _, _⟩ := hO1.form_pos (by rw [List.length_replicate]; omega)
         rw [List.length_replicate] at hv1
         subst hv1
         have hO2 := hO1.cutTo 0 (Nat.zero_le _)
         rw [List.take_zero] at hO2)
      | (refine cut_to rfl (.tmp 22) (.tmp 24) rfl (some ⟨g1, 0, none⟩) n c1 0 _ rfl rfl rfl (Nat.zero_le _) ?_
         rw [cutA_zero]))
    go_ret
    exact ⟨_, rfl, hO2, hB1⟩
set_option maxRecDepth 100000 in
set_option maxHeartbeats 800000 in
/-- All parts one behind the other, in a row of its own. -/
theorem concat_any (D : Option Addr) (d m L : Nat) (ps : List (List UInt8)) (w : World) (hpl : ps.length = m) (hP : Parts w w.heap.size D ps) (hm : m ≤ 1000000) (hL : ps.flatten.length = L) (hn : L ≤ 1000000) :
    Calls Tryd.prog 26 #[.slice D m d] w (Gives w ps.flatten L) := by
  have HPL := Lib.hid hpl
  have HFL := Lib.hid hL
  clear hpl hL
  go_enter Tryd.func26, Tryd.ntmps26
  go_wp2
  go_loopw [3, 11] (fun s i wr => ∃ k : Nat, k ≤ m ∧ i = .int .i64 k ∧ s = .int .i64 ((ps.take k).flatten.length : Int) ∧ wr = w) (fun _ i _ => m - (intOf i).toNat)
  case atStart => exact ⟨0, Nat.zero_le _, rfl, by simp, rfl⟩
  case round =>
    obtain ⟨k, hk, rfl, rfl, rfl⟩ := hrel
    have HTL := Lib.hid (flatten_take_le ps k)
    generalize hs : (ps.take k).flatten.length = s at *
    replace hs := Lib.hid hs
    by_cases hlt : k < m
    · have hlt2 : k < ps.length := by rw [HPL.out]; exact hlt
      obtain ⟨b, off, A1, c1, rfl, hcl, hr1, h1, h2, h3⟩ := hP.at k hlt2
      have HS := Lib.hid (show (ps.take (k + 1)).flatten.length = (ps.take k).flatten.length + ps[k].length by rw [take_snoc ps k hlt2, List.flatten_append]; simp)
      have HTL2 := Lib.hid (flatten_take_le ps (k + 1))
      generalize hul : ps[k].length = q at *
      replace hul := Lib.hid hul
      have hq : s + q ≤ L := by have h1 := HS.out; have h2 := hs.out; have h3 := HTL2.out; have h4 := HFL.out; omega
      have i1 : ¬ (s : Int) + (q : Int) < 0 := by omega
      have i2 : (0 : Int) ≤ (s : Int) + (q : Int) := by omega
      go_wp2
      go_roundw
      case rel => exact ⟨k + 1, by omega, by go_num, by rw [HS.out, hs.out]; go_num, trivial⟩
      case measure => simp [intOf]; omega
    · obtain rfl : k = m := by omega
      have e1 : s = L := by rw [← hs.out, List.take_of_length_le (by rw [HPL.out]; exact Nat.le_refl _), HFL.out]
      subst e1
      clear HTL hs
      go_wp2_with (first
        | (go_at_call 54
           refine (grow_none s wr hn).mono ?_
           rintro e w1 ⟨v1, rfl, hO1, hB1⟩))
      have HZ := Lib.hid hB1.size
      have HB1 := Lib.hid hB1
      have HO1 := Lib.hid hO1
      clear hO1 hB1
      go_loopw [6, 27] (fun v i wq => ∃ j : Nat, j ≤ k ∧ i = .int .i64 j ∧ Below wr.heap.size wr wq ∧ Owns wq wr.heap.size v (ps.take j).flatten) (fun _ i _ => k - (intOf i).toNat)
      case atStart => exact ⟨0, Nat.zero_le _, rfl, HB1.out, by simpa using HO1.out⟩
      case round =>
        obtain ⟨j, hj, rfl, hB, hO⟩ := hrel
        rename World => wq
        by_cases hlt : j < k
        · have hlt2 : j < ps.length := by rw [HPL.out]; exact hlt
          obtain ⟨b, off, A1, c1, rfl, hcl, hr1, h1, h2, h3⟩ := (hP.below hB).at j hlt2
          have HS := Lib.hid (show (ps.take (j + 1)).flatten = (ps.take j).flatten ++ ps[j] by rw [take_snoc ps j hlt2, List.flatten_append]; simp)
          have HTL2 : Hid ((ps.take j).flatten.length + ps[j].length ≤ s) := by
            show _ ≤ _
            have h1 := flatten_take_le ps (j + 1)
            rw [HS.out, List.length_append, HFL.out] at h1
            exact h1
          generalize ps[j] = us at *
          generalize hul : us.length = q at *
          replace hul := Lib.hid hul
          generalize hF : (ps.take j).flatten = F at *
          replace hF := Lib.hid hF
          have hsz := hB.size
          go_wp2_with (first
            | (at_builtin
               refine append_row rfl (.tmp 31) (.tmp 32) rfl wr.heap.size _ F us _ A1 c1 rfl hO (by rw [hul.out]; rfl) h3 (hr1.more hsz) (by rw [hul.out]; have := HTL2.out; omega) hsz ?_
               intro v7 w7 hO7 hB7))
          go_roundw
          case rel => exact ⟨j + 1, by omega, by go_num, hB.trans hB7, by rw [HS.out]; exact hO7⟩
          case measure => simp [intOf]; omega
        · obtain rfl : j = k := by omega
          rw [List.take_of_length_le (by rw [HPL.out]; exact Nat.le_refl _)] at hO
          obtain ⟨A', c', hv, h1, h2, h3, h4⟩ := hO.form2
          rw [HFL.out] at hv h1
          subst hv
          go_wp2
          go_ret
          exact ⟨A', c', rfl, h3, h1, h2, h4, hB⟩
theorem sl_infoZ : (Tryd.prog.info? 24).map (fun i => (i.zero, i.size, i.bytes)) = some (some (.slice none 0 0), 1, 24) := by kernel_rfl
/-- The slice v is a row of the call's own (blocks from base on) that begins with these values. -/
def OwnsP (w : World) (base : Nat) (v : Value) (vs : List Value) : Prop := w.ownsRow base 24 1 v vs.length vs
/-- The slice A leads to these values, in a block below B. -/
def RowV (w : World) (B : Nat) (A : Option Addr) (vs : List Value) : Prop := vs = [] ∨ ∃ b off, A = some ⟨b, off, none⟩ ∧ b < B ∧ ∀ j v, vs[j]? = some v → w.cell? ⟨b, off + j, none⟩ = some v
section
variable {w w' : World} {base B B' : Nat} {A : Option Addr} {v : Value} {vs : List Value}
theorem RowV.below (h : RowV w B A vs) (hb : Below B w w') : RowV w' B A vs := by
  rcases h with rfl | ⟨b, off, hA, hlt, hc⟩
  · exact .inl rfl
  · exact .inr ⟨b, off, hA, hlt, fun j u hu => (hb.cell hlt).trans (hc j u hu)⟩
theorem RowV.more (h : RowV w B A vs) (hB : B ≤ B') : RowV w B' A vs := by
  rcases h with rfl | ⟨b, off, hA, hb, hc⟩
  · exact .inl rfl
  · exact .inr ⟨b, off, hA, by omega, hc⟩
theorem RowV.on (h : RowV w w.heap.size A vs) (hb : Below w.heap.size w w') : RowV w' w'.heap.size A vs := (h.below hb).more hb.size
theorem OwnsP.far (h : OwnsP w base v vs) : ∀ k, v.ownBlock = some k → base ≤ k := fun k hk => (World.ownsRow.lt h k hk).1
theorem OwnsP.form (h : OwnsP w base v vs) : ∃ A c, v = .slice A vs.length c ∧ vs.length ≤ c ∧ c ≤ maxLen ∧ (A = none → c = 0) ∧ RowV w w.heap.size A vs := by
  rcases h.2 with ⟨rfl, hn⟩ | ⟨g, cap, cur, rfl, hb, hg, hnc, hcm, _⟩
  · have : vs = [] := List.eq_nil_of_length_eq_zero hn
    subst this
    exact ⟨none, 0, rfl, Nat.le_refl _, Nat.zero_le _, fun _ => rfl, .inl rfl⟩
  · refine ⟨_, cap, rfl, hnc, hcm, (fun h => by cases h), .inr ⟨g, 0, rfl, (World.ownsRow.lt h g rfl).2, fun j u hu => ?_⟩⟩
    have := World.ownsRow.cells h (g := g) rfl j u hu
    rwa [Go.WideShapes.add_plain] at this
end
/-- 'append(out, us...)', us a row of slices. -/
theorem append_parts {w : World} {ops : Array Oper} {rest : List Oper} {o : Oper} {a : Act} {Q : Exit → Act → World → Prop} (hgd : o.guard = none) (s x : Operand)
    (ho : o.op = .call { callee := .builtin .append, args := #[s, x], argTypes := #[32, 32] }) (base B n : Nat)
    (v : Value) (vs us : List Value) (D : Option Addr) (c : Nat) (hs : a.eval s = v) (hown : OwnsP w base v vs) (hx : a.eval x = .slice D n c) (hn : us.length = n) (hD : D = none → c = 0) (hnc : n ≤ c) (hr : RowV w B D us) (h1 : ∀ u ∈ us, u.oneCell' = true)
    (hlen : vs.length + us.length ≤ 1000000) (hbase : base ≤ w.heap.size)
    (h : ∀ v' w', OwnsP w' base v' (vs ++ us) → Below base w w' → wpList Tryd.prog ops Q rest (a.put o.dst v') w') : wpList Tryd.prog ops Q (o :: rest) a w := by
  subst hn
  obtain ⟨i0, hi0, hz0, hz1, hz2⟩ := info_parts sl_infoZ
  rcases D with _ | ad
  · have hc0 := hD rfl
    subst hc0
    have : us = [] := List.eq_nil_of_length_eq_zero (by omega)
    subst this
    exact wpList_append_own_none hgd s x 32 ho base 24 i0 1 Tryd.underlying32 hi0 v vs.length vs hs hown hx (h v w (by simpa using hown) (Below.refl _ _))
  · refine wpList_append_own w hgd s x 32 ho base 24 i0 _ 1 24 Tryd.underlying32 hi0 hz0 hz1 hz2 rfl (by omega) v vs.length vs hs hown ad us.length c us hx (by simp) ?_ h1 (by simp only [maxLen]; omega) (by omega) hbase ?_
    · intro j u hu
      rcases hr with rfl | ⟨b, off, hb1, _, hc⟩
      · simp at hu
      · cases hb1
        rw [Go.WideShapes.add_plain, hc j u hu]
    · intro v' w' h2 h3 _
      refine h v' w' ?_ ((Below.refl _ _).grown h3 hbase (fun k hk => hown.far k hk))
      unfold OwnsP
      simpa using h2
set_option maxRecDepth 100000 in
/-- Room for n slices, none of them taken. -/
theorem growP_none (n : Nat) (w : World) (hn : n ≤ 1000000) :
    Calls Tryd.prog 51 #[.slice none 0 0, .int .i64 (n : Int)] w fun e w' => ∃ v, e = .returned v ∧ OwnsP w' w.heap.size v [] ∧ Below w.heap.size w w' := by
  have h0 : OwnsP w w.heap.size (.slice none 0 0) [] := ⟨by simp, .inl ⟨rfl, by simp⟩⟩
  have i0 : ¬ (n : Int) < 0 := by omega
  by_cases hz : n = 0
  · subst hz
    go_enter Tryd.func51, Tryd.ntmps51
    go_wp2
    go_ret
    exact ⟨_, rfl, h0, Below.refl _ _⟩
  · have i1 : (0 : Int) < (n : Int) := by omega
    obtain ⟨i, hi0, hz0, hz1, hz2⟩ := info_parts sl_infoZ
    have hrz : ∀ ty, ∃ c, n ≤ c ∧ c ≤ maxLen ∧ (Builtin.append_ #[32, 3] ty #[.slice none 0 0, .int .i64 (n : Int)]).run Tryd.prog w = .ok (.slice (some ⟨w.heap.size, 0, none⟩) n c) (w.drew.alloc (.cells (Builtin.zeroCells #[.slice none 0 0] n ++ Builtin.zeroCells #[.slice none 0 0] (c - n)) 24)) := fun ty => by
      have h := Lib.run_append_grow_zeros (P := Tryd.prog) w 32 3 ty 24 i (.slice none 0 0) .i64 .i64 Tryd.underlying32 Tryd.underlying3 hi0 hz0 none 0 0 [] (run_firstCells_none w.drew i.size 0 0 0) n (by omega) (by omega) (by omega) (by omega) (by rw [hz2]; omega) (by rw [hz2]; exact growslice_fits (by omega) (by omega))
      simp only [Nat.zero_add, Array.empty_append, Value.cells] at h
      exact ⟨_, by have := grownCap_ge w n 0 24; omega, grownCap_le_maxLen w n 0 24 (by simp only [maxLen]; omega), h⟩
    obtain ⟨ty, hty⟩ : ∃ ty : TypeId, True := ⟨0, trivial⟩
    have HRZ := Lib.hid hrz
    clear hrz
    go_enter Tryd.func51, Tryd.ntmps51
    go_wp2_with (first
      | (at_builtin
         obtain ⟨c1, hc1, hc2, hr1⟩ := HRZ.out 32
         refine Lib.wpList_append_run _ rfl _ _ _ _ rfl _ _ rfl rfl _ _ hr1 ?_
         have hB1 : Below w.heap.size w (w.drew.alloc (.cells (Builtin.zeroCells #[.slice none 0 0] n ++ Builtin.zeroCells #[.slice none 0 0] (c1 - n)) 24)) := (Below.refl _ _).drew.alloc (Nat.le_refl _) _
         have hO1 : OwnsP (w.drew.alloc (.cells (Builtin.zeroCells #[.slice none 0 0] n ++ Builtin.zeroCells #[.slice none 0 0] (c1 - n)) 24)) w.heap.size (.slice (some ⟨w.heap.size, 0, none⟩) 0 c1) [] := World.ownsRow_made (base := w.heap.size) (e := 24) (size := 1) w.drew _ c1 (Nat.le_refl _) hc2 (by simp only [Array.size_append, size_zeroCells]; simp; omega)
         generalize w.drew.alloc (.cells (Builtin.zeroCells #[.slice none 0 0] n ++ Builtin.zeroCells #[.slice none 0 0] (c1 - n)) 24) = w1 at *
         clear hr1 HRZ))
    go_ret
    exact ⟨_, rfl, hO1, hB1⟩
/-- The address leads to so many rows of slices. -/
def PartsP (w : World) (B : Nat) (D : Option Addr) (ps : List (List Value)) : Prop :=
  ps = [] ∨ ∃ b off, D = some ⟨b, off, none⟩ ∧ b < B ∧ ∀ j us, ps[j]? = some us → ∃ A c, w.cell? ⟨b, off + j, none⟩ = some (.slice A us.length c) ∧ RowV w B A us ∧ us.length ≤ c ∧ c ≤ maxLen ∧ (A = none → c = 0)
theorem PartsP.below {w w' : World} {B : Nat} {D : Option Addr} {ps : List (List Value)} (h : PartsP w B D ps) (hb : Below B w w') : PartsP w' B D ps := by
  rcases h with rfl | ⟨b, off, rfl, hlt, hc⟩
  · exact .inl rfl
  · refine .inr ⟨b, off, rfl, hlt, fun j us hu => ?_⟩
    obtain ⟨A, c, h1, h2, h3⟩ := hc j us hu
    exact ⟨A, c, (hb.cell hlt).trans h1, h2.below hb, h3⟩
theorem PartsP.at {w : World} {B : Nat} {D : Option Addr} {ps : List (List Value)} (h : PartsP w B D ps) (k : Nat) (hk : k < ps.length) : ∃ b off A c, D = some ⟨b, off, none⟩ ∧ w.cell? ⟨b, off + k, none⟩ = some (.slice A ps[k].length c) ∧ RowV w B A ps[k] ∧ ps[k].length ≤ c ∧ c ≤ maxLen ∧ (A = none → c = 0) := by
  rcases h with rfl | ⟨b, off, rfl, hlt, hc⟩
  · simp at hk
  · obtain ⟨A, c, h1, h2, h3, h4⟩ := hc k _ (List.getElem?_eq_getElem hk)
    exact ⟨b, off, A, c, rfl, h1, h2, h3, h4⟩
theorem flattenV_take_le (ps : List (List Value)) (k : Nat) : (ps.take k).flatten.length ≤ ps.flatten.length := by
  conv => rhs; rw [← List.take_append_drop k ps, List.flatten_append, List.length_append]
  omega
/-- What a call answers that makes a row of slices. -/
def GivesP (w : World) (vs : List Value) (n : Nat) (e : Ending) (w' : World) : Prop :=
  ∃ A c, e = .returned (.slice A n c) ∧ RowV w' w'.heap.size A vs ∧ n ≤ c ∧ c ≤ maxLen ∧ (A = none → c = 0) ∧ Below w.heap.size w w'
set_option maxRecDepth 100000 in
set_option maxHeartbeats 800000 in
/-- All parts one behind the other, in a row of its own. -/
theorem concatP_any (D : Option Addr) (d m L : Nat) (ps : List (List Value)) (w : World) (hpl : ps.length = m) (h1c : ∀ us ∈ ps, ∀ u ∈ us, u.oneCell' = true) (hP : PartsP w w.heap.size D ps) (hm : m ≤ 1000000) (hL : ps.flatten.length = L) (hn : L ≤ 1000000) :
    Calls Tryd.prog 23 #[.slice D m d] w (GivesP w ps.flatten L) := by
  have HPL := Lib.hid hpl
  have HFL := Lib.hid hL
  have H1A := Lib.hid h1c
  clear hpl hL h1c
  go_enter Tryd.func23, Tryd.ntmps23
  go_wp2
  go_loopw [3, 11] (fun s i wr => ∃ k : Nat, k ≤ m ∧ i = .int .i64 k ∧ s = .int .i64 ((ps.take k).flatten.length : Int) ∧ wr = w) (fun _ i _ => m - (intOf i).toNat)
  case atStart => exact ⟨0, Nat.zero_le _, rfl, by simp, rfl⟩
  case round =>
    obtain ⟨k, hk, rfl, rfl, rfl⟩ := hrel
    have HTL := Lib.hid (flattenV_take_le ps k)
    generalize hs : (ps.take k).flatten.length = s at *
    replace hs := Lib.hid hs
    by_cases hlt : k < m
    · have hlt2 : k < ps.length := by rw [HPL.out]; exact hlt
      obtain ⟨b, off, A1, c1, rfl, hcl, hr1, h1, h2, h3⟩ := hP.at k hlt2
      have HS := Lib.hid (show (ps.take (k + 1)).flatten.length = (ps.take k).flatten.length + ps[k].length by rw [take_snoc ps k hlt2, List.flatten_append]; simp)
      have HTL2 := Lib.hid (flattenV_take_le ps (k + 1))
      generalize hul : ps[k].length = q at *
      replace hul := Lib.hid hul
      have hq : s + q ≤ L := by have h1 := HS.out; have h2 := hs.out; have h3 := HTL2.out; have h4 := HFL.out; omega
      have i1 : ¬ (s : Int) + (q : Int) < 0 := by omega
      have i2 : (0 : Int) ≤ (s : Int) + (q : Int) := by omega
      go_wp2
      go_roundw
      case rel => exact ⟨k + 1, by omega, by go_num, by rw [HS.out, hs.out]; go_num, trivial⟩
      case measure => simp [intOf]; omega
    · obtain rfl : k = m := by omega
      have e1 : s = L := by rw [← hs.out, List.take_of_length_le (by rw [HPL.out]; exact Nat.le_refl _), HFL.out]
      subst e1
      clear HTL hs
      go_wp2_with (first
        | (go_at_call 51
           refine (growP_none s wr hn).mono ?_
           rintro e w1 ⟨v1, rfl, hO1, hB1⟩))
      have HZ := Lib.hid hB1.size
      have HB1 := Lib.hid hB1
      have HO1 := Lib.hid hO1
      clear hO1 hB1
      go_loopw [6, 27] (fun v i wq => ∃ j : Nat, j ≤ k ∧ i = .int .i64 j ∧ Below wr.heap.size wr wq ∧ OwnsP wq wr.heap.size v (ps.take j).flatten) (fun _ i _ => k - (intOf i).toNat)
      case atStart => exact ⟨0, Nat.zero_le _, rfl, HB1.out, by simpa using HO1.out⟩
      case round =>
        obtain ⟨j, hj, rfl, hB, hO⟩ := hrel
        rename World => wq
        by_cases hlt : j < k
        · have hlt2 : j < ps.length := by rw [HPL.out]; exact hlt
          obtain ⟨b, off, A1, c1, rfl, hcl, hr1, h1, h2, h3⟩ := (hP.below hB).at j hlt2
          have HS := Lib.hid (show (ps.take (j + 1)).flatten = (ps.take j).flatten ++ ps[j] by rw [take_snoc ps j hlt2, List.flatten_append]; simp)
          have HTL2 : Hid ((ps.take j).flatten.length + ps[j].length ≤ s) := by
            show _ ≤ _
            have h1 := flattenV_take_le ps (j + 1)
            rw [HS.out, List.length_append, HFL.out] at h1
            exact h1
          have H1C := Lib.hid (H1A.out ps[j] (List.getElem_mem hlt2))
          generalize ps[j] = us at *
          generalize hul : us.length = q at *
          replace hul := Lib.hid hul
          generalize hF : (ps.take j).flatten = F at *
          replace hF := Lib.hid hF
          have hsz := hB.size
          go_wp2_with (first
            | (at_builtin
               refine append_parts rfl (.tmp 31) (.tmp 32) rfl wr.heap.size _ q _ F us A1 c1 rfl hO rfl hul.out h3 h1 (hr1.more hsz) H1C.out (by rw [hul.out]; have := HTL2.out; omega) hsz ?_
               intro v7 w7 hO7 hB7))
          go_roundw
          case rel => exact ⟨j + 1, by omega, by go_num, hB.trans hB7, by rw [HS.out]; exact hO7⟩
          case measure => simp [intOf]; omega
        · obtain rfl : j = k := by omega
          rw [List.take_of_length_le (by rw [HPL.out]; exact Nat.le_refl _)] at hO
          obtain ⟨A', c', hv, h1, h2, h4, h3⟩ := hO.form
          rw [HFL.out] at hv h1
          subst hv
          go_wp2
          go_ret
          exact ⟨A', c', rfl, h3, h1, h2, h4, hB⟩
/- The standard's functions on words of 64 bits. (Plain definitions: a walk leaves them whole.) -/
def widLow (x : BitVec 64) : BitVec 64 := rotR64 x 1 ^^^ rotR64 x 8 ^^^ (x >>> 7)
def widHigh (x : BitVec 64) : BitVec 64 := rotR64 x 19 ^^^ rotR64 x 61 ^^^ (x >>> 6)
def tri64 (x : BitVec 64) (i j k : Int) : BitVec 64 := rotR64 x i ^^^ rotR64 x j ^^^ rotR64 x k
def widA (x : BitVec 64) : BitVec 64 := tri64 x 28 34 39
def widE (x : BitVec 64) : BitVec 64 := tri64 x 14 18 41
def widCh (e f g : BitVec 64) : BitVec 64 := (e &&& f) ^^^ (~~~e &&& g)
def widMaj (a b c : BitVec 64) : BitVec 64 := (a &&& b) ^^^ (a &&& c) ^^^ (b &&& c)
/-- Eight words: a chain. -/
structure Wct where
  (a b c d e f g h : BitVec 64)
def Wct.list (o : Wct) : List (BitVec 64) := [o.a, o.b, o.c, o.d, o.e, o.f, o.g, o.h]
def Wct.plus (o p : Wct) : Wct := ⟨o.a + p.a, o.b + p.b, o.c + p.c, o.d + p.d, o.e + p.e, o.f + p.f, o.g + p.g, o.h + p.h⟩
def widOne (o : Wct) (k w : BitVec 64) : BitVec 64 := o.h + widE o.e + widCh o.e o.f o.g + k + w
def widTwo (o : Wct) : BitVec 64 := widA o.a + widMaj o.a o.b o.c
def widRound (o : Wct) (k w : BitVec 64) : Wct := ⟨widOne o k w + widTwo o, o.a, o.b, o.c, o.d + widOne o k w, o.e, o.f, o.g⟩
def widK : List (BitVec 64) := [4794697086780616226, 8158064640168781261, 13096744586834688815, 16840607885511220156, 4131703408338449720, 6480981068601479193, 10538285296894168987, 12329834152419229976, 15566598209576043074, 1334009975649890238, 2608012711638119052, 6128411473006802146, 8268148722764581231, 9286055187155687089, 11230858885718282805, 13951009754708518548, 16472876342353939154, 17275323862435702243, 1135362057144423861, 2597628984639134821, 3308224258029322869, 5365058923640841347, 6679025012923562964, 8573033837759648693, 10970295158949994411, 12119686244451234320, 12683024718118986047, 13788192230050041572, 14330467153632333762, 15395433587784984357, 489312712824947311, 1452737877330783856, 2861767655752347644, 3322285676063803686, 5560940570517711597, 5996557281743188959, 7280758554555802590, 8532644243296465576, 9350256976987008742, 10552545826968843579, 11727347734174303076, 12113106623233404929, 14000437183269869457, 14369950271660146224, 15101387698204529176, 15463397548674623760, 17586052441742319658, 1182934255886127544, 1847814050463011016, 2177327727835720531, 2830643537854262169, 3796741975233480872, 4115178125766777443, 5681478168544905931, 6601373596472566643, 7507060721942968483, 8399075790359081724, 8693463985226723168, 9568029438360202098, 10144078919501101548, 10430055236837252648, 11840083180663258601, 13761210420658862357, 14299343276471374635, 14566680578165727644, 15097957966210449927, 16922976911328602910, 17689382322260857208, 500013540394364858, 748580250866718886, 1242879168328830382, 1977374033974150939, 2944078676154940804, 3659926193048069267, 4368137639120453308, 4836135668995329356, 5532061633213252278, 6448918945643986474, 6902733635092675308, 7801388544844847127]
def widStart : Wct := ⟨7640891576956012808, 13503953896175478587, 4354685564936845355, 11912009170470909681, 5840696475078001361, 11170449401992604703, 2270897969802886507, 6620516959819538809⟩
/-- A block's words: the first k of the 80. -/
def widWord (bs : List UInt8) (i : Nat) : BitVec 64 := BitVec.ofNat 64 (bigN ((bs.drop (8 * i)).take 8))
def widNext (l : List (BitVec 64)) (t : Nat) : BitVec 64 := l.getD (t - 16) 0 + widLow (l.getD (t - 15) 0) + l.getD (t - 7) 0 + widHigh (l.getD (t - 2) 0)
def widSpread (bs : List UInt8) : Nat → List (BitVec 64)
  | 0 => []
  | t + 1 => widSpread bs t ++ [if t < 16 then widWord bs t else widNext (widSpread bs t) t]
theorem widSpread_length (bs : List UInt8) : ∀ t, (widSpread bs t).length = t
  | 0 => rfl
  | t + 1 => by simp [widSpread, widSpread_length bs t]
/-- So many rounds. -/
def widRounds (o : Wct) (ws : List (BitVec 64)) : Nat → Wct
  | 0 => o
  | t + 1 => widRound (widRounds o ws t) (widK.getD t 0) (ws.getD t 0)
def widBlock (o : Wct) (bs : List UInt8) : Wct := o.plus (widRounds o (widSpread bs 80) 80)
/-- The chain of the first n blocks. -/
def widChain (bs : List UInt8) : Nat → Wct
  | 0 => widStart
  | n + 1 => widBlock (widChain bs n) ((bs.drop (128 * n)).take 128)
/-- The digest's bytes. -/
def word8 (x : BitVec 64) : List UInt8 := (putL x.toNat 8).reverse
theorem word8_length (x : BitVec 64) : (word8 x).length = 8 := by simp [word8, putL_length]
def words8 (l : List (BitVec 64)) : List UInt8 := (l.map word8).flatten
theorem words8_length (l : List (BitVec 64)) : (words8 l).length = 8 * l.length := by
  induction l with
  | nil => rfl
  | cons x l ih => simp only [words8, List.map_cons, List.flatten_cons, List.length_append, word8_length, List.length_cons] at *; omega
theorem words8_snoc (l : List (BitVec 64)) (x : BitVec 64) : words8 (l ++ [x]) = words8 l ++ word8 x := by simp [words8]
/-- What stands behind a message of n bytes. -/
def widPad (n : Nat) : Nat := 128 - (n % 128 + 16) % 128
def widEnd (n : Nat) : List UInt8 := 128 :: (List.replicate (widPad n - 1) 0 ++ (List.replicate 8 0 ++ (putL (8 * n) 8).reverse))
theorem widPad_pos (n : Nat) : 1 ≤ widPad n ∧ widPad n ≤ 128 := by unfold widPad; omega
theorem widEnd_length (n : Nat) : (widEnd n).length = widPad n + 16 := by
  have := widPad_pos n
  simp [widEnd, putL_length]; omega
theorem widEnd_mod (n : Nat) : (n + (widPad n + 16)) % 128 = 0 := by unfold widPad; omega
theorem widEnd_with (n : Nat) : (n + 144) / 128 * 128 = n + (widPad n + 16) := by unfold widPad; omega
def widPadded (bs : List UInt8) : List UInt8 := bs ++ widEnd bs.length
theorem widPadded_length (bs : List UInt8) : (widPadded bs).length = bs.length + (widPad bs.length + 16) := by rw [widPadded, List.length_append, widEnd_length]
theorem widPadded_mod (bs : List UInt8) : (widPadded bs).length % 128 = 0 := by rw [widPadded_length, widEnd_mod]
def widSum (bs : List UInt8) : List UInt8 := words8 (widChain (widPadded bs) ((widPadded bs).length / 128)).list
theorem widSum_length (bs : List UInt8) : (widSum bs).length = 64 := by simp [widSum, words8_length, Wct.list]
/- Go's operations on words of 64 bits. -/
theorem add64 (x y : BitVec 64) : ((x.toNat : Int) + (y.toNat : Int)) % 18446744073709551616 = ((x + y).toNat : Int) := by
  rw [BitVec.toNat_add]; omega
theorem wadd64 (x y : BitVec 64) : IntKind.u64.wrap ((x.toNat : Int) + (y.toNat : Int)) = ((x + y).toNat : Int) := by
  rw [IntKind.wrap_u64, add64]
theorem not64 (x : BitVec 64) : bits .xor .u64 (if IntKind.u64.signed = true then -1 else IntKind.u64.max) (x.toNat : Int) = ((~~~x).toNat : Int) := by
  have h := xor64 (BitVec.allOnes 64) x
  rw [BitVec.allOnes_xor] at h
  exact h
theorem one64_eq (q : Wct) (k w : BitVec 64) : IntKind.u64.wrap (IntKind.u64.wrap (IntKind.u64.wrap (IntKind.u64.wrap ((q.h.toNat : Int) + ((tri64 q.e 14 18 41).toNat : Int)) + bits .xor .u64 (bits .and .u64 (q.e.toNat : Int) (q.f.toNat : Int)) (bits .and .u64 (bits .xor .u64 (if IntKind.u64.signed = true then -1 else IntKind.u64.max) (q.e.toNat : Int)) (q.g.toNat : Int))) + (k.toNat : Int)) + (w.toNat : Int)) = ((widOne q k w).toNat : Int) := by
  rw [not64, and64, and64, xor64, wadd64, wadd64, wadd64, wadd64]; rfl
theorem two64_eq (q : Wct) : IntKind.u64.wrap (((tri64 q.a 28 34 39).toNat : Int) + bits .xor .u64 (bits .xor .u64 (bits .and .u64 (q.a.toNat : Int) (q.b.toNat : Int)) (bits .and .u64 (q.a.toNat : Int) (q.c.toNat : Int))) (bits .and .u64 (q.b.toNat : Int) (q.c.toNat : Int))) = ((widTwo q).toNat : Int) := by
  rw [and64, and64, and64, xor64, xor64, wadd64]; rfl
theorem turns64_any (x : BitVec 64) (i j k : Int) (w : World) :
    Calls Tryd.prog 77 #[.int .u64 x.toNat, .int .i64 i, .int .i64 j, .int .i64 k] w fun e w' => e = .returned (.int .u64 ((tri64 x i j k).toNat : Int)) ∧ w = w' := by
  go_enter Tryd.func77, Tryd.ntmps77
  go_wp2_with (go_at_call 93; refine (right64_any _ _ _).mono ?_; rintro e w' ⟨rfl, rfl⟩)
  go_ret
  exact ⟨ret_int (by rw [xor64, xor64]; rfl), rfl⟩
theorem turns64_same (x : BitVec 64) (i j k : Int) (w : World) :
    Calls Tryd.prog 77 #[.int .u64 x.toNat, .int .i64 i, .int .i64 j, .int .i64 k] w fun e w' => e = .returned (.int .u64 ((tri64 x i j k).toNat : Int)) ∧ w' = w :=
  (turns64_any x i j k w).mono fun _ _ ⟨h1, h2⟩ => ⟨h1, h2.symm⟩
theorem wideBig_any (A : Option Addr) (c : Nat) (bs : List UInt8) (w : World) (hr : Row w w.heap.size A bs) (hn : bs.length = 8) :
    Calls Tryd.prog 92 #[.slice A 8 c] w fun e w' => e = .returned (.int .u64 ((BitVec.ofNat 64 (bigN bs)).toNat : Int)) ∧ w = w' := by
  have h := big_few A c bs w hr (by omega)
  rw [hn] at h
  have hb := bigN_lt bs
  rw [hn] at hb
  have HC := Lib.hid h
  clear h hn
  go_enter Tryd.func92, Tryd.ntmps92
  go_wp2_with fail
  refine HC.out.mono ?_
  rintro e w' ⟨rfl, rfl⟩
  go_wp2
  go_ret
  exact ⟨ret_int (by rw [BitVec.toNat_ofNat]; omega), rfl⟩
set_option maxRecDepth 100000 in
theorem widePutBig_any (g off len cap x : Nat) (vs : List Value) (t : TypeId) (w : World) (hC : Cells w g vs t) (hx : x < 18446744073709551616) (hl : 8 ≤ len) (ho : off + 8 ≤ vs.length) :
    Calls Tryd.prog 78 #[.slice (some ⟨g, off, none⟩) len cap, .int .u64 x] w fun e w' => e = .returned (.tuple #[]) ∧ But g w w' ∧ Cells w' g (splice vs off (bigCells x 8)) t := by
  have HL : Hid ((putL x 8).reverse.length = 8) := by show _ = _; rw [List.length_reverse, putL_length]
  have HM : Hid (min 8 len = 8) := by show _ = _; omega
  have HT : Hid ((putL x 8).reverse.take len = (putL x 8).reverse) := by show _ = _; rw [List.take_of_length_le (by rw [HL.out]; omega)]
  go_enter Tryd.func78, Tryd.ntmps78
  go_wp2_with fail
  refine (putBig_in x 8 w hx (by omega)).mono ?_
  rintro e w1 ⟨rfl, hB1, hM1⟩
  have hC1 := hC.below hB1 hC.lt
  have hR1 := hM1.row hM1.lt
  have hT1 := hC1.there off 8 ho
  go_wp2_with (refine copy_row rfl (.tmp 11) (.tmp 12) rfl g off len cap 8 8 w1.heap.size 8 _ (putL x 8).reverse rfl rfl HL.out HM.out hR1 hT1 ?_
               intro w2 hw2
               rw [HT.out] at hw2
               have hB2 : But g w1 w2 := by rw [hw2]; exact (But.refl g w1).setCells _ _
               have hC2 : Cells w2 g (splice vs off (bigCells x 8)) t := by rw [hw2]; exact hC1.setCells (by rw [List.length_map, HL.out]; exact ho)
               clear hw2)
  go_end0
  exact ⟨rfl, (But.of_below hB1).trans hB2, hC2⟩
/-- A word as a cell holds it. -/
abbrev vcell (x : BitVec 64) : Value := .int .u64 (x.toNat : Int)
theorem size_w64 : (Tryd.prog.info? 40).map (·.size) = some 1 := by kernel_rfl
theorem zero_w80 : ∀ w, (zeroValue 113).run Tryd.prog w = .ok (.agg (List.replicate 80 (vcell 0)).toArray) w := (zero_of_info (P := Tryd.prog) (t := 113) (v := .agg (List.replicate 80 (vcell 0)).toArray) (n := 80) (by kernel_rfl)).1
theorem size_w80 : (Tryd.prog.info? 113).map (·.size) = some 80 := by kernel_rfl
/-- The 80 words on their way. -/
def wideTo (bs : List UInt8) (k : Nat) : List Value := (widSpread bs k).map vcell ++ List.replicate (80 - k) (vcell 0)
theorem wideTo_length (bs : List UInt8) (k : Nat) (h : k ≤ 80) : (wideTo bs k).length = 80 := by simp [wideTo, widSpread_length]; omega
theorem wideTo_next (bs : List UInt8) (k : Nat) (h : k < 80) (x : BitVec 64) (hx : x = if k < 16 then widWord bs k else widNext (widSpread bs k) k) : (wideTo bs k).set k (vcell x) = wideTo bs (k + 1) := by
  subst hx
  rw [wideTo, set_nextV _ k 80 _ _ (by simp [widSpread_length]) h, wideTo, widSpread, List.map_append]
  rfl
theorem wideTo_at (bs : List UInt8) (k j : Nat) (h : j < k) : (wideTo bs k)[j]? = some (vcell ((widSpread bs k).getD j 0)) := by
  rw [wideTo, List.getElem?_append_left (by simp [widSpread_length]; omega), List.getElem?_map, List.getElem?_eq_getElem (by rw [widSpread_length]; omega)]
  simp [List.getD, widSpread_length, h]
/-- 'b[l:h]' of a block of 128 bytes. -/
theorem block_cut (g l h : Nat) (w : World) (h1 : l < h) (h2 : h ≤ 128) :
    (Instr.sliceAt 90 (.pointer (some ⟨g, 0, none⟩)) (some (.int .i64 (l : Int))) (some (.int .i64 (h : Int))) none).run Tryd.prog w = .ok (.slice (some ⟨g, l, none⟩) (h - l) (128 - l)) w := by
  obtain ⟨i0, hi0, hs0⟩ := Option.map_eq_some_iff.1 size_u8
  have h3 : (h : Int) ≤ 128 := by omega
  have h4 : (l : Int) ≤ (h : Int) := by omega
  have h5 : ¬ 128 = l := by omega
  simp [Instr.sliceAt, Instr.sureAddr, run_underlying Tryd.underlying90, Instr.sliceBounds, run_sliceBound, sizeOf, typeInfo, hi0, hs0, h3, h4, h5, Addr.add]
  exact fun e => e.symm
set_option maxRecDepth 100000 in
theorem wideSpread_any (bs : List UInt8) (vs : List Value) (w : World) (hv : vs = bs.map cellOf) (hn : bs.length = 128) :
    Calls Tryd.prog 76 #[.agg vs.toArray] w (gvn (.agg ((widSpread bs 80).map vcell).toArray) w) := by
  have HN := Lib.hid hn
  have HV := Lib.hid hv
  clear hn hv
  go_enter Tryd.func76, Tryd.ntmps76
  go_wp2_with (first
    | (refine box_step rfl 90 _ rfl vs.toArray rfl ?_
       intro w1 hw1
       have hB1 : Below w.heap.size w w1 := by rw [hw1]; exact (Below.refl _ _).alloc (Nat.le_refl _) _
       have hC1 : Cells w1 w.heap.size vs 90 := by rw [hw1]; exact Cells.new w _ _
       have hs1 : w1.heap.size = w.heap.size + 1 := by rw [hw1]; simp
       clear hw1)
    | (refine alloc_step rfl 113 rfl _ zero_w80 ?_
       first
       | (intro w2 hw2
          have hB2 : Below w.heap.size w w2 := by rw [hw2]; exact hB1.alloc hB1.size _
          have hC2 : Cells w2 w.heap.size vs 90 := by rw [hw2]; exact hC1.alloc _
          have hD2 : Cells w2 (w.heap.size + 1) (List.replicate 80 (vcell 0)) 113 := by rw [hw2, ← hs1]; exact Cells.new w1 _ _
          have hs2 : w2.heap.size = w.heap.size + 2 := by rw [hw2]; simp [hs1]
          rw [hs1]
          clear hw2 hB1 hC1)
       | (intro w3 hw3
          have hB3 : Below w.heap.size w w3 := by rw [hw3]; exact hB2.alloc hB2.size _
          have hC3 : Cells w3 w.heap.size vs 90 := by rw [hw3]; exact hC2.alloc _
          have hD3 : Cells w3 (w.heap.size + 1) (List.replicate 80 (vcell 0)) 113 := by rw [hw3]; exact hD2.alloc _
          have hE3 : Cells w3 (w.heap.size + 2) (wideTo bs 0) 113 := by rw [hw3, ← hs2]; exact Cells.new w2 _ _
          rw [hs2]
          clear hw3 hB2 hC2 hD2 hs1 hs2)))
  go_loopw [10] (fun i wr => ∃ k : Nat, k ≤ 16 ∧ i = .int .i64 k ∧ Below w.heap.size w wr ∧ Cells wr w.heap.size vs 90 ∧ Cells wr (w.heap.size + 1) (List.replicate 80 (vcell 0)) 113 ∧ Cells wr (w.heap.size + 2) (wideTo bs k) 113) (fun i _ => 16 - (intOf i).toNat)
  case atStart => exact ⟨0, Nat.zero_le _, rfl, hB3, hC3, hD3, hE3⟩
  case round =>
    clear hB3 hC3 hD3 hE3
    obtain ⟨k, hk, rfl, hB, hC, hR, hS⟩ := hrel
    by_cases hlt : k < 16
    · have hcut := block_cut w.heap.size (8 * k) (8 * (k + 1)) wr (by omega) (by omega)
      rw [show 8 * (k + 1) - 8 * k = 8 by omega, show ((8 * k : Nat) : Int) = 8 * (k : Int) by omega, show ((8 * (k + 1) : Nat) : Int) = 8 * ((k : Int) + 1) by omega] at hcut
      have hrow : Row wr wr.heap.size (some ⟨w.heap.size, 0, none⟩) bs := hC.row (m := 128) (by rw [HV.out, List.take_of_length_le (by rw [List.length_map, HN.out]; omega)])
      go_wp2_with fail
      refine (wideBig_any _ _ ((bs.drop (8 * k)).take 8) _ (by have h := hrow.piece (8 * k) 8; rw [Nat.zero_add] at h; exact h) (by have := HN.out; rw [List.length_take, List.length_drop]; omega)).mono ?_
      rintro e w' ⟨rfl, rfl⟩
      have hf := hS.frozen k
      obtain ⟨v3, hc3⟩ : ∃ v, wr.cell? ⟨w.heap.size + 2, k, none⟩ = some v := ⟨_, hS.cell k (by rw [wideTo_length _ _ (by omega)]; omega)⟩
      go_wp2
      go_roundw
      case rel =>
        refine ⟨k + 1, by omega, by go_num, hB.setCell (p := ⟨w.heap.size + 2, k, none⟩) (by simp) _, hC.other (by simp) _, hR.other (by simp) _, ?_⟩
        have h := hS.set k (vcell (widWord bs k))
        rw [wideTo_next bs k (by omega) _ (by rw [if_pos hlt])] at h
        exact h
      case measure => simp [intOf]; omega
    · obtain rfl : k = 16 := by omega
      go_wp2_with fail
      rw [show ((16 : Nat) : Int) = 16 from rfl]
      have d16 : decide ((16 : Int) < 16) = false := by decide
      try rw [d16]
      clear d16 hC
      go_loopw [5] (fun i wr => ∃ k : Nat, 16 ≤ k ∧ k ≤ 80 ∧ i = .int .i64 k ∧ Below w.heap.size w wr ∧ Cells wr (w.heap.size + 1) (List.replicate 80 (vcell 0)) 113 ∧ Cells wr (w.heap.size + 2) (wideTo bs k) 113) (fun i _ => 80 - (intOf i).toNat)
      case atStart => exact ⟨16, by omega, by omega, rfl, hB, hR, hS⟩
      case round =>
        clear hB hR hS
        obtain ⟨k, hk1, hk2, rfl, hB, hR, hS⟩ := hrel
        by_cases hlt : k < 80
        · have c15 := hS.get (wideTo_at bs k (k - 15) (by omega))
          have c2 := hS.get (wideTo_at bs k (k - 2) (by omega))
          have c16 := hS.get (wideTo_at bs k (k - 16) (by omega))
          have c7 := hS.get (wideTo_at bs k (k - 7) (by omega))
          have HX : Hid (widNext (widSpread bs k) k = (widSpread bs k).getD (k - 16) 0 + widLow ((widSpread bs k).getD (k - 15) 0) + (widSpread bs k).getD (k - 7) 0 + widHigh ((widSpread bs k).getD (k - 2) 0)) := rfl
          generalize (widSpread bs k).getD (k - 15) 0 = x15 at *
          generalize (widSpread bs k).getD (k - 2) 0 = x2 at *
          generalize (widSpread bs k).getD (k - 16) 0 = x16 at *
          generalize (widSpread bs k).getD (k - 7) 0 = x7 at *
          have i15 : (0 : Int) ≤ (k : Int) - 15 := by omega
          have j15 : (k : Int) - 15 < 80 := by omega
          have t15 : ((k : Int) - 15).toNat = k - 15 := by omega
          have i2 : (0 : Int) ≤ (k : Int) - 2 := by omega
          have j2 : (k : Int) - 2 < 80 := by omega
          have t2 : ((k : Int) - 2).toNat = k - 2 := by omega
          have i16 : (0 : Int) ≤ (k : Int) - 16 := by omega
          have j16 : (k : Int) - 16 < 80 := by omega
          have t16 : ((k : Int) - 16).toNat = k - 16 := by omega
          have i7 : (0 : Int) ≤ (k : Int) - 7 := by omega
          have j7 : (k : Int) - 7 < 80 := by omega
          have t7 : ((k : Int) - 7).toNat = k - 7 := by omega
          have hf := hS.frozen k
          obtain ⟨v3, hc3⟩ : ∃ v, wr.cell? ⟨w.heap.size + 2, k, none⟩ = some v := ⟨_, hS.cell k (by rw [wideTo_length _ _ (by omega)]; omega)⟩
          go_wp2
          go_quiet (fail)
          go_wp2_with (go_at_call 93; refine (right64_any _ _ _).mono ?_; rintro e w' ⟨rfl, rfl⟩)
          refine wp_region_tail 15 (by kernel_rfl) (by kernel_rfl) ?_
          intro w1 hw1
          have hB1 : Below w.heap.size w w1 := by rw [hw1]; exact (below_drewN hB nq).drew
          have hR1 : Cells w1 (w.heap.size + 1) (List.replicate 80 (vcell 0)) 113 := by rw [hw1]; exact hR
          have hS1 : Cells w1 (w.heap.size + 2) (wideTo bs k) 113 := by rw [hw1]; exact hS
          have d16 : w1.cell? ⟨w.heap.size + 2, k - 16, none⟩ = some (vcell x16) := by rw [hw1]; exact c16
          have d7 : w1.cell? ⟨w.heap.size + 2, k - 7, none⟩ = some (vcell x7) := by rw [hw1]; exact c7
          have df := hS1.frozen k
          obtain ⟨v4, dc3⟩ : ∃ v, w1.cell? ⟨w.heap.size + 2, k, none⟩ = some v := ⟨_, hS1.cell k (by rw [wideTo_length _ _ (by omega)]; omega)⟩
          clear hw1 hB hR hS c15 c2 c16 c7 hf hc3
          simp only [List.take_succ_cons, List.take_zero, List.drop_succ_cons, List.drop_zero]
          have s16 : IntKind.i64.wrap ((k : Int) - 16) = (k : Int) - 16 := IntWalk.i64_in _ (by omega)
          have s7 : IntKind.i64.wrap ((k : Int) - 7) = (k : Int) - 7 := IntWalk.i64_in _ (by omega)
          have m16 : (16 : Int) ≤ (k : Int) := by omega
          have m7 : (7 : Int) ≤ (k : Int) := by omega
          repeat still_step
          clear s16 s7
          refine wpStill_nil ?_
          go_wp2
          go_roundw
          case rel =>
            refine ⟨k + 1, by omega, by omega, by go_num, hB1.setCell (p := ⟨w.heap.size + 2, k, none⟩) (by simp) _, hR1.other (by simp) _, ?_⟩
            have e7 := shr64 x15 7
            have e6 := shr64 x2 6
            rw [show (2 : Int) ^ 7 = 128 from rfl] at e7
            rw [show (2 : Int) ^ 6 = 64 from rfl] at e6
            rw [e7, e6, xor64, xor64, xor64, xor64, wadd64, wadd64, wadd64]
            have h := hS1.set k (vcell (widNext (widSpread bs k) k))
            rw [wideTo_next bs k (by omega) _ (by rw [if_neg (by omega)]), HX.out] at h
            exact h
          case measure => simp [intOf]; omega
        · obtain rfl : k = 80 := by omega
          have hv : (wideTo bs 80).length = 80 := wideTo_length _ _ (Nat.le_refl _)
          have HV := Lib.hid (show wideTo bs 80 = (widSpread bs 80).map vcell by simp [wideTo])
          generalize wideTo bs 80 = vs at *
          have hi : (Tryd.prog.info? 113).map (·.size) = some vs.toArray.size := by
            rw [List.size_toArray, hv]
            exact size_w80
          have hT : wr.there (w.heap.size + 1) 0 vs.toArray.size := by rw [show vs.toArray.size = 80 by simpa using hv]; exact hR.there 0 80 (by simp)
          have h1 : vs.toArray.all (·.oneCell') = true := all_oneCell_toArray (by rw [HV.out]; intro v hv; obtain ⟨x, _, rfl⟩ := List.mem_map.1 hv; rfl)
          have HL := Lib.hid hv
          clear hv
          go_wp2_with (first
            | (refine wpList_load_row rfl 113 _ rfl (w.heap.size + 2) rfl 113 _ (0, 0) _ hS Tryd.underlying113 rfl hi ?_)
            | (refine wpList_store_mid rfl 113 _ _ rfl (w.heap.size + 1) 0 vs.toArray rfl rfl hT hi h1 ?_))
          have hC := hR.setCells (cs := vs) (o := 0) (by simp [HL.out])
          rw [splice_all _ _ (by simp [HL.out])] at hC
          refine ret_block Tryd.results76 (w.heap.size + 1) vs 113 rfl hC Tryd.underlying113 rfl (by simpa using hi) rfl ⟨by rw [HV.out], below_setCells hB (by omega) _ _⟩
end Go.Proofs.YtoggkhjaghkpnaaDoor
