/- 'append(b, make([]byte, n)...)' onto a row of the call's own: the translation lays it as one append of n noughts. -/
import Derived.Test.YtiadgningbogmaaDoorPart3
import Derived.Lib.AppendStr
namespace Go.Proofs.YtiadgningbogmaaDoor
open Go.RowKit
theorem zeroCells_u8 (n : Nat) : Builtin.zeroCells (Value.int .u8 0).cells n = (List.replicate n (cellOf 0)).toArray := by
  apply Array.ext_getElem?
  intro i
  simp only [Builtin.zeroCells, Value.cells]
  by_cases h : i < n
  · simp [h, Nat.mod_one]
  · simp [h]
theorem str_size (bs : List UInt8) : (str bs).size = bs.length := by simp [str, ByteArray.size]
theorem strCells_str (bs : List UInt8) : Lib.strCells (str bs) = bs.map cellOf := by simp [Lib.strCells, str]
theorem run_append_zeros (w : World) (ty : TypeId) (A : Option Addr) (l c n : Nat) (hn : l + n ≤ 1000000) :
    (Builtin.append_ #[25, 3] ty #[.slice A l c, .int .i64 (n : Int)]).run Tryd.prog w = (Builtin.append_ #[25, 9] ty #[.slice A l c, .string (str (List.replicate n 0))]).run Tryd.prog w := by
  obtain ⟨i0, hi0, hz0, hz1, hz2⟩ := info_parts u8_info
  have hs : (str (List.replicate n 0)).size = n := by rw [str_size, List.length_replicate]
  have hf : ∀ w, (Builtin.firstCells 1 n (.string (str (List.replicate n 0)))).run Tryd.prog w = .ok (List.replicate n (cellOf 0)).toArray w := fun w => by
    have h := Lib.run_firstCells_string (P := Tryd.prog) w 1 (str (List.replicate n 0))
    rw [hs, strCells_str, List.map_replicate] at h
    exact h
  have hwr : IntKind.i64.wrap (n : Int) = (n : Int) := IntWalk.i64_in _ (by omega)
  have h1 : ¬ (n : Int) < 0 := by omega
  have h2 : ¬ (281474976710656 : Int) < (n : Int) := by omega
  have hzc := zeroCells_u8
  have ha : ∀ (n : Int) w, (asInt (.int .i64 n)).run Tryd.prog w = .ok n w := fun n w => by simp [asInt, asIntOf]
  have hw0 : IntKind.i64.wrap 0 = 0 := by decide
  by_cases h0 : n = 0
  · subst h0
    rw [List.replicate_zero] at hs hf
    have hf' : ∀ w, (Builtin.firstCells 1 0 (.string (str []))).run Tryd.prog w = .ok #[] w := hf
    by_cases hroom : l ≤ c
    · simp [Builtin.append_, run_underlying Tryd.underlying25, run_underlying Tryd.underlying3, run_underlying Tryd.underlying9, sizeOf, typeInfo, zeroValue, hi0, hz0, hz1, hz2, Builtin.lenOf, hs, hf', ha, hroom, hw0, hzc]
    · have h63 : ¬ (9223372036854775807 < (l : Int)) := by omega
      have h48 : ¬ (281474976710656 < Builtin.nextslicecap l c) := by
        have := growslice_fits (need := l) (old := c) (bytes := 1) (by omega) (by omega)
        omega
      simp [Builtin.append_, run_underlying Tryd.underlying25, run_underlying Tryd.underlying3, run_underlying Tryd.underlying9, sizeOf, typeInfo, zeroValue, hi0, hz0, hz1, hz2, Builtin.lenOf, hs, hf', ha, hroom, hw0, hzc, h63, h48]
  · by_cases hroom : l + n ≤ c
    · simp [Builtin.append_, run_underlying Tryd.underlying25, run_underlying Tryd.underlying3, run_underlying Tryd.underlying9, sizeOf, typeInfo, zeroValue, hi0, hz0, hz1, hz2, Builtin.lenOf, hs, hwr, h1, h2, hf, ha, hroom, h0, hzc]
    · have h63 : ¬ (9223372036854775807 < (l : Int) + (n : Int)) := by omega
      have h48 : ¬ (281474976710656 < Builtin.nextslicecap (l + n) c) := by
        have := growslice_fits (need := l + n) (old := c) (bytes := 1) (by omega) (by omega)
        omega
      simp [Builtin.append_, run_underlying Tryd.underlying25, run_underlying Tryd.underlying3, run_underlying Tryd.underlying9, sizeOf, typeInfo, zeroValue, hi0, hz0, hz1, hz2, Builtin.lenOf, hs, hwr, h1, h2, hf, ha, hroom, h0, hzc, h63, h48]
theorem Owns.form2 {w : World} {base : Nat} {v : Value} {bs : List UInt8} (h : Owns w base v bs) : ∃ A c, v = .slice A bs.length c ∧ bs.length ≤ c ∧ c ≤ maxLen ∧ (A = none → c = 0) ∧ Row w w.heap.size A bs := by
  obtain ⟨A, c, hv, hc, hA, hR⟩ := h.form
  refine ⟨A, c, hv, hc, ?_, hA, hR⟩
  rcases h.2 with ⟨h0, _⟩ | ⟨g, cap, cur, h0, _, _, _, hcm, _⟩
  · rw [hv] at h0; injection h0 with _ _ e; rw [e]; exact Nat.zero_le _
  · rw [hv] at h0; injection h0 with _ _ e; rw [e]; exact hcm
/-- 'append(out, make([]byte, n)...)'. -/
theorem append_zeros {w : World} {ops : Array Oper} {rest : List Oper} {o : Oper} {a : Act} {Q : Exit → Act → World → Prop} (hgd : o.guard = none) (s x : Operand)
    (ho : o.op = .call { callee := .builtin .append, args := #[s, x], argTypes := #[25, 3] }) (base n : Nat)
    (v : Value) (bs : List UInt8) (hs : a.eval s = v) (hown : Owns w base v bs) (hx : a.eval x = .int .i64 (n : Int))
    (hlen : bs.length + n ≤ 1000000) (hbase : base ≤ w.heap.size)
    (h : ∀ v' w', Owns w' base v' (bs ++ List.replicate n 0) → Below base w w' → wpList Tryd.prog ops Q rest (a.put o.dst v') w') : wpList Tryd.prog ops Q (o :: rest) a w := by
  obtain ⟨i0, hi0, hz0, hz1, hz2⟩ := info_parts u8_info
  have hsz : (str (List.replicate n 0)).size = n := by rw [str_size, List.length_replicate]
  refine wpList_plain hgd fun K hK => ?_
  obtain ⟨v', w', hr, h2, h3, _⟩ := Lib.run_append_own_string (P := Tryd.prog) w base 25 9 o.type 5 i0 Tryd.underlying25 Tryd.underlying9 hi0 hz0 hz1 hz2 v bs.length (bs.map cellOf) hown (str (List.replicate n 0)) (by rw [hsz]; simp only [maxLen]; omega) (by rw [hsz]; omega) hbase
  obtain ⟨A, c, rfl, _, _, _⟩ := hown.form
  rw [← run_append_zeros w o.type A bs.length c n hlen] at hr
  unfold Oper.wp execOp
  simp only [ho, resolve, invoke, builtin, Sem.run_bind, Sem.run_pure, Result.andThen_ok, List.map_toArray, List.map_cons, List.map_nil, hs, hx, hr]
  refine hK _ _ (h v' w' ?_ ((Below.refl _ _).grown h3 hbase (fun k hk => hown.far k hk)))
  rw [strCells_str, hsz, ← List.map_append] at h2
  unfold Owns
  rw [List.length_append, List.length_replicate]
  exact h2
end Go.Proofs.YtiadgningbogmaaDoor
