/- What a law's arguments and the laid errors give the walks. -/
import Derived.Test.YtlhgabhjbnckkaaDoorFrame
import Derived.Test.YtlhgabhjbnckkaaDoorPart2
namespace Go.Proofs.YtlhgabhjbnckkaaDoor
open Go.ChangeShapes Go.WideShapes Go.ChangeAt Go.RowKit
theorem cells_u8 : Tryd.prog.cellsOf 5 = 1 := by kernel_rfl
set_option maxRecDepth 100000 in
/-- A slice of bytes that comes in. -/
theorem open_bytes {H : Type} {enc : TypeId × Value → H} {W : World} {r : Reach} {b0 : Nat} {v : Value} {d : DataW H} {p : List MemPlace} (hv : Value.okWide Tryd.prog W r b0 76 v) (h : DataW.Trod enc Tryd.prog W 0 (fun _ => true) true 76 v d p) :
    ∃ A c bs, v = .slice A bs.length c ∧ (A = none → c = 0) ∧ Row W W.heap.size A bs ∧ bs.length ≤ c ∧ c ≤ maxLen := by
  obtain ⟨a0, len, cap, rfl⟩ := okWide_slice Tryd.underlying76 hv
  obtain ⟨fuel, hf⟩ := h
  rcases open_ints Tryd.underlying76 Tryd.underlying5 cells_u8 hf with ⟨hcs, _⟩ | ⟨x, l, c, zs, hcs, _, hl, hm, hz, _, hcell, hwz⟩
  · simp [Value.cells] at hcs
    obtain ⟨rfl, rfl, rfl⟩ := hcs
    exact ⟨none, 0, [], rfl, fun _ => rfl, .inl rfl, Nat.le_refl _, Nat.zero_le _⟩
  · simp [Value.cells] at hcs
    obtain ⟨rfl, rfl, rfl⟩ := hcs
    simp only [if_true] at hz
    refine ⟨some x, cap, (zs.take len).map fun z => UInt8.ofNat z.toNat, ?_, (fun h => by cases h), ?_, ?_, hm⟩
    · simp; omega
    · by_cases h0 : len = 0
      · subst h0; exact .inl (by simp)
      · obtain ⟨b, off, rfl, hc⟩ := ints_at hcell (by omega)
        have hlt := block_lt_of_cell (hc 0 (by omega))
        refine .inr ⟨b, off, rfl, hlt, fun j u hu => ?_⟩
        rw [List.getElem?_map] at hu
        have hj : j < len := by
          rcases Nat.lt_or_ge j len with h | h
          · exact h
          · rw [List.getElem?_eq_none (by rw [List.length_take]; omega)] at hu; cases hu
        have hjz : j < zs.length := by omega
        rw [List.getElem?_take_of_lt hj, List.getElem?_eq_getElem hjz] at hu
        simp only [Option.map_some, Option.some.injEq] at hu
        have hb := bounds_u8 (hwz zs[j] (List.getElem_mem _))
        rw [hc j hjz, ← hu]
        simp only [cellOf, UInt8.toNat_ofNat']
        simp [List.getD, hjz]
        omega
    · simp; omega
/-- The errors as the program's text lays them. -/
def errTexts : List (String × List UInt8) := [("fellowship/api.ErrRange", [102, 101, 108, 108, 111, 119, 115, 104, 105, 112, 58, 32, 114, 97, 110, 103, 101]), ("fellowship/api.ErrShort", [102, 101, 108, 108, 111, 119, 115, 104, 105, 112, 58, 32, 115, 104, 111, 114, 116]), ("fellowship/api.ErrLong", [102, 101, 108, 108, 111, 119, 115, 104, 105, 112, 58, 32, 108, 111, 110, 103]), ("fellowship/api.ErrForm", [102, 101, 108, 108, 111, 119, 115, 104, 105, 112, 58, 32, 102, 111, 114, 109]), ("fellowship/api.ErrKey", [102, 101, 108, 108, 111, 119, 115, 104, 105, 112, 58, 32, 107, 101, 121]), ("fellowship/api.ErrSign", [102, 101, 108, 108, 111, 119, 115, 104, 105, 112, 58, 32, 115, 105, 103, 110]), ("fellowship/api.ErrSeal", [102, 101, 108, 108, 111, 119, 115, 104, 105, 112, 58, 32, 115, 101, 97, 108]), ("fellowship/api.ErrEpoch", [102, 101, 108, 108, 111, 119, 115, 104, 105, 112, 58, 32, 101, 112, 111, 99, 104]), ("fellowship/api.ErrGroup", [102, 101, 108, 108, 111, 119, 115, 104, 105, 112, 58, 32, 103, 114, 111, 117, 112]), ("fellowship/api.ErrSender", [102, 101, 108, 108, 111, 119, 115, 104, 105, 112, 58, 32, 115, 101, 110, 100, 101, 114]), ("fellowship/api.ErrLeaf", [102, 101, 108, 108, 111, 119, 115, 104, 105, 112, 58, 32, 108, 101, 97, 102]), ("fellowship/api.ErrOffer", [102, 101, 108, 108, 111, 119, 115, 104, 105, 112, 58, 32, 111, 102, 102, 101, 114]), ("fellowship/api.ErrPath", [102, 101, 108, 108, 111, 119, 115, 104, 105, 112, 58, 32, 112, 97, 116, 104]), ("fellowship/api.ErrTag", [102, 101, 108, 108, 111, 119, 115, 104, 105, 112, 58, 32, 116, 97, 103]), ("fellowship/api.ErrNone", [102, 101, 108, 108, 111, 119, 115, 104, 105, 112, 58, 32, 110, 111, 110, 101]), ("fellowship/api.ErrRemoved", [102, 101, 108, 108, 111, 119, 115, 104, 105, 112, 58, 32, 114, 101, 109, 111, 118, 101, 100]), ("fellowship/api.ErrFull", [102, 101, 108, 108, 111, 119, 115, 104, 105, 112, 58, 32, 102, 117, 108, 108]), ("fellowship/api.ErrState", [102, 101, 108, 108, 111, 119, 115, 104, 105, 112, 58, 32, 115, 116, 97, 116, 101]), ("fellowship/api.ErrTwice", [102, 101, 108, 108, 111, 119, 115, 104, 105, 112, 58, 32, 116, 119, 105, 99, 101])]
theorem errs_of {W : World} (h : laidMetH Tryd.prog (errTexts.map fun x => (x.1, .iface "*errors.errorString" (.ptr (.agg [.lit (.string x.2)])))) W) : ∃ es, Errs W es := by
  rw [MakeChecks.laidMetH_plain _ _ _ (by kernel_rfl)] at h
  obtain ⟨ps, hv, hnd, hrows⟩ := h
  obtain ⟨es, h1, h2, _, h4⟩ := sentinels errTexts errVars ps (by kernel_rfl) (fun g hg => by
    have hall : (errVars.all fun g => ((Tryd.prog.globals[g]?).map (·.type)) == some 27) = true := by kernel_rfl
    simpa using List.all_eq_true.1 hall g hg) hv hnd hrows
  exact ⟨es, h1, h2, h4⟩
end Go.Proofs.YtlhgabhjbnckkaaDoor
