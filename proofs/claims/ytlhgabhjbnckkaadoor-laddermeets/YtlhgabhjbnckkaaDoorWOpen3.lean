/- Rows, arrays and words inside structs that come in. -/
import Derived.Test.YtlhgabhjbnckkaaDoorWOpen2
import Derived.Deep.Strs
import Derived.Test.YtlhgabhjbnckkaaDoorPart4
namespace Go.Proofs.YtlhgabhjbnckkaaDoor
open Go.ChangeShapes Go.WideShapes Go.ChangeAt Go.RowKit
set_option maxRecDepth 100000 in
/-- A slice of bytes, by its cells. -/
theorem cells_bytes {H : Type} {enc : TypeId × Value → H} {W : World} {fuel : Nat} {cs : List Value} {x : DataW H × List MemPlace} (hf : DataW.trod enc Tryd.prog W 0 (fun _ => true) true fuel 76 cs = some x) :
    ∃ A c bs, cs = [.slice A bs.length c] ∧ (A = none → c = 0) ∧ Row W W.heap.size A bs ∧ bs.length ≤ c ∧ c ≤ maxLen := by
  rcases open_ints Tryd.underlying76 Tryd.underlying5 cells_u8 hf with ⟨hcs, _⟩ | ⟨x, l, c, zs, hcs, _, hl, hm, hz, _, hcell, hwz⟩
  · exact ⟨none, 0, [], hcs, fun _ => rfl, .inl rfl, Nat.le_refl _, Nat.zero_le _⟩
  · simp only [if_true] at hz
    have hlen : ((zs.take l).map fun z => UInt8.ofNat z.toNat).length = l := by simp; omega
    exact ⟨some x, c, (zs.take l).map fun z => UInt8.ofNat z.toNat, by rw [hlen]; exact hcs, (fun h => by cases h), row_of_ints (by omega) hwz hcell, by rw [hlen]; exact hl, hm⟩
/-- An array of integers, by its cells. -/
theorem cells_ints {H : Type} {enc : TypeId × Value → H} {P : Program} {W : World} {base : Nat} {spare : Nat → Bool} {held : Bool} {fuel : Nat} {t e : TypeId} {n : Nat} {k : IntKind} {cs : List Value} {x : DataW H × List MemPlace}
    (ht : P.underlying t = some (.array n e)) (he : P.underlying e = some (.int k)) (hc : P.cellsOf e = 1) (hC : P.cellsOf t = n) (hf : DataW.trod enc P W base spare held fuel t cs = some x) :
    ∃ zs : List Int, cs = zs.map (Value.int k) ∧ zs.length = n ∧ ∀ z ∈ zs, (Lit.int k z).wf = true := by
  obtain ⟨xs, m, rfl, hx, hl, hn, hel⟩ := DataW.trod_array ht hf
  rw [hC] at hl
  have hi : ∀ i, i < n → ∃ z, cs[i]? = some (.int k z) ∧ (Lit.int k z).wf = true := by
    intro i hi
    have h1 := hel i hi
    rw [hc, Nat.mul_one, List.getElem?_eq_getElem (by omega)] at h1
    obtain ⟨z, e1, _, e3⟩ := DataW.trod_int he h1
    refine ⟨z, ?_, e3⟩
    have e4 : ((cs.drop i).take 1)[0]? = some (.int k z) := by rw [e1]; rfl
    simpa using e4
  refine ⟨cs.map fun c => intOf c, ?_, by simpa using hl, ?_⟩
  · simp only [List.map_map]
    refine List.ext_getElem? fun i => ?_
    rw [List.getElem?_map]
    by_cases h : i < n
    · obtain ⟨z, hz, _⟩ := hi i h
      rw [hz]; rfl
    · rw [List.getElem?_eq_none (by omega)]; rfl
  · intro z hz
    obtain ⟨c, hc1, rfl⟩ := List.mem_map.1 hz
    obtain ⟨i, hi1, hi2⟩ := List.getElem_of_mem hc1
    obtain ⟨z, hz1, hz2⟩ := hi i (by omega)
    rw [List.getElem?_eq_getElem hi1, hi2] at hz1
    cases hz1
    exact hz2
/-- Integers that are bytes, as bytes. -/
theorem bytes_of_ints (zs : List Int) (hw : ∀ z ∈ zs, (Lit.int .u8 z).wf = true) : ∃ bs : List UInt8, zs.map (Value.int .u8) = bs.map cellOf ∧ bs.length = zs.length := by
  refine ⟨zs.map fun z => UInt8.ofNat z.toNat, ?_, by simp⟩
  rw [List.map_map]
  refine List.map_congr_left fun z hm => ?_
  have hb := bounds_u8 (hw z hm)
  show Value.int .u8 z = cellOf (UInt8.ofNat z.toNat)
  unfold cellOf
  rw [UInt8.toNat_ofNat']
  congr 1
  omega
/-- Integers that are words, as words. -/
theorem words_of_ints (zs : List Int) (hw : ∀ z ∈ zs, (Lit.int .u32 z).wf = true) : ∃ l : List (BitVec 32), zs.map (Value.int .u32) = l.map wcell ∧ l.length = zs.length := by
  refine ⟨zs.map fun z => BitVec.ofNat 32 z.toNat, ?_, by simp⟩
  rw [List.map_map]
  refine List.map_congr_left fun z hm => ?_
  have hb := bounds_u32 (hw z hm)
  show Value.int .u32 z = wcell (BitVec.ofNat 32 z.toNat)
  unfold wcell
  rw [BitVec.toNat_ofNat]
  congr 1
  omega
end Go.Proofs.YtlhgabhjbnckkaaDoor
