/- Slices of slices of bytes that come in; a row of the call's own while other blocks turn. -/
import Derived.Test.YtcnhnmoenoldaaaDoorSOpen
import Derived.Deep.Matrix
namespace Go.Proofs.YtcnhnmoenoldaaaDoor
open Go.ChangeShapes Go.WideShapes Go.ChangeAt Go.RowKit
theorem row_of_ints {W : World} {a : Addr} {L : Nat} {zs : List Int} (hl : L ≤ zs.length) (hw : ∀ n ∈ zs, (Lit.int .u8 n).wf = true) (hc : ∀ i, i < zs.length → W.cell? (a.add i) = some (.int .u8 (zs.getD i 0))) :
    Row W W.heap.size (some a) ((zs.take L).map fun z => UInt8.ofNat z.toNat) := by
  by_cases h0 : L = 0
  · subst h0; exact .inl (by simp)
  · obtain ⟨b, off, rfl, hc2⟩ := ints_at hc (by omega)
    have hlt := block_lt_of_cell (hc2 0 (by omega))
    refine .inr ⟨b, off, rfl, hlt, fun j u hu => ?_⟩
    rw [List.getElem?_map] at hu
    have hj : j < L := by
      rcases Nat.lt_or_ge j L with h | h
      · exact h
      · rw [List.getElem?_eq_none (by rw [List.length_take]; omega)] at hu; cases hu
    have hjz : j < zs.length := by omega
    rw [List.getElem?_take_of_lt hj, List.getElem?_eq_getElem hjz] at hu
    simp only [Option.map_some, Option.some.injEq] at hu
    have hb := bounds_u8 (hw zs[j] (List.getElem_mem _))
    rw [hc2 j hjz, ← hu]
    simp only [cellOf, UInt8.toNat_ofNat']
    simp [List.getD, hjz]
    omega
theorem cells_bs : Tryd.prog.cellsOf 22 = 1 := by kernel_rfl
/-- A slice of slices of bytes that comes in. -/
theorem open_parts {H : Type} {enc : TypeId × Value → H} {W : World} {r : Reach} {b0 : Nat} {v : Value} {d : DataW H} {p : List MemPlace} (hv : Value.okWide Tryd.prog W r b0 31 v) (h : DataW.Trod enc Tryd.prog W 0 (fun _ => true) true 31 v d p) :
    ∃ D c ps, v = .slice D ps.length c ∧ Parts W W.heap.size D ps ∧ ps.length ≤ c ∧ c ≤ maxLen := by
  obtain ⟨a0, len, cap, rfl⟩ := okWide_slice Tryd.underlying31 hv
  obtain ⟨fuel, hf⟩ := h
  rcases Go.Deep.open_int_rows Tryd.underlying31 Tryd.underlying22 Tryd.underlying5 cells_bs cells_u8 hf with ⟨hcs, _⟩ | ⟨a, l, c, A, L, C, Z, hcs, _, hl, hm, _, hr⟩
  · simp [Value.cells] at hcs
    obtain ⟨rfl, rfl, rfl⟩ := hcs
    exact ⟨none, 0, [], rfl, .inl rfl, Nat.le_refl _, Nat.zero_le _⟩
  · simp [Value.cells] at hcs
    obtain ⟨rfl, rfl, rfl⟩ := hcs
    refine ⟨some a, cap, (List.range len).map fun r => ((Z r).take (L r)).map fun z => UInt8.ofNat z.toNat, by simp, ?_, by simpa using hl, hm⟩
    by_cases h0 : len = 0
    · subst h0; exact .inl (by simp)
    · obtain ⟨b, off, spot⟩ := a
      have hspot : spot = none := by simpa [Addr.add] using World.cell?_spot (hr 0 (by omega)).1
      subst hspot
      have hlt := block_lt_of_cell (hr 0 (by omega)).1
      refine .inr ⟨b, off, rfl, by simpa [Addr.add] using hlt, fun j us hu => ?_⟩
      have hj : j < len := by
        rcases Nat.lt_or_ge j len with h | h
        · exact h
        · rw [List.getElem?_eq_none (by simpa using h)] at hu; cases hu
      rw [List.getElem?_map, List.getElem?_range hj] at hu
      simp only [Option.map_some, Option.some.injEq] at hu
      subst hu
      obtain ⟨h1, h2, h3, h4, h5, h6, h7⟩ := hr j (by omega)
      rw [Go.WideShapes.add_plain] at h1
      have hlen : (((Z j).take (L j)).map fun z => UInt8.ofNat z.toNat).length = L j := by simp; omega
      refine ⟨_, h1, A j, C j, by rw [hlen], ?_, by rw [hlen]; exact h2, h3, h6⟩
      cases hA : A j with
      | none =>
        have := h6 hA
        exact .inl (List.eq_nil_of_length_eq_zero (by rw [hlen]; omega))
      | some a' => exact row_of_ints (by omega) h5 (fun i hi => (h7 a' hA).2 i (by omega))
theorem Owns.keep {w w' : World} {base : Nat} {v : Value} {bs : List UInt8} (h : Owns w base v bs) (hk : ∀ g, v.ownBlock = some g → w'.heap[g]? = w.heap[g]?) : Owns w' base v bs := by
  obtain ⟨h1, h2⟩ := h
  refine ⟨h1, ?_⟩
  rcases h2 with h2 | ⟨g, cap, cur, hv, hg, hh, r⟩
  · exact .inl h2
  · refine .inr ⟨g, cap, cur, hv, hg, ?_, r⟩
    rw [hk g (by rw [hv]; rfl)]
    exact hh
theorem Owns.on {w w' : World} {base : Nat} {v : Value} {bs : List UInt8} (h : Owns w base v bs) (hb : Below w.heap.size w w') : Owns w' base v bs :=
  h.keep fun g hg => hb.block g (World.ownsRow.lt h g hg).2
theorem Owns.but {w w' : World} {base g : Nat} {v : Value} {bs : List UInt8} (h : Owns w base v bs) (hb : But g w w') (hg : g < base) : Owns w' base v bs :=
  h.keep fun k hk => hb.block k (World.ownsRow.lt h k hk).2 (by have := (World.ownsRow.lt h k hk).1; omega)
theorem HashOf.under {w w' : World} {g B : Nat} {bs : List UInt8} (h : HashOf w g bs) (hb : Below B w w') (hg : g < B) : HashOf w' g bs := by
  obtain ⟨o, rest, hI, hh⟩ := h
  exact ⟨o, rest, ⟨hI.1, hI.2.below hb hg⟩, hh⟩
end Go.Proofs.YtcnhnmoenoldaaaDoor
