/- Slices of slices of bytes that come in; variables that are laid. -/
import Derived.Test.YtlhgabhjbnckkaaDoorWOpen
import Derived.Test.YtlhgabhjbnckkaaDoorPart4
import Derived.Deep.Matrix
namespace Go.Proofs.YtlhgabhjbnckkaaDoor
open Go.ChangeShapes Go.WideShapes Go.ChangeAt Go.RowKit
theorem var_lt {W : World} {name : String} {g : Nat} {cs : Array Value} {v : Value} (hg : Tryd.prog.globalNamed name = some g) (hv : W.var? Tryd.prog name = some cs) (h0 : cs[0]? = some v) : g < W.heap.size := by
  have h := World.var?_cell hg hv 0
  rw [h0] at h
  exact block_lt_of_cell (a := ⟨g, 0, none⟩) (by simpa using h)
theorem var_there {W : World} {name : String} {g : Nat} {cs : Array Value} (hg : Tryd.prog.globalNamed name = some g) (hv : W.var? Tryd.prog name = some cs) : g < W.heap.size := by
  rcases Nat.lt_or_ge g W.heap.size with h | h
  · exact h
  · simp [World.var?, hg, Array.getElem?_eq_none h] at hv
theorem row_of_ints {W : World} {a : Addr} {L : Nat} {zs : List Int} (hl : L ≤ zs.length) (hw : ∀ n ∈ zs, (Lit.int .u8 n).wf = true) (hc : ∀ i, i < zs.length → W.cell? (a.add i) = some (.int .u8 (zs.getD i 0))) :
    Row W W.heap.size (some a) ((zs.take L).map fun z => UInt8.ofNat z.toNat) := by
  by_cases h0 : L = 0
  · subst h0; exact .inl (by simp)
  · obtain ⟨b, off, rfl, hc2⟩ := ints_at hc (by omega)
    have hlt := block_lt_of_cell (hc2 0 (by omega))
    refine .inr ⟨b, off, rfl, hlt, fun j u hu => ?_⟩
    rw [List.getElem?_map] at hu
    have hj : j < L := by
      rcases Nat.lt_or_ge j L with h | h
      · exact h
      · rw [List.getElem?_eq_none (by rw [List.length_take]; omega)] at hu; cases hu
    have hjz : j < zs.length := by omega
    rw [List.getElem?_take_of_lt hj, List.getElem?_eq_getElem hjz] at hu
    simp only [Option.map_some, Option.some.injEq] at hu
    have hb := bounds_u8 (hw zs[j] (List.getElem_mem _))
    rw [hc2 j hjz, ← hu]
    simp only [cellOf, UInt8.toNat_ofNat']
    simp [List.getD, hjz]
    omega
theorem cells_bs : Tryd.prog.cellsOf 76 = 1 := by kernel_rfl
/-- A list of laid variables in two parts. -/
theorem laid_split {W : World} : ∀ (l1 l2 : List (String × DataW Unit)) (ps : List MemPlace), DataW.LaidVars Tryd.prog W (l1 ++ l2) ps → ∃ p1 p2, ps = p1 ++ p2 ∧ DataW.LaidVars Tryd.prog W l1 p1 ∧ DataW.LaidVars Tryd.prog W l2 p2
  | [], l2, ps, h => ⟨[], ps, rfl, rfl, h⟩
  | x :: l1, l2, ps, h => by
    obtain ⟨g, t, cs, f, p, q, h1, h2, h3, h4, h5, rfl⟩ := h
    obtain ⟨p1, p2, rfl, h6, h7⟩ := laid_split l1 l2 q h5
    exact ⟨_, p2, by simp only [List.append_assoc], ⟨g, t, cs, f, p, p1, h1, h2, h3, h4, h6, rfl⟩, h7⟩
theorem errs_vars {W : World} {ps : List MemPlace} (hv : DataW.LaidVars Tryd.prog W (errTexts.map fun x => (x.1, .iface "*errors.errorString" (.ptr (.agg [.lit (.string x.2)])))) ps) (hnd : ps.Nodup)
    (hrows : ∀ b off, MemPlace.cell b off ∈ ps → (∃ c t, W.heap[b]? = some (.cells c t (0, 0))) ∧ ∀ u v, W.cell? ⟨b, off, none⟩ = some (.iface u v) → Value.okWide Tryd.prog W .any 0 u v) : ∃ es, Errs W es := by
  obtain ⟨es, h1, h2, _, h4⟩ := sentinels errTexts errVars ps (by kernel_rfl) (fun g hg => by
    have hall : (errVars.all fun g => ((Tryd.prog.globals[g]?).map (·.type)) == some 27) = true := by kernel_rfl
    simpa using List.all_eq_true.1 hall g hg) hv hnd hrows
  exact ⟨es, h1, h2, h4⟩
end Go.Proofs.YtlhgabhjbnckkaaDoor
