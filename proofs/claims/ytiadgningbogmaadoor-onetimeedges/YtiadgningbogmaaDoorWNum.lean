/- What the laid errors give; the verifier's Num answers an error's number in the document's table. -/
import Derived.Test.YtiadgningbogmaaDoorWErr
import Derived.Test.YtiadgningbogmaaDoorWMem
import Derived.ProofKit
namespace Go.Proofs.YtiadgningbogmaaDoor
open Go.RowKit Go.Stop
/-- Variable g holds an error whose text lies at a. -/
def ErrIs (W : World) (g : Nat) (a : Addr) : Prop := W.cell? ⟨g, 0, none⟩ = some (errAt a) ∧ ∃ c t, W.heap[a.block]? = some (.cells c t (0, 0))
theorem lt_of_heap {W : World} {b : Nat} {o : Obj} (h : W.heap[b]? = some o) : b < W.heap.size := by
  rcases Nat.lt_or_ge b W.heap.size with hlt | hge
  · exact hlt
  · rw [Array.getElem?_eq_none hge] at h; cases h
theorem ErrIs.below {W W' : World} {g : Nat} {a : Addr} (h : ErrIs W g a) (hb : Below W.heap.size W W') : ErrIs W' g a := by
  obtain ⟨h1, c, t, h2⟩ := h
  refine ⟨(hb.cell (block_lt_of_cell h1)).trans h1, c, t, (hb.block _ ?_).trans h2⟩
  rcases Nat.lt_or_ge a.block W.heap.size with hlt | hge
  · exact hlt
  · rw [Array.getElem?_eq_none hge] at h2; cases h2
theorem row_err : ∀ u, Tryd.prog.typeName? 3 u = some "*errors.errorString" → u = 63 := typeName_ptr_named (nm := "errors.errorString") (by kernel_rfl) (by kernel_rfl) (by decide)
theorem cells_es : Tryd.prog.cellsOf 81 = 1 := by kernel_rfl
theorem cells_str : Tryd.prog.cellsOf 9 = 1 := by kernel_rfl
set_option maxRecDepth 100000 in
/-- What the row's list gives, of whatever length it is. -/
theorem sentinels {W : World} : ∀ (l : List (String × List UInt8)) (gs : List Nat) (ps : List MemPlace), l.map (fun x => Tryd.prog.globalNamed x.1) = gs.map some →
    (∀ g ∈ gs, (Tryd.prog.globals[g]?).map (·.type) = some 54) → DataW.LaidVars Tryd.prog W (l.map fun x => (x.1, .iface "*errors.errorString" (.ptr (.agg [.lit (.string x.2)])))) ps → ps.Nodup →
    (∀ b off, MemPlace.cell b off ∈ ps → (∃ c t, W.heap[b]? = some (.cells c t (0, 0))) ∧ ∀ u v, W.cell? ⟨b, off, none⟩ = some (.iface u v) → Value.okWide Tryd.prog W .any 0 u v) →
    ∃ es : List Addr, es.length = gs.length ∧ es.Nodup ∧ (∀ a ∈ es, MemPlace.cell a.block a.off ∈ ps ∧ a.spot = none) ∧ ∀ (i g : Nat) (a : Addr), gs[i]? = some g → es[i]? = some a → ErrIs W g a
  | [], [], _, _, _, _, _, _ => ⟨[], rfl, List.nodup_nil, fun _ h => (by cases h), fun i g a h => by simp at h⟩
  | [], _ :: _, _, h, _, _, _, _ => by simp at h
  | _ :: _, [], _, h, _, _, _, _ => by simp at h
  | x :: l, g :: gs, ps, hgs, hts, hv, hnd, hrows => by
    rw [List.map_cons, List.map_cons, List.cons.injEq] at hgs
    obtain ⟨g0, t0, cs0, f0, p0, q0, hg0, ht0, hv0, hd0, hq, rfl⟩ := hv
    obtain rfl := Option.some.inj (hgs.1.symm.trans hg0)
    obtain rfl := Option.some.inj ((hts g List.mem_cons_self).symm.trans ht0)
    have hok : ∀ u v, cs0.toList = [.iface u v] → Value.okWide Tryd.prog W .any 0 u v := fun u v e => by
      have hc0 : cs0 = #[.iface u v] := by cases cs0; simp_all
      subst hc0
      exact (hrows g 0 (by simp [MemPlace.row])).2 u v (by simpa using World.var?_cell hg0 hv0 0)
    obtain ⟨a0, s0, hcs, hc0, _, _, rfl⟩ := errorString_of_trod Tryd.underlying54 row_err Tryd.underlying63 Tryd.underlying81 rfl rfl Tryd.underlying9 cells_es cells_str hd0 hok
    have hcs' : cs0 = #[errAt a0] := by cases cs0; simp_all
    subst hcs'
    obtain ⟨es, h1, h2, h3, h4⟩ := sentinels l gs q0 hgs.2 (fun g hg => hts g (List.mem_cons_of_mem _ hg)) hq (List.Nodup.sublist (List.sublist_append_right _ _) hnd) (fun b off hm => hrows b off (List.mem_append_right _ hm))
    have hmem : MemPlace.cell a0.block a0.off ∈ MemPlace.row ⟨g, 0, none⟩ (#[errAt a0] : Array Value).size ++ MemPlace.row a0 1 ++ q0 := by simp [MemPlace.row]
    have hsp : a0.spot = none := by simpa using World.cell?_spot hc0
    refine ⟨a0 :: es, by simp [h1], List.nodup_cons.2 ⟨fun hin => ?_, h2⟩, ?_, ?_⟩
    · have hq1 := (h3 a0 hin).1
      have hd := (List.nodup_append.1 hnd).2.2 (MemPlace.cell a0.block a0.off) (by simp [MemPlace.row]) (MemPlace.cell a0.block a0.off) hq1
      exact hd rfl
    · intro a ha
      rcases List.mem_cons.1 ha with rfl | ha
      · exact ⟨hmem, hsp⟩
      · exact ⟨List.mem_append_right _ (h3 a ha).1, (h3 a ha).2⟩
    · intro i g' a hg' ha'
      cases i with
      | zero =>
        simp at hg' ha'
        subst hg' ha'
        exact ⟨by simpa using World.var?_cell hg0 hv0 0, (hrows _ _ hmem).1⟩
      | succ i => exact h4 i g' a (by simpa using hg') (by simpa using ha')
theorem nodup_one {α : Type} : ∀ (l : List α), l.Nodup → ∀ (i k : Nat) (a : α), l[i]? = some a → l[k]? = some a → i = k
  | [], _, _, _, _, h, _ => by simp at h
  | x :: l, hn, i, k, a, hi, hk => by
    rw [List.nodup_cons] at hn
    cases i with
    | zero =>
      cases k with
      | zero => rfl
      | succ k =>
        simp at hi hk
        subst hi
        exact absurd (List.mem_of_getElem? hk) hn.1
    | succ i =>
      cases k with
      | zero =>
        simp at hi hk
        subst hk
        exact absurd (List.mem_of_getElem? hi) hn.1
      | succ k => rw [nodup_one l hn.2 i k a (by simpa using hi) (by simpa using hk)]
end Go.Proofs.YtiadgningbogmaaDoor
