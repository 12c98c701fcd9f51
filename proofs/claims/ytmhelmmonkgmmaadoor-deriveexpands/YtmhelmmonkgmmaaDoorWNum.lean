/- What the laid errors give; the verifier's Num answers an error's number in the document's table. -/
import Derived.Test.YtmhelmmonkgmmaaDoorWErr
import Derived.Test.YtmhelmmonkgmmaaDoorWMem
import Derived.ProofKit
namespace Go.Proofs.YtmhelmmonkgmmaaDoor
open Go.RowKit Go.Stop
/-- Package api's errors in the table's order: the variables' numbers. -/
def errVars : List Nat := [0, 2, 1, 3, 4, 5, 6, 7, 8, 9, 10, 11, 12, 13, 14, 15, 16, 17, 18]
/-- Variable g holds an error whose text lies at a. -/
def ErrIs (W : World) (g : Nat) (a : Addr) : Prop := W.cell? ⟨g, 0, none⟩ = some (errAt a) ∧ ∃ c t, W.heap[a.block]? = some (.cells c t (0, 0))
theorem lt_of_heap {W : World} {b : Nat} {o : Obj} (h : W.heap[b]? = some o) : b < W.heap.size := by
  rcases Nat.lt_or_ge b W.heap.size with hlt | hge
  · exact hlt
  · rw [Array.getElem?_eq_none hge] at h; cases h
theorem ErrIs.below {W W' : World} {g : Nat} {a : Addr} (h : ErrIs W g a) (hb : Below W.heap.size W W') : ErrIs W' g a := by
  obtain ⟨h1, c, t, h2⟩ := h
  refine ⟨(hb.cell (block_lt_of_cell h1)).trans h1, c, t, (hb.block _ ?_).trans h2⟩
  rcases Nat.lt_or_ge a.block W.heap.size with hlt | hge
  · exact hlt
  · rw [Array.getElem?_eq_none hge] at h2; cases h2
/-- All of package api's errors stand, each apart from the others. -/
def Errs (W : World) (es : List Addr) : Prop := es.length = 19 ∧ es.Nodup ∧ ∀ (i g : Nat) (a : Addr), errVars[i]? = some g → es[i]? = some a → ErrIs W g a
theorem Errs.below {W W' : World} {es : List Addr} (h : Errs W es) (hb : Below W.heap.size W W') : Errs W' es :=
  ⟨h.1, h.2.1, fun i g a hg ha => (h.2.2 i g a hg ha).below hb⟩
theorem Errs.drewN {W : World} {es : List Addr} (h : Errs W es) (n : Nat) : Errs (W.drewN n) es := h
theorem Errs.var {W : World} {es : List Addr} (h : Errs W es) (i : Nat) {g : Nat} (hg : errVars[i]? = some g) : ∃ a, es[i]? = some a ∧ W.cell? ⟨g, 0, none⟩ = some (errAt a) := by
  have hi : i < es.length := by
    rcases Nat.lt_or_ge i es.length with hlt | hge
    · exact hlt
    · have h1 := h.1
      rw [List.getElem?_eq_none (by show 19 ≤ i; omega)] at hg
      cases hg
  exact ⟨es[i], List.getElem?_eq_getElem hi, (h.2.2 i g _ hg (List.getElem?_eq_getElem hi)).1⟩
theorem row_err : ∀ u, Tryd.prog.typeName? 3 u = some "*errors.errorString" → u = 101 := typeName_ptr_named (nm := "errors.errorString") (by kernel_rfl) (by kernel_rfl) (by decide)
theorem cells_es : Tryd.prog.cellsOf 125 = 1 := by kernel_rfl
theorem cells_str : Tryd.prog.cellsOf 9 = 1 := by kernel_rfl
set_option maxRecDepth 100000 in
/-- What the row's list gives, of whatever length it is. -/
theorem sentinels {W : World} : ∀ (l : List (String × List UInt8)) (gs : List Nat) (ps : List MemPlace), l.map (fun x => Tryd.prog.globalNamed x.1) = gs.map some →
    (∀ g ∈ gs, (Tryd.prog.globals[g]?).map (·.type) = some 26) → DataW.LaidVars Tryd.prog W (l.map fun x => (x.1, .iface "*errors.errorString" (.ptr (.agg [.lit (.string x.2)])))) ps → ps.Nodup →
    (∀ b off, MemPlace.cell b off ∈ ps → (∃ c t, W.heap[b]? = some (.cells c t (0, 0))) ∧ ∀ u v, W.cell? ⟨b, off, none⟩ = some (.iface u v) → Value.okWide Tryd.prog W .any 0 u v) →
    ∃ es : List Addr, es.length = gs.length ∧ es.Nodup ∧ (∀ a ∈ es, MemPlace.cell a.block a.off ∈ ps ∧ a.spot = none) ∧ ∀ (i g : Nat) (a : Addr), gs[i]? = some g → es[i]? = some a → ErrIs W g a
  | [], [], _, _, _, _, _, _ => ⟨[], rfl, List.nodup_nil, fun _ h => (by cases h), fun i g a h => by simp at h⟩
  | [], _ :: _, _, h, _, _, _, _ => by simp at h
  | _ :: _, [], _, h, _, _, _, _ => by simp at h
  | x :: l, g :: gs, ps, hgs, hts, hv, hnd, hrows => by
    rw [List.map_cons, List.map_cons, List.cons.injEq] at hgs
    obtain ⟨g0, t0, cs0, f0, p0, q0, hg0, ht0, hv0, hd0, hq, rfl⟩ := hv
    obtain rfl := Option.some.inj (hgs.1.symm.trans hg0)
    obtain rfl := Option.some.inj ((hts g List.mem_cons_self).symm.trans ht0)
    have hok : ∀ u v, cs0.toList = [.iface u v] → Value.okWide Tryd.prog W .any 0 u v := fun u v e => by
      have hc0 : cs0 = #[.iface u v] := by cases cs0; simp_all
      subst hc0
      exact (hrows g 0 (by simp [MemPlace.row])).2 u v (by simpa using World.var?_cell hg0 hv0 0)
    obtain ⟨a0, s0, hcs, hc0, _, _, rfl⟩ := errorString_of_trod Tryd.underlying26 row_err Tryd.underlying101 Tryd.underlying125 rfl rfl Tryd.underlying9 cells_es cells_str hd0 hok
    have hcs' : cs0 = #[errAt a0] := by cases cs0; simp_all
    subst hcs'
    obtain ⟨es, h1, h2, h3, h4⟩ := sentinels l gs q0 hgs.2 (fun g hg => hts g (List.mem_cons_of_mem _ hg)) hq (List.Nodup.sublist (List.sublist_append_right _ _) hnd) (fun b off hm => hrows b off (List.mem_append_right _ hm))
    have hmem : MemPlace.cell a0.block a0.off ∈ MemPlace.row ⟨g, 0, none⟩ (#[errAt a0] : Array Value).size ++ MemPlace.row a0 1 ++ q0 := by simp [MemPlace.row]
    have hsp : a0.spot = none := by simpa using World.cell?_spot hc0
    refine ⟨a0 :: es, by simp [h1], List.nodup_cons.2 ⟨fun hin => ?_, h2⟩, ?_, ?_⟩
    · have hq1 := (h3 a0 hin).1
      have hd := (List.nodup_append.1 hnd).2.2 (MemPlace.cell a0.block a0.off) (by simp [MemPlace.row]) (MemPlace.cell a0.block a0.off) hq1
      exact hd rfl
    · intro a ha
      rcases List.mem_cons.1 ha with rfl | ha
      · exact ⟨hmem, hsp⟩
      · exact ⟨List.mem_append_right _ (h3 a ha).1, (h3 a ha).2⟩
    · intro i g' a hg' ha'
      cases i with
      | zero =>
        simp at hg' ha'
        subst hg' ha'
        exact ⟨by simpa using World.var?_cell hg0 hv0 0, (hrows _ _ hmem).1⟩
      | succ i => exact h4 i g' a (by simpa using hg') (by simpa using ha')
theorem nodup_one {α : Type} : ∀ (l : List α), l.Nodup → ∀ (i k : Nat) (a : α), l[i]? = some a → l[k]? = some a → i = k
  | [], _, _, _, _, h, _ => by simp at h
  | x :: l, hn, i, k, a, hi, hk => by
    rw [List.nodup_cons] at hn
    cases i with
    | zero =>
      cases k with
      | zero => rfl
      | succ k =>
        simp at hi hk
        subst hi
        exact absurd (List.mem_of_getElem? hk) hn.1
    | succ i =>
      cases k with
      | zero =>
        simp at hi hk
        subst hk
        exact absurd (List.mem_of_getElem? hi) hn.1
      | succ k => rw [nodup_one l hn.2 i k a (by simpa using hi) (by simpa using hk)]
theorem num_nil (w : World) : Calls Tryd.prog 12 #[.nilIface] w fun e w' => e = .returned (.int .i64 0) ∧ w = w' := by
  go_enter Tryd.func12, Tryd.ntmps12
  go_wp2
  go_ret
  exact ⟨rfl, rfl⟩
set_option maxRecDepth 100000 in
set_option maxHeartbeats 1000000 in
/-- Num of the i-th error. -/
theorem num_err (es : List Addr) (i : Nat) (a : Addr) (w : World) (h : Errs w es) (ha : es[i]? = some a) :
    Calls Tryd.prog 12 #[errAt a] w fun e w' => e = .returned (.int .i64 ((i : Int) + 1)) ∧ Below w.heap.size w w' := by
  have hnd := h.2.1
  have hrow := h.2.2
  match es, h.1, ha, hnd, h with
  | [a0, a1, a2, a3, a4, a5, a6, a7, a8, a9, a10, a11, a12, a13, a14, a15, a16, a17, a18], _, ha, hnd, h =>
    have c0 := (h.2.2 0 0 a0 rfl rfl).1
    have c1 := (h.2.2 1 2 a1 rfl rfl).1
    have c2 := (h.2.2 2 1 a2 rfl rfl).1
    have c3 := (h.2.2 3 3 a3 rfl rfl).1
    have c4 := (h.2.2 4 4 a4 rfl rfl).1
    have c5 := (h.2.2 5 5 a5 rfl rfl).1
    have c6 := (h.2.2 6 6 a6 rfl rfl).1
    have c7 := (h.2.2 7 7 a7 rfl rfl).1
    have c8 := (h.2.2 8 8 a8 rfl rfl).1
    have c9 := (h.2.2 9 9 a9 rfl rfl).1
    have c10 := (h.2.2 10 10 a10 rfl rfl).1
    have c11 := (h.2.2 11 11 a11 rfl rfl).1
    have c12 := (h.2.2 12 12 a12 rfl rfl).1
    have c13 := (h.2.2 13 13 a13 rfl rfl).1
    have c14 := (h.2.2 14 14 a14 rfl rfl).1
    have c15 := (h.2.2 15 15 a15 rfl rfl).1
    have c16 := (h.2.2 16 16 a16 rfl rfl).1
    have c17 := (h.2.2 17 17 a17 rfl rfl).1
    have c18 := (h.2.2 18 18 a18 rfl rfl).1
    have HA := Lib.hid (fun (k : Nat) (b : Addr) (hb : [a0, a1, a2, a3, a4, a5, a6, a7, a8, a9, a10, a11, a12, a13, a14, a15, a16, a17, a18][k]? = some b) => show ∃ c t, w.heap[b.block]? = some (.cells c t (0, 0)) from by
      have hk : k < 19 := by
        rcases Nat.lt_or_ge k 19 with hlt | hge
        · exact hlt
        · rw [List.getElem?_eq_none (by simpa using hge)] at hb; cases hb
      exact (h.2.2 k _ b (List.getElem?_eq_getElem (by exact hk)) hb).2)
    have HD := Lib.hid (fun (k : Nat) (b : Addr) (hb : [a0, a1, a2, a3, a4, a5, a6, a7, a8, a9, a10, a11, a12, a13, a14, a15, a16, a17, a18][k]? = some b) (hki : k ≠ i) => show a ≠ b from by
      rintro rfl
      exact hki (nodup_one _ hnd _ _ _ hb ha))
    have HI := Lib.hid ha
    have hi : i < 19 := by
      rcases Nat.lt_or_ge i 19 with hlt | hge
      · exact hlt
      · rw [List.getElem?_eq_none (by simpa using hge)] at ha; cases ha
    clear hnd hrow h ha
    go_enter Tryd.func12, Tryd.ntmps12
    have hc1 : ∀ (k : Nat) (b : Addr), [a0, a1, a2, a3, a4, a5, a6, a7, a8, a9, a10, a11, a12, a13, a14, a15, a16, a17, a18][k]? = some b → (w.alloc (.cells #[errAt a0, errAt a1, errAt a2, errAt a3, errAt a4, errAt a5, errAt a6, errAt a7, errAt a8, errAt a9, errAt a10, errAt a11, errAt a12, errAt a13, errAt a14, errAt a15, errAt a16, errAt a17, errAt a18] 26)).cell? ⟨w.heap.size, k, none⟩ = some (errAt b) := by
      intro k b hb
      have h2 : ([a0, a1, a2, a3, a4, a5, a6, a7, a8, a9, a10, a11, a12, a13, a14, a15, a16, a17, a18].map errAt)[k]? = some (errAt b) := by rw [List.getElem?_map, hb]; rfl
      rw [World.cell?_alloc_at _ _ _ _ rfl, List.getElem?_toArray]
      exact h2
    have hB : Below w.heap.size w (w.alloc (.cells #[errAt a0, errAt a1, errAt a2, errAt a3, errAt a4, errAt a5, errAt a6, errAt a7, errAt a8, errAt a9, errAt a10, errAt a11, errAt a12, errAt a13, errAt a14, errAt a15, errAt a16, errAt a17, errAt a18] 26)) := (Below.refl _ _).alloc (Nat.le_refl _) _
    have HC := Lib.hid hc1
    clear hc1
    go_wp2
    generalize w.alloc (.cells #[errAt a0, errAt a1, errAt a2, errAt a3, errAt a4, errAt a5, errAt a6, errAt a7, errAt a8, errAt a9, errAt a10, errAt a11, errAt a12, errAt a13, errAt a14, errAt a15, errAt a16, errAt a17, errAt a18] 26) = w1 at *
    clear c0 c1 c2 c3 c4 c5 c6 c7 c8 c9 c10 c11 c12 c13 c14 c15 c16 c17 c18
    go_loop [4, 5, 30] (fun _ _ q => ∃ k : Nat, k ≤ i ∧ q = .int .i64 k) (fun _ _ q => 19 - (intOf q).toNat)
    case atStart => exact ⟨0, by omega, rfl⟩
    case round =>
      obtain ⟨k, hk, rfl⟩ := hrel
      have hk2 : k < [a0, a1, a2, a3, a4, a5, a6, a7, a8, a9, a10, a11, a12, a13, a14, a15, a16, a17, a18].length := by show k < 19; omega
      obtain ⟨b, hb⟩ : ∃ b, [a0, a1, a2, a3, a4, a5, a6, a7, a8, a9, a10, a11, a12, a13, a14, a15, a16, a17, a18][k]? = some b := ⟨_, List.getElem?_eq_getElem hk2⟩
      have hck := HC.out k b hb
      have i1 : (k : Int) < 19 := by omega
      rcases Nat.lt_or_eq_of_le hk with hlt | heq
      · have hne := HD.out k b hb (by omega)
        obtain ⟨ca, ta, ha1⟩ := HA.out i a HI.out
        obtain ⟨cb, tb, hb1⟩ := HA.out k b hb
        have H1 := Lib.hid (is_other a b ca cb ta tb w1 hne ((hB.block _ (lt_of_heap ha1)).trans ha1) ((hB.block _ (lt_of_heap hb1)).trans hb1))
        clear hb hne ha1 hb1
        go_wp2_with (go_at_call 23; refine (H1.out).mono ?_; rintro e w' ⟨rfl, rfl⟩)
        go_round
        case rel => exact ⟨k + 1, by omega, by go_num⟩
        case measure => simp [intOf]; omega
      · subst heq
        have hab : b = a := by have h3 := HI.out; rw [hb] at h3; exact Option.some.inj h3
        subst hab
        clear hb
        go_wp2_with (go_at_call 23; refine (is_same _ _).mono ?_; rintro e w' ⟨rfl, rfl⟩)
        go_ret
        exact ⟨rfl, hB⟩
/-- The same, the number written out. -/
theorem num_is (es : List Addr) (i : Nat) (n : Int) (a : Addr) (w : World) (h : Errs w es) (ha : es[i]? = some a) (hn : (i : Int) + 1 = n) :
    Calls Tryd.prog 12 #[errAt a] w fun e w' => e = .returned (.int .i64 n) ∧ Below w.heap.size w w' := by
  subst hn
  exact num_err es i a w h ha
end Go.Proofs.YtmhelmmonkgmmaaDoor
