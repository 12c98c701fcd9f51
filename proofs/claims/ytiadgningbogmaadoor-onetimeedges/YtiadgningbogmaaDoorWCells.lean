/- Blocks known whole, what becomes of one block alone, and whole arrays loaded and stored: for values of any kind. No program is named here. -/
import Derived.Test.YtiadgningbogmaaDoorWMem
import Derived.Deep.MidRow
import Derived.StillTailTactics
namespace Go.Proofs.YtiadgningbogmaaDoor
open Go.RowKit
/-- Block g is just these cells. -/
def Cells (w : World) (g : Nat) (vs : List Value) (t : TypeId) : Prop := w.heap[g]? = some (.cells vs.toArray t (0, 0))
/-- Of all blocks that there were only g may have turned. -/
structure But (g : Nat) (w w' : World) : Prop where
  os : w'.os = w.os
  tape : w'.tape = w.tape
  output : w'.output = w.output
  size : w.heap.size ≤ w'.heap.size
  block : ∀ k, k < w.heap.size → k ≠ g → w'.heap[k]? = w.heap[k]?
theorem heap_setCells (b : Nat) : ∀ (vs : List Value) (o : Nat) (w : World), (w.setCells b o vs).os = w.os ∧ (w.setCells b o vs).tape = w.tape ∧ (w.setCells b o vs).output = w.output ∧ (w.setCells b o vs).heap.size = w.heap.size ∧ ∀ k, k ≠ b → (w.setCells b o vs).heap[k]? = w.heap[k]?
  | [], _, _ => ⟨rfl, rfl, rfl, rfl, fun _ _ => rfl⟩
  | v :: r, o, w => by
    obtain ⟨h1, h2, h3, h4, h5⟩ := heap_setCells b r (o + 1) (w.setCell ⟨b, o, none⟩ v)
    refine ⟨h1, h2, h3, h4.trans (by simp [World.setCell]), fun k hk => (h5 k hk).trans (Below.heap_setCell _ _ _ _ hk)⟩
theorem heap_lt {w : World} {b : Nat} {o : Obj} (h : w.heap[b]? = some o) : b < w.heap.size := by
  rcases Nat.lt_or_ge b w.heap.size with hlt | hge
  · exact hlt
  · rw [Array.getElem?_eq_none hge] at h; cases h
section
variable {w w' w'' : World} {g B : Nat} {vs : List Value} {t : TypeId}
theorem Cells.cell (h : Cells w g vs t) (j : Nat) (hj : j < vs.length) : w.cell? ⟨g, j, none⟩ = some vs[j] := by
  rw [cell_of_row w g j _ _ _ h]
  simp [hj]
theorem Cells.get (h : Cells w g vs t) {j : Nat} {v : Value} (hj : vs[j]? = some v) : w.cell? ⟨g, j, none⟩ = some v := by
  rw [cell_of_row w g j _ _ _ h, List.getElem?_toArray, hj]
theorem Cells.lt (h : Cells w g vs t) : g < w.heap.size := heap_lt h
theorem Cells.below (h : Cells w g vs t) (hb : Below B w w') (hg : g < B) : Cells w' g vs t := (hb.block g hg).trans h
theorem Cells.frozen (h : Cells w g vs t) (j : Nat) : w.frozen? ⟨g, j, none⟩ = false := by
  unfold Cells at h
  simp [World.frozen?, h]
theorem Cells.set (h : Cells w g vs t) (j : Nat) (u : Value) : Cells (w.setCell ⟨g, j, none⟩ u) g (vs.set j u) t := by
  unfold Cells at h ⊢
  simp [World.setCell, Array.getElem?_modify, h]
theorem Cells.other (h : Cells w g vs t) {p : Addr} (hp : g ≠ p.block) (u : Value) : Cells (w.setCell p u) g vs t := (Below.heap_setCell _ _ _ _ hp).trans h
theorem Cells.drewN (h : Cells w g vs t) (n : Nat) : Cells (w.drewN n) g vs t := h
theorem Cells.drew (h : Cells w g vs t) : Cells w.drew g vs t := h
theorem Cells.alloc (h : Cells w g vs t) (o : Obj) : Cells (w.alloc o) g vs t := (Below.heap_alloc _ _ _ h.lt).trans h
theorem Cells.new (w : World) (vs : Array Value) (t : TypeId) : Cells (w.alloc (.cells vs t)) w.heap.size vs.toList t := by
  have := heap_alloc_new w (.cells vs t)
  unfold Cells
  rw [this]
theorem Cells.range (h : Cells w g vs t) (o n : Nat) : w.rangeAt g o ((vs.drop o).take n) := by
  intro j v hj
  rw [List.getElem?_take] at hj
  split at hj
  · rw [List.getElem?_drop] at hj
    exact h.get hj
  · cases hj
theorem Cells.there (h : Cells w g vs t) (o n : Nat) (hn : o + n ≤ vs.length) : w.there g o n := fun j hj =>
  ⟨by rw [h.cell (o + j) (by omega)]; rfl, h.frozen _⟩
/-- A piece of a list, written anew. -/
def splice (vs : List Value) (o : Nat) (cs : List Value) : List Value := vs.take o ++ cs ++ vs.drop (o + cs.length)
theorem splice_length (vs cs : List Value) (o : Nat) (h : o + cs.length ≤ vs.length) : (splice vs o cs).length = vs.length := by
  simp [splice]; omega
theorem set_splice (vs : List Value) (o : Nat) (u : Value) (cs : List Value) (h : o + 1 + cs.length ≤ vs.length) : splice (vs.set o u) (o + 1) cs = splice vs o (u :: cs) := by
  have e1 : (vs.set o u).take (o + 1) = vs.take o ++ [u] := by
    rw [List.take_succ_eq_append_getElem (by simp; omega), List.take_set_of_le (Nat.le_refl _)]
    simp
  have e2 : (vs.set o u).drop (o + 1 + cs.length) = vs.drop (o + (cs.length + 1)) := by
    rw [List.drop_set_of_lt (by omega)]
    congr 1; omega
  simp [splice, e1, e2]
theorem Cells.setCells : ∀ {cs : List Value} {w : World} {vs : List Value} {o : Nat}, Cells w g vs t → o + cs.length ≤ vs.length → Cells (w.setCells g o cs) g (splice vs o cs) t
  | [], w, vs, o, h, _ => by
    have e : splice vs o [] = vs := by simp [splice]
    rw [e]; exact h
  | u :: cs, w, vs, o, h, hl => by
    rw [← set_splice vs o u cs (by simp at hl; omega)]
    exact Cells.setCells (h.set o u) (by simp at hl ⊢; omega)
theorem Cells.otherCells (h : Cells w g vs t) {b : Nat} (hp : g ≠ b) (o : Nat) (cs : List Value) : Cells (w.setCells b o cs) g vs t := ((heap_setCells b cs o w).2.2.2.2 g hp).trans h
theorem But.refl (g : Nat) (w : World) : But g w w := ⟨rfl, rfl, rfl, Nat.le_refl _, fun _ _ _ => rfl⟩
theorem But.trans (h : But g w w') (k : But g w' w'') : But g w w'' :=
  ⟨k.os.trans h.os, k.tape.trans h.tape, k.output.trans h.output, Nat.le_trans h.size k.size, fun i hi hg => (k.block i (Nat.lt_of_lt_of_le hi h.size) hg).trans (h.block i hi hg)⟩
theorem But.of_below (h : Below w.heap.size w w') : But g w w' := ⟨h.os, h.tape, h.output, h.size, fun k hk _ => h.block k hk⟩
theorem But.below (h : But g w w') (hB : B ≤ g) (hw : B ≤ w.heap.size) : Below B w w' := ⟨h.os, h.tape, h.output, h.size, fun k hk => h.block k (by omega) (by omega)⟩
theorem But.drew (h : But g w w') : But g w w'.drew := ⟨h.os, h.tape, h.output, h.size, h.block⟩
theorem But.drewN (h : But g w w') (n : Nat) : But g w (w'.drewN n) := ⟨h.os, h.tape, h.output, h.size, h.block⟩
theorem But.setCell (h : But g w w') (j : Nat) (u : Value) : But g w (w'.setCell ⟨g, j, none⟩ u) :=
  h.trans ⟨rfl, rfl, rfl, by simp [World.setCell], fun k _ hk => Below.heap_setCell _ _ _ _ hk⟩
theorem But.alloc (h : But g w w') (o : Obj) : But g w (w'.alloc o) := h.trans ⟨rfl, rfl, rfl, by simp, fun k hk _ => Below.heap_alloc _ _ _ hk⟩
theorem But.setCells (h : But g w w') (o : Nat) (cs : List Value) : But g w (w'.setCells g o cs) := by
  obtain ⟨h1, h2, h3, h4, h5⟩ := heap_setCells g cs o w'
  exact h.trans ⟨h1, h2, h3, by rw [h4]; exact Nat.le_refl _, fun k _ hk => h5 k hk⟩
theorem below_setCells {B b : Nat} (h : Below B w w') (hb : B ≤ b) (o : Nat) (cs : List Value) : Below B w (w'.setCells b o cs) := by
  obtain ⟨h1, h2, h3, h4, h5⟩ := heap_setCells b cs o w'
  exact h.trans ⟨h1, h2, h3, by rw [h4]; exact Nat.le_refl _, fun k hk => h5 k (by omega)⟩
/-- A change of block b as well, where b is new. -/
theorem But.new (h : But g w w') {b : Nat} (hb : w.heap.size ≤ b) (k : But b w' w'') : But g w w'' :=
  ⟨k.os.trans h.os, k.tape.trans h.tape, k.output.trans h.output, Nat.le_trans h.size k.size, fun i hi hg => (k.block i (Nat.lt_of_lt_of_le hi h.size) (by omega)).trans (h.block i hi hg)⟩
theorem Cells.but (h : Cells w g vs t) {b : Nat} (hb : But b w w') (hg : g ≠ b) : Cells w' g vs t := (hb.block g h.lt hg).trans h
theorem Row.but {A : Option Addr} {bs : List UInt8} {b : Nat} (h : Row w w.heap.size A bs) (hb : But b w w') (hg : bs ≠ [] → ∀ p, A = some p → p.block ≠ b) : Row w' w'.heap.size A bs := by
  rcases h with rfl | ⟨b', off, rfl, hb', hc⟩
  · exact .inl rfl
  · refine .inr ⟨b', off, rfl, Nat.lt_of_lt_of_le hb' hb.size, fun j u hu => ?_⟩
    have hne : bs ≠ [] := fun e => by subst e; simp at hu
    rw [World.cell?_of_block (w := w) (hb.block b' hb' (hg hne _ rfl))]
    exact hc j u hu
/-- A region whose head only reads and calls quietly, and whose tail comes in the text's order: the drawn world under a name. -/
theorem wp_region_tail {P : Program} {id : Nat} {Q : Exit → Act → World → Prop} {a : Act} {w : World} {l : List Oper} (n : Nat) (hm : P.follows .mixedOrders = true) (hB : Region.lexTailB .any l.toArray n = true)
    (h : ∀ w1, w1 = w.drew → wpStill P l.toArray w1 (fun a' => wpList P l.toArray Q (l.drop n) a' w1) (l.take n) a) : (Code.region id l.toArray true).wp P Q a w := wp_region_still_tail n hm hB (h _ rfl)
end
section
variable {P : Program} {w : World} {ops : Array Oper} {rest : List Oper} {o : Oper} {a : Act} {Q : Exit → Act → World → Prop}
/-- A literal of a struct or an array. -/
theorem build_step (hgd : o.guard = none) (t : TypeId) (parts : List (Nat × Operand)) (ho : o.op = .build t parts.toArray) (ps : List (Nat × Value)) (hp : (parts.map fun (i, x) => (i, a.eval x)) = ps) (v : Value) (hr : ∀ w, (Instr.build t ps.toArray).run P w = .ok v w)
    (h : wpList P ops Q rest (a.put o.dst v) w) : wpList P ops Q (o :: rest) a w := by
  refine wpList_plain hgd fun K hK => ?_
  unfold Oper.wp
  simp only [execOp, ho, List.map_toArray, hp, hr, Sem.run_bind, Sem.run_pure, Result.andThen_ok]
  exact hK _ _ h
/-- A literal of a slice. -/
theorem slice_step (hgd : o.guard = none) (t : TypeId) (n : Nat) (parts : List (Nat × Operand)) (ho : o.op = .buildSlice t n parts.toArray) (ps : List (Nat × Value)) (hp : (parts.map fun (i, x) => (i, a.eval x)) = ps) (e : TypeId) (vs : Array Value)
    (hr : ∀ w, (Instr.buildSlice t n ps.toArray).run P w = .ok (.slice (some ⟨w.heap.size, 0, none⟩) n n) (w.alloc (.cells vs e)))
    (h : ∀ w', w' = w.alloc (.cells vs e) → wpList P ops Q rest (a.put o.dst (.slice (some ⟨w.heap.size, 0, none⟩) n n)) w') : wpList P ops Q (o :: rest) a w := by
  refine wpList_plain hgd fun K hK => ?_
  unfold Oper.wp
  simp only [execOp, ho, List.map_toArray, hp, hr, Sem.run_bind, Sem.run_pure, Result.andThen_ok]
  exact hK _ _ (h _ rfl)
/-- A new variable of a type whose zero value is known whole. -/
theorem alloc_step (hgd : o.guard = none) (t : TypeId) (ho : o.op = .alloc t) (vs : Array Value) (hz : ∀ w, (zeroValue t).run P w = .ok (.agg vs) w)
    (h : ∀ w', w' = w.alloc (.cells vs t) → wpList P ops Q rest (a.put o.dst (.pointer (some ⟨w.heap.size, 0, none⟩))) w') : wpList P ops Q (o :: rest) a w := by
  refine wpList_plain hgd fun K hK => ?_
  unfold Oper.wp
  simp only [execOp, ho, Instr.alloc, hz, newVar, Value.cells, Sem.run_bind, Sem.run_pure, Result.andThen_ok, go_sem]
  exact hK _ _ (h _ rfl)
/-- An integer stored into one cell. -/
theorem store_step (hgd : o.guard = none) (t : TypeId) (x y : Operand) (ho : o.op = .store t x y) (g j : Nat) (ik : IntKind) (z : Int) (hx : a.eval x = .pointer (some ⟨g, j, none⟩)) (hy : a.eval y = .int ik z) (hs : (P.info? t).map (·.size) = some 1) (ht : w.there g j 1)
    (h : ∀ w', w' = w.setCell ⟨g, j, none⟩ (.int ik z) → wpList P ops Q rest (a.put o.dst undef) w') : wpList P ops Q (o :: rest) a w := by
  refine wpList_plain hgd fun K hK => ?_
  obtain ⟨i0, hi0, hs0⟩ := Option.map_eq_some_iff.1 hs
  have hst := run_storeCells_cells (P := P) g j [.int ik z] 0 w (fun i hi => by simpa using (ht i hi).1) (fun i hi => by simpa using (ht i hi).2) (by intro v hv; cases List.mem_singleton.1 hv; rfl)
  have hrun : (Instr.storeAt t (.pointer (some ⟨g, j, none⟩)) (.int ik z)).run P w = .ok () (w.setCell ⟨g, j, none⟩ (.int ik z)) := by
    simp only [Instr.storeAt, Instr.sureAddr, Sem.run_bind, Sem.run_pure, Result.andThen_ok]
    simp [storeVar, sizeOf, typeInfo, hi0, hs0, Value.cells, hst, World.setCells]
  unfold Oper.wp
  simp only [execOp, ho, hx, hy, hrun, Sem.run_bind, Sem.run_pure, Result.andThen_ok]
  exact hK _ _ (h _ rfl)
/-- A value laid into a new variable. -/
theorem box_step (hgd : o.guard = none) (t : TypeId) (x : Operand) (ho : o.op = .box t x) (vs : Array Value) (hx : a.eval x = .agg vs)
    (h : ∀ w', w' = w.alloc (.cells vs t) → wpList P ops Q rest (a.put o.dst (.pointer (some ⟨w.heap.size, 0, none⟩))) w') : wpList P ops Q (o :: rest) a w := by
  refine wpList_plain hgd fun K hK => ?_
  unfold Oper.wp
  simp only [execOp, ho, hx, Instr.box]
  simp only [newVar, Value.cells, Sem.run_bind, Sem.run_pure, Result.andThen_ok, go_sem]
  exact hK _ _ (h _ rfl)
end
/-- 'a[i]' of an array of integers by value. -/
theorem run_index_int {P : Program} {t e : TypeId} {n : Nat} {ik : IntKind} (vs : List Value) (k : Nat) (v : Value) (w : World) (hu : P.underlying t = some (.array n e)) (he : P.underlying e = some (.int ik)) (hs : (P.info? e).map (·.size) = some 1) (hk : k < n) (hv : vs[k]? = some v) :
    (Instr.index t (.agg vs.toArray) (.int .i64 (k : Int))).run P w = .ok v w := by
  cases hq : P.info? e with
  | none => simp [hq] at hs
  | some i =>
    have hs1 : i.size = 1 := by simpa [hq] using hs
    simp [Instr.index, run_underlying hu, asIntOf, hk, part, isAgg, run_underlying he, sizeOf, typeInfo, hq, hs1, hv, go_sem]
theorem Row.butB {w w' : World} {B g : Nat} {A : Option Addr} {bs : List UInt8} (h : Row w B A bs) (hb : But g w w') (hg : B ≤ g) (hw : B ≤ w.heap.size) : Row w' B A bs :=
  h.keep fun p hp => World.cell?_of_block (w := w) (hb.block p.block (by omega) (by omega))
/-- A row below B lies in no block from B on. -/
theorem Row.apart {w : World} {B g : Nat} {A : Option Addr} {bs : List UInt8} (h : Row w B A bs) (hg : B ≤ g) : bs ≠ [] → ∀ p, A = some p → p.block ≠ g := by
  intro hne p hp
  rcases h with rfl | ⟨b, off, rfl, hb, _⟩
  · exact absurd rfl hne
  · cases hp; show b ≠ g; omega
theorem splice_all (vs cs : List Value) (h : cs.length = vs.length) : splice vs 0 cs = cs := by simp [splice, h]
/-- A function whose result lies in a block of its own, a whole array or struct. -/
theorem ret_block {P : Program} {fn : Func} {R : Ending → World → Prop} {a : Act} {w : World} {p : Tmp} {ty : TypeId} {d : TypeDesc} (hres : fn.results = #[.cell p ty]) (g : Nat) (vs : List Value) (t : TypeId)
    (hp : a.tmps.getD p undef = .pointer (some ⟨g, 0, none⟩)) (hg : Cells w g vs t) (hu : P.underlying ty = some d) (hd : (match d with | .struct _ | .array _ _ => true | _ => false) = true) (hi : (P.info? ty).map (·.size) = some vs.length)
    (hdf : a.defers = []) (hR : R (.returned (.agg vs.toArray)) w) : bodyPost P fn R .ret a w :=
  bodyPost_ret (results_cell_row hres a.tmps w g t vs.toArray (0, 0) d hp hg hu hd (by simpa using hi)) hdf hR
theorem set_nextV {α : Type} (l : List α) (k n : Nat) (u z : α) (hl : l.length = k) (hk : k < n) : (l ++ List.replicate (n - k) z).set k u = l ++ [u] ++ List.replicate (n - (k + 1)) z := by
  obtain ⟨m, hm⟩ : ∃ m, n - k = m + 1 := ⟨n - k - 1, by omega⟩
  rw [hm, show n - (k + 1) = m by omega, List.set_append_right _ _ (by omega), hl, Nat.sub_self, List.replicate_succ]
  simp
theorem Row.piece {w : World} {B b off : Nat} {bs : List UInt8} (h : Row w B (some ⟨b, off, none⟩) bs) (i n : Nat) : Row w B (some ⟨b, off + i, none⟩) ((bs.drop i).take n) := by
  rcases h with rfl | ⟨b', off', hA, hb, hc⟩
  · exact .inl (by simp)
  · cases hA
    refine .inr ⟨b, off + i, rfl, hb, fun j u hu => ?_⟩
    rw [List.getElem?_take] at hu
    split at hu
    · rw [List.getElem?_drop] at hu
      rw [Nat.add_assoc]
      exact hc (i + j) u hu
    · cases hu
end Go.Proofs.YtiadgningbogmaaDoor
