/- Part 2 of what the laws of this seat share: WCells, WCopy, WApp, WPut, WParts, WOpen2, WWords. -/
import Derived.Deep.MidRow
import Derived.StillTailTactics
import Derived.Laws.CopyOwn
import Derived.Laws.AppendOwnNone
import Derived.Deep.AppendLies
import Derived.Maps.AppendAt
import Derived.Deep.Matrix
import Derived.Test.YtejcbboajikdkaaDoorPart1
namespace Go.Proofs.YtejcbboajikdkaaDoor
open Go.RowKit
/-- Block g is just these cells. -/
def Cells (w : World) (g : Nat) (vs : List Value) (t : TypeId) : Prop := w.heap[g]? = some (.cells vs.toArray t (0, 0))
/-- Of all blocks that there were only g may have turned. -/
structure But (g : Nat) (w w' : World) : Prop where
  os : w'.os = w.os
  tape : w'.tape = w.tape
  output : w'.output = w.output
  size : w.heap.size ≤ w'.heap.size
  block : ∀ k, k < w.heap.size → k ≠ g → w'.heap[k]? = w.heap[k]?
theorem heap_setCells (b : Nat) : ∀ (vs : List Value) (o : Nat) (w : World), (w.setCells b o vs).os = w.os ∧ (w.setCells b o vs).tape = w.tape ∧ (w.setCells b o vs).output = w.output ∧ (w.setCells b o vs).heap.size = w.heap.size ∧ ∀ k, k ≠ b → (w.setCells b o vs).heap[k]? = w.heap[k]?
  | [], _, _ => ⟨rfl, rfl, rfl, rfl, fun _ _ => rfl⟩
  | v :: r, o, w => by
    obtain ⟨h1, h2, h3, h4, h5⟩ := heap_setCells b r (o + 1) (w.setCell ⟨b, o, none⟩ v)
    refine ⟨h1, h2, h3, h4.trans (by simp [World.setCell]), fun k hk => (h5 k hk).trans (Below.heap_setCell _ _ _ _ hk)⟩
theorem heap_lt {w : World} {b : Nat} {o : Obj} (h : w.heap[b]? = some o) : b < w.heap.size := by
  rcases Nat.lt_or_ge b w.heap.size with hlt | hge
  · exact hlt
  · rw [Array.getElem?_eq_none hge] at h; cases h
section
variable {w w' w'' : World} {g B : Nat} {vs : List Value} {t : TypeId}
theorem Cells.cell (h : Cells w g vs t) (j : Nat) (hj : j < vs.length) : w.cell? ⟨g, j, none⟩ = some vs[j] := by
  rw [cell_of_row w g j _ _ _ h]
  simp [hj]
theorem Cells.get (h : Cells w g vs t) {j : Nat} {v : Value} (hj : vs[j]? = some v) : w.cell? ⟨g, j, none⟩ = some v := by
  rw [cell_of_row w g j _ _ _ h, List.getElem?_toArray, hj]
theorem Cells.lt (h : Cells w g vs t) : g < w.heap.size := heap_lt h
theorem Cells.below (h : Cells w g vs t) (hb : Below B w w') (hg : g < B) : Cells w' g vs t := (hb.block g hg).trans h
theorem Cells.frozen (h : Cells w g vs t) (j : Nat) : w.frozen? ⟨g, j, none⟩ = false := by
  unfold Cells at h
  simp [World.frozen?, h]
theorem Cells.set (h : Cells w g vs t) (j : Nat) (u : Value) : Cells (w.setCell ⟨g, j, none⟩ u) g (vs.set j u) t := by
  unfold Cells at h ⊢
  simp [World.setCell, Array.getElem?_modify, h]
theorem Cells.other (h : Cells w g vs t) {p : Addr} (hp : g ≠ p.block) (u : Value) : Cells (w.setCell p u) g vs t := (Below.heap_setCell _ _ _ _ hp).trans h
theorem Cells.drewN (h : Cells w g vs t) (n : Nat) : Cells (w.drewN n) g vs t := h
theorem Cells.drew (h : Cells w g vs t) : Cells w.drew g vs t := h
theorem Cells.alloc (h : Cells w g vs t) (o : Obj) : Cells (w.alloc o) g vs t := (Below.heap_alloc _ _ _ h.lt).trans h
theorem Cells.new (w : World) (vs : Array Value) (t : TypeId) : Cells (w.alloc (.cells vs t)) w.heap.size vs.toList t := by
  have := heap_alloc_new w (.cells vs t)
  unfold Cells
  rw [this]
theorem Cells.range (h : Cells w g vs t) (o n : Nat) : w.rangeAt g o ((vs.drop o).take n) := by
  intro j v hj
  rw [List.getElem?_take] at hj
  split at hj
  · rw [List.getElem?_drop] at hj
    exact h.get hj
  · cases hj
theorem Cells.there (h : Cells w g vs t) (o n : Nat) (hn : o + n ≤ vs.length) : w.there g o n := fun j hj =>
  ⟨by rw [h.cell (o + j) (by omega)]; rfl, h.frozen _⟩
/-- A piece of a list, written anew. -/
def splice (vs : List Value) (o : Nat) (cs : List Value) : List Value := vs.take o ++ cs ++ vs.drop (o + cs.length)
theorem splice_length (vs cs : List Value) (o : Nat) (h : o + cs.length ≤ vs.length) : (splice vs o cs).length = vs.length := by
  simp [splice]; omega
theorem set_splice (vs : List Value) (o : Nat) (u : Value) (cs : List Value) (h : o + 1 + cs.length ≤ vs.length) : splice (vs.set o u) (o + 1) cs = splice vs o (u :: cs) := by
  have e1 : (vs.set o u).take (o + 1) = vs.take o ++ [u] := by
    rw [List.take_succ_eq_append_getElem (by simp; omega), List.take_set_of_le (Nat.le_refl _)]
    simp
  have e2 : (vs.set o u).drop (o + 1 + cs.length) = vs.drop (o + (cs.length + 1)) := by
    rw [List.drop_set_of_lt (by omega)]
    congr 1; omega
  simp [splice, e1, e2]
theorem Cells.setCells : ∀ {cs : List Value} {w : World} {vs : List Value} {o : Nat}, Cells w g vs t → o + cs.length ≤ vs.length → Cells (w.setCells g o cs) g (splice vs o cs) t
  | [], w, vs, o, h, _ => by
    have e : splice vs o [] = vs := by simp [splice]
    rw [e]; exact h
  | u :: cs, w, vs, o, h, hl => by
    rw [← set_splice vs o u cs (by simp at hl; omega)]
    exact Cells.setCells (h.set o u) (by simp at hl ⊢; omega)
theorem Cells.otherCells (h : Cells w g vs t) {b : Nat} (hp : g ≠ b) (o : Nat) (cs : List Value) : Cells (w.setCells b o cs) g vs t := ((heap_setCells b cs o w).2.2.2.2 g hp).trans h
theorem But.refl (g : Nat) (w : World) : But g w w := ⟨rfl, rfl, rfl, Nat.le_refl _, fun _ _ _ => rfl⟩
theorem But.trans (h : But g w w') (k : But g w' w'') : But g w w'' :=
  ⟨k.os.trans h.os, k.tape.trans h.tape, k.output.trans h.output, Nat.le_trans h.size k.size, fun i hi hg => (k.block i (Nat.lt_of_lt_of_le hi h.size) hg).trans (h.block i hi hg)⟩
theorem But.of_below (h : Below w.heap.size w w') : But g w w' := ⟨h.os, h.tape, h.output, h.size, fun k hk _ => h.block k hk⟩
theorem But.below (h : But g w w') (hB : B ≤ g) (hw : B ≤ w.heap.size) : Below B w w' := ⟨h.os, h.tape, h.output, h.size, fun k hk => h.block k (by omega) (by omega)⟩
theorem But.drew (h : But g w w') : But g w w'.drew := ⟨h.os, h.tape, h.output, h.size, h.block⟩
theorem But.drewN (h : But g w w') (n : Nat) : But g w (w'.drewN n) := ⟨h.os, h.tape, h.output, h.size, h.block⟩
theorem But.setCell (h : But g w w') (j : Nat) (u : Value) : But g w (w'.setCell ⟨g, j, none⟩ u) :=
  h.trans ⟨rfl, rfl, rfl, by simp [World.setCell], fun k _ hk => Below.heap_setCell _ _ _ _ hk⟩
theorem But.alloc (h : But g w w') (o : Obj) : But g w (w'.alloc o) := h.trans ⟨rfl, rfl, rfl, by simp, fun k hk _ => Below.heap_alloc _ _ _ hk⟩
theorem But.setCells (h : But g w w') (o : Nat) (cs : List Value) : But g w (w'.setCells g o cs) := by
  obtain ⟨h1, h2, h3, h4, h5⟩ := heap_setCells g cs o w'
  exact h.trans ⟨h1, h2, h3, by rw [h4]; exact Nat.le_refl _, fun k _ hk => h5 k hk⟩
theorem below_setCells {B b : Nat} (h : Below B w w') (hb : B ≤ b) (o : Nat) (cs : List Value) : Below B w (w'.setCells b o cs) := by
  obtain ⟨h1, h2, h3, h4, h5⟩ := heap_setCells b cs o w'
  exact h.trans ⟨h1, h2, h3, by rw [h4]; exact Nat.le_refl _, fun k hk => h5 k (by omega)⟩
/-- A change of block b as well, where b is new. -/
theorem But.new (h : But g w w') {b : Nat} (hb : w.heap.size ≤ b) (k : But b w' w'') : But g w w'' :=
  ⟨k.os.trans h.os, k.tape.trans h.tape, k.output.trans h.output, Nat.le_trans h.size k.size, fun i hi hg => (k.block i (Nat.lt_of_lt_of_le hi h.size) (by omega)).trans (h.block i hi hg)⟩
theorem Cells.but (h : Cells w g vs t) {b : Nat} (hb : But b w w') (hg : g ≠ b) : Cells w' g vs t := (hb.block g h.lt hg).trans h
theorem Row.but {A : Option Addr} {bs : List UInt8} {b : Nat} (h : Row w w.heap.size A bs) (hb : But b w w') (hg : bs ≠ [] → ∀ p, A = some p → p.block ≠ b) : Row w' w'.heap.size A bs := by
  rcases h with rfl | ⟨b', off, rfl, hb', hc⟩
  · exact .inl rfl
  · refine .inr ⟨b', off, rfl, Nat.lt_of_lt_of_le hb' hb.size, fun j u hu => ?_⟩
    have hne : bs ≠ [] := fun e => by subst e; simp at hu
    rw [World.cell?_of_block (w := w) (hb.block b' hb' (hg hne _ rfl))]
    exact hc j u hu
/-- A region whose head only reads and calls quietly, and whose tail comes in the text's order: the drawn world under a name. -/
theorem wp_region_tail {P : Program} {id : Nat} {Q : Exit → Act → World → Prop} {a : Act} {w : World} {l : List Oper} (n : Nat) (hm : P.follows .mixedOrders = true) (hB : Region.lexTailB .any l.toArray n = true)
    (h : ∀ w1, w1 = w.drew → wpStill P l.toArray w1 (fun a' => wpList P l.toArray Q (l.drop n) a' w1) (l.take n) a) : (Code.region id l.toArray true).wp P Q a w := wp_region_still_tail n hm hB (h _ rfl)
end
section
variable {P : Program} {w : World} {ops : Array Oper} {rest : List Oper} {o : Oper} {a : Act} {Q : Exit → Act → World → Prop}
/-- A literal of a struct or an array. -/
theorem build_step (hgd : o.guard = none) (t : TypeId) (parts : List (Nat × Operand)) (ho : o.op = .build t parts.toArray) (ps : List (Nat × Value)) (hp : (parts.map fun (i, x) => (i, a.eval x)) = ps) (v : Value) (hr : ∀ w, (Instr.build t ps.toArray).run P w = .ok v w)
    (h : wpList P ops Q rest (a.put o.dst v) w) : wpList P ops Q (o :: rest) a w := by
  refine wpList_plain hgd fun K hK => ?_
  unfold Oper.wp
  simp only [execOp, ho, List.map_toArray, hp, hr, Sem.run_bind, Sem.run_pure, Result.andThen_ok]
  exact hK _ _ h
/-- A literal of a slice. -/
theorem slice_step (hgd : o.guard = none) (t : TypeId) (n : Nat) (parts : List (Nat × Operand)) (ho : o.op = .buildSlice t n parts.toArray) (ps : List (Nat × Value)) (hp : (parts.map fun (i, x) => (i, a.eval x)) = ps) (e : TypeId) (vs : Array Value)
    (hr : ∀ w, (Instr.buildSlice t n ps.toArray).run P w = .ok (.slice (some ⟨w.heap.size, 0, none⟩) n n) (w.alloc (.cells vs e)))
    (h : ∀ w', w' = w.alloc (.cells vs e) → wpList P ops Q rest (a.put o.dst (.slice (some ⟨w.heap.size, 0, none⟩) n n)) w') : wpList P ops Q (o :: rest) a w := by
  refine wpList_plain hgd fun K hK => ?_
  unfold Oper.wp
  simp only [execOp, ho, List.map_toArray, hp, hr, Sem.run_bind, Sem.run_pure, Result.andThen_ok]
  exact hK _ _ (h _ rfl)
/-- A new variable of a type whose zero value is known whole. -/
theorem alloc_step (hgd : o.guard = none) (t : TypeId) (ho : o.op = .alloc t) (vs : Array Value) (hz : ∀ w, (zeroValue t).run P w = .ok (.agg vs) w)
    (h : ∀ w', w' = w.alloc (.cells vs t) → wpList P ops Q rest (a.put o.dst (.pointer (some ⟨w.heap.size, 0, none⟩))) w') : wpList P ops Q (o :: rest) a w := by
  refine wpList_plain hgd fun K hK => ?_
  unfold Oper.wp
  simp only [execOp, ho, Instr.alloc, hz, newVar, Value.cells, Sem.run_bind, Sem.run_pure, Result.andThen_ok, go_sem]
  exact hK _ _ (h _ rfl)
/-- An integer stored into one cell. -/
theorem store_step (hgd : o.guard = none) (t : TypeId) (x y : Operand) (ho : o.op = .store t x y) (g j : Nat) (ik : IntKind) (z : Int) (hx : a.eval x = .pointer (some ⟨g, j, none⟩)) (hy : a.eval y = .int ik z) (hs : (P.info? t).map (·.size) = some 1) (ht : w.there g j 1)
    (h : ∀ w', w' = w.setCell ⟨g, j, none⟩ (.int ik z) → wpList P ops Q rest (a.put o.dst undef) w') : wpList P ops Q (o :: rest) a w := by
  refine wpList_plain hgd fun K hK => ?_
  obtain ⟨i0, hi0, hs0⟩ := Option.map_eq_some_iff.1 hs
  have hst := run_storeCells_cells (P := P) g j [.int ik z] 0 w (fun i hi => by simpa using (ht i hi).1) (fun i hi => by simpa using (ht i hi).2) (by intro v hv; cases List.mem_singleton.1 hv; rfl)
  have hrun : (Instr.storeAt t (.pointer (some ⟨g, j, none⟩)) (.int ik z)).run P w = .ok () (w.setCell ⟨g, j, none⟩ (.int ik z)) := by
    simp only [Instr.storeAt, Instr.sureAddr, Sem.run_bind, Sem.run_pure, Result.andThen_ok]
    simp [storeVar, sizeOf, typeInfo, hi0, hs0, Value.cells, hst, World.setCells]
  unfold Oper.wp
  simp only [execOp, ho, hx, hy, hrun, Sem.run_bind, Sem.run_pure, Result.andThen_ok]
  exact hK _ _ (h _ rfl)
/-- A value laid into a new variable. -/
theorem box_step (hgd : o.guard = none) (t : TypeId) (x : Operand) (ho : o.op = .box t x) (vs : Array Value) (hx : a.eval x = .agg vs)
    (h : ∀ w', w' = w.alloc (.cells vs t) → wpList P ops Q rest (a.put o.dst (.pointer (some ⟨w.heap.size, 0, none⟩))) w') : wpList P ops Q (o :: rest) a w := by
  refine wpList_plain hgd fun K hK => ?_
  unfold Oper.wp
  simp only [execOp, ho, hx, Instr.box]
  simp only [newVar, Value.cells, Sem.run_bind, Sem.run_pure, Result.andThen_ok, go_sem]
  exact hK _ _ (h _ rfl)
end
/-- 'a[i]' of an array of integers by value. -/
theorem run_index_int {P : Program} {t e : TypeId} {n : Nat} {ik : IntKind} (vs : List Value) (k : Nat) (v : Value) (w : World) (hu : P.underlying t = some (.array n e)) (he : P.underlying e = some (.int ik)) (hs : (P.info? e).map (·.size) = some 1) (hk : k < n) (hv : vs[k]? = some v) :
    (Instr.index t (.agg vs.toArray) (.int .i64 (k : Int))).run P w = .ok v w := by
  cases hq : P.info? e with
  | none => simp [hq] at hs
  | some i =>
    have hs1 : i.size = 1 := by simpa [hq] using hs
    simp [Instr.index, run_underlying hu, asIntOf, hk, part, isAgg, run_underlying he, sizeOf, typeInfo, hq, hs1, hv, go_sem]
theorem Row.butB {w w' : World} {B g : Nat} {A : Option Addr} {bs : List UInt8} (h : Row w B A bs) (hb : But g w w') (hg : B ≤ g) (hw : B ≤ w.heap.size) : Row w' B A bs :=
  h.keep fun p hp => World.cell?_of_block (w := w) (hb.block p.block (by omega) (by omega))
/-- A row below B lies in no block from B on. -/
theorem Row.apart {w : World} {B g : Nat} {A : Option Addr} {bs : List UInt8} (h : Row w B A bs) (hg : B ≤ g) : bs ≠ [] → ∀ p, A = some p → p.block ≠ g := by
  intro hne p hp
  rcases h with rfl | ⟨b, off, rfl, hb, _⟩
  · exact absurd rfl hne
  · cases hp; show b ≠ g; omega
theorem splice_all (vs cs : List Value) (h : cs.length = vs.length) : splice vs 0 cs = cs := by simp [splice, h]
/-- A function whose result lies in a block of its own, a whole array or struct. -/
theorem ret_block {P : Program} {fn : Func} {R : Ending → World → Prop} {a : Act} {w : World} {p : Tmp} {ty : TypeId} {d : TypeDesc} (hres : fn.results = #[.cell p ty]) (g : Nat) (vs : List Value) (t : TypeId)
    (hp : a.tmps.getD p undef = .pointer (some ⟨g, 0, none⟩)) (hg : Cells w g vs t) (hu : P.underlying ty = some d) (hd : (match d with | .struct _ | .array _ _ => true | _ => false) = true) (hi : (P.info? ty).map (·.size) = some vs.length)
    (hdf : a.defers = []) (hR : R (.returned (.agg vs.toArray)) w) : bodyPost P fn R .ret a w :=
  bodyPost_ret (results_cell_row hres a.tmps w g t vs.toArray (0, 0) d hp hg hu hd (by simpa using hi)) hdf hR
theorem set_nextV {α : Type} (l : List α) (k n : Nat) (u z : α) (hl : l.length = k) (hk : k < n) : (l ++ List.replicate (n - k) z).set k u = l ++ [u] ++ List.replicate (n - (k + 1)) z := by
  obtain ⟨m, hm⟩ : ∃ m, n - k = m + 1 := ⟨n - k - 1, by omega⟩
  rw [hm, show n - (k + 1) = m by omega, List.set_append_right _ _ (by omega), hl, Nat.sub_self, List.replicate_succ]
  simp
theorem Row.piece {w : World} {B b off : Nat} {bs : List UInt8} (h : Row w B (some ⟨b, off, none⟩) bs) (i n : Nat) : Row w B (some ⟨b, off + i, none⟩) ((bs.drop i).take n) := by
  rcases h with rfl | ⟨b', off', hA, hb, hc⟩
  · exact .inl (by simp)
  · cases hA
    refine .inr ⟨b, off + i, rfl, hb, fun j u hu => ?_⟩
    rw [List.getElem?_take] at hu
    split at hu
    · rw [List.getElem?_drop] at hu
      rw [Nat.add_assoc]
      exact hc (i + j) u hu
    · cases hu
end Go.Proofs.YtejcbboajikdkaaDoor
namespace Go.Proofs.YtejcbboajikdkaaDoor
open Go.RowKit
theorem size_u8 : (Tryd.prog.info? 5).map (·.size) = some 1 := by kernel_rfl
theorem cells8_one (us : List UInt8) : ∀ v ∈ us.map cellOf, v.oneCell' = true := by
  intro v hv
  obtain ⟨x, _, rfl⟩ := List.mem_map.1 hv
  rfl
/-- 'copy(dst, src)', both rows of bytes, dst's room known. -/
theorem copy_row {w : World} {ops : Array Oper} {rest : List Oper} {o : Oper} {a : Act} {Q : Exit → Act → World → Prop} (hgd : o.guard = none) (d s : Operand)
    (ho : o.op = .call { callee := .builtin .copy, args := #[d, s], argTypes := #[26, 26] }) (g off dLen dCap sLen sCap B m : Nat) (A : Option Addr) (us : List UInt8) (hd : a.eval d = .slice (some ⟨g, off, none⟩) dLen dCap) (hs : a.eval s = .slice A sLen sCap)
    (hl : us.length = sLen) (hm : min sLen dLen = m) (hr : Row w B A us) (ht : w.there g off m) (h : ∀ w', w' = w.setCells g off ((us.take dLen).map cellOf) → wpList Tryd.prog ops Q rest (a.put o.dst (.int .i64 (m : Int))) w') : wpList Tryd.prog ops Q (o :: rest) a w := by
  subst hm
  replace h := h _ rfl
  have hlen : ((us.take dLen).map cellOf).length = Nat.min sLen dLen := by rw [List.length_map, List.length_take, hl, Nat.min_comm]
  by_cases h0 : Nat.min sLen dLen = 0
  · have e : (us.take dLen).map cellOf = [] := List.eq_nil_of_length_eq_zero (hlen.trans h0)
    refine wpList_copy_nothing hgd d s _ _ ho 5 Tryd.underlying26 size_u8 _ _ _ _ _ _ hd hs h0 ?_
    rw [e] at h
    have e2 : (min sLen dLen : Nat) = 0 := h0
    rw [e2] at h
    exact h
  · have hpos : us ≠ [] := by
      intro e
      subst e
      simp at hl
      subst hl
      simp at h0
    rcases hr with e | ⟨b, bo, rfl, hb, hc⟩
    · exact absurd e hpos
    · refine wpList_plain hgd fun K hK => ?_
      have hrun := run_copy_cells (P := Tryd.prog) w 26 26 o.type 5 g off dLen dCap ⟨b, bo, none⟩ sLen sCap ((us.take dLen).map cellOf) Tryd.underlying26 size_u8 hlen (fun j v hj => by
        rw [Addr.add_mid]
        rw [List.getElem?_map] at hj
        cases hu : (us.take dLen)[j]? with
        | none => rw [hu] at hj; cases hj
        | some u =>
          rw [hu] at hj
          cases hj
          refine hc j u ?_
          rw [List.getElem?_take] at hu
          split at hu
          · exact hu
          · cases hu) (fun j hj => (ht j (by rw [hlen] at hj; exact hj)).1) (fun j hj => (ht j (by rw [hlen] at hj; exact hj)).2) (cells8_one _)
      unfold Oper.wp
      simp only [execOp, ho, resolve, invoke, builtin, Sem.run_bind, Sem.run_pure, Result.andThen_ok, List.map_toArray, List.map_cons, List.map_nil, hd, hs, hrun]
      have e3 : goInt (((us.take dLen).map cellOf).length : Int) = .int .i64 ((min sLen dLen : Nat) : Int) := by rw [hlen]; rfl
      rw [e3]
      exact hK _ _ h
/-- Where a slice lies that is cut at l: at its room's end the address stays. -/
def cutA (A : Option Addr) (l cap : Nat) : Option Addr := if cap = l then A else A.map (·.add l)
theorem Row.cut {w : World} {B : Nat} {A : Option Addr} {us : List UInt8} (h : Row w B A us) (l cap : Nat) (hl : us.length ≤ cap) : Row w B (cutA A l cap) (us.drop l) := by
  unfold cutA
  split
  · exact .inl (List.drop_eq_nil_of_le (by omega))
  · rcases h with rfl | ⟨b, off, rfl, hb, hc⟩
    · exact .inl (by simp)
    · refine .inr ⟨b, off + l, by simp [Addr.add_mid], hb, fun j u hu => ?_⟩
      rw [List.getElem?_drop] at hu
      rw [Nat.add_assoc]
      exact hc (l + j) u hu
theorem cutA_block {A : Option Addr} {l cap : Nat} {p : Addr} (h : cutA A l cap = some p) : ∃ q, A = some q ∧ p.block = q.block := by
  unfold cutA at h
  split at h
  · exact ⟨p, h, rfl⟩
  · cases A with
    | none => cases h
    | some q =>
      simp only [Option.map_some, Option.some.injEq] at h
      refine ⟨q, rfl, ?_⟩
      rw [← h]
      unfold Addr.add
      split <;> rfl
theorem cutA_none {A : Option Addr} {l cap : Nat} (h : cutA A l cap = none) : A = none := by
  unfold cutA at h
  split at h
  · exact h
  · cases A with
    | none => rfl
    | some q => cases h
/-- 'b[l:]'. -/
theorem cut_from {w : World} {ops : Array Oper} {rest : List Oper} {o : Oper} {a : Act} {Q : Exit → Act → World → Prop} (hgd : o.guard = none) (x y : Operand) (ho : o.op = .slice 26 x (some y) none none)
    (A : Option Addr) (len cap l : Nat) (hx : a.eval x = .slice A len cap) (hy : a.eval y = .int .i64 (l : Int)) (hl : l ≤ len)
    (h : wpList Tryd.prog ops Q rest (a.put o.dst (.slice (cutA A l cap) (len - l) (cap - l))) w) : wpList Tryd.prog ops Q (o :: rest) a w := by
  refine wpList_plain hgd fun K hK => ?_
  obtain ⟨i0, hi0, hs0⟩ := Option.map_eq_some_iff.1 size_u8
  have hrun : (Instr.sliceAt 26 (.slice A len cap) (some (.int .i64 (l : Int))) none none).run Tryd.prog w = .ok (.slice (cutA A l cap) (len - l) (cap - l)) w := by
    have hu : Tryd.prog.underlying 26 = some (.slice 5) := Tryd.underlying26
    have h1 : (Instr.sliceAt 26 (.slice A len cap) (some (.int .i64 (l : Int))) none none).run Tryd.prog w = (Instr.slice 26 (.slice A len cap) (some (.int .i64 (l : Int))) none none).run Tryd.prog w := by
      simp [Instr.sliceAt, run_underlying hu]
    rw [h1]
    have hl' : (l : Int) ≤ (len : Int) := by omega
    simp [Instr.slice, run_underlying hu, Instr.sliceBounds, run_sliceBound, hl, sizeOf, typeInfo, hi0, hs0, cutA]
  unfold Oper.wp
  simp only [execOp, ho, hx, hy, Option.map_some, Option.map_none, hrun, Sem.run_bind, Sem.run_pure, Result.andThen_ok]
  exact hK _ _ h
end Go.Proofs.YtejcbboajikdkaaDoor
namespace Go.Proofs.YtejcbboajikdkaaDoor
open Go.RowKit
/-- The slice v is a row of the call's own (blocks from base on) that begins with these bytes. -/
def Owns (w : World) (base : Nat) (v : Value) (bs : List UInt8) : Prop := w.ownsRow base 5 1 v bs.length (bs.map cellOf)
section
variable {w w' : World} {base : Nat} {v : Value} {bs : List UInt8}
theorem Owns.kept_alloc (h : Owns w base v bs) (o : Obj) : Owns (w.alloc o) base v bs := World.ownsRow.alloc h o
theorem Owns.drewN (h : Owns w base v bs) (n : Nat) : Owns (w.drewN n) base v bs := h
theorem Owns.drew (h : Owns w base v bs) : Owns w.drew base v bs := h
theorem Owns.made (w : World) (c : Nat) (hb : base ≤ w.heap.size) (hc : c ≤ 1000000) : Owns (w.alloc (.cells (rowCells (List.replicate c 0)) 5)) base (.slice (some ⟨w.heap.size, 0, none⟩) 0 c) [] :=
  World.ownsRow_made w _ c hb (by simp only [maxLen]; omega) (by simp [rowCells])
theorem Owns.lit (w : World) (bs : List UInt8) (hb : base ≤ w.heap.size) (hc : bs.length ≤ 1000000) : Owns (w.alloc (.cells (rowCells bs) 5)) base (.slice (some ⟨w.heap.size, 0, none⟩) bs.length bs.length) bs := by
  have h := World.ownsRow_lit (base := base) (e := 5) (size := 1) w (rowCells bs) bs.length hb (by simp only [maxLen]; omega) (by simp [rowCells])
  simp only [rowCells] at h ⊢
  exact h
theorem Owns.form (h : Owns w base v bs) : ∃ A c, v = .slice A bs.length c ∧ bs.length ≤ c ∧ (A = none → c = 0) ∧ Row w w.heap.size A bs := by
  rcases h.2 with ⟨rfl, hn⟩ | ⟨g, cap, cur, rfl, hb, hg, hnc, _⟩
  · have : bs = [] := List.eq_nil_of_length_eq_zero hn
    subst this
    exact ⟨none, 0, rfl, Nat.le_refl _, fun _ => rfl, .inl rfl⟩
  · refine ⟨_, cap, rfl, hnc, (fun h => by cases h), .inr ⟨g, 0, rfl, (World.ownsRow.lt h g rfl).2, fun j u hu => ?_⟩⟩
    have := World.ownsRow.cells h (g := g) rfl j (cellOf u) (by rw [List.getElem?_map, hu]; rfl)
    rwa [Go.WideShapes.add_plain] at this
theorem Owns.form_pos (h : Owns w base v bs) (hp : 0 < bs.length) : ∃ g c, v = .slice (some ⟨g, 0, none⟩) bs.length c ∧ bs.length ≤ c ∧ c ≤ maxLen ∧ base ≤ g ∧ Row w w.heap.size (some ⟨g, 0, none⟩) bs := by
  rcases h.2 with ⟨rfl, hn⟩ | ⟨g, cap, cur, rfl, hb, hg, hnc, hcm, _⟩
  · omega
  · refine ⟨g, cap, rfl, hnc, hcm, hb, .inr ⟨g, 0, rfl, (World.ownsRow.lt h g rfl).2, fun j u hu => ?_⟩⟩
    have := World.ownsRow.cells h (g := g) rfl j (cellOf u) (by rw [List.getElem?_map, hu]; rfl)
    rwa [Go.WideShapes.add_plain] at this
theorem Owns.far (h : Owns w base v bs) : ∀ k, v.ownBlock = some k → base ≤ k := fun k hk => (World.ownsRow.lt h k hk).1
end
/-- 'append(out, b...)', b a row of bytes. -/
theorem append_row {w : World} {ops : Array Oper} {rest : List Oper} {o : Oper} {a : Act} {Q : Exit → Act → World → Prop} (hgd : o.guard = none) (s x : Operand)
    (ho : o.op = .call { callee := .builtin .append, args := #[s, x], argTypes := #[26, 26] }) (base : Nat)
    (v : Value) (bs us : List UInt8) (B : Nat) (A : Option Addr) (c : Nat) (hs : a.eval s = v) (hown : Owns w base v bs) (hx : a.eval x = .slice A us.length c) (hA : A = none → c = 0) (hr : Row w B A us)
    (hlen : bs.length + us.length ≤ 1000000) (hbase : base ≤ w.heap.size)
    (h : ∀ v' w', Owns w' base v' (bs ++ us) → Below base w w' → wpList Tryd.prog ops Q rest (a.put o.dst v') w') : wpList Tryd.prog ops Q (o :: rest) a w := by
  obtain ⟨i0, hi0, hz0, hz1, hz2⟩ := info_parts u8_info
  rcases A with _ | ad
  · have : us = [] := by
      rcases hr with h | ⟨_, _, h, _⟩
      · exact h
      · cases h
    subst this
    rw [hA rfl] at hx
    exact wpList_append_own_none hgd s x 26 ho base 5 i0 1 Tryd.underlying26 hi0 v bs.length (bs.map cellOf) hs hown hx (h v w (by simpa using hown) (Below.refl _ _))
  · refine wpList_append_own w hgd s x 26 ho base 5 i0 _ 1 1 Tryd.underlying26 hi0 hz0 hz1 hz2 rfl (by omega) v bs.length (bs.map cellOf) hs hown ad us.length c (us.map cellOf) hx (by simp) ?_ ?_ (by simp only [maxLen]; omega) (by omega) hbase ?_
    · intro j u hu
      rw [List.getElem?_map] at hu
      cases hj : us[j]? with
      | none => rw [hj] at hu; cases hu
      | some q =>
        rw [hj] at hu
        rcases hr with rfl | ⟨b, off, hb1, _, hc⟩
        · simp at hj
        · cases hb1
          rw [Go.WideShapes.add_plain, hc j q hj]
          exact hu
    · intro u hu
      obtain ⟨q, _, rfl⟩ := List.mem_map.1 hu
      rfl
    · intro v' w' h2 h3 _
      refine h v' w' ?_ ((Below.refl _ _).grown h3 hbase (fun k hk => hown.far k hk))
      unfold Owns
      simpa using h2
/-- The verifier's marks behind a copy. -/
def marks : List UInt8 := [201, 202, 203, 204, 205, 206]
/-- What 'Bytes' answers: a copy of these bytes in a new row, with the marks behind it. -/
def Copied (w : World) (bs : List UInt8) (e : Ending) (w' : World) : Prop :=
  ∃ g cap, e = .returned (.slice (some ⟨g, 0, none⟩) bs.length cap) ∧ bs.length + 6 ≤ cap ∧ cap ≤ maxLen ∧ w.heap.size ≤ g ∧ Row w' w'.heap.size (some ⟨g, 0, none⟩) (bs ++ marks) ∧ Below w.heap.size w w'
set_option maxRecDepth 100000 in
theorem bytes_any (A : Option Addr) (c : Nat) (bs : List UInt8) (w : World) (hr : Row w w.heap.size A bs) (hA : A = none → c = 0) (hn : bs.length ≤ 100000) :
    Calls Tryd.prog 13 #[.slice A bs.length c] w (Copied w bs) := by
  have hmk := make_bytes 0 (bs.length + 6) (by omega) (by omega)
  have e1 : ((bs.length + 6 : Nat) : Int) = (bs.length : Int) + 6 := by omega
  have e0 : ((0 : Nat) : Int) = 0 := rfl
  rw [e1, e0] at hmk
  clear e1 e0
  go_enter Tryd.func13, Tryd.ntmps13
  have hM : ∀ W : World, Row (W.alloc (.cells #[.int .u8 201, .int .u8 202, .int .u8 203, .int .u8 204, .int .u8 205, .int .u8 206] 5)) (W.heap.size + 1) (some ⟨W.heap.size, 0, none⟩) marks := fun W =>
    (Made.new W marks).row (by omega)
  have HM := Lib.hid hM
  clear hM
  go_wp2_with (first
    | (at_builtin
       refine append_row rfl (.tmp 7) (.tmp 8) rfl w.heap.size _ [] bs w.heap.size A c rfl (Owns.made w (bs.length + 6) (Nat.le_refl _) (by omega)) rfl hA (hr.below ((Below.refl _ _).alloc (Nat.le_refl _) _)) (by simp; omega) (by simp) ?_
       intro v1 w1 hown1 hB1)
    | (at_builtin
       refine append_row rfl (.tmp 9) (.tmp 10) rfl w.heap.size _ ([] ++ bs) marks (w1.heap.size + 1) (some ⟨w1.heap.size, 0, none⟩) 6 rfl (hown1.kept_alloc _) rfl (fun h => by cases h) (HM.out w1) (by simp [marks]; omega) ?_ ?_
       · have := hB1.size; simp at this ⊢; omega
       intro v2 w2 hown2 hB2
       obtain ⟨g, cap, hv, hc1, hc2, hg, hrow⟩ := hown2.form_pos (by simp [marks])
       subst hv
       have hc3 : bs.length + 6 ≤ cap := by simpa [marks] using hc1))
  go_ret
  have hB3 : Below w.heap.size w w1 := ((Below.refl _ _).alloc (Nat.le_refl _) _).trans hB1
  exact ⟨g, cap, rfl, hc3, hc2, hg, by simpa using hrow, (hB3.alloc hB3.size _).trans hB2⟩
set_option maxRecDepth 100000 in
theorem kept_any (A : Option Addr) (g cap c : Nat) (bs : List UInt8) (w : World) (hr : Row w w.heap.size (some ⟨g, 0, none⟩) (bs ++ marks)) (hw : Row w w.heap.size A bs) (hc1 : bs.length + 6 ≤ cap) (hc2 : cap ≤ maxLen) (hn : bs.length ≤ 100000) :
    Calls Tryd.prog 16 #[.slice (some ⟨g, 0, none⟩) bs.length cap, .slice A bs.length c] w fun e w' => e = .returned (.bool true) ∧ ∃ n, w' = w.drewN n := by
  unfold maxLen at hc2
  have k1 := fun n => ((hr.take bs.length).drewN n).conv (P := Tryd.prog) cap Tryd.underlying26 Tryd.underlying5 Tryd.underlying9
  rw [List.take_left' rfl] at k1
  have k2 := fun n => (hw.drewN n).conv (P := Tryd.prog) c Tryd.underlying26 Tryd.underlying5 Tryd.underlying9
  have g1 : decide ((cap : Int) < (bs.length : Int) + 6) = false := by simp; omega
  go_enter Tryd.func16, Tryd.ntmps16
  have mk : ∀ k : Nat, k < 6 → w.cell? ⟨g, bs.length + k, none⟩ = some (.int .u8 ((201 : Int) + k)) := by
    intro k hk
    rcases hr with h | ⟨b, off, h, _, hc⟩
    · simp [marks] at h
    · cases h
      have h2 := hc (bs.length + k) (UInt8.ofNat (201 + k)) (by
        rw [List.getElem?_append_right (by omega), Nat.add_sub_cancel_left]
        match k, hk with
        | 0, _ => rfl
        | 1, _ => rfl
        | 2, _ => rfl
        | 3, _ => rfl
        | 4, _ => rfl
        | 5, _ => rfl)
      rw [Nat.zero_add] at h2
      have e : (UInt8.ofNat (201 + k)).toNat = 201 + k := by rw [UInt8.toNat_ofNat']; omega
      rw [h2]
      simp only [cellOf, e]
      congr 2
  have MK := Lib.hid mk
  clear mk
  go_wp2
  go_quiet (fail)
  go_wp2
  go_loop [6] (fun i => ∃ k : Nat, k ≤ 6 ∧ i = .int .i64 k) (fun i => 6 - (intOf i).toNat)
  case atStart => exact ⟨0, by omega, rfl⟩
  case round =>
    obtain ⟨k, hk, rfl⟩ := hrel
    by_cases hlt : k < 6
    · have hc := MK.out k hlt
      have w1 : IntKind.u8.wrap (201 + (k : Int)) = 201 + (k : Int) := by rw [IntKind.wrap_u8']; omega
      have i1 : (0 : Int) ≤ (bs.length : Int) + k := by omega
      have i2 : (bs.length : Int) + (k : Int) < (cap : Int) := by omega
      have i3 : ((bs.length : Int) + k).toNat = bs.length + k := by omega
      go_wp2
      go_round
      case rel => exact ⟨k + 1, by omega, by go_num⟩
      case measure => simp [intOf]; omega
    · go_wp2
      go_ret
      exact ⟨rfl, _, rfl⟩
/-- What a call answers that makes a row of these bytes. -/
def GivesRow (w : World) (bs : List UInt8) (e : Ending) (w' : World) : Prop :=
  ∃ A c, e = .returned (.slice A bs.length c) ∧ (A = none → c = 0) ∧ Below w.heap.size w w' ∧ Row w' w'.heap.size A bs
/- The same contracts, the length a letter of its own. -/
def CopiedN (w : World) (bs : List UInt8) (n : Nat) (e : Ending) (w' : World) : Prop :=
  ∃ g cap, e = .returned (.slice (some ⟨g, 0, none⟩) n cap) ∧ n + 6 ≤ cap ∧ cap ≤ maxLen ∧ w.heap.size ≤ g ∧ Row w' w'.heap.size (some ⟨g, 0, none⟩) (bs ++ marks) ∧ Below w.heap.size w w'
def GivesRowN (w : World) (bs : List UInt8) (n : Nat) (e : Ending) (w' : World) : Prop :=
  ∃ A c, e = .returned (.slice A n c) ∧ (A = none → c = 0) ∧ Below w.heap.size w w' ∧ Row w' w'.heap.size A bs
section
variable {A B : Option Addr} {c d n : Nat} {xs ys : List UInt8} {w : World}
theorem bytes_n (hx : xs.length = n) (hr : Row w w.heap.size A xs) (hA : A = none → c = 0) (hn : n ≤ 100000) : Calls Tryd.prog 13 #[.slice A n c] w (CopiedN w xs n) := by
  subst hx; exact bytes_any A c xs w hr hA hn
theorem kept_n {g cap : Nat} (hx : xs.length = n) (hr : Row w w.heap.size (some ⟨g, 0, none⟩) (xs ++ marks)) (hw : Row w w.heap.size A xs) (hc1 : n + 6 ≤ cap) (hc2 : cap ≤ maxLen) (hn : n ≤ 100000) :
    Calls Tryd.prog 16 #[.slice (some ⟨g, 0, none⟩) n cap, .slice A n c] w fun e w' => e = .returned (.bool true) ∧ ∃ n, w' = w.drewN n := by
  subst hx; exact kept_any A g cap c xs w hr hw hc1 hc2 hn
/-- 'string(b)' in every world in which nothing old has turned. -/
theorem conv_n (hx : xs.length = n) (h : Row w w.heap.size A xs) (c : Nat) : ∀ w' : World, Below w.heap.size w w' → (convert 26 9 (.slice A n c)).run Tryd.prog w' = .ok (.string (str xs)) w' := by
  subst hx
  exact fun _ hb => (h.below hb).conv c Tryd.underlying26 Tryd.underlying5 Tryd.underlying9
end
theorem Row.head {w : World} {B : Nat} {A : Option Addr} {xs ys : List UInt8} (h : Row w B A (xs ++ ys)) : Row w B A xs := by
  have h := h.take xs.length
  rwa [List.take_left' rfl] at h
end Go.Proofs.YtejcbboajikdkaaDoor
namespace Go.Proofs.YtejcbboajikdkaaDoor
open Go.RowKit
/-- A number's i-th byte from the low end; its k low bytes, the low one first. -/
def byteAt (x i : Nat) : UInt8 := UInt8.ofNat (x / 256 ^ i)
def putL (x k : Nat) : List UInt8 := (List.range k).map (byteAt x)
theorem putL_length (x k : Nat) : (putL x k).length = k := by simp [putL]
theorem putL_succ (x k : Nat) : putL x (k + 1) = putL x k ++ [byteAt x k] := by simp [putL, List.range_succ]
theorem pow_8 (i : Nat) : 2 ^ (8 * i) = 256 ^ i := by rw [Nat.pow_mul]
theorem byte_shr (x i : Nat) : (x : Int) / 2 ^ (8 * i) % 256 = ((byteAt x i).toNat : Int) := by
  rw [pow_cast, pow_8, ← Int.natCast_ediv, byteAt, UInt8.toNat_ofNat']
  omega
theorem byte_mod (x i : Nat) : ((x / 256 ^ i : Nat) : Int) % 256 = ((byteAt x i).toNat : Int) := by
  rw [byteAt, UInt8.toNat_ofNat']
  omega
theorem bigN_fold (l : List UInt8) : ∀ a : Nat, l.foldl (fun x b => x * 256 + b.toNat) a = a * 256 ^ l.length + bigN l := by
  induction l with
  | nil => intro a; simp [bigN]
  | cons u l ih =>
    intro a
    rw [List.foldl_cons, ih, show bigN (u :: l) = (u :: l).foldl (fun x b => x * 256 + b.toNat) 0 from rfl, List.foldl_cons, ih, List.length_cons, Nat.pow_succ, Nat.add_mul, Nat.zero_mul, Nat.zero_add, Nat.mul_assoc, Nat.mul_comm 256, Nat.add_assoc]
theorem bigN_cons (u : UInt8) (l : List UInt8) : bigN (u :: l) = u.toNat * 256 ^ l.length + bigN l := by
  rw [show bigN (u :: l) = (u :: l).foldl (fun x b => x * 256 + b.toNat) 0 from rfl, List.foldl_cons, bigN_fold, Nat.zero_mul, Nat.zero_add]
theorem refbig_round (l : List UInt8) (k : Nat) (hk : k < l.length) (hn : l.length ≤ 8) :
    IntKind.u64.wrap (IntKind.u64.wrap ((bigN (l.take k) : Int) * 256) + IntKind.u64.wrap (l[k].toNat : Int)) = (bigN (l.take (k + 1)) : Int) := by
  have h1 := bigN_lt (l.take k)
  have h2 : 256 ^ (l.take k).length ≤ 256 ^ 7 := pow256_le (by rw [List.length_take]; omega)
  have h3 := l[k].toNat_lt
  rw [take_snoc l k hk, bigN_snoc]
  generalize bigN (l.take k) = a at *
  generalize l[k].toNat = u at *
  rw [IntKind.wrap_u64, IntKind.wrap_u64, IntKind.wrap_u64]
  omega
theorem little_round (l : List UInt8) (k : Nat) (hk : k < l.length) (hn : l.length ≤ 8) :
    bits .or .u64 (bigN (l.take k).reverse : Int) (IntKind.u64.wrap (IntKind.u64.wrap (l[k].toNat : Int) * 2 ^ (8 * k))) = (bigN (l.take (k + 1)).reverse : Int) := by
  have h1 := bigN_lt (l.take k).reverse
  have hlk : (l.take k).reverse.length = k := by rw [List.length_reverse, List.length_take]; omega
  have h3 := l[k].toNat_lt
  rw [take_snoc l k hk, List.reverse_append, List.reverse_singleton, List.singleton_append, bigN_cons, hlk]
  rw [hlk] at h1
  have hp : 256 ^ k ≤ 256 ^ 7 := pow256_le (by omega)
  generalize bigN (l.take k).reverse = a at *
  generalize l[k].toNat = u at *
  have hu : u * 256 ^ k ≤ 255 * 256 ^ k := Nat.mul_le_mul_right _ (by omega)
  have e : IntKind.u64.wrap (IntKind.u64.wrap (u : Int) * 2 ^ (8 * k)) = ((u * 256 ^ k : Nat) : Int) := by
    rw [IntKind.wrap_u64, IntKind.wrap_u64, show (u : Int) % 18446744073709551616 = (u : Int) by omega, pow_cast, pow_8, ← Int.natCast_mul]
    omega
  rw [e, u64_or_nat _ _ (by omega) (by omega), Nat.or_comm, nat_join (8 * k) _ _ (by rw [pow_8]; exact Nat.mul_mod_left _ _) (by rw [pow_8]; exact h1)]
set_option maxRecDepth 100000 in
theorem putLittle_in (x n : Nat) (w : World) (_hx : x < 18446744073709551616) (hn : n ≤ 8) :
    Calls Tryd.prog 31 #[.int .u64 x, .int .i64 n] w fun e w' => e = .returned (.tuple #[.slice (some ⟨w.heap.size, 0, none⟩) n n, .nilIface]) ∧ Below w.heap.size w w' ∧ Made w' w.heap.size (putL x n) := by
  have hmk := make_bytes n n (Nat.le_refl _) (by omega)
  go_enter Tryd.func31, Tryd.ntmps31
  go_wp2
  go_loopw [7, 19] (fun _ i wr => ∃ k : Nat, k ≤ n ∧ i = .int .i64 k ∧ Below w.heap.size w wr ∧ Made wr w.heap.size (putL x k ++ List.replicate (n - k) 0)) (fun _ i _ => n - (intOf i).toNat)
  case atStart => exact ⟨0, Nat.zero_le _, rfl, (Below.refl _ _).alloc (Nat.le_refl _) _, by simpa [putL] using Made.new w (List.replicate n 0)⟩
  case round =>
    obtain ⟨k, hk, rfl, hB, hM⟩ := hrel
    by_cases hlt : k < n
    · have hf := hM.frozen k
      obtain ⟨v3, hc3⟩ : ∃ v, wr.cell? ⟨w.heap.size, k, none⟩ = some v := ⟨_, hM.cell k (by simp [putL]; omega)⟩
      have i1 : (0 : Int) ≤ (k : Int) := by omega
      have i2 : (k : Int) < (n : Int) := by omega
      have HS := Lib.hid (byte_shr x k)
      go_wp2
      go_roundw
      case rel =>
        rw [HS.out]
        refine ⟨k + 1, by omega, by go_num, hB.setCell (p := ⟨w.heap.size, k, none⟩) (Nat.le_refl _) _, ?_⟩
        have h := hM.set k (byteAt x k)
        rw [set_next _ k n _ (putL_length x k) hlt, ← putL_succ] at h
        exact h
      case measure => simp [intOf]; omega
    · go_wp2
      go_ret2
      refine ⟨rfl, hB, ?_⟩
      have e : k = n := by omega
      subst e
      simpa using hM
theorem putLittle_out (x n : Int) (E : Value) (w : World) (hn : n < 0 ∨ 8 < n) (hE : w.cell? ⟨1, 0, none⟩ = some E) :
    Calls Tryd.prog 31 #[.int .u64 x, .int .i64 n] w fun e w' => e = .returned (.tuple #[.slice none 0 0, E]) ∧ ∃ n, w' = w.drewN n := by
  by_cases h : n < 0
  all_goals
    try have h2 : 8 < n := by omega
    clear hn
    go_enter Tryd.func31, Tryd.ntmps31
    go_wp2
    go_quiet (fail)
    go_wp2
    go_ret2
    exact ⟨rfl, _, rfl⟩
/-- The high bytes of n, k of them, the high one first. -/
def putB (x n k : Nat) : List UInt8 := (List.range k).map fun i => byteAt x (n - 1 - i)
theorem putB_length (x n k : Nat) : (putB x n k).length = k := by simp [putB]
theorem putB_succ (x n k : Nat) : putB x n (k + 1) = putB x n k ++ [byteAt x (n - 1 - k)] := by simp [putB, List.range_succ]
theorem putB_rev (x n : Nat) : putB x n n = (putL x n).reverse := by
  refine List.ext_getElem (by simp [putB, putL]) fun i h1 h2 => ?_
  simp [putB, putL]
theorem little_few (A : Option Addr) (c n : Nat) (bs : List UInt8) (w : World) (hl : bs.length = n) (hr : Row w w.heap.size A bs) (hn : n ≤ 8) :
    Calls Tryd.prog 33 #[.slice A n c] w fun e w' => e = .returned (.tuple #[.int .u64 (bigN bs.reverse : Int), .nilIface]) ∧ w = w' := by
  subst hl
  go_enter Tryd.func33, Tryd.ntmps33
  go_wp2
  go_loop [4, 5, 6, 13] (fun x _ _ i => ∃ k : Nat, k ≤ bs.length ∧ i = .int .i64 k ∧ x = .int .u64 (bigN (bs.take k).reverse : Int)) (fun _ _ _ i => bs.length - (intOf i).toNat)
  case atStart => exact ⟨0, Nat.zero_le _, rfl, rfl⟩
  case round =>
    obtain ⟨k, hk, rfl, rfl⟩ := hrel
    by_cases hlt : k < bs.length
    · obtain ⟨b, off, rfl, hb, hc⟩ := hr.at k hlt
      go_wp2
      go_round
      case rel => exact ⟨k + 1, by omega, by go_num, by rw [little_round bs k hlt hn]⟩
      case measure => simp [intOf]; omega
    · go_wp2
      go_ret2
      exact ⟨by rw [List.take_of_length_le (by omega)]; rfl, rfl⟩
theorem little_long (A : Option Addr) (c n : Nat) (E : Value) (w : World) (hn : 8 < n) (hE : w.cell? ⟨3, 0, none⟩ = some E) :
    Calls Tryd.prog 33 #[.slice A n c] w fun e w' => e = .returned (.tuple #[.int .u64 0, E]) ∧ ∃ n, w' = w.drewN n := by
  have h : (8 : Int) < (n : Int) := by omega
  go_enter Tryd.func33, Tryd.ntmps33
  go_wp2
  go_quiet (fail)
  go_wp2
  go_ret2
  exact ⟨rfl, _, rfl⟩
theorem set_before (l : List UInt8) (m : Nat) (u : UInt8) : (List.replicate (m + 1) 0 ++ l).set m u = List.replicate m 0 ++ u :: l := by
  rw [List.replicate_succ', List.append_assoc, List.set_append_right _ _ (by simp)]
  simp
end Go.Proofs.YtejcbboajikdkaaDoor
namespace Go.Proofs.YtejcbboajikdkaaDoor
open Go.RowKit
/-- The waiting bytes behind more of them. -/
def restPut (rest us : List UInt8) (h : Nat) : List UInt8 := rest.take h ++ us ++ rest.drop (h + us.length)
theorem restPut_length (rest us : List UInt8) (h : Nat) (hl : h + us.length ≤ rest.length) : (restPut rest us h).length = rest.length := by
  simp [restPut]; omega
theorem restPut_take (rest us : List UInt8) (h : Nat) (hl : h + us.length ≤ rest.length) : (restPut rest us h).take (h + us.length) = rest.take h ++ us := by
  rw [restPut, List.take_append_of_le_length (by simp; omega), List.take_of_length_le (by simp; omega)]
theorem splice_mid (X R T cs : List Value) (h : Nat) (hl : h + cs.length ≤ R.length) : splice (X ++ R ++ T) (X.length + h) cs = X ++ (R.take h ++ cs ++ R.drop (h + cs.length)) ++ T := by
  unfold splice
  rw [List.append_assoc X R T, List.take_length_add_append, Nat.add_assoc, List.drop_length_add_append, List.take_append_of_le_length (by omega), List.drop_append_of_le_length (by omega)]
  simp
def lenOf : Value → Nat | .slice _ n _ => n | _ => 0
/-- A number's n bytes as cells, the high one first. -/
def bigCells (x n : Nat) : List Value := (putL x n).reverse.map cellOf
theorem Cells.row {w : World} {g m : Nat} {vs : List Value} {t : TypeId} {us : List UInt8} (h : Cells w g vs t) (hv : vs.take m = us.map cellOf) : Row w w.heap.size (some ⟨g, 0, none⟩) us := by
  refine .inr ⟨g, 0, rfl, h.lt, fun j u hu => ?_⟩
  rw [Nat.zero_add]
  refine h.get ?_
  have h1 : (vs.take m)[j]? = some (cellOf u) := by rw [hv, List.getElem?_map, hu]; rfl
  rw [List.getElem?_take] at h1
  split at h1
  · exact h1
  · cases h1
/-- A digest as the program holds it. -/
def hashVal (ds : List UInt8) : Value := .agg (ds.map cellOf).toArray
/-- The value v is a slice of these bytes. -/
def Part (w : World) (B : Nat) (v : Value) (us : List UInt8) : Prop := ∃ A c, v = .slice A us.length c ∧ Row w B A us ∧ us.length ≤ c ∧ c ≤ maxLen ∧ (A = none → c = 0)
/-- The address leads to so many slices of bytes. -/
def Parts (w : World) (B : Nat) (D : Option Addr) (ps : List (List UInt8)) : Prop :=
  ps = [] ∨ ∃ b off, D = some ⟨b, off, none⟩ ∧ b < B ∧ ∀ j us, ps[j]? = some us → ∃ v, w.cell? ⟨b, off + j, none⟩ = some v ∧ Part w B v us
theorem Part.below {w w' : World} {B : Nat} {v : Value} {us : List UInt8} (h : Part w B v us) (hb : Below B w w') : Part w' B v us := by
  obtain ⟨A, c, e, hr, h1, h2⟩ := h
  exact ⟨A, c, e, hr.below hb, h1, h2⟩
theorem Part.more {w : World} {B B' : Nat} {v : Value} {us : List UInt8} (h : Part w B v us) (hB : B ≤ B') : Part w B' v us := by
  obtain ⟨A, c, e, hr, h1, h2⟩ := h
  exact ⟨A, c, e, hr.more hB, h1, h2⟩
theorem Parts.below {w w' : World} {B : Nat} {D : Option Addr} {ps : List (List UInt8)} (h : Parts w B D ps) (hb : Below B w w') : Parts w' B D ps := by
  rcases h with rfl | ⟨b, off, rfl, hlt, hc⟩
  · exact .inl rfl
  · refine .inr ⟨b, off, rfl, hlt, fun j us hu => ?_⟩
    obtain ⟨v, h1, h2⟩ := hc j us hu
    exact ⟨v, (hb.cell hlt).trans h1, h2.below hb⟩
theorem Parts.more {w : World} {B B' : Nat} {D : Option Addr} {ps : List (List UInt8)} (h : Parts w B D ps) (hB : B ≤ B') : Parts w B' D ps := by
  rcases h with rfl | ⟨b, off, rfl, hlt, hc⟩
  · exact .inl rfl
  · refine .inr ⟨b, off, rfl, by omega, fun j us hu => ?_⟩
    obtain ⟨v, h1, h2⟩ := hc j us hu
    exact ⟨v, h1, h2.more hB⟩
theorem Parts.at {w : World} {B : Nat} {D : Option Addr} {ps : List (List UInt8)} (h : Parts w B D ps) (k : Nat) (hk : k < ps.length) : ∃ b off A c, D = some ⟨b, off, none⟩ ∧ w.cell? ⟨b, off + k, none⟩ = some (.slice A ps[k].length c) ∧ Row w B A ps[k] ∧ ps[k].length ≤ c ∧ c ≤ maxLen ∧ (A = none → c = 0) := by
  rcases h with rfl | ⟨b, off, rfl, hlt, hc⟩
  · simp at hk
  · obtain ⟨v, h1, A, c, rfl, h2, h3, h4⟩ := hc k _ (List.getElem?_eq_getElem hk)
    exact ⟨b, off, A, c, rfl, h1, h2, h3, h4⟩
theorem flatten_take_le (ps : List (List UInt8)) (k : Nat) : (ps.take k).flatten.length ≤ ps.flatten.length := by
  conv => rhs; rw [← List.take_append_drop k ps, List.flatten_append, List.length_append]
  omega
theorem parts_lit (w : World) (vs : Array Value) (ps : List (List UInt8)) (h : ∀ (j : Nat) (us : List UInt8), ps[j]? = some us → ∃ v, vs[j]? = some v ∧ Part w w.heap.size v us) :
    Parts (w.alloc (.cells vs 26)) (w.alloc (.cells vs 26)).heap.size (some ⟨w.heap.size, 0, none⟩) ps := by
  refine .inr ⟨w.heap.size, 0, rfl, by simp, fun j us hu => ?_⟩
  obtain ⟨v, hv, A, c, e, hr, h1, h2⟩ := h j us hu
  have hb : Below w.heap.size w (w.alloc (.cells vs 26)) := (Below.refl _ _).alloc (Nat.le_refl _) _
  refine ⟨v, ?_, A, c, e, (hr.on hb), h1, h2⟩
  rw [Nat.zero_add, World.cell?_alloc_at _ _ _ _ rfl]
  exact hv
theorem row_lit (w : World) (bs : List UInt8) (f : Nat × Nat) : Row (w.alloc (.cells (bs.map cellOf).toArray 5 f)) (w.heap.size + 1) (some ⟨w.heap.size, 0, none⟩) bs := by
  refine .inr ⟨w.heap.size, 0, rfl, by omega, fun j u hu => ?_⟩
  rw [Nat.zero_add, cell_of_row _ _ _ _ _ _ (heap_alloc_new w _), List.getElem?_toArray, List.getElem?_map, hu]
  rfl
/-- An operation under a guard that holds goes as one without. -/
theorem unguard {P : Program} {w : World} {ops : Array Oper} {rest : List Oper} {o : Oper} {a : Act} {Q : Exit → Act → World → Prop} (hw : Region.wanted o (yielded ops a.tmps) = true) (h : wpList P ops Q ({ o with guard := none } :: rest) a w) : wpList P ops Q (o :: rest) a w := by
  unfold wpList at h ⊢
  rw [if_pos hw]
  rw [if_pos (by simp [Region.wanted])] at h
  exact h
theorem Owns.keep {w w' : World} {base : Nat} {v : Value} {bs : List UInt8} (h : Owns w base v bs) (hk : ∀ g, v.ownBlock = some g → w'.heap[g]? = w.heap[g]?) : Owns w' base v bs := by
  obtain ⟨h1, h2⟩ := h
  refine ⟨h1, ?_⟩
  rcases h2 with h2 | ⟨g, cap, cur, hv, hg, hh, r⟩
  · exact .inl h2
  · refine .inr ⟨g, cap, cur, hv, hg, ?_, r⟩
    rw [hk g (by rw [hv]; rfl)]
    exact hh
theorem Owns.on {w w' : World} {base : Nat} {v : Value} {bs : List UInt8} (h : Owns w base v bs) (hb : Below w.heap.size w w') : Owns w' base v bs :=
  h.keep fun g hg => hb.block g (World.ownsRow.lt h g hg).2
theorem Owns.but {w w' : World} {base g : Nat} {v : Value} {bs : List UInt8} (h : Owns w base v bs) (hb : But g w w') (hg : g < base) : Owns w' base v bs :=
  h.keep fun k hk => hb.block k (World.ownsRow.lt h k hk).2 (by have := (World.ownsRow.lt h k hk).1; omega)
/-- What a call answers that makes a new row of these bytes. -/
def GivesNew (w : World) (bs : List UInt8) (e : Ending) (w' : World) : Prop :=
  ∃ g c, e = .returned (.slice (some ⟨g, 0, none⟩) bs.length c) ∧ w.heap.size ≤ g ∧ Below w.heap.size w w' ∧ Row w' w'.heap.size (some ⟨g, 0, none⟩) bs
theorem getD_lt (ms : List UInt8) (j : Nat) (h : j < ms.length) : ms.getD j 0 = ms[j] := by simp [List.getD, h]
theorem Row.atD {w : World} {B : Nat} {A : Option Addr} {bs : List UInt8} (h : Row w B A bs) (k : Nat) (hk : k < bs.length) : ∃ b off, A = some ⟨b, off, none⟩ ∧ b < B ∧ w.cell? ⟨b, off + k, none⟩ = some (cellOf (bs.getD k 0)) := by
  obtain ⟨b, off, h1, h2, h3⟩ := h.at k hk
  refine ⟨b, off, h1, h2, ?_⟩
  rw [h3]
  simp [List.getD, List.getElem?_eq_getElem hk]

/-- 'make([]byte, m, n)', the world behind it under a name. -/
theorem make_step {w : World} {ops : Array Oper} {rest : List Oper} {o : Oper} {a : Act} {Q : Exit → Act → World → Prop} (hgd : o.guard = none) (l c : Operand) (ho : o.op = .makeSlice 26 l c) (m n : Nat) (hl : a.eval l = .int .i64 (m : Int)) (hc : a.eval c = .int .i64 (n : Int)) (hmn : m ≤ n) (hn : n ≤ 1000000)
    (h : ∀ w', Below w.heap.size w w' → Made w' w.heap.size (List.replicate n 0) → w'.heap.size = w.heap.size + 1 → wpList Tryd.prog ops Q rest (a.put o.dst (.slice (some ⟨w.heap.size, 0, none⟩) m n)) w') : wpList Tryd.prog ops Q (o :: rest) a w := by
  refine wpList_plain hgd fun K hK => ?_
  have hrun := make_bytes m n hmn hn w
  unfold Oper.wp
  simp only [execOp, ho, hl, hc, hrun, Sem.run_bind, Sem.run_pure, Result.andThen_ok]
  exact hK _ _ (h _ ((Below.refl _ _).alloc (Nat.le_refl _) _) (Made.new w _) (by simp))
theorem cutA_some (g o l cap : Nat) (h : ¬ cap = l) : cutA (some ⟨g, o, none⟩) l cap = some ⟨g, o + l, none⟩ := by
  unfold cutA
  rw [if_neg h]
  simp [Addr.add_mid]
theorem Made.cells {w : World} {g : Nat} {bs : List UInt8} (h : Made w g bs) : Cells w g (bs.map cellOf) 5 := h
theorem cells_at (w : World) (vs : List Value) (t : TypeId) (g : Nat) (hg : w.heap.size = g) : Cells (w.alloc (.cells vs.toArray t)) g vs t := by
  subst hg
  exact Cells.new w vs.toArray t
theorem slice_to (A : Option Addr) (n c i : Nat) (hi : i ≤ n) (hc : n ≤ c) (w : World) : (Instr.slice 26 (.slice A n c) none (some (.int .i64 (i : Int))) none).run Tryd.prog w = .ok (.slice (cutA A 0 c) i c) w := by
  obtain ⟨i0, hi0, hs0⟩ := Option.map_eq_some_iff.1 size_u8
  have h4 : (i : Int) ≤ (c : Int) := by omega
  simp [Instr.slice, run_underlying Tryd.underlying26, Instr.sliceBounds, run_sliceBound, sizeOf, typeInfo, hi0, cutA, h4]
theorem slice_mid (A : Option Addr) (n c i k : Nat) (hi : i ≤ k) (hk : k ≤ n) (hc : n ≤ c) (w : World) : (Instr.slice 26 (.slice A n c) (some (.int .i64 (i : Int))) (some (.int .i64 (k : Int))) none).run Tryd.prog w = .ok (.slice (cutA A i c) (k - i) (c - i)) w := by
  obtain ⟨i0, hi0, hs0⟩ := Option.map_eq_some_iff.1 size_u8
  have h4 : (k : Int) ≤ (c : Int) := by omega
  have h5 : (i : Int) ≤ (k : Int) := by omega
  simp [Instr.slice, run_underlying Tryd.underlying26, Instr.sliceBounds, run_sliceBound, sizeOf, typeInfo, hi0, hs0, cutA, h4, h5]
theorem slice_from (A : Option Addr) (n c k : Nat) (hk : k ≤ n) (w : World) : (Instr.slice 26 (.slice A n c) (some (.int .i64 (k : Int))) none none).run Tryd.prog w = .ok (.slice (cutA A k c) (n - k) (c - k)) w := by
  obtain ⟨i0, hi0, hs0⟩ := Option.map_eq_some_iff.1 size_u8
  have h5 : (k : Int) ≤ (n : Int) := by omega
  simp [Instr.slice, run_underlying Tryd.underlying26, Instr.sliceBounds, run_sliceBound, sizeOf, typeInfo, hi0, hs0, cutA, h5]
end Go.Proofs.YtejcbboajikdkaaDoor
namespace Go.Proofs.YtejcbboajikdkaaDoor
open Go.ChangeShapes Go.WideShapes Go.ChangeAt Go.RowKit
theorem var_lt {W : World} {name : String} {g : Nat} {cs : Array Value} {v : Value} (hg : Tryd.prog.globalNamed name = some g) (hv : W.var? Tryd.prog name = some cs) (h0 : cs[0]? = some v) : g < W.heap.size := by
  have h := World.var?_cell hg hv 0
  rw [h0] at h
  exact block_lt_of_cell (a := ⟨g, 0, none⟩) (by simpa using h)
theorem var_there {W : World} {name : String} {g : Nat} {cs : Array Value} (hg : Tryd.prog.globalNamed name = some g) (hv : W.var? Tryd.prog name = some cs) : g < W.heap.size := by
  rcases Nat.lt_or_ge g W.heap.size with h | h
  · exact h
  · simp [World.var?, hg, Array.getElem?_eq_none h] at hv
theorem row_of_ints {W : World} {a : Addr} {L : Nat} {zs : List Int} (hl : L ≤ zs.length) (hw : ∀ n ∈ zs, (Lit.int .u8 n).wf = true) (hc : ∀ i, i < zs.length → W.cell? (a.add i) = some (.int .u8 (zs.getD i 0))) :
    Row W W.heap.size (some a) ((zs.take L).map fun z => UInt8.ofNat z.toNat) := by
  by_cases h0 : L = 0
  · subst h0; exact .inl (by simp)
  · obtain ⟨b, off, rfl, hc2⟩ := ints_at hc (by omega)
    have hlt := block_lt_of_cell (hc2 0 (by omega))
    refine .inr ⟨b, off, rfl, hlt, fun j u hu => ?_⟩
    rw [List.getElem?_map] at hu
    have hj : j < L := by
      rcases Nat.lt_or_ge j L with h | h
      · exact h
      · rw [List.getElem?_eq_none (by rw [List.length_take]; omega)] at hu; cases hu
    have hjz : j < zs.length := by omega
    rw [List.getElem?_take_of_lt hj, List.getElem?_eq_getElem hjz] at hu
    simp only [Option.map_some, Option.some.injEq] at hu
    have hb := bounds_u8 (hw zs[j] (List.getElem_mem _))
    rw [hc2 j hjz, ← hu]
    simp only [cellOf, UInt8.toNat_ofNat']
    simp [List.getD, hjz]
    omega
theorem cells_bs : Tryd.prog.cellsOf 26 = 1 := by kernel_rfl
set_option maxRecDepth 100000 in
/-- A slice of slices of bytes that comes in. -/
theorem open_parts {H : Type} {enc : TypeId × Value → H} {W : World} {r : Reach} {b0 : Nat} {v : Value} {d : DataW H} {p : List MemPlace} (hv : Value.okWide Tryd.prog W r b0 71 v) (h : DataW.Trod enc Tryd.prog W 0 (fun _ => true) true 71 v d p) :
    ∃ D c ps, v = .slice D ps.length c ∧ Parts W W.heap.size D ps ∧ ps.length ≤ c ∧ c ≤ maxLen := by
  obtain ⟨a0, len, cap, rfl⟩ := okWide_slice Tryd.underlying71 hv
  obtain ⟨fuel, hf⟩ := h
  rcases Go.Deep.open_int_rows Tryd.underlying71 Tryd.underlying26 Tryd.underlying5 cells_bs cells_u8 hf with ⟨hcs, _⟩ | ⟨a, l, c, A, L, C, Z, hcs, _, hl, hm, _, hr⟩
  · simp [Value.cells] at hcs
    obtain ⟨rfl, rfl, rfl⟩ := hcs
    exact ⟨none, 0, [], rfl, .inl rfl, Nat.le_refl _, Nat.zero_le _⟩
  · simp [Value.cells] at hcs
    obtain ⟨rfl, rfl, rfl⟩ := hcs
    refine ⟨some a, cap, (List.range len).map fun r => ((Z r).take (L r)).map fun z => UInt8.ofNat z.toNat, by simp, ?_, by simpa using hl, hm⟩
    by_cases h0 : len = 0
    · subst h0; exact .inl (by simp)
    · obtain ⟨b, off, spot⟩ := a
      have hspot : spot = none := by simpa [Addr.add] using World.cell?_spot (hr 0 (by omega)).1
      subst hspot
      have hlt := block_lt_of_cell (hr 0 (by omega)).1
      refine .inr ⟨b, off, rfl, by simpa [Addr.add] using hlt, fun j us hu => ?_⟩
      have hj : j < len := by
        rcases Nat.lt_or_ge j len with h | h
        · exact h
        · rw [List.getElem?_eq_none (by simpa using h)] at hu; cases hu
      rw [List.getElem?_map, List.getElem?_range hj] at hu
      simp only [Option.map_some, Option.some.injEq] at hu
      subst hu
      obtain ⟨h1, h2, h3, h4, h5, h6, h7⟩ := hr j (by omega)
      rw [Go.WideShapes.add_plain] at h1
      have hlen : (((Z j).take (L j)).map fun z => UInt8.ofNat z.toNat).length = L j := by simp; omega
      refine ⟨_, h1, A j, C j, by rw [hlen], ?_, by rw [hlen]; exact h2, h3, h6⟩
      cases hA : A j with
      | none =>
        have := h6 hA
        exact .inl (List.eq_nil_of_length_eq_zero (by rw [hlen]; omega))
      | some a' => exact row_of_ints (by omega) h5 (fun i hi => (h7 a' hA).2 i (by omega))
/-- A list of laid variables in two parts. -/
theorem laid_split {W : World} : ∀ (l1 l2 : List (String × DataW Unit)) (ps : List MemPlace), DataW.LaidVars Tryd.prog W (l1 ++ l2) ps → ∃ p1 p2, ps = p1 ++ p2 ∧ DataW.LaidVars Tryd.prog W l1 p1 ∧ DataW.LaidVars Tryd.prog W l2 p2
  | [], l2, ps, h => ⟨[], ps, rfl, rfl, h⟩
  | x :: l1, l2, ps, h => by
    obtain ⟨g, t, cs, f, p, q, h1, h2, h3, h4, h5, rfl⟩ := h
    obtain ⟨p1, p2, rfl, h6, h7⟩ := laid_split l1 l2 q h5
    exact ⟨_, p2, by simp only [List.append_assoc], ⟨g, t, cs, f, p, p1, h1, h2, h3, h4, h6, rfl⟩, h7⟩
theorem errs_vars {W : World} {ps : List MemPlace} (hv : DataW.LaidVars Tryd.prog W (errTexts.map fun x => (x.1, .iface "*errors.errorString" (.ptr (.agg [.lit (.string x.2)])))) ps) (hnd : ps.Nodup)
    (hrows : ∀ b off, MemPlace.cell b off ∈ ps → (∃ c t, W.heap[b]? = some (.cells c t (0, 0))) ∧ ∀ u v, W.cell? ⟨b, off, none⟩ = some (.iface u v) → Value.okWide Tryd.prog W .any 0 u v) : ∃ es, Errs W es := by
  obtain ⟨es, h1, h2, _, h4⟩ := sentinels errTexts errVars ps (by kernel_rfl) (fun g hg => by
    have hall : (errVars.all fun g => ((Tryd.prog.globals[g]?).map (·.type)) == some 33) = true := by kernel_rfl
    simpa using List.all_eq_true.1 hall g hg) hv hnd hrows
  exact ⟨es, h1, h2, h4⟩
end Go.Proofs.YtejcbboajikdkaaDoor
namespace Go.Proofs.YtejcbboajikdkaaDoor
open Go.RowKit
/-- A word as a cell holds it. -/
abbrev wcell (x : BitVec 32) : Value := .int .u32 (x.toNat : Int)
/- Go's operations on words of 32 bits. -/
theorem add32 (x y : BitVec 32) : ((x.toNat : Int) + (y.toNat : Int)) % 4294967296 = ((x + y).toNat : Int) := by
  rw [BitVec.toNat_add]; omega
theorem wadd32 (x y : BitVec 32) : IntKind.u32.wrap ((x.toNat : Int) + (y.toNat : Int)) = ((x + y).toNat : Int) := by
  rw [IntKind.wrap_u32, add32]
theorem wcells_one (l : List (BitVec 32)) : (l.map wcell).toArray.all (·.oneCell') = true := all_oneCell_toArray (by intro v hv; obtain ⟨x, _, rfl⟩ := List.mem_map.1 hv; rfl)
theorem list_at (l : List (BitVec 32)) (k : Nat) (hk : k < l.length) : (l.map wcell)[k]? = some (wcell (l.getD k 0)) := by
  rw [List.getElem?_map, List.getD_eq_getElem?_getD, List.getElem?_eq_getElem hk]
  rfl
/-- So many words of nought. (Named, so that a walk leaves them whole.) -/
def wzeros (n : Nat) : List Value := List.replicate n (wcell 0)
theorem wzeros_map (n : Nat) : wzeros n = (List.replicate n (0 : BitVec 32)).map wcell := by simp [wzeros]
theorem wset_map (l : List (BitVec 32)) (k : Nat) (x : BitVec 32) : (l.map wcell).set k (wcell x) = (l.set k x).map wcell := by rw [List.map_set]
end Go.Proofs.YtejcbboajikdkaaDoor
