/- Part 4 of what the laws of this seat share: WParts, WKeep, WWords, WVals, OCells, FSteps, FLeast, FPlus. -/
import Derived.Deep.WholeRow
import Derived.Laws.Externs
import Derived.Test.YtlhgabhjbnckkaaDoorPart3
namespace Go.Proofs.YtlhgabhjbnckkaaDoor
open Go.RowKit
/-- The waiting bytes behind more of them. -/
def restPut (rest us : List UInt8) (h : Nat) : List UInt8 := rest.take h ++ us ++ rest.drop (h + us.length)
theorem restPut_length (rest us : List UInt8) (h : Nat) (hl : h + us.length ≤ rest.length) : (restPut rest us h).length = rest.length := by
  simp [restPut]; omega
theorem restPut_take (rest us : List UInt8) (h : Nat) (hl : h + us.length ≤ rest.length) : (restPut rest us h).take (h + us.length) = rest.take h ++ us := by
  rw [restPut, List.take_append_of_le_length (by simp; omega), List.take_of_length_le (by simp; omega)]
theorem splice_mid (X R T cs : List Value) (h : Nat) (hl : h + cs.length ≤ R.length) : splice (X ++ R ++ T) (X.length + h) cs = X ++ (R.take h ++ cs ++ R.drop (h + cs.length)) ++ T := by
  unfold splice
  rw [List.append_assoc X R T, List.take_length_add_append, Nat.add_assoc, List.drop_length_add_append, List.take_append_of_le_length (by omega), List.drop_append_of_le_length (by omega)]
  simp
def lenOf : Value → Nat | .slice _ n _ => n | _ => 0
/-- A number's n bytes as cells, the high one first. -/
def bigCells (x n : Nat) : List Value := (putL x n).reverse.map cellOf
theorem Cells.row {w : World} {g m : Nat} {vs : List Value} {t : TypeId} {us : List UInt8} (h : Cells w g vs t) (hv : vs.take m = us.map cellOf) : Row w w.heap.size (some ⟨g, 0, none⟩) us := by
  refine .inr ⟨g, 0, rfl, h.lt, fun j u hu => ?_⟩
  rw [Nat.zero_add]
  refine h.get ?_
  have h1 : (vs.take m)[j]? = some (cellOf u) := by rw [hv, List.getElem?_map, hu]; rfl
  rw [List.getElem?_take] at h1
  split at h1
  · exact h1
  · cases h1
/-- A digest as the program holds it. -/
def hashVal (ds : List UInt8) : Value := .agg (ds.map cellOf).toArray
/-- The value v is a slice of these bytes. -/
def Part (w : World) (B : Nat) (v : Value) (us : List UInt8) : Prop := ∃ A c, v = .slice A us.length c ∧ Row w B A us ∧ us.length ≤ c ∧ c ≤ maxLen ∧ (A = none → c = 0)
/-- The address leads to so many slices of bytes. -/
def Parts (w : World) (B : Nat) (D : Option Addr) (ps : List (List UInt8)) : Prop :=
  ps = [] ∨ ∃ b off, D = some ⟨b, off, none⟩ ∧ b < B ∧ ∀ j us, ps[j]? = some us → ∃ v, w.cell? ⟨b, off + j, none⟩ = some v ∧ Part w B v us
theorem Part.below {w w' : World} {B : Nat} {v : Value} {us : List UInt8} (h : Part w B v us) (hb : Below B w w') : Part w' B v us := by
  obtain ⟨A, c, e, hr, h1, h2⟩ := h
  exact ⟨A, c, e, hr.below hb, h1, h2⟩
theorem Part.more {w : World} {B B' : Nat} {v : Value} {us : List UInt8} (h : Part w B v us) (hB : B ≤ B') : Part w B' v us := by
  obtain ⟨A, c, e, hr, h1, h2⟩ := h
  exact ⟨A, c, e, hr.more hB, h1, h2⟩
theorem Parts.below {w w' : World} {B : Nat} {D : Option Addr} {ps : List (List UInt8)} (h : Parts w B D ps) (hb : Below B w w') : Parts w' B D ps := by
  rcases h with rfl | ⟨b, off, rfl, hlt, hc⟩
  · exact .inl rfl
  · refine .inr ⟨b, off, rfl, hlt, fun j us hu => ?_⟩
    obtain ⟨v, h1, h2⟩ := hc j us hu
    exact ⟨v, (hb.cell hlt).trans h1, h2.below hb⟩
theorem Parts.more {w : World} {B B' : Nat} {D : Option Addr} {ps : List (List UInt8)} (h : Parts w B D ps) (hB : B ≤ B') : Parts w B' D ps := by
  rcases h with rfl | ⟨b, off, rfl, hlt, hc⟩
  · exact .inl rfl
  · refine .inr ⟨b, off, rfl, by omega, fun j us hu => ?_⟩
    obtain ⟨v, h1, h2⟩ := hc j us hu
    exact ⟨v, h1, h2.more hB⟩
theorem Parts.at {w : World} {B : Nat} {D : Option Addr} {ps : List (List UInt8)} (h : Parts w B D ps) (k : Nat) (hk : k < ps.length) : ∃ b off A c, D = some ⟨b, off, none⟩ ∧ w.cell? ⟨b, off + k, none⟩ = some (.slice A ps[k].length c) ∧ Row w B A ps[k] ∧ ps[k].length ≤ c ∧ c ≤ maxLen ∧ (A = none → c = 0) := by
  rcases h with rfl | ⟨b, off, rfl, hlt, hc⟩
  · simp at hk
  · obtain ⟨v, h1, A, c, rfl, h2, h3, h4⟩ := hc k _ (List.getElem?_eq_getElem hk)
    exact ⟨b, off, A, c, rfl, h1, h2, h3, h4⟩
theorem flatten_take_le (ps : List (List UInt8)) (k : Nat) : (ps.take k).flatten.length ≤ ps.flatten.length := by
  conv => rhs; rw [← List.take_append_drop k ps, List.flatten_append, List.length_append]
  omega
theorem parts_lit (w : World) (vs : Array Value) (ps : List (List UInt8)) (h : ∀ (j : Nat) (us : List UInt8), ps[j]? = some us → ∃ v, vs[j]? = some v ∧ Part w w.heap.size v us) :
    Parts (w.alloc (.cells vs 76)) (w.alloc (.cells vs 76)).heap.size (some ⟨w.heap.size, 0, none⟩) ps := by
  refine .inr ⟨w.heap.size, 0, rfl, by simp, fun j us hu => ?_⟩
  obtain ⟨v, hv, A, c, e, hr, h1, h2⟩ := h j us hu
  have hb : Below w.heap.size w (w.alloc (.cells vs 76)) := (Below.refl _ _).alloc (Nat.le_refl _) _
  refine ⟨v, ?_, A, c, e, (hr.on hb), h1, h2⟩
  rw [Nat.zero_add, World.cell?_alloc_at _ _ _ _ rfl]
  exact hv
theorem row_lit (w : World) (bs : List UInt8) (f : Nat × Nat) : Row (w.alloc (.cells (bs.map cellOf).toArray 5 f)) (w.heap.size + 1) (some ⟨w.heap.size, 0, none⟩) bs := by
  refine .inr ⟨w.heap.size, 0, rfl, by omega, fun j u hu => ?_⟩
  rw [Nat.zero_add, cell_of_row _ _ _ _ _ _ (heap_alloc_new w _), List.getElem?_toArray, List.getElem?_map, hu]
  rfl
/-- An operation under a guard that holds goes as one without. -/
theorem unguard {P : Program} {w : World} {ops : Array Oper} {rest : List Oper} {o : Oper} {a : Act} {Q : Exit → Act → World → Prop} (hw : Region.wanted o (yielded ops a.tmps) = true) (h : wpList P ops Q ({ o with guard := none } :: rest) a w) : wpList P ops Q (o :: rest) a w := by
  unfold wpList at h ⊢
  rw [if_pos hw]
  rw [if_pos (by simp [Region.wanted])] at h
  exact h
theorem Owns.keep {w w' : World} {base : Nat} {v : Value} {bs : List UInt8} (h : Owns w base v bs) (hk : ∀ g, v.ownBlock = some g → w'.heap[g]? = w.heap[g]?) : Owns w' base v bs := by
  obtain ⟨h1, h2⟩ := h
  refine ⟨h1, ?_⟩
  rcases h2 with h2 | ⟨g, cap, cur, hv, hg, hh, r⟩
  · exact .inl h2
  · refine .inr ⟨g, cap, cur, hv, hg, ?_, r⟩
    rw [hk g (by rw [hv]; rfl)]
    exact hh
theorem Owns.on {w w' : World} {base : Nat} {v : Value} {bs : List UInt8} (h : Owns w base v bs) (hb : Below w.heap.size w w') : Owns w' base v bs :=
  h.keep fun g hg => hb.block g (World.ownsRow.lt h g hg).2
theorem Owns.but {w w' : World} {base g : Nat} {v : Value} {bs : List UInt8} (h : Owns w base v bs) (hb : But g w w') (hg : g < base) : Owns w' base v bs :=
  h.keep fun k hk => hb.block k (World.ownsRow.lt h k hk).2 (by have := (World.ownsRow.lt h k hk).1; omega)
/-- What a call answers that makes a new row of these bytes. -/
def GivesNew (w : World) (bs : List UInt8) (e : Ending) (w' : World) : Prop :=
  ∃ g c, e = .returned (.slice (some ⟨g, 0, none⟩) bs.length c) ∧ w.heap.size ≤ g ∧ Below w.heap.size w w' ∧ Row w' w'.heap.size (some ⟨g, 0, none⟩) bs
theorem getD_lt (ms : List UInt8) (j : Nat) (h : j < ms.length) : ms.getD j 0 = ms[j] := by simp [List.getD, h]
theorem Row.atD {w : World} {B : Nat} {A : Option Addr} {bs : List UInt8} (h : Row w B A bs) (k : Nat) (hk : k < bs.length) : ∃ b off, A = some ⟨b, off, none⟩ ∧ b < B ∧ w.cell? ⟨b, off + k, none⟩ = some (cellOf (bs.getD k 0)) := by
  obtain ⟨b, off, h1, h2, h3⟩ := h.at k hk
  refine ⟨b, off, h1, h2, ?_⟩
  rw [h3]
  simp [List.getD, List.getElem?_eq_getElem hk]

/-- 'make([]byte, m, n)', the world behind it under a name. -/
theorem make_step {w : World} {ops : Array Oper} {rest : List Oper} {o : Oper} {a : Act} {Q : Exit → Act → World → Prop} (hgd : o.guard = none) (l c : Operand) (ho : o.op = .makeSlice 76 l c) (m n : Nat) (hl : a.eval l = .int .i64 (m : Int)) (hc : a.eval c = .int .i64 (n : Int)) (hmn : m ≤ n) (hn : n ≤ 1000000)
    (h : ∀ w', Below w.heap.size w w' → Made w' w.heap.size (List.replicate n 0) → w'.heap.size = w.heap.size + 1 → wpList Tryd.prog ops Q rest (a.put o.dst (.slice (some ⟨w.heap.size, 0, none⟩) m n)) w') : wpList Tryd.prog ops Q (o :: rest) a w := by
  refine wpList_plain hgd fun K hK => ?_
  have hrun := make_bytes m n hmn hn w
  unfold Oper.wp
  simp only [execOp, ho, hl, hc, hrun, Sem.run_bind, Sem.run_pure, Result.andThen_ok]
  exact hK _ _ (h _ ((Below.refl _ _).alloc (Nat.le_refl _) _) (Made.new w _) (by simp))
theorem cutA_some (g o l cap : Nat) (h : ¬ cap = l) : cutA (some ⟨g, o, none⟩) l cap = some ⟨g, o + l, none⟩ := by
  unfold cutA
  rw [if_neg h]
  simp [Addr.add_mid]
theorem Made.cells {w : World} {g : Nat} {bs : List UInt8} (h : Made w g bs) : Cells w g (bs.map cellOf) 5 := h
theorem cells_at (w : World) (vs : List Value) (t : TypeId) (g : Nat) (hg : w.heap.size = g) : Cells (w.alloc (.cells vs.toArray t)) g vs t := by
  subst hg
  exact Cells.new w vs.toArray t
theorem slice_to (A : Option Addr) (n c i : Nat) (hi : i ≤ n) (hc : n ≤ c) (w : World) : (Instr.slice 76 (.slice A n c) none (some (.int .i64 (i : Int))) none).run Tryd.prog w = .ok (.slice (cutA A 0 c) i c) w := by
  obtain ⟨i0, hi0, hs0⟩ := Option.map_eq_some_iff.1 size_u8
  have h4 : (i : Int) ≤ (c : Int) := by omega
  simp [Instr.slice, run_underlying Tryd.underlying76, Instr.sliceBounds, run_sliceBound, sizeOf, typeInfo, hi0, cutA, h4]
theorem slice_mid (A : Option Addr) (n c i k : Nat) (hi : i ≤ k) (hk : k ≤ n) (hc : n ≤ c) (w : World) : (Instr.slice 76 (.slice A n c) (some (.int .i64 (i : Int))) (some (.int .i64 (k : Int))) none).run Tryd.prog w = .ok (.slice (cutA A i c) (k - i) (c - i)) w := by
  obtain ⟨i0, hi0, hs0⟩ := Option.map_eq_some_iff.1 size_u8
  have h4 : (k : Int) ≤ (c : Int) := by omega
  have h5 : (i : Int) ≤ (k : Int) := by omega
  simp [Instr.slice, run_underlying Tryd.underlying76, Instr.sliceBounds, run_sliceBound, sizeOf, typeInfo, hi0, hs0, cutA, h4, h5]
theorem slice_from (A : Option Addr) (n c k : Nat) (hk : k ≤ n) (w : World) : (Instr.slice 76 (.slice A n c) (some (.int .i64 (k : Int))) none none).run Tryd.prog w = .ok (.slice (cutA A k c) (n - k) (c - k)) w := by
  obtain ⟨i0, hi0, hs0⟩ := Option.map_eq_some_iff.1 size_u8
  have h5 : (k : Int) ≤ (n : Int) := by omega
  simp [Instr.slice, run_underlying Tryd.underlying76, Instr.sliceBounds, run_sliceBound, sizeOf, typeInfo, hi0, hs0, cutA, h5]
end Go.Proofs.YtlhgabhjbnckkaaDoor
namespace Go.Proofs.YtlhgabhjbnckkaaDoor
open Go.RowKit
section
variable {w : World} {ops : Array Oper} {rest : List Oper} {o o1 o2 : Oper} {a : Act} {Q : Exit → Act → World → Prop}
/-- 'x := f(..)', x an array of bytes: a new variable, and the value stored into it. -/
theorem put_step (hg1 : o1.guard = none) (hg2 : o2.guard = none) (t : TypeId) (x y : Operand) (h1 : o1.op = .alloc t) (h2 : o2.op = .store t x y) (n : Nat) (ds : List UInt8)
    (hx : (a.put o1.dst (.pointer (some ⟨w.heap.size, 0, none⟩))).eval x = .pointer (some ⟨w.heap.size, 0, none⟩)) (hy : (a.put o1.dst (.pointer (some ⟨w.heap.size, 0, none⟩))).eval y = hashVal ds)
    (hz : ∀ w, (zeroValue t).run Tryd.prog w = .ok (.agg (List.replicate n (cellOf 0)).toArray) w) (hs : (Tryd.prog.info? t).map (·.size) = some n) (hl : ds.length = n)
    (h : ∀ w', Below w.heap.size w w' → Cells w' w.heap.size (ds.map cellOf) t → w'.heap.size = w.heap.size + 1 → wpList Tryd.prog ops Q rest ((a.put o1.dst (.pointer (some ⟨w.heap.size, 0, none⟩))).put o2.dst undef) w') : wpList Tryd.prog ops Q (o1 :: o2 :: rest) a w := by
  refine alloc_step hg1 t h1 _ hz ?_
  intro w1 hw1
  have hB1 : Below w.heap.size w w1 := by rw [hw1]; exact (Below.refl _ _).alloc (Nat.le_refl _) _
  have hC1 : Cells w1 w.heap.size (List.replicate n (cellOf 0)) t := by rw [hw1]; exact Cells.new w _ _
  have hz1 : w1.heap.size = w.heap.size + 1 := by rw [hw1]; simp
  clear hw1
  have hsz : (ds.map cellOf).toArray.size = n := by rw [List.size_toArray, List.length_map, hl]
  refine wpList_store_mid hg2 t x y h2 w.heap.size 0 (ds.map cellOf).toArray hx hy (by rw [hsz]; exact hC1.there 0 n (by simp)) (by rw [hsz]; exact hs) (all_oneCell_toArray (cells8_one ds)) ?_
  have hC2 := hC1.setCells (cs := ds.map cellOf) (o := 0) (by simp [hl])
  rw [splice_all _ _ (by simp [hl])] at hC2
  exact h _ (below_setCells hB1 (Nat.le_refl _) _ _) hC2 (by rw [(heap_setCells _ _ _ _).2.2.2.1, hz1])
/-- A variable that is an array of bytes, as a value. -/
theorem get_step (hgd : o.guard = none) (t : TypeId) (x : Operand) (ho : o.op = .load t x) (g n : Nat) (ds : List UInt8) (e : TypeId) (hx : a.eval x = .pointer (some ⟨g, 0, none⟩)) (hC : Cells w g (ds.map cellOf) t) (hu : Tryd.prog.underlying t = some (.array n e))
    (hs : (Tryd.prog.info? t).map (·.size) = some n) (hl : ds.length = n) (h : wpList Tryd.prog ops Q rest (a.put o.dst (hashVal ds)) w) : wpList Tryd.prog ops Q (o :: rest) a w :=
  wpList_load_row hgd t x ho g hx t (ds.map cellOf).toArray (0, 0) _ hC hu rfl (by rw [List.size_toArray, List.length_map, hl]; exact hs) h
/-- An array of bytes stored over a variable. -/
theorem set_step (hgd : o.guard = none) (t : TypeId) (x y : Operand) (ho : o.op = .store t x y) (g n : Nat) (vs : List Value) (ds : List UInt8) (hx : a.eval x = .pointer (some ⟨g, 0, none⟩)) (hy : a.eval y = hashVal ds) (hC : Cells w g vs t) (hv : vs.length = n)
    (hs : (Tryd.prog.info? t).map (·.size) = some n) (hl : ds.length = n) (h : ∀ w', But g w w' → Cells w' g (ds.map cellOf) t → w'.heap.size = w.heap.size → wpList Tryd.prog ops Q rest (a.put o.dst undef) w') : wpList Tryd.prog ops Q (o :: rest) a w := by
  have hsz : (ds.map cellOf).toArray.size = n := by rw [List.size_toArray, List.length_map, hl]
  refine wpList_store_mid hgd t x y ho g 0 (ds.map cellOf).toArray hx hy (by rw [hsz]; exact hC.there 0 n (by omega)) (by rw [hsz]; exact hs) (all_oneCell_toArray (cells8_one ds)) ?_
  have hC2 := hC.setCells (cs := ds.map cellOf) (o := 0) (by simp [hl, hv])
  rw [splice_all _ _ (by simp [hl, hv])] at hC2
  exact h _ ((But.refl g w).setCells _ _) hC2 (heap_setCells _ _ _ _).2.2.2.1
/-- A new variable of a type whose zero value is an array of noughts. -/
theorem zero_step (hgd : o.guard = none) (t : TypeId) (ho : o.op = .alloc t) (n : Nat) (hz : ∀ w, (zeroValue t).run Tryd.prog w = .ok (.agg (List.replicate n (cellOf 0)).toArray) w)
    (h : ∀ w', Below w.heap.size w w' → Cells w' w.heap.size (List.replicate n (cellOf 0)) t → w'.heap.size = w.heap.size + 1 → wpList Tryd.prog ops Q rest (a.put o.dst (.pointer (some ⟨w.heap.size, 0, none⟩))) w') : wpList Tryd.prog ops Q (o :: rest) a w := by
  refine alloc_step hgd t ho _ hz ?_
  intro w1 hw1
  exact h w1 (by rw [hw1]; exact (Below.refl _ _).alloc (Nat.le_refl _) _) (by rw [hw1]; exact Cells.new w _ _) (by rw [hw1]; simp)
/-- An array of bytes that comes as a value, laid into a new variable. -/
theorem take_step (hgd : o.guard = none) (t : TypeId) (x : Operand) (ho : o.op = .box t x) (ds : List UInt8) (hx : a.eval x = hashVal ds)
    (h : ∀ w', Below w.heap.size w w' → Cells w' w.heap.size (ds.map cellOf) t → w'.heap.size = w.heap.size + 1 → wpList Tryd.prog ops Q rest (a.put o.dst (.pointer (some ⟨w.heap.size, 0, none⟩))) w') : wpList Tryd.prog ops Q (o :: rest) a w := by
  refine box_step hgd t x ho _ hx ?_
  intro w1 hw1
  exact h w1 (by rw [hw1]; exact (Below.refl _ _).alloc (Nat.le_refl _) _) (by rw [hw1]; exact Cells.new w _ _) (by rw [hw1]; simp)
end
/-- A function whose result is an array of bytes in a block of its own. -/
theorem ret_hash {fn : Func} {R : Ending → World → Prop} {a : Act} {w : World} {p : Tmp} {ty e : TypeId} {n : Nat} (hres : fn.results = #[.cell p ty]) (g : Nat) (ds : List UInt8)
    (hp : a.tmps.getD p undef = .pointer (some ⟨g, 0, none⟩)) (hg : Cells w g (ds.map cellOf) ty) (hu : Tryd.prog.underlying ty = some (.array n e)) (hi : (Tryd.prog.info? ty).map (·.size) = some n) (hl : ds.length = n)
    (hdf : a.defers = []) (hR : R (.returned (hashVal ds)) w) : bodyPost Tryd.prog fn R .ret a w :=
  ret_block hres g (ds.map cellOf) ty hp hg hu rfl (by rw [List.length_map, hl]; exact hi) hdf hR
theorem Cells.all {w : World} {g : Nat} {ds : List UInt8} {t : TypeId} (h : Cells w g (ds.map cellOf) t) : Row w w.heap.size (some ⟨g, 0, none⟩) ds :=
  h.row (m := ds.length) (by rw [← List.length_map cellOf, List.take_length])
theorem Cells.on {w w' : World} {g : Nat} {vs : List Value} {t : TypeId} (h : Cells w g vs t) (hb : Below w.heap.size w w') : Cells w' g vs t := h.below hb h.lt
/-- 'append(out, b...)' onto a whole row of the call's own, block g: of the old blocks only g may have turned. -/
theorem append_but {w : World} {ops : Array Oper} {rest : List Oper} {o : Oper} {a : Act} {Q : Exit → Act → World → Prop} (hgd : o.guard = none) (s x : Operand)
    (ho : o.op = .call { callee := .builtin .append, args := #[s, x], argTypes := #[76, 76] }) (base g l c0 : Nat)
    (bs us : List UInt8) (B : Nat) (A : Option Addr) (c n : Nat) (hs : a.eval s = .slice (some ⟨g, 0, none⟩) l c0) (hown : Owns w base (.slice (some ⟨g, 0, none⟩) l c0) bs) (hx : a.eval x = .slice A n c) (hn : us.length = n) (hA : A = none → c = 0) (hr : Row w B A us)
    (hlen : bs.length + n ≤ 1000000) (hbase : base ≤ w.heap.size)
    (h : ∀ v' w', Owns w' base v' (bs ++ us) → But g w w' → wpList Tryd.prog ops Q rest (a.put o.dst v') w') : wpList Tryd.prog ops Q (o :: rest) a w := by
  subst hn
  obtain ⟨i0, hi0, hz0, hz1, hz2⟩ := info_parts u8_info
  rcases A with _ | ad
  · have : us = [] := by
      rcases hr with h | ⟨_, _, h, _⟩
      · exact h
      · cases h
    subst this
    rw [hA rfl] at hx
    exact wpList_append_own_none hgd s x 76 ho base 5 i0 1 Tryd.underlying76 hi0 _ bs.length (bs.map cellOf) hs hown hx (h _ w (by simpa using hown) (But.refl _ _))
  · refine wpList_append_own w hgd s x 76 ho base 5 i0 _ 1 1 Tryd.underlying76 hi0 hz0 hz1 hz2 rfl (by omega) _ bs.length (bs.map cellOf) hs hown ad us.length c (us.map cellOf) hx (by simp) ?_ ?_ (by simp only [maxLen]; omega) (by omega) hbase ?_
    · intro j u hu
      rw [List.getElem?_map] at hu
      cases hj : us[j]? with
      | none => rw [hj] at hu; cases hu
      | some q =>
        rw [hj] at hu
        rcases hr with rfl | ⟨b, off, hb1, _, hc⟩
        · simp at hj
        · cases hb1
          rw [Go.WideShapes.add_plain, hc j q hj]
          exact hu
    · intro u hu
      obtain ⟨q, _, rfl⟩ := List.mem_map.1 hu
      rfl
    · intro v' w' h2 h3 _
      refine h v' w' ?_ ⟨h3.os, h3.tape, h3.output, h3.size, fun k hk hne => h3.block k hk (fun e => hne (by simpa [Value.ownBlock] using e))⟩
      unfold Owns
      simpa using h2
end Go.Proofs.YtlhgabhjbnckkaaDoor
namespace Go.Proofs.YtlhgabhjbnckkaaDoor
open Go.RowKit
/-- A word as a cell holds it. -/
abbrev wcell (x : BitVec 32) : Value := .int .u32 (x.toNat : Int)
/- Go's operations on words of 32 bits. -/
theorem add32 (x y : BitVec 32) : ((x.toNat : Int) + (y.toNat : Int)) % 4294967296 = ((x + y).toNat : Int) := by
  rw [BitVec.toNat_add]; omega
theorem wadd32 (x y : BitVec 32) : IntKind.u32.wrap ((x.toNat : Int) + (y.toNat : Int)) = ((x + y).toNat : Int) := by
  rw [IntKind.wrap_u32, add32]
theorem wcells_one (l : List (BitVec 32)) : (l.map wcell).toArray.all (·.oneCell') = true := all_oneCell_toArray (by intro v hv; obtain ⟨x, _, rfl⟩ := List.mem_map.1 hv; rfl)
theorem list_at (l : List (BitVec 32)) (k : Nat) (hk : k < l.length) : (l.map wcell)[k]? = some (wcell (l.getD k 0)) := by
  rw [List.getElem?_map, List.getD_eq_getElem?_getD, List.getElem?_eq_getElem hk]
  rfl
/-- So many words of nought. (Named, so that a walk leaves them whole.) -/
def wzeros (n : Nat) : List Value := List.replicate n (wcell 0)
theorem wzeros_map (n : Nat) : wzeros n = (List.replicate n (0 : BitVec 32)).map wcell := by simp [wzeros]
theorem wset_map (l : List (BitVec 32)) (k : Nat) (x : BitVec 32) : (l.map wcell).set k (wcell x) = (l.set k x).map wcell := by rw [List.map_set]
end Go.Proofs.YtlhgabhjbnckkaaDoor
namespace Go.Proofs.YtlhgabhjbnckkaaDoor
open Go.RowKit
theorem size_u32 : (Tryd.prog.info? 36).map (·.size) = some 1 := by kernel_rfl
theorem u32_info : (Tryd.prog.info? 36).map (fun i => (i.zero, i.size, i.bytes)) = some (some (.int .u32 0), 1, 4) := by kernel_rfl
section
variable {P : Program} {w : World} {ops : Array Oper} {rest : List Oper} {o o1 o2 : Oper} {a : Act} {Q : Exit → Act → World → Prop}
/-- 'x := f(..)', x an array: a new variable, and the value stored into it. -/
theorem vput_step (hg1 : o1.guard = none) (hg2 : o2.guard = none) (t : TypeId) (x y : Operand) (h1 : o1.op = .alloc t) (h2 : o2.op = .store t x y) (n : Nat) (zs vs : List Value)
    (hx : (a.put o1.dst (.pointer (some ⟨w.heap.size, 0, none⟩))).eval x = .pointer (some ⟨w.heap.size, 0, none⟩)) (hy : (a.put o1.dst (.pointer (some ⟨w.heap.size, 0, none⟩))).eval y = .agg vs.toArray)
    (hz : ∀ w, (zeroValue t).run P w = .ok (.agg zs.toArray) w) (hzl : zs.length = n) (hs : (P.info? t).map (·.size) = some n) (hl : vs.length = n) (h1c : vs.toArray.all (·.oneCell') = true)
    (h : ∀ w', Below w.heap.size w w' → Cells w' w.heap.size vs t → wpList P ops Q rest ((a.put o1.dst (.pointer (some ⟨w.heap.size, 0, none⟩))).put o2.dst undef) w') : wpList P ops Q (o1 :: o2 :: rest) a w := by
  refine alloc_step hg1 t h1 _ hz ?_
  intro w1 hw1
  have hB1 : Below w.heap.size w w1 := by rw [hw1]; exact (Below.refl _ _).alloc (Nat.le_refl _) _
  have hC1 : Cells w1 w.heap.size zs t := by rw [hw1]; exact Cells.new w _ _
  clear hw1
  have hsz : vs.toArray.size = n := by rw [List.size_toArray, hl]
  refine wpList_store_mid hg2 t x y h2 w.heap.size 0 vs.toArray hx hy (by rw [hsz]; exact hC1.there 0 n (by omega)) (by rw [hsz]; exact hs) h1c ?_
  have hC2 := hC1.setCells (cs := vs) (o := 0) (by omega)
  rw [splice_all _ _ (by omega)] at hC2
  exact h _ (below_setCells hB1 (Nat.le_refl _) _ _) hC2
/-- A variable that is an array, as a value. -/
theorem vget_step (hgd : o.guard = none) (t : TypeId) (x : Operand) (ho : o.op = .load t x) (g n : Nat) (vs : List Value) (e : TypeId) (hx : a.eval x = .pointer (some ⟨g, 0, none⟩)) (hC : Cells w g vs t) (hu : P.underlying t = some (.array n e))
    (hs : (P.info? t).map (·.size) = some n) (hl : vs.length = n) (h : wpList P ops Q rest (a.put o.dst (.agg vs.toArray)) w) : wpList P ops Q (o :: rest) a w :=
  wpList_load_row hgd t x ho g hx t vs.toArray (0, 0) _ hC hu rfl (by rw [List.size_toArray, hl]; exact hs) h
/-- An array stored over a variable. -/
theorem vset_step (hgd : o.guard = none) (t : TypeId) (x y : Operand) (ho : o.op = .store t x y) (g n : Nat) (us vs : List Value) (hx : a.eval x = .pointer (some ⟨g, 0, none⟩)) (hy : a.eval y = .agg vs.toArray) (hC : Cells w g us t) (hv : us.length = n)
    (hs : (P.info? t).map (·.size) = some n) (hl : vs.length = n) (h1c : vs.toArray.all (·.oneCell') = true) (h : ∀ w', But g w w' → Cells w' g vs t → w'.heap.size = w.heap.size → wpList P ops Q rest (a.put o.dst undef) w') : wpList P ops Q (o :: rest) a w := by
  have hsz : vs.toArray.size = n := by rw [List.size_toArray, hl]
  refine wpList_store_mid hgd t x y ho g 0 vs.toArray hx hy (by rw [hsz]; exact hC.there 0 n (by omega)) (by rw [hsz]; exact hs) h1c ?_
  have hC2 := hC.setCells (cs := vs) (o := 0) (by omega)
  rw [splice_all _ _ (by omega)] at hC2
  exact h _ ((But.refl g w).setCells _ _) hC2 (heap_setCells _ _ _ _).2.2.2.1
/-- A new variable of a type whose zero value is known. -/
theorem vzero_step (hgd : o.guard = none) (t : TypeId) (ho : o.op = .alloc t) (zs : List Value) (hz : ∀ w, (zeroValue t).run P w = .ok (.agg zs.toArray) w)
    (h : ∀ w', Below w.heap.size w w' → Cells w' w.heap.size zs t → wpList P ops Q rest (a.put o.dst (.pointer (some ⟨w.heap.size, 0, none⟩))) w') : wpList P ops Q (o :: rest) a w := by
  refine alloc_step hgd t ho _ hz ?_
  intro w1 hw1
  exact h w1 (by rw [hw1]; exact (Below.refl _ _).alloc (Nat.le_refl _) _) (by rw [hw1]; exact Cells.new w _ _)
/-- An array that comes as a value, laid into a new variable. -/
theorem vtake_step (hgd : o.guard = none) (t : TypeId) (x : Operand) (ho : o.op = .box t x) (vs : List Value) (hx : a.eval x = .agg vs.toArray)
    (h : ∀ w', Below w.heap.size w w' → Cells w' w.heap.size vs t → wpList P ops Q rest (a.put o.dst (.pointer (some ⟨w.heap.size, 0, none⟩))) w') : wpList P ops Q (o :: rest) a w := by
  refine box_step hgd t x ho _ hx ?_
  intro w1 hw1
  exact h w1 (by rw [hw1]; exact (Below.refl _ _).alloc (Nat.le_refl _) _) (by rw [hw1]; exact Cells.new w _ _)
end
/-- A function whose result is an array in a block of its own. -/
theorem vret {P : Program} {fn : Func} {R : Ending → World → Prop} {a : Act} {w : World} {p : Tmp} {ty e : TypeId} {n : Nat} (hres : fn.results = #[.cell p ty]) (g : Nat) (vs : List Value)
    (hp : a.tmps.getD p undef = .pointer (some ⟨g, 0, none⟩)) (hg : Cells w g vs ty) (hu : P.underlying ty = some (.array n e)) (hi : (P.info? ty).map (·.size) = some n) (hl : vs.length = n)
    (hdf : a.defers = []) (hR : R (.returned (.agg vs.toArray)) w) : bodyPost P fn R .ret a w :=
  ret_block hres g vs ty hp hg hu rfl (by rw [hl]; exact hi) hdf hR
end Go.Proofs.YtlhgabhjbnckkaaDoor
namespace Go.Proofs.YtlhgabhjbnckkaaDoor
open Go.RowKit
/-- A limb as a cell holds it. -/
abbrev ncell (x : Nat) : Value := .int .u64 (x : Int)
/-- A number as a value. -/
def numVal (n : List Nat) : Value := .agg (n.map ncell).toArray
theorem add64n (x y : Nat) : IntKind.u64.wrap ((x : Int) + (y : Int)) = ((addW x y : Nat) : Int) := by
  rw [IntKind.wrap_u64, addW]; omega
theorem mul64n (x y : Nat) : IntKind.u64.wrap ((x : Int) * (y : Int)) = ((mulW x y : Nat) : Int) := by
  rw [IntKind.wrap_u64, mulW, ← Int.natCast_mul]; omega
theorem and26 (x : Nat) (h : x < 18446744073709551616) : bits .and .u64 (x : Int) 67108863 = ((x % 67108864 : Nat) : Int) := by
  rw [show (67108863 : Int) = ((67108863 : Nat) : Int) from rfl, u64_and_nat _ _ h (by omega)]
  have := Nat.and_two_pow_sub_one_eq_mod x 26
  simp only [Nat.reducePow, Nat.reduceSub] at this
  rw [this]
theorem addW_lt (x y : Nat) : addW x y < 18446744073709551616 := Nat.mod_lt _ (by omega)
theorem mulW_lt64 (x y : Nat) : mulW x y < 18446744073709551616 := Nat.mod_lt _ (by omega)
theorem ncells_one (l : List Nat) : (l.map ncell).toArray.all (·.oneCell') = true := all_oneCell_toArray (by intro v hv; obtain ⟨x, _, rfl⟩ := List.mem_map.1 hv; rfl)
theorem nat_at (l : List Nat) (k : Nat) (hk : k < l.length) : (l.map ncell)[k]? = some (ncell (l.getD k 0)) := by
  rw [List.getElem?_map, List.getD_eq_getElem?_getD, List.getElem?_eq_getElem hk]
  rfl
/-- So many limbs of nought. (Named, so that a walk leaves them whole.) -/
def nzeros (n : Nat) : List Value := List.replicate n (ncell 0)
theorem nset_map (l : List Nat) (k : Nat) (x : Nat) : (l.map ncell).set k (ncell x) = (l.set k x).map ncell := by rw [List.map_set]
theorem size_u64 : (Tryd.prog.info? 44).map (·.size) = some 1 := by kernel_rfl
/-- A function whose results are an array in a block of its own, and a plain value. -/
theorem vret2 {P : Program} {fn : Func} {R : Ending → World → Prop} {a : Act} {w : World} {p u : Tmp} {ty e : TypeId} {n : Nat} (hres : fn.results = #[.cell p ty, .tmp u]) (g : Nat) (vs : List Value) (v : Value)
    (hp : a.tmps.getD p undef = .pointer (some ⟨g, 0, none⟩)) (hv : a.tmps.getD u undef = v) (hg : Cells w g vs ty) (hu : P.underlying ty = some (.array n e)) (hi : (P.info? ty).map (·.size) = some n) (hl : vs.length = n)
    (hdf : a.defers = []) (hR : R (.returned (.tuple #[.agg vs.toArray, v])) w) : bodyPost P fn R .ret a w := by
  have hp' : a.tmps[p]?.getD undef = .pointer (some ⟨g, 0, none⟩) := by simpa using hp
  have hv' : a.tmps[u]?.getD undef = v := by simpa using hv
  have hrun : (results fn a.tmps).run P w = .ok (.tuple #[.agg vs.toArray, v]) w := by
    simp [results, hres, hp', hv', asAddr, run_loadVar_row w g ty ty vs.toArray (0, 0) _ hg hu rfl (by rw [List.size_toArray, hl]; exact hi)]
  exact bodyPost_ret hrun hdf hR
end Go.Proofs.YtlhgabhjbnckkaaDoor
namespace Go.Proofs.YtlhgabhjbnckkaaDoor
open Go.RowKit
/-- A number modulo p, as the program holds it. -/
def elV (n : Nat) : Value := numVal (limb5 n)
/-- A sum of products. -/
def wideV (x : Nat) : Value := numVal [x / 18446744073709551616, x % 18446744073709551616]
theorem zero_numF : ∀ w, (zeroValue 46).run Tryd.prog w = .ok (.agg (nzeros 5).toArray) w := (zero_of_info (P := Tryd.prog) (t := 46) (v := .agg (nzeros 5).toArray) (n := 5) (by kernel_rfl)).1
theorem zero_arrF : ∀ w, (zeroValue 45).run Tryd.prog w = .ok (.agg (nzeros 5).toArray) w := (zero_of_info (P := Tryd.prog) (t := 45) (v := .agg (nzeros 5).toArray) (n := 5) (by kernel_rfl)).1
theorem zero_elem : ∀ w, (zeroValue 48).run Tryd.prog w = .ok (.agg (nzeros 5).toArray) w := (zero_of_info (P := Tryd.prog) (t := 48) (v := .agg (nzeros 5).toArray) (n := 5) (by kernel_rfl)).1
theorem zero_wide : ∀ w, (zeroValue 92).run Tryd.prog w = .ok (.agg (nzeros 2).toArray) w := (zero_of_info (P := Tryd.prog) (t := 92) (v := .agg (nzeros 2).toArray) (n := 2) (by kernel_rfl)).1
theorem size_numF : (Tryd.prog.info? 46).map (·.size) = some 5 := by kernel_rfl
theorem size_elem : (Tryd.prog.info? 48).map (·.size) = some 5 := by kernel_rfl
theorem size_wide : (Tryd.prog.info? 92).map (·.size) = some 2 := by kernel_rfl
theorem build_elem (a b c d e : Nat) (w : World) : (Instr.build 48 #[(0, numVal [a, b, c, d, e])]).run Tryd.prog w = .ok (numVal [a, b, c, d, e]) w := by kernel_rfl
theorem build_elV (n : Nat) (w : World) : (Instr.build 48 #[(0, elV n)]).run Tryd.prog w = .ok (elV n) w := build_elem _ _ _ _ _ w
theorem build_num (a b c d e : Nat) (w : World) : (Instr.build 46 #[(0, ncell a), (1, ncell b), (2, ncell c), (3, ncell d), (4, ncell e)]).run Tryd.prog w = .ok (numVal [a, b, c, d, e]) w := by kernel_rfl
theorem build_two (a b : Nat) (w : World) : (Instr.build 46 #[(0, ncell a), (1, ncell b)]).run Tryd.prog w = .ok (numVal [a, b, 0, 0, 0]) w := by kernel_rfl
theorem build_none (w : World) : (Instr.build 48 #[]).run Tryd.prog w = .ok (elV 0) w := by kernel_rfl
theorem build_wide (a b : Nat) (w : World) : (Instr.build 92 #[(0, ncell a), (1, ncell b)]).run Tryd.prog w = .ok (numVal [a, b]) w := by kernel_rfl
theorem build_wide0 (w : World) : (Instr.build 92 #[]).run Tryd.prog w = .ok (wideV 0) w := by kernel_rfl
theorem namedF {α : Type} (a : α) : ∃ z, Hid (a = z) := ⟨a, rfl⟩
theorem numVal_eq (l : List Nat) : numVal l = .agg (l.map ncell).toArray := rfl
section
variable {P : Program} {w : World} {ops : Array Oper} {rest : List Oper} {o : Oper} {a : Act} {Q : Exit → Act → World → Prop}
/-- A variable that is a struct or an array, as a value. -/
theorem sget_step (hgd : o.guard = none) (t : TypeId) (x : Operand) (ho : o.op = .load t x) (g n : Nat) (vs : List Value) {d : TypeDesc} {t' : TypeId} (hx : a.eval x = .pointer (some ⟨g, 0, none⟩)) (hC : Cells w g vs t') (hu : P.underlying t = some d)
    (hd : (match d with | .struct _ | .array _ _ => true | _ => false) = true) (hs : (P.info? t).map (·.size) = some n) (hl : vs.length = n) (h : wpList P ops Q rest (a.put o.dst (.agg vs.toArray)) w) : wpList P ops Q (o :: rest) a w :=
  wpList_load_row hgd t x ho g hx t' vs.toArray (0, 0) _ hC hu hd (by rw [List.size_toArray, hl]; exact hs) h
end
/-- A function whose result is a struct or an array in a block of its own. -/
theorem sret {P : Program} {fn : Func} {R : Ending → World → Prop} {a : Act} {w : World} {p : Tmp} {ty : TypeId} {d : TypeDesc} {n : Nat} (hres : fn.results = #[.cell p ty]) (g : Nat) (vs : List Value)
    (hp : a.tmps.getD p undef = .pointer (some ⟨g, 0, none⟩)) (hg : Cells w g vs ty) (hu : P.underlying ty = some d) (hd : (match d with | .struct _ | .array _ _ => true | _ => false) = true) (hi : (P.info? ty).map (·.size) = some n) (hl : vs.length = n)
    (hdf : a.defers = []) (hR : R (.returned (.agg vs.toArray)) w) : bodyPost P fn R .ret a w :=
  ret_block hres g vs ty hp hg hu hd (by rw [hl]; exact hi) hdf hR
theorem and51 (x : Nat) (h : x < 18446744073709551616) : bits .and .u64 (x : Int) 2251799813685247 = ((x % 2251799813685248 : Nat) : Int) := by
  rw [show (2251799813685247 : Int) = ((2251799813685247 : Nat) : Int) from rfl, u64_and_nat _ _ h (by omega)]
  have := Nat.and_two_pow_sub_one_eq_mod x 51
  simp only [Nat.reducePow, Nat.reduceSub] at this
  rw [this]
theorem wadd (x y : Nat) (h : x + y < 18446744073709551616) : IntKind.u64.wrap ((x : Int) + (y : Int)) = ((x + y : Nat) : Int) := by
  rw [IntKind.wrap_u64]; omega
theorem wmul (x y : Nat) (h : x * y < 18446744073709551616) : IntKind.u64.wrap ((x : Int) * (y : Int)) = ((x * y : Nat) : Int) := by
  rw [IntKind.wrap_u64, ← Int.natCast_mul]; omega
theorem wadd_div (x y : Nat) (h : x + y / 2251799813685248 < 18446744073709551616) : IntKind.u64.wrap ((x : Int) + (y : Int) / 2251799813685248) = ((x + y / 2251799813685248 : Nat) : Int) := wadd x (y / 2251799813685248) h
theorem cast_div51 (y : Nat) : (y : Int) / 2251799813685248 = ((y / 2251799813685248 : Nat) : Int) := rfl
end Go.Proofs.YtlhgabhjbnckkaaDoor
namespace Go.Proofs.YtlhgabhjbnckkaaDoor
open Go.RowKit
theorem results_tmp6 {fn : Func} {t u v x y z : Tmp} (h : fn.results = #[.tmp t, .tmp u, .tmp v, .tmp x, .tmp y, .tmp z]) (tmps : Array Value) (P : Program) (w : World) :
    (results fn tmps).run P w = .ok (.tuple #[tmps.getD t undef, tmps.getD u undef, tmps.getD v undef, tmps.getD x undef, tmps.getD y undef, tmps.getD z undef]) w := by
  simp [results, h]
set_option maxRecDepth 100000 in
theorem carried_over5 (a b c d e b1 c1 d1 e1 : Nat) (w : World) (ha : Hid (a < 9223372036854775808)) (hb : Hid (b1 = b + a / 2251799813685248 ∧ b1 < 18446744073709551616)) (hc : Hid (c1 = c + b1 / 2251799813685248 ∧ c1 < 18446744073709551616)) (hd : Hid (d1 = d + c1 / 2251799813685248 ∧ d1 < 18446744073709551616)) (he : Hid (e1 = e + d1 / 2251799813685248 ∧ e1 < 18446744073709551616)) :
    Calls Tryd.prog 47 #[ncell a, ncell b, ncell c, ncell d, ncell e] w fun r w' => r = .returned (.tuple #[ncell (a % 2251799813685248), ncell (b1 % 2251799813685248), ncell (c1 % 2251799813685248), ncell (d1 % 2251799813685248), ncell (e1 % 2251799813685248), ncell (e1 / 2251799813685248)]) ∧ w = w' := by
  have eb : IntKind.u64.wrap ((b : Int) + (a : Int) / 2251799813685248) = (b1 : Int) := by rw [wadd_div _ _ (by rw [← hb.out.1]; exact hb.out.2), ← hb.out.1]
  have ec : IntKind.u64.wrap ((c : Int) + (b1 : Int) / 2251799813685248) = (c1 : Int) := by rw [wadd_div _ _ (by rw [← hc.out.1]; exact hc.out.2), ← hc.out.1]
  have ed : IntKind.u64.wrap ((d : Int) + (c1 : Int) / 2251799813685248) = (d1 : Int) := by rw [wadd_div _ _ (by rw [← hd.out.1]; exact hd.out.2), ← hd.out.1]
  have ee : IntKind.u64.wrap ((e : Int) + (d1 : Int) / 2251799813685248) = (e1 : Int) := by rw [wadd_div _ _ (by rw [← he.out.1]; exact he.out.2), ← he.out.1]
  have fa := and51 a (by have := ha.out; omega)
  have fb := and51 b1 hb.out.2
  have fc := and51 c1 hc.out.2
  have fd := and51 d1 hd.out.2
  have fe := and51 e1 he.out.2
  go_enter Tryd.func47, Tryd.ntmps47
  go_wp2
  try simp only [Exit.inBlock, Exit.then]
  refine bodyPost_ret (results_tmp6 rfl _ _ _) rfl ?_
  exact ⟨rfl, rfl⟩
/-- Five limbs carried, told by their number. -/
theorem carried_any (a b c d e : Nat) (w : World) (ha : a < 4611686018427387904) (hb : b < 4611686018427387904) (hc : c < 4611686018427387904) (hd : d < 4611686018427387904) (he : e < 4611686018427387904) (n : Nat) (hn : n = val5 a b c d e) :
    Calls Tryd.prog 47 #[ncell a, ncell b, ncell c, ncell d, ncell e] w fun r w' => r = .returned (.tuple #[ncell (n % 2251799813685248), ncell (n / 2251799813685248 % 2251799813685248), ncell (n / 2251799813685248 / 2251799813685248 % 2251799813685248), ncell (n / 2251799813685248 / 2251799813685248 / 2251799813685248 % 2251799813685248), ncell (n / 2251799813685248 / 2251799813685248 / 2251799813685248 / 2251799813685248 % 2251799813685248), ncell (n / 2251799813685248 / 2251799813685248 / 2251799813685248 / 2251799813685248 / 2251799813685248)]) ∧ w = w' := by
  subst hn
  have h0 : val5 a b c d e % 2251799813685248 = a % 2251799813685248 := by rw [val5, mod51]
  rw [val5_4, val5_3, val5_2, val5_1, mod51, mod51, mod51, h0]
  exact carried_over5 a b c d e _ _ _ _ w (by show _ < _; omega) ⟨rfl, by omega⟩ ⟨rfl, by omega⟩ ⟨rfl, by omega⟩ ⟨rfl, by omega⟩
set_option maxRecDepth 100000 in
set_option maxHeartbeats 1000000 in
theorem least_over5 (a b c d e o q : Nat) (x0 x1 x2 x3 x4 y0 y1 y2 y3 y4 z0 z1 z2 z3 z4 u v t : Nat) (w : World)
    (HT : Hid (t < 576460752303423488 ∧ o < 1024 ∧ q < 1024 ∧ x0 < 2251799813685248)) (Ht : Hid (t = x0 + 19 * o)) (Hu : Hid (u = t + 19)) (Hv : Hid (v = t + 19 * q))
    (C1 : Hid (∀ W, Calls Tryd.prog 47 #[ncell a, ncell b, ncell c, ncell d, ncell e] W fun r w' => r = .returned (.tuple #[ncell x0, ncell x1, ncell x2, ncell x3, ncell x4, ncell o]) ∧ W = w'))
    (C2 : Hid (∀ W, Calls Tryd.prog 47 #[ncell u, ncell x1, ncell x2, ncell x3, ncell x4] W fun r w' => r = .returned (.tuple #[ncell y0, ncell y1, ncell y2, ncell y3, ncell y4, ncell q]) ∧ W = w'))
    (C3 : Hid (∀ W, Calls Tryd.prog 47 #[ncell v, ncell x1, ncell x2, ncell x3, ncell x4] W fun r w' => ∃ p : Nat, r = .returned (.tuple #[ncell z0, ncell z1, ncell z2, ncell z3, ncell z4, ncell p]) ∧ W = w')) :
    Calls Tryd.prog 35 #[numVal [a, b, c, d, e]] w fun r w' => r = .returned (numVal [z0, z1, z2, z3, z4]) ∧ Below w.heap.size w w' := by
  have M1 : IntKind.u64.wrap (19 * (o : Int)) = 19 * (o : Int) := wmul 19 o (by have := HT.out; omega)
  have M2 : IntKind.u64.wrap ((x0 : Int) + 19 * (o : Int)) = (t : Int) := by have h := wadd x0 (19 * o) (by have := HT.out; omega); rw [Ht.out]; exact h
  have M3 : IntKind.u64.wrap ((t : Int) + 19) = (u : Int) := by rw [show (19 : Int) = ((19 : Nat) : Int) from rfl, wadd _ _ (by have := HT.out; omega), ← Hu.out]
  have M4 : IntKind.u64.wrap (19 * (q : Int)) = 19 * (q : Int) := wmul 19 q (by have := HT.out; omega)
  have M5 : IntKind.u64.wrap ((t : Int) + 19 * (q : Int)) = (v : Int) := by have h := wadd t (19 * q) (by have := HT.out; omega); rw [Hv.out]; exact h
  clear HT Ht Hu Hv
  go_enter Tryd.func35, Tryd.ntmps35
  go_wp2_with (first
    | (refine vtake_step rfl 46 (.tmp 0) rfl ([a, b, c, d, e].map ncell) rfl ?_
       intro w1 hB1 hA1
       have d0 := hA1.get (v := ncell a) (j := 0) rfl
       have d1 := hA1.get (v := ncell b) (j := 1) rfl
       have d2 := hA1.get (v := ncell c) (j := 2) rfl
       have d3 := hA1.get (v := ncell d) (j := 3) rfl
       have d4 := hA1.get (v := ncell e) (j := 4) rfl)
    | (refine vzero_step rfl 46 rfl (nzeros 5) zero_numF ?_
       intro w3 hb3 hZ3
       have hB3 := below_then hB1 hb3
       have hA3 := hA1.on hb3
       have hg2 := hA1.lt
       clear hB1 hA1 hb3 d0 d1 d2 d3 d4
       have d0 := hA3.get (v := ncell a) (j := 0) rfl
       have d1 := hA3.get (v := ncell b) (j := 1) rfl
       have d2 := hA3.get (v := ncell c) (j := 2) rfl
       have d3 := hA3.get (v := ncell d) (j := 3) rfl
       have d4 := hA3.get (v := ncell e) (j := 4) rfl))
  refine (C1.out w3).mono ?_
  rintro r w4 ⟨rfl, rfl⟩
  clear C1 d0 d1 d2 d3 d4 hA3
  go_wp2_with fail
  refine (C2.out w3).mono ?_
  rintro r w4 ⟨rfl, rfl⟩
  clear C2
  go_wp2_with fail
  refine (C3.out w3).mono ?_
  rintro r w4 ⟨p, rfl, rfl⟩
  clear C3
  go_wp2_with (first
    | (refine build_step rfl 46 _ rfl [(0, ncell z0), (1, ncell z1), (2, ncell z2), (3, ncell z3), (4, ncell z4)] rfl _ (build_num _ _ _ _ _) ?_)
    | (refine vset_step rfl 46 _ _ rfl w1.heap.size 5 (nzeros 5) ([z0, z1, z2, z3, z4].map ncell) rfl rfl hZ3 rfl size_numF rfl (ncells_one _) ?_
       intro w7 hb7 hC7 _))
  refine vret Tryd.results35 w1.heap.size ([z0, z1, z2, z3, z4].map ncell) rfl hC7 Tryd.underlying46 size_numF rfl rfl ⟨rfl, hB3.trans (hb7.below (Nat.le_of_lt hg2) hB3.size)⟩
theorem least_any (a b c d e n : Nat) (w : World) (ha : a < 2305843009213693952) (hb : b < 2305843009213693952) (hc : c < 2305843009213693952) (hd : d < 2305843009213693952) (he : e < 1152921504606846976) (hn : n = val5 a b c d e) :
    Calls Tryd.prog 35 #[numVal [a, b, c, d, e]] w fun r w' => r = .returned (elV (n % pp)) ∧ Below w.heap.size w w' := by
  have hs : n < 1024 * 57896044618658097711785492504343953926634992332820282019728792003956564819968 := by rw [hn, val5]; omega
  have ho : n / 2251799813685248 / 2251799813685248 / 2251799813685248 / 2251799813685248 / 2251799813685248 < 1024 := by rw [div5_all]; omega
  have hx0 := Nat.mod_lt n (show 0 < 2251799813685248 by decide)
  have hx1 := Nat.mod_lt (n / 2251799813685248) (show 0 < 2251799813685248 by decide)
  have hx2 := Nat.mod_lt (n / 2251799813685248 / 2251799813685248) (show 0 < 2251799813685248 by decide)
  have hx3 := Nat.mod_lt (n / 2251799813685248 / 2251799813685248 / 2251799813685248) (show 0 < 2251799813685248 by decide)
  have hx4 := Nat.mod_lt (n / 2251799813685248 / 2251799813685248 / 2251799813685248 / 2251799813685248) (show 0 < 2251799813685248 by decide)
  have key := least_val a b c d e n _ _ _ hn hs rfl rfl rfl
  rw [elV, ← key]
  have C1 := fun W => carried_any a b c d e W (by omega) (by omega) (by omega) (by omega) (by omega) n hn
  clear key hn hs
  generalize n / 2251799813685248 / 2251799813685248 / 2251799813685248 / 2251799813685248 / 2251799813685248 = o at *
  generalize n / 2251799813685248 / 2251799813685248 / 2251799813685248 / 2251799813685248 % 2251799813685248 = x4 at *
  generalize n / 2251799813685248 / 2251799813685248 / 2251799813685248 % 2251799813685248 = x3 at *
  generalize n / 2251799813685248 / 2251799813685248 % 2251799813685248 = x2 at *
  generalize n / 2251799813685248 % 2251799813685248 = x1 at *
  generalize n % 2251799813685248 = x0 at *
  have C2 := fun W => carried_any (x0 + 19 * o + 19) x1 x2 x3 x4 W (by omega) (by omega) (by omega) (by omega) (by omega) _ rfl
  have hq : val5 (x0 + 19 * o + 19) x1 x2 x3 x4 / 2251799813685248 / 2251799813685248 / 2251799813685248 / 2251799813685248 / 2251799813685248 < 1024 := by rw [div5_all, val5]; omega
  generalize val5 (x0 + 19 * o + 19) x1 x2 x3 x4 / 2251799813685248 / 2251799813685248 / 2251799813685248 / 2251799813685248 / 2251799813685248 = q at *
  have C3 := fun W => carried_any (x0 + 19 * o + 19 * q) x1 x2 x3 x4 W (by omega) (by omega) (by omega) (by omega) (by omega) _ rfl
  exact least_over5 a b c d e o q x0 x1 x2 x3 x4 _ _ _ _ _ _ _ _ _ _ (x0 + 19 * o + 19) (x0 + 19 * o + 19 * q) (x0 + 19 * o) w (by show _ ∧ _; omega) rfl rfl rfl C1 C2 (fun W => (C3 W).mono (fun r w' h => ⟨_, h.1, h.2⟩))
end Go.Proofs.YtlhgabhjbnckkaaDoor
namespace Go.Proofs.YtlhgabhjbnckkaaDoor
open Go.RowKit
set_option maxRecDepth 100000 in
set_option maxHeartbeats 1000000 in
theorem plusF_over (a b r : List Nat) (S : Nat → List Nat) (w : World) (HB : Hid (b.length = 5)) (HL : Hid (∀ k, (S k).length = 5)) (H0 : Hid (S 0 = a)) (HS : Hid (∀ k, S (k + 1) = (S k).set k (addW ((S k).getD k 0) (b.getD k 0)))) (HR : Hid (S 5 = r)) :
    Calls Tryd.prog 50 #[numVal a, numVal b] w fun e w' => e = .returned (numVal r) ∧ Below w.heap.size w w' := by
  go_enter Tryd.func50, Tryd.ntmps50
  go_wp2_with (first
    | (refine vtake_step rfl 46 (.tmp 0) rfl (a.map ncell) rfl ?_
       intro w1 hB1 hA1)
    | (refine vtake_step rfl 46 (.tmp 1) rfl (b.map ncell) rfl ?_
       intro w2 hb2 hC2
       have hB2 := below_then hB1 hb2
       have hA2 := hA1.on hb2
       have hg1 := hA1.lt
       clear hB1 hA1 hb2)
    | (refine vzero_step rfl 46 rfl (nzeros 5) zero_numF ?_
       intro w3 hb3 hZ3
       have hB3 := below_then hB2 hb3
       have hA3 := hA2.on hb3
       have hC3 := hC2.on hb3
       have hg2 := hC2.lt
       clear hB2 hA2 hC2 hb3))
  generalize hg : w1.heap.size = gb at *
  generalize hh : w2.heap.size = gz at *
  clear hg hh
  go_loopw [6] (fun i wr => ∃ k : Nat, k ≤ 5 ∧ i = .int .i64 k ∧ Below w.heap.size w wr ∧ Cells wr w.heap.size ((S k).map ncell) 46 ∧ Cells wr gb (b.map ncell) 46 ∧ Cells wr gz (nzeros 5) 46) (fun i _ => 5 - (intOf i).toNat)
  case atStart => exact ⟨0, Nat.zero_le _, rfl, hB3, by rw [H0.out]; exact hA3, hC3, hZ3⟩
  case round =>
    clear hB3 hA3 hC3 hZ3
    obtain ⟨k, hk, rfl, hB, hS, hC, hZ⟩ := hrel
    have HLk := Lib.hid (HL.out k)
    by_cases hlt : k < 5
    · have HN := Lib.hid (HS.out k)
      generalize S k = s at *
      have i1 : (0 : Int) ≤ (k : Int) := by omega
      have i2 : (k : Int) < 5 := by omega
      go_wp2_with fail
      refine wp_region_tail 8 (by kernel_rfl) (by kernel_rfl) ?_
      intro w4 hw4
      have hB4 : Below w.heap.size w w4 := by rw [hw4]; exact hB.drew
      have hS4 : Cells w4 w.heap.size (s.map ncell) 46 := by rw [hw4]; exact hS
      have hC4 : Cells w4 gb (b.map ncell) 46 := by rw [hw4]; exact hC
      have hZ4 : Cells w4 gz (nzeros 5) 46 := by rw [hw4]; exact hZ
      clear hw4 hB hS hC hZ
      have d1 := hS4.get (nat_at s k (by rw [HLk.out]; exact hlt))
      have d2 := hC4.get (nat_at b k (by rw [HB.out]; exact hlt))
      have d3 := hS4.frozen k
      generalize s.getD k 0 = x at *
      generalize b.getD k 0 = y at *
      simp only [List.take_succ_cons, List.take_zero, List.drop_succ_cons, List.drop_zero]
      repeat still_step
      refine wpStill_nil ?_
      go_wp2
      go_roundw
      case rel =>
        rw [add64n]
        refine ⟨k + 1, by omega, by go_num, hB4.setCell (p := ⟨w.heap.size, k, none⟩) (Nat.le_refl _) _, ?_, hC4.other (by show gb ≠ w.heap.size; omega) _, hZ4.other (by show gz ≠ w.heap.size; omega) _⟩
        rw [HN.out, ← nset_map]
        exact hS4.set k _
      case measure => simp [intOf]; omega
    · obtain rfl : k = 5 := by omega
      rw [HR.out] at hS HLk
      go_wp2_with (first
        | (refine vget_step rfl 46 _ rfl w.heap.size 5 (r.map ncell) 44 rfl hS Tryd.underlying46 size_numF (by rw [List.length_map, HLk.out]) ?_)
        | (refine vset_step rfl 46 _ _ rfl gz 5 (nzeros 5) (r.map ncell) rfl rfl hZ rfl size_numF (by rw [List.length_map, HLk.out]) (ncells_one r) ?_
           intro w7 hb7 hC7 _))
      refine vret Tryd.results50 gz (r.map ncell) rfl hC7 Tryd.underlying46 size_numF (by rw [List.length_map, HLk.out]) rfl ⟨rfl, hB.trans (hb7.below (by omega) hB.size)⟩
theorem plusF_any (a b : List Nat) (w : World) (ha : a.length = 5) (hb : b.length = 5) :
    Calls Tryd.prog 50 #[numVal a, numVal b] w fun e w' => e = .returned (numVal (plusN a b)) ∧ Below w.heap.size w w' :=
  plusF_over a b _ (plusTo a b) w hb (fun k => (plusTo_length a b k).trans ha) rfl (fun _ => rfl) rfl
theorem wsub (C y : Nat) (h : y ≤ C) (hC : C < 18446744073709551616) : IntKind.u64.wrap ((C : Int) - (y : Int)) = ((C - y : Nat) : Int) := by
  rw [IntKind.wrap_u64]; omega
set_option maxRecDepth 100000 in
set_option maxHeartbeats 1000000 in
theorem minusF_over (a b r : List Nat) (S : Nat → List Nat) (w : World) (HA : Hid (a.length = 5)) (HB : Hid (b.length = 5)) (HL : Hid (∀ k, (S k).length = 5)) (H1 : Hid (S 1 = a.set 0 (a.getD 0 0 + (4503599627370458 - b.getD 0 0)))) (HS : Hid (∀ k, 1 ≤ k → k < 5 → S (k + 1) = (S k).set k ((S k).getD k 0 + (4503599627370494 - b.getD k 0)))) (HR : Hid (S 5 = r))
    (HBb : Hid (∀ k, b.getD k 0 < 2251799813685248)) (HAb : Hid (a.getD 0 0 < 2251799813685248)) (HSb : Hid (∀ k, 1 ≤ k → k < 5 → (S k).getD k 0 < 2251799813685248)) :
    Calls Tryd.prog 52 #[numVal a, numVal b] w fun e w' => e = .returned (numVal r) ∧ Below w.heap.size w w' := by
  have e0 : a[0]? = some (a.getD 0 0) := by have := HA.out; rw [List.getD_eq_getElem?_getD, List.getElem?_eq_getElem (by omega)]; rfl
  have X0 := Lib.hid (nat_at a 0 (by rw [HA.out]; omega))
  have Y0 := Lib.hid (nat_at b 0 (by rw [HB.out]; omega))
  have hy := HBb.out 0
  have hx := HAb.out
  have M1 : IntKind.u64.wrap (4503599627370458 - ((b.getD 0 0 : Nat) : Int)) = ((4503599627370458 - b.getD 0 0 : Nat) : Int) := wsub 4503599627370458 (b.getD 0 0) (by omega) (by decide)
  have M2 := wadd (a.getD 0 0) (4503599627370458 - b.getD 0 0) (by omega)
  obtain ⟨z, HZ⟩ : ∃ z, Hid (a.getD 0 0 + (4503599627370458 - b.getD 0 0) = z) := ⟨_, rfl⟩
  obtain ⟨y2, HY⟩ : ∃ z, Hid (4503599627370458 - b.getD 0 0 = z) := ⟨_, rfl⟩
  rw [HZ.out] at M2 H1
  rw [HY.out] at M1 M2
  clear hx hy HZ HY e0 HAb
  generalize a.getD 0 0 = x at *
  generalize b.getD 0 0 = y at *
  go_enter Tryd.func52, Tryd.ntmps52
  go_wp2_with (first
    | (refine vtake_step rfl 46 (.tmp 0) rfl (a.map ncell) rfl ?_
       intro w1 hB1 hA1)
    | (refine vtake_step rfl 46 (.tmp 1) rfl (b.map ncell) rfl ?_
       intro w2 hb2 hC2
       have hB2 := below_then hB1 hb2
       have hA2 := hA1.on hb2
       have hg1 := hA1.lt
       clear hB1 hA1 hb2)
    | (refine vzero_step rfl 46 rfl (nzeros 5) zero_numF ?_
       intro w3 hb3 hZ3
       have hB3 := below_then hB2 hb3
       have hA3 := hA2.on hb3
       have hC3 := hC2.on hb3
       have hg2 := hC2.lt
       have d1 := hA3.get X0.out
       have d2 := hC3.get Y0.out
       have hT := hA3.there 0 1 (by rw [List.length_map, HA.out]; omega)
       clear hB2 hA2 hC2 hb3)
    | ((try rw [M1, M2])
       refine store_step rfl 44 _ _ rfl w.heap.size 0 .u64 (z : Int) rfl rfl size_u64 hT ?_
       intro w4 hw4
       have hB4 : Below w.heap.size w w4 := by rw [hw4]; exact hB3.setCell (p := ⟨w.heap.size, 0, none⟩) (Nat.le_refl _) _
       have hA4 : Cells w4 w.heap.size ((S 1).map ncell) 46 := by rw [hw4, H1.out, ← nset_map]; exact hA3.set 0 _
       have hC4 : Cells w4 w1.heap.size (b.map ncell) 46 := by rw [hw4]; exact hC3.other (by show w1.heap.size ≠ w.heap.size; omega) _
       have hZ4 : Cells w4 w2.heap.size (nzeros 5) 46 := by rw [hw4]; exact hZ3.other (by show w2.heap.size ≠ w.heap.size; omega) _
       clear hw4 hB3 hA3 hC3 hZ3 d1 d2 hT M1 M2))
  generalize hg : w1.heap.size = gb at *
  generalize hh : w2.heap.size = gz at *
  clear hg hh
  go_loopw [5] (fun i wr => ∃ k : Nat, 1 ≤ k ∧ k ≤ 5 ∧ i = .int .i64 k ∧ Below w.heap.size w wr ∧ Cells wr w.heap.size ((S k).map ncell) 46 ∧ Cells wr gb (b.map ncell) 46 ∧ Cells wr gz (nzeros 5) 46) (fun i _ => 5 - (intOf i).toNat)
  case atStart => exact ⟨1, Nat.le_refl _, by omega, rfl, hB4, hA4, hC4, hZ4⟩
  case round =>
    clear hB4 hA4 hC4 hZ4
    obtain ⟨k, hk1, hk, rfl, hB, hS, hC, hZ⟩ := hrel
    have HLk := Lib.hid (HL.out k)
    by_cases hlt : k < 5
    · have HN := Lib.hid (HS.out k hk1 hlt)
      have HX := Lib.hid (HSb.out k hk1 hlt)
      have HY := Lib.hid (HBb.out k)
      generalize S k = s at *
      have i1 : (0 : Int) ≤ (k : Int) := by omega
      have i2 : (k : Int) < 5 := by omega
      go_wp2_with fail
      refine wp_region_tail 9 (by kernel_rfl) (by kernel_rfl) ?_
      intro w4 hw4
      have hB4 : Below w.heap.size w w4 := by rw [hw4]; exact hB.drew
      have hS4 : Cells w4 w.heap.size (s.map ncell) 46 := by rw [hw4]; exact hS
      have hC4 : Cells w4 gb (b.map ncell) 46 := by rw [hw4]; exact hC
      have hZ4 : Cells w4 gz (nzeros 5) 46 := by rw [hw4]; exact hZ
      clear hw4 hB hS hC hZ
      have d1 := hS4.get (nat_at s k (by rw [HLk.out]; exact hlt))
      have d2 := hC4.get (nat_at b k (by rw [HB.out]; exact hlt))
      have d3 := hS4.frozen k
      have M1 := Lib.hid (wsub 4503599627370494 (b.getD k 0) (by have := HY.out; omega) (by decide))
      have M2 := Lib.hid (wadd (s.getD k 0) (4503599627370494 - b.getD k 0) (by have := HX.out; omega))
      clear HX HY
      generalize s.getD k 0 = x at *
      generalize b.getD k 0 = y at *
      simp only [List.take_succ_cons, List.take_zero, List.drop_succ_cons, List.drop_zero]
      repeat still_step
      refine wpStill_nil ?_
      go_wp2
      go_roundw
      case rel =>
        rw [show (4503599627370494 : Int) = ((4503599627370494 : Nat) : Int) from rfl, M1.out, M2.out]
        refine ⟨k + 1, by omega, by omega, by go_num, hB4.setCell (p := ⟨w.heap.size, k, none⟩) (Nat.le_refl _) _, ?_, hC4.other (by show gb ≠ w.heap.size; omega) _, hZ4.other (by show gz ≠ w.heap.size; omega) _⟩
        rw [HN.out, ← nset_map]
        exact hS4.set k _
      case measure => simp [intOf]; omega
    · obtain rfl : k = 5 := by omega
      rw [HR.out] at hS HLk
      go_wp2_with (first
        | (refine vget_step rfl 46 _ rfl w.heap.size 5 (r.map ncell) 44 rfl hS Tryd.underlying46 size_numF (by rw [List.length_map, HLk.out]) ?_)
        | (refine vset_step rfl 46 _ _ rfl gz 5 (nzeros 5) (r.map ncell) rfl rfl hZ rfl size_numF (by rw [List.length_map, HLk.out]) (ncells_one r) ?_
           intro w7 hb7 hC7 _))
      refine vret Tryd.results52 gz (r.map ncell) rfl hC7 Tryd.underlying46 size_numF (by rw [List.length_map, HLk.out]) rfl ⟨rfl, hB.trans (hb7.below (by omega) hB.size)⟩
def minTo (a b : List Nat) : Nat → List Nat
  | 0 => a
  | 1 => a.set 0 (a.getD 0 0 + (4503599627370458 - b.getD 0 0))
  | k + 1 => (minTo a b k).set k ((minTo a b k).getD k 0 + (4503599627370494 - b.getD k 0))
theorem minTo_length (a b : List Nat) : ∀ k, (minTo a b k).length = a.length
  | 0 => rfl
  | 1 => by rw [minTo, List.length_set]
  | k + 2 => by rw [minTo, List.length_set, minTo_length a b (k + 1)]; exact fun h => by omega
theorem minusF_any (a0 a1 a2 a3 a4 b0 b1 b2 b3 b4 : Nat) (w : World) (ha : a0 < 2251799813685248 ∧ a1 < 2251799813685248 ∧ a2 < 2251799813685248 ∧ a3 < 2251799813685248 ∧ a4 < 2251799813685248) (hb : b0 < 2251799813685248 ∧ b1 < 2251799813685248 ∧ b2 < 2251799813685248 ∧ b3 < 2251799813685248 ∧ b4 < 2251799813685248) :
    Calls Tryd.prog 52 #[numVal [a0, a1, a2, a3, a4], numVal [b0, b1, b2, b3, b4]] w fun e w' => e = .returned (numVal [a0 + (4503599627370458 - b0), a1 + (4503599627370494 - b1), a2 + (4503599627370494 - b2), a3 + (4503599627370494 - b3), a4 + (4503599627370494 - b4)]) ∧ Below w.heap.size w w' := by
  obtain ⟨p0, p1, p2, p3, p4⟩ := ha
  obtain ⟨q0, q1, q2, q3, q4⟩ := hb
  refine minusF_over _ _ _ (minTo [a0, a1, a2, a3, a4] [b0, b1, b2, b3, b4]) w rfl rfl (fun k => minTo_length _ _ k) rfl (fun k h1 h2 => ?_) rfl (fun k => ?_) p0 (fun k h1 h2 => ?_)
  · match k, h1, h2 with
    | 1, _, _ => rfl
    | 2, _, _ => rfl
    | 3, _, _ => rfl
    | 4, _, _ => rfl
  · match k with
    | 0 => exact q0
    | 1 => exact q1
    | 2 => exact q2
    | 3 => exact q3
    | 4 => exact q4
    | k + 5 => show 0 < _; decide
  · match k, h1, h2 with
    | 1, _, _ => exact p1
    | 2, _, _ => exact p2
    | 3, _, _ => exact p3
    | 4, _, _ => exact p4
end Go.Proofs.YtlhgabhjbnckkaaDoor
