/- Part 3 of what the laws of this seat share: WParts, WKeep, WWords, WVals, OCells, OPlus, OFold, OTimes. -/
import Derived.Deep.WholeRow
import Derived.IntWalk
import Derived.Test.YtiadgningbogmaaDoorPart2
namespace Go.Proofs.YtiadgningbogmaaDoor
open Go.RowKit
/-- The waiting bytes behind more of them. -/
def restPut (rest us : List UInt8) (h : Nat) : List UInt8 := rest.take h ++ us ++ rest.drop (h + us.length)
theorem restPut_length (rest us : List UInt8) (h : Nat) (hl : h + us.length ≤ rest.length) : (restPut rest us h).length = rest.length := by
  simp [restPut]; omega
theorem restPut_take (rest us : List UInt8) (h : Nat) (hl : h + us.length ≤ rest.length) : (restPut rest us h).take (h + us.length) = rest.take h ++ us := by
  rw [restPut, List.take_append_of_le_length (by simp; omega), List.take_of_length_le (by simp; omega)]
theorem splice_mid (X R T cs : List Value) (h : Nat) (hl : h + cs.length ≤ R.length) : splice (X ++ R ++ T) (X.length + h) cs = X ++ (R.take h ++ cs ++ R.drop (h + cs.length)) ++ T := by
  unfold splice
  rw [List.append_assoc X R T, List.take_length_add_append, Nat.add_assoc, List.drop_length_add_append, List.take_append_of_le_length (by omega), List.drop_append_of_le_length (by omega)]
  simp
def lenOf : Value → Nat | .slice _ n _ => n | _ => 0
/-- A number's n bytes as cells, the high one first. -/
def bigCells (x n : Nat) : List Value := (putL x n).reverse.map cellOf
theorem Cells.row {w : World} {g m : Nat} {vs : List Value} {t : TypeId} {us : List UInt8} (h : Cells w g vs t) (hv : vs.take m = us.map cellOf) : Row w w.heap.size (some ⟨g, 0, none⟩) us := by
  refine .inr ⟨g, 0, rfl, h.lt, fun j u hu => ?_⟩
  rw [Nat.zero_add]
  refine h.get ?_
  have h1 : (vs.take m)[j]? = some (cellOf u) := by rw [hv, List.getElem?_map, hu]; rfl
  rw [List.getElem?_take] at h1
  split at h1
  · exact h1
  · cases h1
/-- A digest as the program holds it. -/
def hashVal (ds : List UInt8) : Value := .agg (ds.map cellOf).toArray
/-- The value v is a slice of these bytes. -/
def Part (w : World) (B : Nat) (v : Value) (us : List UInt8) : Prop := ∃ A c, v = .slice A us.length c ∧ Row w B A us ∧ us.length ≤ c ∧ c ≤ maxLen ∧ (A = none → c = 0)
/-- The address leads to so many slices of bytes. -/
def Parts (w : World) (B : Nat) (D : Option Addr) (ps : List (List UInt8)) : Prop :=
  ps = [] ∨ ∃ b off, D = some ⟨b, off, none⟩ ∧ b < B ∧ ∀ j us, ps[j]? = some us → ∃ v, w.cell? ⟨b, off + j, none⟩ = some v ∧ Part w B v us
theorem Part.below {w w' : World} {B : Nat} {v : Value} {us : List UInt8} (h : Part w B v us) (hb : Below B w w') : Part w' B v us := by
  obtain ⟨A, c, e, hr, h1, h2⟩ := h
  exact ⟨A, c, e, hr.below hb, h1, h2⟩
theorem Part.more {w : World} {B B' : Nat} {v : Value} {us : List UInt8} (h : Part w B v us) (hB : B ≤ B') : Part w B' v us := by
  obtain ⟨A, c, e, hr, h1, h2⟩ := h
  exact ⟨A, c, e, hr.more hB, h1, h2⟩
theorem Parts.below {w w' : World} {B : Nat} {D : Option Addr} {ps : List (List UInt8)} (h : Parts w B D ps) (hb : Below B w w') : Parts w' B D ps := by
  rcases h with rfl | ⟨b, off, rfl, hlt, hc⟩
  · exact .inl rfl
  · refine .inr ⟨b, off, rfl, hlt, fun j us hu => ?_⟩
    obtain ⟨v, h1, h2⟩ := hc j us hu
    exact ⟨v, (hb.cell hlt).trans h1, h2.below hb⟩
theorem Parts.more {w : World} {B B' : Nat} {D : Option Addr} {ps : List (List UInt8)} (h : Parts w B D ps) (hB : B ≤ B') : Parts w B' D ps := by
  rcases h with rfl | ⟨b, off, rfl, hlt, hc⟩
  · exact .inl rfl
  · refine .inr ⟨b, off, rfl, by omega, fun j us hu => ?_⟩
    obtain ⟨v, h1, h2⟩ := hc j us hu
    exact ⟨v, h1, h2.more hB⟩
theorem Parts.at {w : World} {B : Nat} {D : Option Addr} {ps : List (List UInt8)} (h : Parts w B D ps) (k : Nat) (hk : k < ps.length) : ∃ b off A c, D = some ⟨b, off, none⟩ ∧ w.cell? ⟨b, off + k, none⟩ = some (.slice A ps[k].length c) ∧ Row w B A ps[k] ∧ ps[k].length ≤ c ∧ c ≤ maxLen ∧ (A = none → c = 0) := by
  rcases h with rfl | ⟨b, off, rfl, hlt, hc⟩
  · simp at hk
  · obtain ⟨v, h1, A, c, rfl, h2, h3, h4⟩ := hc k _ (List.getElem?_eq_getElem hk)
    exact ⟨b, off, A, c, rfl, h1, h2, h3, h4⟩
theorem flatten_take_le (ps : List (List UInt8)) (k : Nat) : (ps.take k).flatten.length ≤ ps.flatten.length := by
  conv => rhs; rw [← List.take_append_drop k ps, List.flatten_append, List.length_append]
  omega
theorem parts_lit (w : World) (vs : Array Value) (ps : List (List UInt8)) (h : ∀ (j : Nat) (us : List UInt8), ps[j]? = some us → ∃ v, vs[j]? = some v ∧ Part w w.heap.size v us) :
    Parts (w.alloc (.cells vs 25)) (w.alloc (.cells vs 25)).heap.size (some ⟨w.heap.size, 0, none⟩) ps := by
  refine .inr ⟨w.heap.size, 0, rfl, by simp, fun j us hu => ?_⟩
  obtain ⟨v, hv, A, c, e, hr, h1, h2⟩ := h j us hu
  have hb : Below w.heap.size w (w.alloc (.cells vs 25)) := (Below.refl _ _).alloc (Nat.le_refl _) _
  refine ⟨v, ?_, A, c, e, (hr.on hb), h1, h2⟩
  rw [Nat.zero_add, World.cell?_alloc_at _ _ _ _ rfl]
  exact hv
theorem row_lit (w : World) (bs : List UInt8) (f : Nat × Nat) : Row (w.alloc (.cells (bs.map cellOf).toArray 5 f)) (w.heap.size + 1) (some ⟨w.heap.size, 0, none⟩) bs := by
  refine .inr ⟨w.heap.size, 0, rfl, by omega, fun j u hu => ?_⟩
  rw [Nat.zero_add, cell_of_row _ _ _ _ _ _ (heap_alloc_new w _), List.getElem?_toArray, List.getElem?_map, hu]
  rfl
/-- An operation under a guard that holds goes as one without. -/
theorem unguard {P : Program} {w : World} {ops : Array Oper} {rest : List Oper} {o : Oper} {a : Act} {Q : Exit → Act → World → Prop} (hw : Region.wanted o (yielded ops a.tmps) = true) (h : wpList P ops Q ({ o with guard := none } :: rest) a w) : wpList P ops Q (o :: rest) a w := by
  unfold wpList at h ⊢
  rw [if_pos hw]
  rw [if_pos (by simp [Region.wanted])] at h
  exact h
theorem Owns.keep {w w' : World} {base : Nat} {v : Value} {bs : List UInt8} (h : Owns w base v bs) (hk : ∀ g, v.ownBlock = some g → w'.heap[g]? = w.heap[g]?) : Owns w' base v bs := by
  obtain ⟨h1, h2⟩ := h
  refine ⟨h1, ?_⟩
  rcases h2 with h2 | ⟨g, cap, cur, hv, hg, hh, r⟩
  · exact .inl h2
  · refine .inr ⟨g, cap, cur, hv, hg, ?_, r⟩
    rw [hk g (by rw [hv]; rfl)]
    exact hh
theorem Owns.on {w w' : World} {base : Nat} {v : Value} {bs : List UInt8} (h : Owns w base v bs) (hb : Below w.heap.size w w') : Owns w' base v bs :=
  h.keep fun g hg => hb.block g (World.ownsRow.lt h g hg).2
theorem Owns.but {w w' : World} {base g : Nat} {v : Value} {bs : List UInt8} (h : Owns w base v bs) (hb : But g w w') (hg : g < base) : Owns w' base v bs :=
  h.keep fun k hk => hb.block k (World.ownsRow.lt h k hk).2 (by have := (World.ownsRow.lt h k hk).1; omega)
/-- What a call answers that makes a new row of these bytes. -/
def GivesNew (w : World) (bs : List UInt8) (e : Ending) (w' : World) : Prop :=
  ∃ g c, e = .returned (.slice (some ⟨g, 0, none⟩) bs.length c) ∧ w.heap.size ≤ g ∧ Below w.heap.size w w' ∧ Row w' w'.heap.size (some ⟨g, 0, none⟩) bs
theorem getD_lt (ms : List UInt8) (j : Nat) (h : j < ms.length) : ms.getD j 0 = ms[j] := by simp [List.getD, h]
theorem Row.atD {w : World} {B : Nat} {A : Option Addr} {bs : List UInt8} (h : Row w B A bs) (k : Nat) (hk : k < bs.length) : ∃ b off, A = some ⟨b, off, none⟩ ∧ b < B ∧ w.cell? ⟨b, off + k, none⟩ = some (cellOf (bs.getD k 0)) := by
  obtain ⟨b, off, h1, h2, h3⟩ := h.at k hk
  refine ⟨b, off, h1, h2, ?_⟩
  rw [h3]
  simp [List.getD, List.getElem?_eq_getElem hk]

/-- 'make([]byte, m, n)', the world behind it under a name. -/
theorem make_step {w : World} {ops : Array Oper} {rest : List Oper} {o : Oper} {a : Act} {Q : Exit → Act → World → Prop} (hgd : o.guard = none) (l c : Operand) (ho : o.op = .makeSlice 25 l c) (m n : Nat) (hl : a.eval l = .int .i64 (m : Int)) (hc : a.eval c = .int .i64 (n : Int)) (hmn : m ≤ n) (hn : n ≤ 1000000)
    (h : ∀ w', Below w.heap.size w w' → Made w' w.heap.size (List.replicate n 0) → w'.heap.size = w.heap.size + 1 → wpList Tryd.prog ops Q rest (a.put o.dst (.slice (some ⟨w.heap.size, 0, none⟩) m n)) w') : wpList Tryd.prog ops Q (o :: rest) a w := by
  refine wpList_plain hgd fun K hK => ?_
  have hrun := make_bytes m n hmn hn w
  unfold Oper.wp
  simp only [execOp, ho, hl, hc, hrun, Sem.run_bind, Sem.run_pure, Result.andThen_ok]
  exact hK _ _ (h _ ((Below.refl _ _).alloc (Nat.le_refl _) _) (Made.new w _) (by simp))
theorem cutA_some (g o l cap : Nat) (h : ¬ cap = l) : cutA (some ⟨g, o, none⟩) l cap = some ⟨g, o + l, none⟩ := by
  unfold cutA
  rw [if_neg h]
  simp [Addr.add_mid]
theorem Made.cells {w : World} {g : Nat} {bs : List UInt8} (h : Made w g bs) : Cells w g (bs.map cellOf) 5 := h
theorem cells_at (w : World) (vs : List Value) (t : TypeId) (g : Nat) (hg : w.heap.size = g) : Cells (w.alloc (.cells vs.toArray t)) g vs t := by
  subst hg
  exact Cells.new w vs.toArray t
theorem slice_to (A : Option Addr) (n c i : Nat) (hi : i ≤ n) (hc : n ≤ c) (w : World) : (Instr.slice 25 (.slice A n c) none (some (.int .i64 (i : Int))) none).run Tryd.prog w = .ok (.slice (cutA A 0 c) i c) w := by
  obtain ⟨i0, hi0, hs0⟩ := Option.map_eq_some_iff.1 size_u8
  have h4 : (i : Int) ≤ (c : Int) := by omega
  simp [Instr.slice, run_underlying Tryd.underlying25, Instr.sliceBounds, run_sliceBound, sizeOf, typeInfo, hi0, cutA, h4]
theorem slice_mid (A : Option Addr) (n c i k : Nat) (hi : i ≤ k) (hk : k ≤ n) (hc : n ≤ c) (w : World) : (Instr.slice 25 (.slice A n c) (some (.int .i64 (i : Int))) (some (.int .i64 (k : Int))) none).run Tryd.prog w = .ok (.slice (cutA A i c) (k - i) (c - i)) w := by
  obtain ⟨i0, hi0, hs0⟩ := Option.map_eq_some_iff.1 size_u8
  have h4 : (k : Int) ≤ (c : Int) := by omega
  have h5 : (i : Int) ≤ (k : Int) := by omega
  simp [Instr.slice, run_underlying Tryd.underlying25, Instr.sliceBounds, run_sliceBound, sizeOf, typeInfo, hi0, hs0, cutA, h4, h5]
theorem slice_from (A : Option Addr) (n c k : Nat) (hk : k ≤ n) (w : World) : (Instr.slice 25 (.slice A n c) (some (.int .i64 (k : Int))) none none).run Tryd.prog w = .ok (.slice (cutA A k c) (n - k) (c - k)) w := by
  obtain ⟨i0, hi0, hs0⟩ := Option.map_eq_some_iff.1 size_u8
  have h5 : (k : Int) ≤ (n : Int) := by omega
  simp [Instr.slice, run_underlying Tryd.underlying25, Instr.sliceBounds, run_sliceBound, sizeOf, typeInfo, hi0, hs0, cutA, h5]
end Go.Proofs.YtiadgningbogmaaDoor
namespace Go.Proofs.YtiadgningbogmaaDoor
open Go.RowKit
section
variable {w : World} {ops : Array Oper} {rest : List Oper} {o o1 o2 : Oper} {a : Act} {Q : Exit → Act → World → Prop}
/-- 'x := f(..)', x an array of bytes: a new variable, and the value stored into it. -/
theorem put_step (hg1 : o1.guard = none) (hg2 : o2.guard = none) (t : TypeId) (x y : Operand) (h1 : o1.op = .alloc t) (h2 : o2.op = .store t x y) (n : Nat) (ds : List UInt8)
    (hx : (a.put o1.dst (.pointer (some ⟨w.heap.size, 0, none⟩))).eval x = .pointer (some ⟨w.heap.size, 0, none⟩)) (hy : (a.put o1.dst (.pointer (some ⟨w.heap.size, 0, none⟩))).eval y = hashVal ds)
    (hz : ∀ w, (zeroValue t).run Tryd.prog w = .ok (.agg (List.replicate n (cellOf 0)).toArray) w) (hs : (Tryd.prog.info? t).map (·.size) = some n) (hl : ds.length = n)
    (h : ∀ w', Below w.heap.size w w' → Cells w' w.heap.size (ds.map cellOf) t → w'.heap.size = w.heap.size + 1 → wpList Tryd.prog ops Q rest ((a.put o1.dst (.pointer (some ⟨w.heap.size, 0, none⟩))).put o2.dst undef) w') : wpList Tryd.prog ops Q (o1 :: o2 :: rest) a w := by
  refine alloc_step hg1 t h1 _ hz ?_
  intro w1 hw1
  have hB1 : Below w.heap.size w w1 := by rw [hw1]; exact (Below.refl _ _).alloc (Nat.le_refl _) _
  have hC1 : Cells w1 w.heap.size (List.replicate n (cellOf 0)) t := by rw [hw1]; exact Cells.new w _ _
  have hz1 : w1.heap.size = w.heap.size + 1 := by rw [hw1]; simp
  clear hw1
  have hsz : (ds.map cellOf).toArray.size = n := by rw [List.size_toArray, List.length_map, hl]
  refine wpList_store_mid hg2 t x y h2 w.heap.size 0 (ds.map cellOf).toArray hx hy (by rw [hsz]; exact hC1.there 0 n (by simp)) (by rw [hsz]; exact hs) (all_oneCell_toArray (cells8_one ds)) ?_
  have hC2 := hC1.setCells (cs := ds.map cellOf) (o := 0) (by simp [hl])
  rw [splice_all _ _ (by simp [hl])] at hC2
  exact h _ (below_setCells hB1 (Nat.le_refl _) _ _) hC2 (by rw [(heap_setCells _ _ _ _).2.2.2.1, hz1])
/-- A variable that is an array of bytes, as a value. -/
theorem get_step (hgd : o.guard = none) (t : TypeId) (x : Operand) (ho : o.op = .load t x) (g n : Nat) (ds : List UInt8) (e : TypeId) (hx : a.eval x = .pointer (some ⟨g, 0, none⟩)) (hC : Cells w g (ds.map cellOf) t) (hu : Tryd.prog.underlying t = some (.array n e))
    (hs : (Tryd.prog.info? t).map (·.size) = some n) (hl : ds.length = n) (h : wpList Tryd.prog ops Q rest (a.put o.dst (hashVal ds)) w) : wpList Tryd.prog ops Q (o :: rest) a w :=
  wpList_load_row hgd t x ho g hx t (ds.map cellOf).toArray (0, 0) _ hC hu rfl (by rw [List.size_toArray, List.length_map, hl]; exact hs) h
/-- An array of bytes stored over a variable. -/
theorem set_step (hgd : o.guard = none) (t : TypeId) (x y : Operand) (ho : o.op = .store t x y) (g n : Nat) (vs : List Value) (ds : List UInt8) (hx : a.eval x = .pointer (some ⟨g, 0, none⟩)) (hy : a.eval y = hashVal ds) (hC : Cells w g vs t) (hv : vs.length = n)
    (hs : (Tryd.prog.info? t).map (·.size) = some n) (hl : ds.length = n) (h : ∀ w', But g w w' → Cells w' g (ds.map cellOf) t → w'.heap.size = w.heap.size → wpList Tryd.prog ops Q rest (a.put o.dst undef) w') : wpList Tryd.prog ops Q (o :: rest) a w := by
  have hsz : (ds.map cellOf).toArray.size = n := by rw [List.size_toArray, List.length_map, hl]
  refine wpList_store_mid hgd t x y ho g 0 (ds.map cellOf).toArray hx hy (by rw [hsz]; exact hC.there 0 n (by omega)) (by rw [hsz]; exact hs) (all_oneCell_toArray (cells8_one ds)) ?_
  have hC2 := hC.setCells (cs := ds.map cellOf) (o := 0) (by simp [hl, hv])
  rw [splice_all _ _ (by simp [hl, hv])] at hC2
  exact h _ ((But.refl g w).setCells _ _) hC2 (heap_setCells _ _ _ _).2.2.2.1
/-- A new variable of a type whose zero value is an array of noughts. -/
theorem zero_step (hgd : o.guard = none) (t : TypeId) (ho : o.op = .alloc t) (n : Nat) (hz : ∀ w, (zeroValue t).run Tryd.prog w = .ok (.agg (List.replicate n (cellOf 0)).toArray) w)
    (h : ∀ w', Below w.heap.size w w' → Cells w' w.heap.size (List.replicate n (cellOf 0)) t → w'.heap.size = w.heap.size + 1 → wpList Tryd.prog ops Q rest (a.put o.dst (.pointer (some ⟨w.heap.size, 0, none⟩))) w') : wpList Tryd.prog ops Q (o :: rest) a w := by
  refine alloc_step hgd t ho _ hz ?_
  intro w1 hw1
  exact h w1 (by rw [hw1]; exact (Below.refl _ _).alloc (Nat.le_refl _) _) (by rw [hw1]; exact Cells.new w _ _) (by rw [hw1]; simp)
/-- An array of bytes that comes as a value, laid into a new variable. -/
theorem take_step (hgd : o.guard = none) (t : TypeId) (x : Operand) (ho : o.op = .box t x) (ds : List UInt8) (hx : a.eval x = hashVal ds)
    (h : ∀ w', Below w.heap.size w w' → Cells w' w.heap.size (ds.map cellOf) t → w'.heap.size = w.heap.size + 1 → wpList Tryd.prog ops Q rest (a.put o.dst (.pointer (some ⟨w.heap.size, 0, none⟩))) w') : wpList Tryd.prog ops Q (o :: rest) a w := by
  refine box_step hgd t x ho _ hx ?_
  intro w1 hw1
  exact h w1 (by rw [hw1]; exact (Below.refl _ _).alloc (Nat.le_refl _) _) (by rw [hw1]; exact Cells.new w _ _) (by rw [hw1]; simp)
end
/-- A function whose result is an array of bytes in a block of its own. -/
theorem ret_hash {fn : Func} {R : Ending → World → Prop} {a : Act} {w : World} {p : Tmp} {ty e : TypeId} {n : Nat} (hres : fn.results = #[.cell p ty]) (g : Nat) (ds : List UInt8)
    (hp : a.tmps.getD p undef = .pointer (some ⟨g, 0, none⟩)) (hg : Cells w g (ds.map cellOf) ty) (hu : Tryd.prog.underlying ty = some (.array n e)) (hi : (Tryd.prog.info? ty).map (·.size) = some n) (hl : ds.length = n)
    (hdf : a.defers = []) (hR : R (.returned (hashVal ds)) w) : bodyPost Tryd.prog fn R .ret a w :=
  ret_block hres g (ds.map cellOf) ty hp hg hu rfl (by rw [List.length_map, hl]; exact hi) hdf hR
theorem Cells.all {w : World} {g : Nat} {ds : List UInt8} {t : TypeId} (h : Cells w g (ds.map cellOf) t) : Row w w.heap.size (some ⟨g, 0, none⟩) ds :=
  h.row (m := ds.length) (by rw [← List.length_map cellOf, List.take_length])
theorem Cells.on {w w' : World} {g : Nat} {vs : List Value} {t : TypeId} (h : Cells w g vs t) (hb : Below w.heap.size w w') : Cells w' g vs t := h.below hb h.lt
/-- 'append(out, b...)' onto a whole row of the call's own, block g: of the old blocks only g may have turned. -/
theorem append_but {w : World} {ops : Array Oper} {rest : List Oper} {o : Oper} {a : Act} {Q : Exit → Act → World → Prop} (hgd : o.guard = none) (s x : Operand)
    (ho : o.op = .call { callee := .builtin .append, args := #[s, x], argTypes := #[25, 25] }) (base g l c0 : Nat)
    (bs us : List UInt8) (B : Nat) (A : Option Addr) (c n : Nat) (hs : a.eval s = .slice (some ⟨g, 0, none⟩) l c0) (hown : Owns w base (.slice (some ⟨g, 0, none⟩) l c0) bs) (hx : a.eval x = .slice A n c) (hn : us.length = n) (hA : A = none → c = 0) (hr : Row w B A us)
    (hlen : bs.length + n ≤ 1000000) (hbase : base ≤ w.heap.size)
    (h : ∀ v' w', Owns w' base v' (bs ++ us) → But g w w' → wpList Tryd.prog ops Q rest (a.put o.dst v') w') : wpList Tryd.prog ops Q (o :: rest) a w := by
  subst hn
  obtain ⟨i0, hi0, hz0, hz1, hz2⟩ := info_parts u8_info
  rcases A with _ | ad
  · have : us = [] := by
      rcases hr with h | ⟨_, _, h, _⟩
      · exact h
      · cases h
    subst this
    rw [hA rfl] at hx
    exact wpList_append_own_none hgd s x 25 ho base 5 i0 1 Tryd.underlying25 hi0 _ bs.length (bs.map cellOf) hs hown hx (h _ w (by simpa using hown) (But.refl _ _))
  · refine wpList_append_own w hgd s x 25 ho base 5 i0 _ 1 1 Tryd.underlying25 hi0 hz0 hz1 hz2 rfl (by omega) _ bs.length (bs.map cellOf) hs hown ad us.length c (us.map cellOf) hx (by simp) ?_ ?_ (by simp only [maxLen]; omega) (by omega) hbase ?_
    · intro j u hu
      rw [List.getElem?_map] at hu
      cases hj : us[j]? with
      | none => rw [hj] at hu; cases hu
      | some q =>
        rw [hj] at hu
        rcases hr with rfl | ⟨b, off, hb1, _, hc⟩
        · simp at hj
        · cases hb1
          rw [Go.WideShapes.add_plain, hc j q hj]
          exact hu
    · intro u hu
      obtain ⟨q, _, rfl⟩ := List.mem_map.1 hu
      rfl
    · intro v' w' h2 h3 _
      refine h v' w' ?_ ⟨h3.os, h3.tape, h3.output, h3.size, fun k hk hne => h3.block k hk (fun e => hne (by simpa [Value.ownBlock] using e))⟩
      unfold Owns
      simpa using h2
end Go.Proofs.YtiadgningbogmaaDoor
namespace Go.Proofs.YtiadgningbogmaaDoor
open Go.RowKit
/-- A word as a cell holds it. -/
abbrev wcell (x : BitVec 32) : Value := .int .u32 (x.toNat : Int)
/- Go's operations on words of 32 bits. -/
theorem add32 (x y : BitVec 32) : ((x.toNat : Int) + (y.toNat : Int)) % 4294967296 = ((x + y).toNat : Int) := by
  rw [BitVec.toNat_add]; omega
theorem wadd32 (x y : BitVec 32) : IntKind.u32.wrap ((x.toNat : Int) + (y.toNat : Int)) = ((x + y).toNat : Int) := by
  rw [IntKind.wrap_u32, add32]
theorem wcells_one (l : List (BitVec 32)) : (l.map wcell).toArray.all (·.oneCell') = true := all_oneCell_toArray (by intro v hv; obtain ⟨x, _, rfl⟩ := List.mem_map.1 hv; rfl)
theorem list_at (l : List (BitVec 32)) (k : Nat) (hk : k < l.length) : (l.map wcell)[k]? = some (wcell (l.getD k 0)) := by
  rw [List.getElem?_map, List.getD_eq_getElem?_getD, List.getElem?_eq_getElem hk]
  rfl
/-- So many words of nought. (Named, so that a walk leaves them whole.) -/
def wzeros (n : Nat) : List Value := List.replicate n (wcell 0)
theorem wzeros_map (n : Nat) : wzeros n = (List.replicate n (0 : BitVec 32)).map wcell := by simp [wzeros]
theorem wset_map (l : List (BitVec 32)) (k : Nat) (x : BitVec 32) : (l.map wcell).set k (wcell x) = (l.set k x).map wcell := by rw [List.map_set]
end Go.Proofs.YtiadgningbogmaaDoor
namespace Go.Proofs.YtiadgningbogmaaDoor
open Go.RowKit
theorem size_u32 : (Tryd.prog.info? 71).map (·.size) = some 1 := by kernel_rfl
theorem u32_info : (Tryd.prog.info? 71).map (fun i => (i.zero, i.size, i.bytes)) = some (some (.int .u32 0), 1, 4) := by kernel_rfl
section
variable {P : Program} {w : World} {ops : Array Oper} {rest : List Oper} {o o1 o2 : Oper} {a : Act} {Q : Exit → Act → World → Prop}
/-- 'x := f(..)', x an array: a new variable, and the value stored into it. -/
theorem vput_step (hg1 : o1.guard = none) (hg2 : o2.guard = none) (t : TypeId) (x y : Operand) (h1 : o1.op = .alloc t) (h2 : o2.op = .store t x y) (n : Nat) (zs vs : List Value)
    (hx : (a.put o1.dst (.pointer (some ⟨w.heap.size, 0, none⟩))).eval x = .pointer (some ⟨w.heap.size, 0, none⟩)) (hy : (a.put o1.dst (.pointer (some ⟨w.heap.size, 0, none⟩))).eval y = .agg vs.toArray)
    (hz : ∀ w, (zeroValue t).run P w = .ok (.agg zs.toArray) w) (hzl : zs.length = n) (hs : (P.info? t).map (·.size) = some n) (hl : vs.length = n) (h1c : vs.toArray.all (·.oneCell') = true)
    (h : ∀ w', Below w.heap.size w w' → Cells w' w.heap.size vs t → wpList P ops Q rest ((a.put o1.dst (.pointer (some ⟨w.heap.size, 0, none⟩))).put o2.dst undef) w') : wpList P ops Q (o1 :: o2 :: rest) a w := by
  refine alloc_step hg1 t h1 _ hz ?_
  intro w1 hw1
  have hB1 : Below w.heap.size w w1 := by rw [hw1]; exact (Below.refl _ _).alloc (Nat.le_refl _) _
  have hC1 : Cells w1 w.heap.size zs t := by rw [hw1]; exact Cells.new w _ _
  clear hw1
  have hsz : vs.toArray.size = n := by rw [List.size_toArray, hl]
  refine wpList_store_mid hg2 t x y h2 w.heap.size 0 vs.toArray hx hy (by rw [hsz]; exact hC1.there 0 n (by omega)) (by rw [hsz]; exact hs) h1c ?_
  have hC2 := hC1.setCells (cs := vs) (o := 0) (by omega)
  rw [splice_all _ _ (by omega)] at hC2
  exact h _ (below_setCells hB1 (Nat.le_refl _) _ _) hC2
/-- A variable that is an array, as a value. -/
theorem vget_step (hgd : o.guard = none) (t : TypeId) (x : Operand) (ho : o.op = .load t x) (g n : Nat) (vs : List Value) (e : TypeId) (hx : a.eval x = .pointer (some ⟨g, 0, none⟩)) (hC : Cells w g vs t) (hu : P.underlying t = some (.array n e))
    (hs : (P.info? t).map (·.size) = some n) (hl : vs.length = n) (h : wpList P ops Q rest (a.put o.dst (.agg vs.toArray)) w) : wpList P ops Q (o :: rest) a w :=
  wpList_load_row hgd t x ho g hx t vs.toArray (0, 0) _ hC hu rfl (by rw [List.size_toArray, hl]; exact hs) h
/-- An array stored over a variable. -/
theorem vset_step (hgd : o.guard = none) (t : TypeId) (x y : Operand) (ho : o.op = .store t x y) (g n : Nat) (us vs : List Value) (hx : a.eval x = .pointer (some ⟨g, 0, none⟩)) (hy : a.eval y = .agg vs.toArray) (hC : Cells w g us t) (hv : us.length = n)
    (hs : (P.info? t).map (·.size) = some n) (hl : vs.length = n) (h1c : vs.toArray.all (·.oneCell') = true) (h : ∀ w', But g w w' → Cells w' g vs t → w'.heap.size = w.heap.size → wpList P ops Q rest (a.put o.dst undef) w') : wpList P ops Q (o :: rest) a w := by
  have hsz : vs.toArray.size = n := by rw [List.size_toArray, hl]
  refine wpList_store_mid hgd t x y ho g 0 vs.toArray hx hy (by rw [hsz]; exact hC.there 0 n (by omega)) (by rw [hsz]; exact hs) h1c ?_
  have hC2 := hC.setCells (cs := vs) (o := 0) (by omega)
  rw [splice_all _ _ (by omega)] at hC2
  exact h _ ((But.refl g w).setCells _ _) hC2 (heap_setCells _ _ _ _).2.2.2.1
/-- A new variable of a type whose zero value is known. -/
theorem vzero_step (hgd : o.guard = none) (t : TypeId) (ho : o.op = .alloc t) (zs : List Value) (hz : ∀ w, (zeroValue t).run P w = .ok (.agg zs.toArray) w)
    (h : ∀ w', Below w.heap.size w w' → Cells w' w.heap.size zs t → wpList P ops Q rest (a.put o.dst (.pointer (some ⟨w.heap.size, 0, none⟩))) w') : wpList P ops Q (o :: rest) a w := by
  refine alloc_step hgd t ho _ hz ?_
  intro w1 hw1
  exact h w1 (by rw [hw1]; exact (Below.refl _ _).alloc (Nat.le_refl _) _) (by rw [hw1]; exact Cells.new w _ _)
/-- An array that comes as a value, laid into a new variable. -/
theorem vtake_step (hgd : o.guard = none) (t : TypeId) (x : Operand) (ho : o.op = .box t x) (vs : List Value) (hx : a.eval x = .agg vs.toArray)
    (h : ∀ w', Below w.heap.size w w' → Cells w' w.heap.size vs t → wpList P ops Q rest (a.put o.dst (.pointer (some ⟨w.heap.size, 0, none⟩))) w') : wpList P ops Q (o :: rest) a w := by
  refine box_step hgd t x ho _ hx ?_
  intro w1 hw1
  exact h w1 (by rw [hw1]; exact (Below.refl _ _).alloc (Nat.le_refl _) _) (by rw [hw1]; exact Cells.new w _ _)
end
/-- A function whose result is an array in a block of its own. -/
theorem vret {P : Program} {fn : Func} {R : Ending → World → Prop} {a : Act} {w : World} {p : Tmp} {ty e : TypeId} {n : Nat} (hres : fn.results = #[.cell p ty]) (g : Nat) (vs : List Value)
    (hp : a.tmps.getD p undef = .pointer (some ⟨g, 0, none⟩)) (hg : Cells w g vs ty) (hu : P.underlying ty = some (.array n e)) (hi : (P.info? ty).map (·.size) = some n) (hl : vs.length = n)
    (hdf : a.defers = []) (hR : R (.returned (.agg vs.toArray)) w) : bodyPost P fn R .ret a w :=
  ret_block hres g vs ty hp hg hu rfl (by rw [hl]; exact hi) hdf hR
end Go.Proofs.YtiadgningbogmaaDoor
namespace Go.Proofs.YtiadgningbogmaaDoor
open Go.RowKit
/-- A limb as a cell holds it. -/
abbrev ncell (x : Nat) : Value := .int .u64 (x : Int)
/-- A number as a value. -/
def numVal (n : List Nat) : Value := .agg (n.map ncell).toArray
theorem add64n (x y : Nat) : IntKind.u64.wrap ((x : Int) + (y : Int)) = ((addW x y : Nat) : Int) := by
  rw [IntKind.wrap_u64, addW]; omega
theorem mul64n (x y : Nat) : IntKind.u64.wrap ((x : Int) * (y : Int)) = ((mulW x y : Nat) : Int) := by
  rw [IntKind.wrap_u64, mulW, ← Int.natCast_mul]; omega
theorem and26 (x : Nat) (h : x < 18446744073709551616) : bits .and .u64 (x : Int) 67108863 = ((x % 67108864 : Nat) : Int) := by
  rw [show (67108863 : Int) = ((67108863 : Nat) : Int) from rfl, u64_and_nat _ _ h (by omega)]
  have := Nat.and_two_pow_sub_one_eq_mod x 26
  simp only [Nat.reducePow, Nat.reduceSub] at this
  rw [this]
theorem addW_lt (x y : Nat) : addW x y < 18446744073709551616 := Nat.mod_lt _ (by omega)
theorem mulW_lt64 (x y : Nat) : mulW x y < 18446744073709551616 := Nat.mod_lt _ (by omega)
theorem ncells_one (l : List Nat) : (l.map ncell).toArray.all (·.oneCell') = true := all_oneCell_toArray (by intro v hv; obtain ⟨x, _, rfl⟩ := List.mem_map.1 hv; rfl)
theorem nat_at (l : List Nat) (k : Nat) (hk : k < l.length) : (l.map ncell)[k]? = some (ncell (l.getD k 0)) := by
  rw [List.getElem?_map, List.getD_eq_getElem?_getD, List.getElem?_eq_getElem hk]
  rfl
/-- So many limbs of nought. (Named, so that a walk leaves them whole.) -/
def nzeros (n : Nat) : List Value := List.replicate n (ncell 0)
theorem nset_map (l : List Nat) (k : Nat) (x : Nat) : (l.map ncell).set k (ncell x) = (l.set k x).map ncell := by rw [List.map_set]
theorem zero_num : ∀ w, (zeroValue 41).run Tryd.prog w = .ok (.agg (nzeros 5).toArray) w := (zero_of_info (P := Tryd.prog) (t := 41) (v := .agg (nzeros 5).toArray) (n := 5) (by kernel_rfl)).1
theorem size_num : (Tryd.prog.info? 41).map (·.size) = some 5 := by kernel_rfl
theorem size_u64 : (Tryd.prog.info? 39).map (·.size) = some 1 := by kernel_rfl
/-- A function whose results are an array in a block of its own, and a plain value. -/
theorem vret2 {P : Program} {fn : Func} {R : Ending → World → Prop} {a : Act} {w : World} {p u : Tmp} {ty e : TypeId} {n : Nat} (hres : fn.results = #[.cell p ty, .tmp u]) (g : Nat) (vs : List Value) (v : Value)
    (hp : a.tmps.getD p undef = .pointer (some ⟨g, 0, none⟩)) (hv : a.tmps.getD u undef = v) (hg : Cells w g vs ty) (hu : P.underlying ty = some (.array n e)) (hi : (P.info? ty).map (·.size) = some n) (hl : vs.length = n)
    (hdf : a.defers = []) (hR : R (.returned (.tuple #[.agg vs.toArray, v])) w) : bodyPost P fn R .ret a w := by
  have hp' : a.tmps[p]?.getD undef = .pointer (some ⟨g, 0, none⟩) := by simpa using hp
  have hv' : a.tmps[u]?.getD undef = v := by simpa using hv
  have hrun : (results fn a.tmps).run P w = .ok (.tuple #[.agg vs.toArray, v]) w := by
    simp [results, hres, hp', hv', asAddr, run_loadVar_row w g ty ty vs.toArray (0, 0) _ hg hu rfl (by rw [List.size_toArray, hl]; exact hi)]
  exact bodyPost_ret hrun hdf hR
end Go.Proofs.YtiadgningbogmaaDoor
namespace Go.Proofs.YtiadgningbogmaaDoor
open Go.RowKit
set_option maxRecDepth 100000 in
set_option maxHeartbeats 1000000 in
theorem plus_over (a b r : List Nat) (S : Nat → List Nat) (w : World) (HB : Hid (b.length = 5)) (HL : Hid (∀ k, (S k).length = 5)) (H0 : Hid (S 0 = a)) (HS : Hid (∀ k, S (k + 1) = (S k).set k (addW ((S k).getD k 0) (b.getD k 0)))) (HR : Hid (S 5 = r)) :
    Calls Tryd.prog 25 #[numVal a, numVal b] w fun e w' => e = .returned (numVal r) ∧ Below w.heap.size w w' := by
  go_enter Tryd.func25, Tryd.ntmps25
  go_wp2_with (first
    | (refine vtake_step rfl 41 (.tmp 0) rfl (a.map ncell) rfl ?_
       intro w1 hB1 hA1)
    | (refine vtake_step rfl 41 (.tmp 1) rfl (b.map ncell) rfl ?_
       intro w2 hb2 hC2
       have hB2 := below_then hB1 hb2
       have hA2 := hA1.on hb2
       have hg1 := hA1.lt
       clear hB1 hA1 hb2)
    | (refine vzero_step rfl 41 rfl (nzeros 5) zero_num ?_
       intro w3 hb3 hZ3
       have hB3 := below_then hB2 hb3
       have hA3 := hA2.on hb3
       have hC3 := hC2.on hb3
       have hg2 := hC2.lt
       clear hB2 hA2 hC2 hb3))
  generalize hg : w1.heap.size = gb at *
  generalize hh : w2.heap.size = gz at *
  clear hg hh
  go_loopw [6] (fun i wr => ∃ k : Nat, k ≤ 5 ∧ i = .int .i64 k ∧ Below w.heap.size w wr ∧ Cells wr w.heap.size ((S k).map ncell) 41 ∧ Cells wr gb (b.map ncell) 41 ∧ Cells wr gz (nzeros 5) 41) (fun i _ => 5 - (intOf i).toNat)
  case atStart => exact ⟨0, Nat.zero_le _, rfl, hB3, by rw [H0.out]; exact hA3, hC3, hZ3⟩
  case round =>
    clear hB3 hA3 hC3 hZ3
    obtain ⟨k, hk, rfl, hB, hS, hC, hZ⟩ := hrel
    have HLk := Lib.hid (HL.out k)
    by_cases hlt : k < 5
    · have HN := Lib.hid (HS.out k)
      generalize S k = s at *
      have i1 : (0 : Int) ≤ (k : Int) := by omega
      have i2 : (k : Int) < 5 := by omega
      go_wp2_with fail
      refine wp_region_tail 8 (by kernel_rfl) (by kernel_rfl) ?_
      intro w4 hw4
      have hB4 : Below w.heap.size w w4 := by rw [hw4]; exact hB.drew
      have hS4 : Cells w4 w.heap.size (s.map ncell) 41 := by rw [hw4]; exact hS
      have hC4 : Cells w4 gb (b.map ncell) 41 := by rw [hw4]; exact hC
      have hZ4 : Cells w4 gz (nzeros 5) 41 := by rw [hw4]; exact hZ
      clear hw4 hB hS hC hZ
      have d1 := hS4.get (nat_at s k (by rw [HLk.out]; exact hlt))
      have d2 := hC4.get (nat_at b k (by rw [HB.out]; exact hlt))
      have d3 := hS4.frozen k
      generalize s.getD k 0 = x at *
      generalize b.getD k 0 = y at *
      simp only [List.take_succ_cons, List.take_zero, List.drop_succ_cons, List.drop_zero]
      repeat still_step
      refine wpStill_nil ?_
      go_wp2
      go_roundw
      case rel =>
        rw [add64n]
        refine ⟨k + 1, by omega, by go_num, hB4.setCell (p := ⟨w.heap.size, k, none⟩) (Nat.le_refl _) _, ?_, hC4.other (by show gb ≠ w.heap.size; omega) _, hZ4.other (by show gz ≠ w.heap.size; omega) _⟩
        rw [HN.out, ← nset_map]
        exact hS4.set k _
      case measure => simp [intOf]; omega
    · obtain rfl : k = 5 := by omega
      rw [HR.out] at hS HLk
      go_wp2_with (first
        | (refine vget_step rfl 41 _ rfl w.heap.size 5 (r.map ncell) 39 rfl hS Tryd.underlying41 size_num (by rw [List.length_map, HLk.out]) ?_)
        | (refine vset_step rfl 41 _ _ rfl gz 5 (nzeros 5) (r.map ncell) rfl rfl hZ rfl size_num (by rw [List.length_map, HLk.out]) (ncells_one r) ?_
           intro w7 hb7 hC7 _))
      refine vret Tryd.results25 gz (r.map ncell) rfl hC7 Tryd.underlying41 size_num (by rw [List.length_map, HLk.out]) rfl ⟨rfl, hB.trans (hb7.below (by omega) hB.size)⟩
theorem plus_any (a b : List Nat) (w : World) (ha : a.length = 5) (hb : b.length = 5) :
    Calls Tryd.prog 25 #[numVal a, numVal b] w fun e w' => e = .returned (numVal (plusN a b)) ∧ Below w.heap.size w w' :=
  plus_over a b _ (plusTo a b) w hb (fun k => (plusTo_length a b k).trans ha) rfl (fun _ => rfl) rfl
set_option maxRecDepth 100000 in
set_option maxHeartbeats 1000000 in
theorem carried_over (n r : List Nat) (o : Nat) (S : Nat → List Nat) (O : Nat → Nat) (w : World) (HL : Hid (∀ k, (S k).length = 5)) (H0 : Hid (S 0 = n)) (HO : Hid (O 0 = 0)) (HS : Hid (∀ k, S (k + 1) = (S k).set k (addW ((S k).getD k 0) (O k) % 67108864))) (HT : Hid (∀ k, O (k + 1) = addW ((S k).getD k 0) (O k) / 67108864)) (HR : Hid (S 5 = r)) (HQ : Hid (O 5 = o)) :
    Calls Tryd.prog 24 #[numVal n] w fun e w' => e = .returned (.tuple #[numVal r, .int .u64 (o : Int)]) ∧ Below w.heap.size w w' := by
  go_enter Tryd.func24, Tryd.ntmps24
  go_wp2_with (first
    | (refine vtake_step rfl 41 (.tmp 0) rfl (n.map ncell) rfl ?_
       intro w1 hB1 hA1)
    | (refine vzero_step rfl 41 rfl (nzeros 5) zero_num ?_
       intro w3 hb3 hZ3
       have hB3 := below_then hB1 hb3
       have hA3 := hA1.on hb3
       have hg2 := hA1.lt
       clear hB1 hA1 hb3))
  generalize hh : w1.heap.size = gz at *
  clear hh
  go_loopw [4, 6] (fun v i wr => ∃ k : Nat, k ≤ 5 ∧ i = .int .i64 k ∧ v = .int .u64 (O k : Int) ∧ Below w.heap.size w wr ∧ Cells wr w.heap.size ((S k).map ncell) 41 ∧ Cells wr gz (nzeros 5) 41) (fun _ i _ => 5 - (intOf i).toNat)
  case atStart => exact ⟨0, Nat.zero_le _, rfl, by rw [HO.out]; rfl, hB3, by rw [H0.out]; exact hA3, hZ3⟩
  case round =>
    clear hB3 hA3 hZ3
    obtain ⟨k, hk, rfl, rfl, hB, hS, hZ⟩ := hrel
    have HLk := Lib.hid (HL.out k)
    by_cases hlt : k < 5
    · have HN := Lib.hid (HS.out k)
      have HM := Lib.hid (HT.out k)
      generalize O k = u at *
      generalize S k = s at *
      have i1 : (0 : Int) ≤ (k : Int) := by omega
      have i2 : (k : Int) < 5 := by omega
      have d1 := hS.get (nat_at s k (by rw [HLk.out]; exact hlt))
      have hT := hS.there k 1 (by rw [List.length_map, HLk.out]; omega)
      have HX := Lib.hid (addW_lt (s.getD k 0) u)
      have HE := Lib.hid (add64n (s.getD k 0) u)
      generalize s.getD k 0 = x at *
      generalize addW x u = y at *
      go_wp2_with (first
        | (rw [HE.out]
           refine store_step rfl 39 _ _ rfl w.heap.size k .u64 (y : Int) rfl rfl size_u64 hT ?_
           clear HE
           intro w4 hw4
           have hB4 : Below w.heap.size w w4 := by rw [hw4]; exact hB.setCell (p := ⟨w.heap.size, k, none⟩) (Nat.le_refl _) _
           have hS4 : Cells w4 w.heap.size ((s.set k y).map ncell) 41 := by rw [hw4, ← nset_map]; exact hS.set k _
           have hZ4 : Cells w4 gz (nzeros 5) 41 := by rw [hw4]; exact hZ.other (by show gz ≠ w.heap.size; omega) _
           have d4 := hS4.get (v := ncell y) (j := k) (by simp [HLk.out, hlt])
           have d5 := hS4.frozen k
           clear hw4 hB hS hZ d1 hT))
      go_roundw
      case rel =>
        rw [and26 y HX.out]
        refine ⟨k + 1, by omega, by go_num, by rw [HM.out, Int.natCast_ediv]; rfl, hB4.setCell (p := ⟨w.heap.size, k, none⟩) (Nat.le_refl _) _, ?_, hZ4.other (by show gz ≠ w.heap.size; omega) _⟩
        rw [HN.out]
        have h := hS4.set k (ncell (y % 67108864))
        rw [nset_map, List.set_set] at h
        exact h
      case measure => simp [intOf]; omega
    · obtain rfl : k = 5 := by omega
      rw [HR.out] at hS HLk
      rw [HQ.out]
      go_wp2_with (first
        | (refine vget_step rfl 41 _ rfl w.heap.size 5 (r.map ncell) 39 rfl hS Tryd.underlying41 size_num (by rw [List.length_map, HLk.out]) ?_)
        | (refine vset_step rfl 41 _ _ rfl gz 5 (nzeros 5) (r.map ncell) rfl rfl hZ rfl size_num (by rw [List.length_map, HLk.out]) (ncells_one r) ?_
           intro w7 hb7 hC7 _))
      refine vret2 Tryd.results24 gz (r.map ncell) (.int .u64 (o : Int)) rfl rfl hC7 Tryd.underlying41 size_num (by rw [List.length_map, HLk.out]) rfl ⟨rfl, hB.trans (hb7.below (by omega) hB.size)⟩
theorem carried_any (n : List Nat) (w : World) (hn : n.length = 5) :
    Calls Tryd.prog 24 #[numVal n] w fun e w' => e = .returned (.tuple #[numVal (carN n), .int .u64 (overN n : Int)]) ∧ Below w.heap.size w w' :=
  carried_over n _ _ (fun k => (carTo n k).1) (fun k => (carTo n k).2) w (fun k => (carTo_length n k).trans hn) rfl rfl (fun _ => rfl) (fun _ => rfl) rfl rfl
end Go.Proofs.YtiadgningbogmaaDoor
namespace Go.Proofs.YtiadgningbogmaaDoor
open Go.RowKit
theorem mul5 (o : Nat) : IntKind.u64.wrap (5 * (o : Int)) = ((mulW 5 o : Nat) : Int) := mul64n 5 o
theorem add5 (x : Nat) : IntKind.u64.wrap ((x : Int) + 5) = ((addW x 5 : Nat) : Int) := add64n x 5
set_option maxRecDepth 100000 in
set_option maxHeartbeats 1000000 in
theorem folded_over (n c r : List Nat) (o : Nat) (w : World) (HN : Hid (n.length = 5)) (HL : Hid (c.length = 5)) (HR : Hid (r = c.set 0 (addW (c.getD 0 0) (mulW 5 o))))
    (CC : Hid (∀ W, Calls Tryd.prog 24 #[numVal n] W fun e w' => e = .returned (.tuple #[numVal c, .int .u64 (o : Int)]) ∧ Below W.heap.size W w')) :
    Calls Tryd.prog 29 #[numVal n] w fun e w' => e = .returned (numVal r) ∧ Below w.heap.size w w' := by
  go_enter Tryd.func29, Tryd.ntmps29
  go_wp2_with (first
    | (refine vtake_step rfl 41 (.tmp 0) rfl (n.map ncell) rfl ?_
       intro w1 hB1 hA1)
    | (refine vzero_step rfl 41 rfl (nzeros 5) zero_num ?_
       intro w3 hb3 hZ3
       have hB3 := below_then hB1 hb3
       have hA3 := hA1.on hb3
       have hg2 := hA1.lt
       clear hB1 hA1 hb3)
    | (refine vget_step rfl 41 _ rfl w.heap.size 5 (n.map ncell) 39 rfl hA3 Tryd.underlying41 size_num (by rw [List.length_map, HN.out]) ?_))
  refine (CC.out w3).mono ?_
  rintro e w4 ⟨rfl, hb4⟩
  clear CC
  have hB4 := below_then hB3 hb4
  have hA4 := hA3.on hb4
  have hZ4 := hZ3.on hb4
  clear hB3 hA3 hZ3 hb4
  generalize hh : w1.heap.size = gz at *
  clear hh
  have HX := Lib.hid (nat_at c 0 (by rw [HL.out]; omega))
  have hE := Lib.hid (add64n (c.getD 0 0) (mulW 5 o))
  have HRL : Hid (r.length = 5) := by show _ = _; rw [HR.out, List.length_set, HL.out]
  generalize c.getD 0 0 = x at *
  go_wp2_with (first
    | (refine vset_step rfl 41 (.tmp 1) (.tmp 7) rfl w.heap.size 5 (n.map ncell) (c.map ncell) rfl rfl hA4 (by rw [List.length_map, HN.out]) size_num (by rw [List.length_map, HL.out]) (ncells_one c) ?_
       intro w5 hb5 hA5 _
       have hB5 := hB4.trans (hb5.below (Nat.le_refl _) hB4.size)
       have hZ5 := hZ4.but hb5 (Nat.ne_of_gt hg2)
       have d5 := hA5.get HX.out
       have hT := hA5.there 0 1 (by rw [List.length_map, HL.out]; omega)
       clear hB4 hA4 hZ4 hb5)
    | (rw [mul5, hE.out]
       refine store_step rfl 39 _ _ rfl w.heap.size 0 .u64 _ rfl rfl size_u64 hT ?_
       intro w6 hw6
       have hB6 : Below w.heap.size w w6 := by rw [hw6]; exact hB5.setCell (p := ⟨w.heap.size, 0, none⟩) (Nat.le_refl _) _
       have hA6 : Cells w6 w.heap.size (r.map ncell) 41 := by rw [hw6, HR.out, ← nset_map]; exact hA5.set 0 _
       have hZ6 : Cells w6 gz (nzeros 5) 41 := by rw [hw6]; exact hZ5.other (by show gz ≠ w.heap.size; omega) _
       clear hw6 hB5 hA5 hZ5 d5 hT)
    | (refine vget_step rfl 41 _ rfl w.heap.size 5 (r.map ncell) 39 rfl hA6 Tryd.underlying41 size_num (by rw [List.length_map, HRL.out]) ?_)
    | (refine vset_step rfl 41 _ _ rfl gz 5 (nzeros 5) (r.map ncell) rfl rfl hZ6 rfl size_num (by rw [List.length_map, HRL.out]) (ncells_one r) ?_
       intro w7 hb7 hC7 _))
  refine vret Tryd.results29 gz (r.map ncell) rfl hC7 Tryd.underlying41 size_num (by rw [List.length_map, HRL.out]) rfl ⟨rfl, hB6.trans (hb7.below (by omega) hB6.size)⟩
theorem folded_any (n : List Nat) (w : World) (hn : n.length = 5) :
    Calls Tryd.prog 29 #[numVal n] w fun e w' => e = .returned (numVal (foldN n)) ∧ Below w.heap.size w w' :=
  folded_over n (carN n) _ (overN n) w hn ((carN_length n).trans hn) rfl (fun W => carried_any n W hn)
set_option maxRecDepth 100000 in
set_option maxHeartbeats 1000000 in
theorem least_over (n m c l r : List Nat) (o q : Nat) (w : World) (HN : Hid (n.length = 5)) (HCL : Hid (c.length = 5)) (HRL : Hid (r.length = 5)) (HM : Hid (m = n.set 0 (addW (n.getD 0 0) 5))) (HE : Hid (l = n.set 0 (addW (n.getD 0 0) (mulW 5 o))))
    (CC : Hid (∀ W, Calls Tryd.prog 24 #[numVal m] W fun e w' => e = .returned (.tuple #[numVal c, .int .u64 (o : Int)]) ∧ Below W.heap.size W w'))
    (CD : Hid (∀ W, Calls Tryd.prog 24 #[numVal l] W fun e w' => e = .returned (.tuple #[numVal r, .int .u64 (q : Int)]) ∧ Below W.heap.size W w')) :
    Calls Tryd.prog 26 #[numVal n] w fun e w' => e = .returned (numVal r) ∧ Below w.heap.size w w' := by
  have HX := Lib.hid (nat_at n 0 (by rw [HN.out]; omega))
  have HE1 := Lib.hid (add64n (n.getD 0 0) (mulW 5 o))
  have HE2 := Lib.hid (add5 (n.getD 0 0))
  have HML : Hid (m.length = 5) := by show _ = _; rw [HM.out, List.length_set, HN.out]
  have HLL : Hid (l.length = 5) := by show _ = _; rw [HE.out, List.length_set, HN.out]
  generalize n.getD 0 0 = x at *
  go_enter Tryd.func26, Tryd.ntmps26
  go_wp2_with (first
    | (refine vtake_step rfl 41 (.tmp 0) rfl (n.map ncell) rfl ?_
       intro w1 hB1 hA1)
    | (refine vput_step rfl rfl 41 (.tmp 3) (.tmp 6) rfl rfl 5 (nzeros 5) (n.map ncell) rfl rfl zero_num rfl size_num (by rw [List.length_map, HN.out]) (ncells_one n) ?_
       intro w4 hb4 hM4
       have hB4 := below_then hB3 hb4
       have hA4 := hA3.on hb4
       have hZ4 := hZ3.on hb4
       have hg3 := hZ3.lt
       have d4 := hM4.get HX.out
       have hT := hM4.there 0 1 (by rw [List.length_map, HN.out]; omega)
       clear hB3 hA3 hZ3 hb4)
    | (refine vzero_step rfl 41 rfl (nzeros 5) zero_num ?_
       intro w3 hb3 hZ3
       have hB3 := below_then hB1 hb3
       have hA3 := hA1.on hb3
       have hg2 := hA1.lt
       clear hB1 hA1 hb3)
    | (refine vget_step rfl 41 _ rfl w.heap.size 5 (n.map ncell) 39 rfl hA3 Tryd.underlying41 size_num (by rw [List.length_map, HN.out]) ?_)
    | (rw [HE2.out]
       refine store_step rfl 39 _ _ rfl w3.heap.size 0 .u64 _ rfl rfl size_u64 hT ?_
       intro w5 hw5
       have hB5 : Below w.heap.size w w5 := by rw [hw5]; exact hB4.setCell (p := ⟨w3.heap.size, 0, none⟩) (by show w.heap.size ≤ w3.heap.size; omega) _
       have hA5 : Cells w5 w.heap.size (n.map ncell) 41 := by rw [hw5]; exact hA4.other (by show w.heap.size ≠ w3.heap.size; omega) _
       have hZ5 : Cells w5 w1.heap.size (nzeros 5) 41 := by rw [hw5]; exact hZ4.other (by show w1.heap.size ≠ w3.heap.size; omega) _
       have hM5 : Cells w5 w3.heap.size (m.map ncell) 41 := by rw [hw5, HM.out, ← nset_map]; exact hM4.set 0 _
       clear hw5 hB4 hA4 hZ4 hM4 d4 hT HE2)
    | (refine vget_step rfl 41 (.tmp 3) rfl w3.heap.size 5 (m.map ncell) 39 rfl hM5 Tryd.underlying41 size_num (by rw [List.length_map, HML.out]) ?_))
  refine (CC.out w5).mono ?_
  rintro e w6 ⟨rfl, hb6⟩
  clear CC hM5
  have hB6 := below_then hB5 hb6
  have hA6 := hA5.on hb6
  have hZ6 := hZ5.on hb6
  clear hB5 hA5 hZ5 hb6
  generalize hh : w1.heap.size = gz at *
  generalize hh3 : w3.heap.size = g3 at *
  clear hh hh3
  have d6 := hA6.get HX.out
  go_wp2_with (first
    | (refine vput_step rfl rfl 41 (.tmp 4) (.tmp 14) rfl rfl 5 (nzeros 5) (c.map ncell) rfl rfl zero_num rfl size_num (by rw [List.length_map, HCL.out]) (ncells_one c) ?_
       intro w7 hb7 hM7
       have hB7 := below_then hB6 hb7
       have hA7 := hA6.on hb7
       have hZ7 := hZ6.on hb7
       have d7 := hA7.get HX.out
       have hT := hA7.there 0 1 (by rw [List.length_map, HN.out]; omega)
       clear hB6 hA6 hZ6 hb7 hM7 d6)
    | (rw [mul5, HE1.out]
       refine store_step rfl 39 _ _ rfl w.heap.size 0 .u64 _ rfl rfl size_u64 hT ?_
       intro w8 hw8
       have hB8 : Below w.heap.size w w8 := by rw [hw8]; exact hB7.setCell (p := ⟨w.heap.size, 0, none⟩) (Nat.le_refl _) _
       have hA8 : Cells w8 w.heap.size (l.map ncell) 41 := by rw [hw8, HE.out, ← nset_map]; exact hA7.set 0 _
       have hZ8 : Cells w8 gz (nzeros 5) 41 := by rw [hw8]; exact hZ7.other (by show gz ≠ w.heap.size; omega) _
       clear hw8 hB7 hA7 hZ7 d7 hT)
    | (refine vget_step rfl 41 _ rfl w.heap.size 5 (l.map ncell) 39 rfl hA8 Tryd.underlying41 size_num (by rw [List.length_map, HLL.out]) ?_))
  refine (CD.out w8).mono ?_
  rintro e w9 ⟨rfl, hb9⟩
  clear CD
  have hB9 := below_then hB8 hb9
  have hA9 := hA8.on hb9
  have hZ9 := hZ8.on hb9
  clear hB8 hA8 hZ8 hb9
  generalize w6.heap.size = g6 at *
  go_wp2_with (first
    | (refine vset_step rfl 41 (.tmp 1) (.tmp 25) rfl w.heap.size 5 (l.map ncell) (r.map ncell) rfl rfl hA9 (by rw [List.length_map, HLL.out]) size_num (by rw [List.length_map, HRL.out]) (ncells_one r) ?_
       intro w10 hb10 hA10 _
       have hB10 := hB9.trans (hb10.below (Nat.le_refl _) hB9.size)
       have hZ10 := hZ9.but hb10 (Nat.ne_of_gt hg2)
       clear hB9 hA9 hZ9 hb10)
    | (refine vget_step rfl 41 _ rfl w.heap.size 5 (r.map ncell) 39 rfl hA10 Tryd.underlying41 size_num (by rw [List.length_map, HRL.out]) ?_)
    | (refine vset_step rfl 41 _ _ rfl gz 5 (nzeros 5) (r.map ncell) rfl rfl hZ10 rfl size_num (by rw [List.length_map, HRL.out]) (ncells_one r) ?_
       intro w11 hb11 hC11 _))
  refine vret Tryd.results26 gz (r.map ncell) rfl hC11 Tryd.underlying41 size_num (by rw [List.length_map, HRL.out]) rfl ⟨rfl, hB10.trans (hb11.below (by omega) hB10.size)⟩
theorem least_any (n : List Nat) (w : World) (hn : n.length = 5) :
    Calls Tryd.prog 26 #[numVal n] w fun e w' => e = .returned (numVal (leastN n)) ∧ Below w.heap.size w w' :=
  least_over n (moreN n) (carN (moreN n)) (lessN n) _ (overN (moreN n)) (overN (lessN n)) w hn (by show _ = _; rw [carN_length, moreN, List.length_set, hn]) ((leastN_length n).trans hn) rfl rfl (fun W => carried_any _ W (by rw [moreN, List.length_set, hn])) (fun W => carried_any _ W (by rw [lessN, List.length_set, hn]))
end Go.Proofs.YtiadgningbogmaaDoor
namespace Go.Proofs.YtiadgningbogmaaDoor
open Go.RowKit
set_option maxRecDepth 100000 in
set_option maxHeartbeats 1000000 in
theorem times_over (a b s f r : List Nat) (M : Nat → Nat → List Nat) (w : World) (HA : Hid (a.length = 5)) (HB : Hid (b.length = 5)) (HL : Hid (∀ i j, (M i j).length = 5)) (H0 : Hid (M 0 0 = [0, 0, 0, 0, 0])) (HT : Hid (∀ i, M (i + 1) 0 = M i 5))
    (HM : Hid (∀ i j, M i (j + 1) = (M i j).set ((i + j) % 5) (addW ((M i j).getD ((i + j) % 5) 0) (mulPart a b i j)))) (HS : Hid (M 5 0 = s)) (HRL : Hid (r.length = 5))
    (CF : Hid (∀ W, Calls Tryd.prog 29 #[numVal s] W fun e w' => e = .returned (numVal f) ∧ Below W.heap.size W w'))
    (CR : Hid (∀ W, Calls Tryd.prog 29 #[numVal f] W fun e w' => e = .returned (numVal r) ∧ Below W.heap.size W w')) :
    Calls Tryd.prog 28 #[numVal a, numVal b] w fun e w' => e = .returned (numVal r) ∧ Below w.heap.size w w' := by
  go_enter Tryd.func28, Tryd.ntmps28
  go_wp2_with (first
    | (refine vtake_step rfl 41 (.tmp 0) rfl (a.map ncell) rfl ?_
       intro w1 hB1 hA1)
    | (refine vtake_step rfl 41 (.tmp 1) rfl (b.map ncell) rfl ?_
       intro w2 hb2 hC2
       have hB2 := below_then hB1 hb2
       have hA2 := hA1.on hb2
       have hg1 := hA1.lt
       clear hB1 hA1 hb2)
    | (refine vzero_step (o := ⟨some 4, _, _, _, _, _⟩) rfl 41 rfl (nzeros 5) zero_num ?_
       intro w3 hb3 hZ3
       have hB3 := below_then hB2 hb3
       have hA3 := hA2.on hb3
       have hC3 := hC2.on hb3
       have hg2 := hC2.lt
       clear hB2 hA2 hC2 hb3)
    | (refine vzero_step (o := ⟨some 5, _, _, _, _, _⟩) rfl 41 rfl (nzeros 5) zero_num ?_
       intro w4 hb4 hS4
       have hB4 := below_then hB3 hb4
       have hA4 := hA3.on hb4
       have hC4 := hC3.on hb4
       have hZ4 := hZ3.on hb4
       have hg3 := hZ3.lt
       clear hB3 hA3 hC3 hZ3 hb4))
  generalize hg : w1.heap.size = gb at *
  generalize hh : w2.heap.size = gz at *
  generalize hh3 : w3.heap.size = gs at *
  clear hg hh hh3
  go_loopw [9] (fun i wr => ∃ k : Nat, k ≤ 5 ∧ i = .int .i64 k ∧ Below w.heap.size w wr ∧ Cells wr w.heap.size (a.map ncell) 41 ∧ Cells wr gb (b.map ncell) 41 ∧ Cells wr gz (nzeros 5) 41 ∧ Cells wr gs ((M k 0).map ncell) 41) (fun i _ => 5 - (intOf i).toNat)
  case atStart => exact ⟨0, Nat.zero_le _, rfl, hB4, hA4, hC4, hZ4, by rw [H0.out]; exact hS4⟩
  case round =>
    clear hB4 hA4 hC4 hZ4 hS4
    obtain ⟨k, hk, rfl, hB, hA, hC, hZ, hS⟩ := hrel
    by_cases hlt : k < 5
    · go_wp2_with fail
      rw [show decide ((k : Int) < 5) = true by simp; omega]
      go_loopw [12] (fun i wr => ∃ j : Nat, j ≤ 5 ∧ i = .int .i64 j ∧ Below w.heap.size w wr ∧ Cells wr w.heap.size (a.map ncell) 41 ∧ Cells wr gb (b.map ncell) 41 ∧ Cells wr gz (nzeros 5) 41 ∧ Cells wr gs ((M k j).map ncell) 41) (fun i _ => 5 - (intOf i).toNat)
      case atStart => exact ⟨0, Nat.zero_le _, rfl, hB, hA, hC, hZ, hS⟩
      case round =>
        clear hB hA hC hZ hS
        obtain ⟨j, hj, rfl, hB, hA, hC, hZ, hS⟩ := hrel
        by_cases hjl : j < 5
        · have HLk := Lib.hid (HL.out k j)
          have HN := Lib.hid (HM.out k j)
          have hq := Nat.mod_lt (k + j) (show 5 > 0 by omega)
          generalize M k j = t at *
          have i1 : (0 : Int) ≤ (k : Int) := by omega
          have i2 : (k : Int) < 5 := by omega
          have i3 : (0 : Int) ≤ (j : Int) := by omega
          have i4 : (j : Int) < 5 := by omega
          go_wp2_with fail
          refine wp_region_tail 7 (by kernel_rfl) (by kernel_rfl) ?_
          intro w5 hw5
          have hB5 : Below w.heap.size w w5 := by rw [hw5]; exact hB.drew
          have hA5 : Cells w5 w.heap.size (a.map ncell) 41 := by rw [hw5]; exact hA
          have hC5 : Cells w5 gb (b.map ncell) 41 := by rw [hw5]; exact hC
          have hZ5 : Cells w5 gz (nzeros 5) 41 := by rw [hw5]; exact hZ
          have hS5 : Cells w5 gs (t.map ncell) 41 := by rw [hw5]; exact hS
          clear hw5 hB hA hC hZ hS
          have d1 := hA5.get (nat_at a k (by rw [HA.out]; exact hlt))
          have d2 := hC5.get (nat_at b j (by rw [HB.out]; exact hjl))
          have d3 := hS5.get (nat_at t ((k + j) % 5) (by rw [HLk.out]; exact hq))
          have d4 := hS5.frozen ((k + j) % 5)
          have HP : Hid (mulPart a b k j = if 5 ≤ k + j then mulW (mulW (a.getD k 0) (b.getD j 0)) 5 else mulW (a.getD k 0) (b.getD j 0)) := rfl
          have HW := Lib.hid (mul64n (a.getD k 0) (b.getD j 0))
          generalize a.getD k 0 = x at *
          generalize b.getD j 0 = y at *
          generalize t.getD ((k + j) % 5) 0 = z at *
          simp only [List.take_succ_cons, List.take_zero, List.drop_succ_cons, List.drop_zero]
          repeat still_step
          refine wpStill_nil ?_
          by_cases hge : 5 ≤ k + j
          · have hge2 : (5 : Int) ≤ (k : Int) + (j : Int) := by omega
            have HX : Hid (IntKind.u64.wrap (IntKind.u64.wrap ((x : Int) * (y : Int)) * 5) = ((mulPart a b k j : Nat) : Int)) := by
              show _ = _
              rw [HP.out, if_pos hge, HW.out, show (5 : Int) = ((5 : Nat) : Int) from rfl, mul64n]
            clear HP HW
            generalize mulPart a b k j = p at *
            go_wp2_with fail
            go_roundw
            case rel =>
              rw [HX.out, add64n]
              refine ⟨j + 1, by omega, by go_num, hB5.setCell (p := ⟨gs, (k + j) % 5, none⟩) (by show w.heap.size ≤ gs; omega) _, hA5.other (by show w.heap.size ≠ gs; omega) _, hC5.other (by show gb ≠ gs; omega) _, hZ5.other (by show gz ≠ gs; omega) _, ?_⟩
              rw [HN.out, ← nset_map]
              exact hS5.set _ _
            case measure => simp [intOf]; omega
          · have hge2 : ¬ (5 : Int) ≤ (k : Int) + (j : Int) := by omega
            have HX : Hid (IntKind.u64.wrap ((x : Int) * (y : Int)) = ((mulPart a b k j : Nat) : Int)) := by
              show _ = _
              rw [HP.out, if_neg hge, HW.out]
            clear HP HW
            generalize mulPart a b k j = p at *
            go_wp2_with fail
            go_roundw
            case rel =>
              rw [HX.out, add64n]
              refine ⟨j + 1, by omega, by go_num, hB5.setCell (p := ⟨gs, (k + j) % 5, none⟩) (by show w.heap.size ≤ gs; omega) _, hA5.other (by show w.heap.size ≠ gs; omega) _, hC5.other (by show gb ≠ gs; omega) _, hZ5.other (by show gz ≠ gs; omega) _, ?_⟩
              rw [HN.out, ← nset_map]
              exact hS5.set _ _
            case measure => simp [intOf]; omega
        · obtain rfl : j = 5 := by omega
          go_wp2_with fail
          go_roundw
          case rel => exact ⟨k + 1, by omega, by go_num, hB, hA, hC, hZ, by rw [HT.out]; exact hS⟩
          case measure => simp [intOf]; omega
    · obtain rfl : k = 5 := by omega
      have HSL := Lib.hid (HL.out 5 0)
      rw [HS.out] at hS HSL
      clear HM HT H0 HL HS
      go_wp2_with (first
        | (refine vget_step rfl 41 _ rfl gs 5 (s.map ncell) 39 rfl hS Tryd.underlying41 size_num (by rw [List.length_map, HSL.out]) ?_))
      refine (CF.out wr).mono ?_
      rintro e w6 ⟨rfl, hb6⟩
      have hB6 := below_then hB hb6
      have hZ6 := hZ.on hb6
      clear CF hB hA hC hZ hS hb6
      go_wp2_with fail
      refine (CR.out w6).mono ?_
      rintro e w7 ⟨rfl, hb7⟩
      have hB7 := below_then hB6 hb7
      have hZ7 := hZ6.on hb7
      clear CR hB6 hZ6 hb7
      go_wp2_with (first
        | (refine vset_step rfl 41 _ _ rfl gz 5 (nzeros 5) (r.map ncell) rfl rfl hZ7 rfl size_num (by rw [List.length_map, HRL.out]) (ncells_one r) ?_
           intro w8 hb8 hC8 _))
      refine vret Tryd.results28 gz (r.map ncell) rfl hC8 Tryd.underlying41 size_num (by rw [List.length_map, HRL.out]) rfl ⟨rfl, hB7.trans (hb8.below (by omega) hB7.size)⟩
theorem times_any (a b : List Nat) (w : World) (ha : a.length = 5) (hb : b.length = 5) :
    Calls Tryd.prog 28 #[numVal a, numVal b] w fun e w' => e = .returned (numVal (timesN a b)) ∧ Below w.heap.size w w' :=
  times_over a b (mulTo a b 5) (foldN (mulTo a b 5)) _ (fun i j => mulRow a b i (mulTo a b i) j) w ha hb (fun i j => (mulRow_length a b i _ j).trans (mulTo_length a b i)) rfl (fun _ => rfl) (fun _ _ => rfl) rfl (timesN_length a b) (fun W => folded_any _ W (mulTo_length a b 5)) (fun W => folded_any _ W (by rw [foldN_length, mulTo_length]))
end Go.Proofs.YtiadgningbogmaaDoor
