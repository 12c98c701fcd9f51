/- Slices of slices of bytes, pieces of rows, what later layers share. -/
import Derived.Test.YtiadgningbogmaaDoorWCopy
import Derived.Test.YtiadgningbogmaaDoorWApp
import Derived.Test.YtiadgningbogmaaDoorWPut
namespace Go.Proofs.YtiadgningbogmaaDoor
open Go.RowKit
/-- The waiting bytes behind more of them. -/
def restPut (rest us : List UInt8) (h : Nat) : List UInt8 := rest.take h ++ us ++ rest.drop (h + us.length)
theorem restPut_length (rest us : List UInt8) (h : Nat) (hl : h + us.length ≤ rest.length) : (restPut rest us h).length = rest.length := by
  simp [restPut]; omega
theorem restPut_take (rest us : List UInt8) (h : Nat) (hl : h + us.length ≤ rest.length) : (restPut rest us h).take (h + us.length) = rest.take h ++ us := by
  rw [restPut, List.take_append_of_le_length (by simp; omega), List.take_of_length_le (by simp; omega)]
theorem splice_mid (X R T cs : List Value) (h : Nat) (hl : h + cs.length ≤ R.length) : splice (X ++ R ++ T) (X.length + h) cs = X ++ (R.take h ++ cs ++ R.drop (h + cs.length)) ++ T := by
  unfold splice
  rw [List.append_assoc X R T, List.take_length_add_append, Nat.add_assoc, List.drop_length_add_append, List.take_append_of_le_length (by omega), List.drop_append_of_le_length (by omega)]
  simp
def lenOf : Value → Nat | .slice _ n _ => n | _ => 0
/-- A number's n bytes as cells, the high one first. -/
def bigCells (x n : Nat) : List Value := (putL x n).reverse.map cellOf
theorem Cells.row {w : World} {g m : Nat} {vs : List Value} {t : TypeId} {us : List UInt8} (h : Cells w g vs t) (hv : vs.take m = us.map cellOf) : Row w w.heap.size (some ⟨g, 0, none⟩) us := by
  refine .inr ⟨g, 0, rfl, h.lt, fun j u hu => ?_⟩
  rw [Nat.zero_add]
  refine h.get ?_
  have h1 : (vs.take m)[j]? = some (cellOf u) := by rw [hv, List.getElem?_map, hu]; rfl
  rw [List.getElem?_take] at h1
  split at h1
  · exact h1
  · cases h1
/-- A digest as the program holds it. -/
def hashVal (ds : List UInt8) : Value := .agg (ds.map cellOf).toArray
/-- The value v is a slice of these bytes. -/
def Part (w : World) (B : Nat) (v : Value) (us : List UInt8) : Prop := ∃ A c, v = .slice A us.length c ∧ Row w B A us ∧ us.length ≤ c ∧ c ≤ maxLen ∧ (A = none → c = 0)
/-- The address leads to so many slices of bytes. -/
def Parts (w : World) (B : Nat) (D : Option Addr) (ps : List (List UInt8)) : Prop :=
  ps = [] ∨ ∃ b off, D = some ⟨b, off, none⟩ ∧ b < B ∧ ∀ j us, ps[j]? = some us → ∃ v, w.cell? ⟨b, off + j, none⟩ = some v ∧ Part w B v us
theorem Part.below {w w' : World} {B : Nat} {v : Value} {us : List UInt8} (h : Part w B v us) (hb : Below B w w') : Part w' B v us := by
  obtain ⟨A, c, e, hr, h1, h2⟩ := h
  exact ⟨A, c, e, hr.below hb, h1, h2⟩
theorem Part.more {w : World} {B B' : Nat} {v : Value} {us : List UInt8} (h : Part w B v us) (hB : B ≤ B') : Part w B' v us := by
  obtain ⟨A, c, e, hr, h1, h2⟩ := h
  exact ⟨A, c, e, hr.more hB, h1, h2⟩
theorem Parts.below {w w' : World} {B : Nat} {D : Option Addr} {ps : List (List UInt8)} (h : Parts w B D ps) (hb : Below B w w') : Parts w' B D ps := by
  rcases h with rfl | ⟨b, off, rfl, hlt, hc⟩
  · exact .inl rfl
  · refine .inr ⟨b, off, rfl, hlt, fun j us hu => ?_⟩
    obtain ⟨v, h1, h2⟩ := hc j us hu
    exact ⟨v, (hb.cell hlt).trans h1, h2.below hb⟩
theorem Parts.more {w : World} {B B' : Nat} {D : Option Addr} {ps : List (List UInt8)} (h : Parts w B D ps) (hB : B ≤ B') : Parts w B' D ps := by
  rcases h with rfl | ⟨b, off, rfl, hlt, hc⟩
  · exact .inl rfl
  · refine .inr ⟨b, off, rfl, by omega, fun j us hu => ?_⟩
    obtain ⟨v, h1, h2⟩ := hc j us hu
    exact ⟨v, h1, h2.more hB⟩
theorem Parts.at {w : World} {B : Nat} {D : Option Addr} {ps : List (List UInt8)} (h : Parts w B D ps) (k : Nat) (hk : k < ps.length) : ∃ b off A c, D = some ⟨b, off, none⟩ ∧ w.cell? ⟨b, off + k, none⟩ = some (.slice A ps[k].length c) ∧ Row w B A ps[k] ∧ ps[k].length ≤ c ∧ c ≤ maxLen ∧ (A = none → c = 0) := by
  rcases h with rfl | ⟨b, off, rfl, hlt, hc⟩
  · simp at hk
  · obtain ⟨v, h1, A, c, rfl, h2, h3, h4⟩ := hc k _ (List.getElem?_eq_getElem hk)
    exact ⟨b, off, A, c, rfl, h1, h2, h3, h4⟩
theorem flatten_take_le (ps : List (List UInt8)) (k : Nat) : (ps.take k).flatten.length ≤ ps.flatten.length := by
  conv => rhs; rw [← List.take_append_drop k ps, List.flatten_append, List.length_append]
  omega
theorem parts_lit (w : World) (vs : Array Value) (ps : List (List UInt8)) (h : ∀ (j : Nat) (us : List UInt8), ps[j]? = some us → ∃ v, vs[j]? = some v ∧ Part w w.heap.size v us) :
    Parts (w.alloc (.cells vs 25)) (w.alloc (.cells vs 25)).heap.size (some ⟨w.heap.size, 0, none⟩) ps := by
  refine .inr ⟨w.heap.size, 0, rfl, by simp, fun j us hu => ?_⟩
  obtain ⟨v, hv, A, c, e, hr, h1, h2⟩ := h j us hu
  have hb : Below w.heap.size w (w.alloc (.cells vs 25)) := (Below.refl _ _).alloc (Nat.le_refl _) _
  refine ⟨v, ?_, A, c, e, (hr.on hb), h1, h2⟩
  rw [Nat.zero_add, World.cell?_alloc_at _ _ _ _ rfl]
  exact hv
theorem row_lit (w : World) (bs : List UInt8) (f : Nat × Nat) : Row (w.alloc (.cells (bs.map cellOf).toArray 5 f)) (w.heap.size + 1) (some ⟨w.heap.size, 0, none⟩) bs := by
  refine .inr ⟨w.heap.size, 0, rfl, by omega, fun j u hu => ?_⟩
  rw [Nat.zero_add, cell_of_row _ _ _ _ _ _ (heap_alloc_new w _), List.getElem?_toArray, List.getElem?_map, hu]
  rfl
/-- An operation under a guard that holds goes as one without. -/
theorem unguard {P : Program} {w : World} {ops : Array Oper} {rest : List Oper} {o : Oper} {a : Act} {Q : Exit → Act → World → Prop} (hw : Region.wanted o (yielded ops a.tmps) = true) (h : wpList P ops Q ({ o with guard := none } :: rest) a w) : wpList P ops Q (o :: rest) a w := by
  unfold wpList at h ⊢
  rw [if_pos hw]
  rw [if_pos (by simp [Region.wanted])] at h
  exact h
theorem Owns.keep {w w' : World} {base : Nat} {v : Value} {bs : List UInt8} (h : Owns w base v bs) (hk : ∀ g, v.ownBlock = some g → w'.heap[g]? = w.heap[g]?) : Owns w' base v bs := by
  obtain ⟨h1, h2⟩ := h
  refine ⟨h1, ?_⟩
  rcases h2 with h2 | ⟨g, cap, cur, hv, hg, hh, r⟩
  · exact .inl h2
  · refine .inr ⟨g, cap, cur, hv, hg, ?_, r⟩
    rw [hk g (by rw [hv]; rfl)]
    exact hh
theorem Owns.on {w w' : World} {base : Nat} {v : Value} {bs : List UInt8} (h : Owns w base v bs) (hb : Below w.heap.size w w') : Owns w' base v bs :=
  h.keep fun g hg => hb.block g (World.ownsRow.lt h g hg).2
theorem Owns.but {w w' : World} {base g : Nat} {v : Value} {bs : List UInt8} (h : Owns w base v bs) (hb : But g w w') (hg : g < base) : Owns w' base v bs :=
  h.keep fun k hk => hb.block k (World.ownsRow.lt h k hk).2 (by have := (World.ownsRow.lt h k hk).1; omega)
/-- What a call answers that makes a new row of these bytes. -/
def GivesNew (w : World) (bs : List UInt8) (e : Ending) (w' : World) : Prop :=
  ∃ g c, e = .returned (.slice (some ⟨g, 0, none⟩) bs.length c) ∧ w.heap.size ≤ g ∧ Below w.heap.size w w' ∧ Row w' w'.heap.size (some ⟨g, 0, none⟩) bs
theorem getD_lt (ms : List UInt8) (j : Nat) (h : j < ms.length) : ms.getD j 0 = ms[j] := by simp [List.getD, h]
theorem Row.atD {w : World} {B : Nat} {A : Option Addr} {bs : List UInt8} (h : Row w B A bs) (k : Nat) (hk : k < bs.length) : ∃ b off, A = some ⟨b, off, none⟩ ∧ b < B ∧ w.cell? ⟨b, off + k, none⟩ = some (cellOf (bs.getD k 0)) := by
  obtain ⟨b, off, h1, h2, h3⟩ := h.at k hk
  refine ⟨b, off, h1, h2, ?_⟩
  rw [h3]
  simp [List.getD, List.getElem?_eq_getElem hk]

/-- 'make([]byte, m, n)', the world behind it under a name. -/
theorem make_step {w : World} {ops : Array Oper} {rest : List Oper} {o : Oper} {a : Act} {Q : Exit → Act → World → Prop} (hgd : o.guard = none) (l c : Operand) (ho : o.op = .makeSlice 25 l c) (m n : Nat) (hl : a.eval l = .int .i64 (m : Int)) (hc : a.eval c = .int .i64 (n : Int)) (hmn : m ≤ n) (hn : n ≤ 1000000)
    (h : ∀ w', Below w.heap.size w w' → Made w' w.heap.size (List.replicate n 0) → w'.heap.size = w.heap.size + 1 → wpList Tryd.prog ops Q rest (a.put o.dst (.slice (some ⟨w.heap.size, 0, none⟩) m n)) w') : wpList Tryd.prog ops Q (o :: rest) a w := by
  refine wpList_plain hgd fun K hK => ?_
  have hrun := make_bytes m n hmn hn w
  unfold Oper.wp
  simp only [execOp, ho, hl, hc, hrun, Sem.run_bind, Sem.run_pure, Result.andThen_ok]
  exact hK _ _ (h _ ((Below.refl _ _).alloc (Nat.le_refl _) _) (Made.new w _) (by simp))
theorem cutA_some (g o l cap : Nat) (h : ¬ cap = l) : cutA (some ⟨g, o, none⟩) l cap = some ⟨g, o + l, none⟩ := by
  unfold cutA
  rw [if_neg h]
  simp [Addr.add_mid]
theorem Made.cells {w : World} {g : Nat} {bs : List UInt8} (h : Made w g bs) : Cells w g (bs.map cellOf) 5 := h
theorem cells_at (w : World) (vs : List Value) (t : TypeId) (g : Nat) (hg : w.heap.size = g) : Cells (w.alloc (.cells vs.toArray t)) g vs t := by
  subst hg
  exact Cells.new w vs.toArray t
theorem slice_to (A : Option Addr) (n c i : Nat) (hi : i ≤ n) (hc : n ≤ c) (w : World) : (Instr.slice 25 (.slice A n c) none (some (.int .i64 (i : Int))) none).run Tryd.prog w = .ok (.slice (cutA A 0 c) i c) w := by
  obtain ⟨i0, hi0, hs0⟩ := Option.map_eq_some_iff.1 size_u8
  have h4 : (i : Int) ≤ (c : Int) := by omega
  simp [Instr.slice, run_underlying Tryd.underlying25, Instr.sliceBounds, run_sliceBound, sizeOf, typeInfo, hi0, cutA, h4]
theorem slice_mid (A : Option Addr) (n c i k : Nat) (hi : i ≤ k) (hk : k ≤ n) (hc : n ≤ c) (w : World) : (Instr.slice 25 (.slice A n c) (some (.int .i64 (i : Int))) (some (.int .i64 (k : Int))) none).run Tryd.prog w = .ok (.slice (cutA A i c) (k - i) (c - i)) w := by
  obtain ⟨i0, hi0, hs0⟩ := Option.map_eq_some_iff.1 size_u8
  have h4 : (k : Int) ≤ (c : Int) := by omega
  have h5 : (i : Int) ≤ (k : Int) := by omega
  simp [Instr.slice, run_underlying Tryd.underlying25, Instr.sliceBounds, run_sliceBound, sizeOf, typeInfo, hi0, hs0, cutA, h4, h5]
theorem slice_from (A : Option Addr) (n c k : Nat) (hk : k ≤ n) (w : World) : (Instr.slice 25 (.slice A n c) (some (.int .i64 (k : Int))) none none).run Tryd.prog w = .ok (.slice (cutA A k c) (n - k) (c - k)) w := by
  obtain ⟨i0, hi0, hs0⟩ := Option.map_eq_some_iff.1 size_u8
  have h5 : (k : Int) ≤ (n : Int) := by omega
  simp [Instr.slice, run_underlying Tryd.underlying25, Instr.sliceBounds, run_sliceBound, sizeOf, typeInfo, hi0, hs0, cutA, h5]
end Go.Proofs.YtiadgningbogmaaDoor
