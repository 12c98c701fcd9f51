/- Part 3 of what the laws of this seat share: WOpen3, CMath, WKeep, WVals, CQuarter, CRefQ, CRefQ2, WOwnW, WZeros. -/
import Derived.Deep.Strs
import Derived.IntWalk
import Derived.BigQuiet
import Derived.Deep.QuietTactic
import Derived.Deep.WholeRow
import Derived.Lib.AppendStr
import Derived.Test.YtejcbboajikdkaaDoorPart2
namespace Go.Proofs.YtejcbboajikdkaaDoor
open Go.ChangeShapes Go.WideShapes Go.ChangeAt Go.RowKit
set_option maxRecDepth 100000 in
/-- A slice of bytes, by its cells. -/
theorem cells_bytes {H : Type} {enc : TypeId × Value → H} {W : World} {fuel : Nat} {cs : List Value} {x : DataW H × List MemPlace} (hf : DataW.trod enc Tryd.prog W 0 (fun _ => true) true fuel 26 cs = some x) :
    ∃ A c bs, cs = [.slice A bs.length c] ∧ (A = none → c = 0) ∧ Row W W.heap.size A bs ∧ bs.length ≤ c ∧ c ≤ maxLen := by
  rcases open_ints Tryd.underlying26 Tryd.underlying5 cells_u8 hf with ⟨hcs, _⟩ | ⟨x, l, c, zs, hcs, _, hl, hm, hz, _, hcell, hwz⟩
  · exact ⟨none, 0, [], hcs, fun _ => rfl, .inl rfl, Nat.le_refl _, Nat.zero_le _⟩
  · simp only [if_true] at hz
    have hlen : ((zs.take l).map fun z => UInt8.ofNat z.toNat).length = l := by simp; omega
    exact ⟨some x, c, (zs.take l).map fun z => UInt8.ofNat z.toNat, by rw [hlen]; exact hcs, (fun h => by cases h), row_of_ints (by omega) hwz hcell, by rw [hlen]; exact hl, hm⟩
/-- An array of integers, by its cells. -/
theorem cells_ints {H : Type} {enc : TypeId × Value → H} {P : Program} {W : World} {base : Nat} {spare : Nat → Bool} {held : Bool} {fuel : Nat} {t e : TypeId} {n : Nat} {k : IntKind} {cs : List Value} {x : DataW H × List MemPlace}
    (ht : P.underlying t = some (.array n e)) (he : P.underlying e = some (.int k)) (hc : P.cellsOf e = 1) (hC : P.cellsOf t = n) (hf : DataW.trod enc P W base spare held fuel t cs = some x) :
    ∃ zs : List Int, cs = zs.map (Value.int k) ∧ zs.length = n ∧ ∀ z ∈ zs, (Lit.int k z).wf = true := by
  obtain ⟨xs, m, rfl, hx, hl, hn, hel⟩ := DataW.trod_array ht hf
  rw [hC] at hl
  have hi : ∀ i, i < n → ∃ z, cs[i]? = some (.int k z) ∧ (Lit.int k z).wf = true := by
    intro i hi
    have h1 := hel i hi
    rw [hc, Nat.mul_one, List.getElem?_eq_getElem (by omega)] at h1
    obtain ⟨z, e1, _, e3⟩ := DataW.trod_int he h1
    refine ⟨z, ?_, e3⟩
    have e4 : ((cs.drop i).take 1)[0]? = some (.int k z) := by rw [e1]; rfl
    simpa using e4
  refine ⟨cs.map fun c => intOf c, ?_, by simpa using hl, ?_⟩
  · simp only [List.map_map]
    refine List.ext_getElem? fun i => ?_
    rw [List.getElem?_map]
    by_cases h : i < n
    · obtain ⟨z, hz, _⟩ := hi i h
      rw [hz]; rfl
    · rw [List.getElem?_eq_none (by omega)]; rfl
  · intro z hz
    obtain ⟨c, hc1, rfl⟩ := List.mem_map.1 hz
    obtain ⟨i, hi1, hi2⟩ := List.getElem_of_mem hc1
    obtain ⟨z, hz1, hz2⟩ := hi i (by omega)
    rw [List.getElem?_eq_getElem hi1, hi2] at hz1
    cases hz1
    exact hz2
/-- Integers that are bytes, as bytes. -/
theorem bytes_of_ints (zs : List Int) (hw : ∀ z ∈ zs, (Lit.int .u8 z).wf = true) : ∃ bs : List UInt8, zs.map (Value.int .u8) = bs.map cellOf ∧ bs.length = zs.length := by
  refine ⟨zs.map fun z => UInt8.ofNat z.toNat, ?_, by simp⟩
  rw [List.map_map]
  refine List.map_congr_left fun z hm => ?_
  have hb := bounds_u8 (hw z hm)
  show Value.int .u8 z = cellOf (UInt8.ofNat z.toNat)
  unfold cellOf
  rw [UInt8.toNat_ofNat']
  congr 1
  omega
/-- Integers that are words, as words. -/
theorem words_of_ints (zs : List Int) (hw : ∀ z ∈ zs, (Lit.int .u32 z).wf = true) : ∃ l : List (BitVec 32), zs.map (Value.int .u32) = l.map wcell ∧ l.length = zs.length := by
  refine ⟨zs.map fun z => BitVec.ofNat 32 z.toNat, ?_, by simp⟩
  rw [List.map_map]
  refine List.map_congr_left fun z hm => ?_
  have hb := bounds_u32 (hw z hm)
  show Value.int .u32 z = wcell (BitVec.ofNat 32 z.toNat)
  unfold wcell
  rw [BitVec.toNat_ofNat]
  congr 1
  omega
end Go.Proofs.YtejcbboajikdkaaDoor
namespace Go.Proofs.YtejcbboajikdkaaDoor
open Go.RowKit
/-- Four words. -/
structure Quad where
  (a b c d : BitVec 32)
/-- The quarter round, statement by statement. -/
def quarter (a b c d : BitVec 32) : Quad :=
  let a1 := a + b
  let d1 := rotL32 (d ^^^ a1) 16
  let c1 := c + d1
  let b1 := rotL32 (b ^^^ c1) 12
  let a2 := a1 + b1
  let d2 := rotL32 (d1 ^^^ a2) 8
  let c2 := c1 + d2
  let b2 := rotL32 (b1 ^^^ c2) 7
  ⟨a2, b2, c2, d2⟩
/-- A state of which four words have been stirred. -/
def qput (s : List (BitVec 32)) (q : Quad) (i j k l : Nat) : List (BitVec 32) := (((s.set i q.a).set j q.b).set k q.c).set l q.d
def qset (s : List (BitVec 32)) (i j k l : Nat) : List (BitVec 32) := qput s (quarter (s.getD i 0) (s.getD j 0) (s.getD k 0) (s.getD l 0)) i j k l
theorem qput_length (s : List (BitVec 32)) (q : Quad) (i j k l : Nat) : (qput s q i j k l).length = s.length := by simp [qput]
theorem qset_length (s : List (BitVec 32)) (i j k l : Nat) : (qset s i j k l).length = s.length := qput_length _ _ _ _ _ _
/-- The first k columns, slanting by m. -/
def slantTo (s : List (BitVec 32)) (m : Nat) : Nat → List (BitVec 32)
  | 0 => s
  | k + 1 => qset (slantTo s m k) k (4 + (k + m) % 4) (8 + (k + 2 * m) % 4) (12 + (k + 3 * m) % 4)
theorem slantTo_length (s : List (BitVec 32)) (m : Nat) : ∀ k, (slantTo s m k).length = s.length
  | 0 => rfl
  | k + 1 => by rw [slantTo, qset_length, slantTo_length s m k]
def chRound (s : List (BitVec 32)) (m : Nat) : List (BitVec 32) := slantTo s m 4
theorem chRound_length (s : List (BitVec 32)) (m : Nat) : (chRound s m).length = s.length := slantTo_length s m 4
/-- So many double rounds. -/
def chStir (s : List (BitVec 32)) : Nat → List (BitVec 32)
  | 0 => s
  | n + 1 => chRound (chRound (chStir s n) 0) 1
theorem chStir_length (s : List (BitVec 32)) : ∀ n, (chStir s n).length = s.length
  | 0 => rfl
  | n + 1 => by rw [chStir, chRound_length, chRound_length, chStir_length s n]
/-- A double round as the standard lists it. -/
theorem chStir_list (s : List (BitVec 32)) (n : Nat) : chStir s (n + 1) = qset (qset (qset (qset (qset (qset (qset (qset (chStir s n) 0 4 8 12) 1 5 9 13) 2 6 10 14) 3 7 11 15) 0 5 10 15) 1 6 11 12) 2 7 8 13) 3 4 9 14 := rfl
/-- The bytes of the first k words of a block. -/
def endedTo (s x : List (BitVec 32)) : Nat → List UInt8
  | 0 => []
  | k + 1 => endedTo s x k ++ putL (x.getD k 0 + s.getD k 0).toNat 4
theorem endedTo_length (s x : List (BitVec 32)) : ∀ k, (endedTo s x k).length = 4 * k
  | 0 => rfl
  | k + 1 => by rw [endedTo, List.length_append, endedTo_length s x k, putL_length]; omega
/-- The bytes of the block that begins with a state. -/
def chEnded (s : List (BitVec 32)) : List UInt8 := endedTo s (chStir s 10) 16
theorem chEnded_length (s : List (BitVec 32)) : (chEnded s).length = 64 := endedTo_length _ _ 16
/-- The word of four bytes, the low one first. -/
def word4L (bs : List UInt8) : BitVec 32 := BitVec.ofNat 32 (bigN bs.reverse)
/-- The first k words of a row of bytes. -/
def wordsOf (bs : List UInt8) : Nat → List (BitVec 32)
  | 0 => []
  | k + 1 => wordsOf bs k ++ [word4L ((bs.drop (4 * k)).take 4)]
theorem wordsOf_length (bs : List UInt8) : ∀ k, (wordsOf bs k).length = k
  | 0 => rfl
  | k + 1 => by rw [wordsOf, List.length_append, wordsOf_length bs k]; rfl
def opening : List UInt8 := [101, 120, 112, 97, 110, 100, 32, 51, 50, 45, 98, 121, 116, 101, 32, 107]
/-- The state that a block begins with. -/
def chRow (key : List UInt8) (c : BitVec 32) (nonce : List UInt8) : List UInt8 := opening ++ key ++ putL c.toNat 4 ++ nonce
def chOpened (key : List UInt8) (c : BitVec 32) (nonce : List UInt8) : List (BitVec 32) := wordsOf (chRow key c nonce) 16
theorem chOpened_length (key : List UInt8) (c : BitVec 32) (nonce : List UInt8) : (chOpened key c nonce).length = 16 := wordsOf_length _ _
/-- The j-th block's state. -/
def chAt (s : List (BitVec 32)) (j : Nat) : List (BitVec 32) := s.set 12 (s.getD 12 0 + BitVec.ofNat 32 j)
/-- The stream's byte at a place, and bytes turned by it. -/
def chByte (s : List (BitVec 32)) (p : Nat) : UInt8 := (chEnded (chAt s (p / 64))).getD (p % 64) 0
def chTurned (s : List (BitVec 32)) (bs : List UInt8) : Nat → List UInt8
  | 0 => []
  | k + 1 => chTurned s bs k ++ [bs.getD k 0 ^^^ chByte s k]
theorem chTurned_length (s : List (BitVec 32)) (bs : List UInt8) : ∀ k, (chTurned s bs k).length = k
  | 0 => rfl
  | k + 1 => by rw [chTurned, List.length_append, chTurned_length s bs k]; rfl
theorem chTurned_at (s : List (BitVec 32)) (bs : List UInt8) : ∀ k j, j < k → (chTurned s bs k).getD j 0 = bs.getD j 0 ^^^ chByte s j
  | 0, j, h => by omega
  | k + 1, j, h => by
    rw [chTurned]
    by_cases hj : j < k
    · have := chTurned_at s bs k j hj
      simp only [List.getD_eq_getElem?_getD] at this ⊢
      rw [List.getElem?_append_left (by rw [chTurned_length]; exact hj)]
      exact this
    · obtain rfl : j = k := by omega
      simp only [List.getD_eq_getElem?_getD]
      rw [List.getElem?_append_right (by rw [chTurned_length]; omega), chTurned_length, Nat.sub_self]
      rfl
theorem chAt_zero (s : List (BitVec 32)) (h : s.length = 16) : chAt s 0 = s := by
  have h12 : s.getD 12 0 = s[12] := by simp [List.getD, h]
  rw [chAt, h12]
  simp
theorem chAt_next (s : List (BitVec 32)) (k : Nat) (h : s.length = 16) : chAt s (k + 1) = (chAt s k).set 12 ((chAt s k).getD 12 0 + 1) := by
  have e : (chAt s k).getD 12 0 = s.getD 12 0 + BitVec.ofNat 32 k := by
    unfold chAt
    rw [List.getD_eq_getElem?_getD, List.getElem?_set_self (by omega)]
    rfl
  rw [e]
  unfold chAt
  rw [List.set_set, BitVec.add_assoc]
  congr 2
  rw [BitVec.ofNat_add]
  rfl
theorem chAt_length (s : List (BitVec 32)) (k : Nat) : (chAt s k).length = s.length := by simp [chAt]
theorem chTurned_block (s : List (BitVec 32)) (bs : List UInt8) (k j : Nat) (h : j < 64) : chTurned s bs (64 * k + j + 1) = chTurned s bs (64 * k + j) ++ [bs.getD (64 * k + j) 0 ^^^ (chEnded (chAt s k)).getD j 0] := by
  rw [chTurned, chByte, show (64 * k + j) / 64 = k by omega, show (64 * k + j) % 64 = j by omega]
/-- Bytes turned, all of them. -/
def chAll (s : List (BitVec 32)) (bs : List UInt8) : List UInt8 := chTurned s bs bs.length
theorem chAll_length (s : List (BitVec 32)) (bs : List UInt8) : (chAll s bs).length = bs.length := chTurned_length _ _ _
theorem chAll_back (s : List (BitVec 32)) (bs : List UInt8) : chAll s (chAll s bs) = bs := by
  refine List.ext_getElem (by rw [chAll_length, chAll_length]) fun i h1 h2 => ?_
  have e1 := chTurned_at s (chAll s bs) (chAll s bs).length i (by rw [chAll_length]; exact h2)
  have e2 := chTurned_at s bs bs.length i h2
  have g1 : (chAll s (chAll s bs)).getD i 0 = (chAll s (chAll s bs))[i] := by simp [List.getD, h1]
  have g2 : bs.getD i 0 = bs[i] := by simp [List.getD, h2]
  rw [← g1, ← g2]
  show (chTurned s (chAll s bs) (chAll s bs).length).getD i 0 = _
  rw [e1]
  show (chTurned s bs bs.length).getD i 0 ^^^ _ = _
  rw [e2, UInt8.xor_assoc, UInt8.xor_self, UInt8.xor_zero]
end Go.Proofs.YtejcbboajikdkaaDoor
namespace Go.Proofs.YtejcbboajikdkaaDoor
open Go.RowKit
section
variable {w : World} {ops : Array Oper} {rest : List Oper} {o o1 o2 : Oper} {a : Act} {Q : Exit → Act → World → Prop}
/-- 'x := f(..)', x an array of bytes: a new variable, and the value stored into it. -/
theorem put_step (hg1 : o1.guard = none) (hg2 : o2.guard = none) (t : TypeId) (x y : Operand) (h1 : o1.op = .alloc t) (h2 : o2.op = .store t x y) (n : Nat) (ds : List UInt8)
    (hx : (a.put o1.dst (.pointer (some ⟨w.heap.size, 0, none⟩))).eval x = .pointer (some ⟨w.heap.size, 0, none⟩)) (hy : (a.put o1.dst (.pointer (some ⟨w.heap.size, 0, none⟩))).eval y = hashVal ds)
    (hz : ∀ w, (zeroValue t).run Tryd.prog w = .ok (.agg (List.replicate n (cellOf 0)).toArray) w) (hs : (Tryd.prog.info? t).map (·.size) = some n) (hl : ds.length = n)
    (h : ∀ w', Below w.heap.size w w' → Cells w' w.heap.size (ds.map cellOf) t → w'.heap.size = w.heap.size + 1 → wpList Tryd.prog ops Q rest ((a.put o1.dst (.pointer (some ⟨w.heap.size, 0, none⟩))).put o2.dst undef) w') : wpList Tryd.prog ops Q (o1 :: o2 :: rest) a w := by
  refine alloc_step hg1 t h1 _ hz ?_
  intro w1 hw1
  have hB1 : Below w.heap.size w w1 := by rw [hw1]; exact (Below.refl _ _).alloc (Nat.le_refl _) _
  have hC1 : Cells w1 w.heap.size (List.replicate n (cellOf 0)) t := by rw [hw1]; exact Cells.new w _ _
  have hz1 : w1.heap.size = w.heap.size + 1 := by rw [hw1]; simp
  clear hw1
  have hsz : (ds.map cellOf).toArray.size = n := by rw [List.size_toArray, List.length_map, hl]
  refine wpList_store_mid hg2 t x y h2 w.heap.size 0 (ds.map cellOf).toArray hx hy (by rw [hsz]; exact hC1.there 0 n (by simp)) (by rw [hsz]; exact hs) (all_oneCell_toArray (cells8_one ds)) ?_
  have hC2 := hC1.setCells (cs := ds.map cellOf) (o := 0) (by simp [hl])
  rw [splice_all _ _ (by simp [hl])] at hC2
  exact h _ (below_setCells hB1 (Nat.le_refl _) _ _) hC2 (by rw [(heap_setCells _ _ _ _).2.2.2.1, hz1])
/-- A variable that is an array of bytes, as a value. -/
theorem get_step (hgd : o.guard = none) (t : TypeId) (x : Operand) (ho : o.op = .load t x) (g n : Nat) (ds : List UInt8) (e : TypeId) (hx : a.eval x = .pointer (some ⟨g, 0, none⟩)) (hC : Cells w g (ds.map cellOf) t) (hu : Tryd.prog.underlying t = some (.array n e))
    (hs : (Tryd.prog.info? t).map (·.size) = some n) (hl : ds.length = n) (h : wpList Tryd.prog ops Q rest (a.put o.dst (hashVal ds)) w) : wpList Tryd.prog ops Q (o :: rest) a w :=
  wpList_load_row hgd t x ho g hx t (ds.map cellOf).toArray (0, 0) _ hC hu rfl (by rw [List.size_toArray, List.length_map, hl]; exact hs) h
/-- An array of bytes stored over a variable. -/
theorem set_step (hgd : o.guard = none) (t : TypeId) (x y : Operand) (ho : o.op = .store t x y) (g n : Nat) (vs : List Value) (ds : List UInt8) (hx : a.eval x = .pointer (some ⟨g, 0, none⟩)) (hy : a.eval y = hashVal ds) (hC : Cells w g vs t) (hv : vs.length = n)
    (hs : (Tryd.prog.info? t).map (·.size) = some n) (hl : ds.length = n) (h : ∀ w', But g w w' → Cells w' g (ds.map cellOf) t → w'.heap.size = w.heap.size → wpList Tryd.prog ops Q rest (a.put o.dst undef) w') : wpList Tryd.prog ops Q (o :: rest) a w := by
  have hsz : (ds.map cellOf).toArray.size = n := by rw [List.size_toArray, List.length_map, hl]
  refine wpList_store_mid hgd t x y ho g 0 (ds.map cellOf).toArray hx hy (by rw [hsz]; exact hC.there 0 n (by omega)) (by rw [hsz]; exact hs) (all_oneCell_toArray (cells8_one ds)) ?_
  have hC2 := hC.setCells (cs := ds.map cellOf) (o := 0) (by simp [hl, hv])
  rw [splice_all _ _ (by simp [hl, hv])] at hC2
  exact h _ ((But.refl g w).setCells _ _) hC2 (heap_setCells _ _ _ _).2.2.2.1
/-- A new variable of a type whose zero value is an array of noughts. -/
theorem zero_step (hgd : o.guard = none) (t : TypeId) (ho : o.op = .alloc t) (n : Nat) (hz : ∀ w, (zeroValue t).run Tryd.prog w = .ok (.agg (List.replicate n (cellOf 0)).toArray) w)
    (h : ∀ w', Below w.heap.size w w' → Cells w' w.heap.size (List.replicate n (cellOf 0)) t → w'.heap.size = w.heap.size + 1 → wpList Tryd.prog ops Q rest (a.put o.dst (.pointer (some ⟨w.heap.size, 0, none⟩))) w') : wpList Tryd.prog ops Q (o :: rest) a w := by
  refine alloc_step hgd t ho _ hz ?_
  intro w1 hw1
  exact h w1 (by rw [hw1]; exact (Below.refl _ _).alloc (Nat.le_refl _) _) (by rw [hw1]; exact Cells.new w _ _) (by rw [hw1]; simp)
/-- An array of bytes that comes as a value, laid into a new variable. -/
theorem take_step (hgd : o.guard = none) (t : TypeId) (x : Operand) (ho : o.op = .box t x) (ds : List UInt8) (hx : a.eval x = hashVal ds)
    (h : ∀ w', Below w.heap.size w w' → Cells w' w.heap.size (ds.map cellOf) t → w'.heap.size = w.heap.size + 1 → wpList Tryd.prog ops Q rest (a.put o.dst (.pointer (some ⟨w.heap.size, 0, none⟩))) w') : wpList Tryd.prog ops Q (o :: rest) a w := by
  refine box_step hgd t x ho _ hx ?_
  intro w1 hw1
  exact h w1 (by rw [hw1]; exact (Below.refl _ _).alloc (Nat.le_refl _) _) (by rw [hw1]; exact Cells.new w _ _) (by rw [hw1]; simp)
end
/-- A function whose result is an array of bytes in a block of its own. -/
theorem ret_hash {fn : Func} {R : Ending → World → Prop} {a : Act} {w : World} {p : Tmp} {ty e : TypeId} {n : Nat} (hres : fn.results = #[.cell p ty]) (g : Nat) (ds : List UInt8)
    (hp : a.tmps.getD p undef = .pointer (some ⟨g, 0, none⟩)) (hg : Cells w g (ds.map cellOf) ty) (hu : Tryd.prog.underlying ty = some (.array n e)) (hi : (Tryd.prog.info? ty).map (·.size) = some n) (hl : ds.length = n)
    (hdf : a.defers = []) (hR : R (.returned (hashVal ds)) w) : bodyPost Tryd.prog fn R .ret a w :=
  ret_block hres g (ds.map cellOf) ty hp hg hu rfl (by rw [List.length_map, hl]; exact hi) hdf hR
theorem Cells.all {w : World} {g : Nat} {ds : List UInt8} {t : TypeId} (h : Cells w g (ds.map cellOf) t) : Row w w.heap.size (some ⟨g, 0, none⟩) ds :=
  h.row (m := ds.length) (by rw [← List.length_map cellOf, List.take_length])
theorem Cells.on {w w' : World} {g : Nat} {vs : List Value} {t : TypeId} (h : Cells w g vs t) (hb : Below w.heap.size w w') : Cells w' g vs t := h.below hb h.lt
/-- 'append(out, b...)' onto a whole row of the call's own, block g: of the old blocks only g may have turned. -/
theorem append_but {w : World} {ops : Array Oper} {rest : List Oper} {o : Oper} {a : Act} {Q : Exit → Act → World → Prop} (hgd : o.guard = none) (s x : Operand)
    (ho : o.op = .call { callee := .builtin .append, args := #[s, x], argTypes := #[26, 26] }) (base g l c0 : Nat)
    (bs us : List UInt8) (B : Nat) (A : Option Addr) (c n : Nat) (hs : a.eval s = .slice (some ⟨g, 0, none⟩) l c0) (hown : Owns w base (.slice (some ⟨g, 0, none⟩) l c0) bs) (hx : a.eval x = .slice A n c) (hn : us.length = n) (hA : A = none → c = 0) (hr : Row w B A us)
    (hlen : bs.length + n ≤ 1000000) (hbase : base ≤ w.heap.size)
    (h : ∀ v' w', Owns w' base v' (bs ++ us) → But g w w' → wpList Tryd.prog ops Q rest (a.put o.dst v') w') : wpList Tryd.prog ops Q (o :: rest) a w := by
  subst hn
  obtain ⟨i0, hi0, hz0, hz1, hz2⟩ := info_parts u8_info
  rcases A with _ | ad
  · have : us = [] := by
      rcases hr with h | ⟨_, _, h, _⟩
      · exact h
      · cases h
    subst this
    rw [hA rfl] at hx
    exact wpList_append_own_none hgd s x 26 ho base 5 i0 1 Tryd.underlying26 hi0 _ bs.length (bs.map cellOf) hs hown hx (h _ w (by simpa using hown) (But.refl _ _))
  · refine wpList_append_own w hgd s x 26 ho base 5 i0 _ 1 1 Tryd.underlying26 hi0 hz0 hz1 hz2 rfl (by omega) _ bs.length (bs.map cellOf) hs hown ad us.length c (us.map cellOf) hx (by simp) ?_ ?_ (by simp only [maxLen]; omega) (by omega) hbase ?_
    · intro j u hu
      rw [List.getElem?_map] at hu
      cases hj : us[j]? with
      | none => rw [hj] at hu; cases hu
      | some q =>
        rw [hj] at hu
        rcases hr with rfl | ⟨b, off, hb1, _, hc⟩
        · simp at hj
        · cases hb1
          rw [Go.WideShapes.add_plain, hc j q hj]
          exact hu
    · intro u hu
      obtain ⟨q, _, rfl⟩ := List.mem_map.1 hu
      rfl
    · intro v' w' h2 h3 _
      refine h v' w' ?_ ⟨h3.os, h3.tape, h3.output, h3.size, fun k hk hne => h3.block k hk (fun e => hne (by simpa [Value.ownBlock] using e))⟩
      unfold Owns
      simpa using h2
end Go.Proofs.YtejcbboajikdkaaDoor
namespace Go.Proofs.YtejcbboajikdkaaDoor
open Go.RowKit
theorem size_u32 : (Tryd.prog.info? 22).map (·.size) = some 1 := by kernel_rfl
theorem u32_info : (Tryd.prog.info? 22).map (fun i => (i.zero, i.size, i.bytes)) = some (some (.int .u32 0), 1, 4) := by kernel_rfl
set_option maxRecDepth 100000 in
/-- 'make([]uint32, n)'. -/
theorem make_words (n : Nat) (hn : n ≤ 1000000) (W : World) :
    (Instr.makeSlice 30 (.int .i64 (n : Int)) (.int .i64 (n : Int))).run Tryd.prog W = .ok (.slice (some ⟨W.heap.size, 0, none⟩) n n) (W.alloc (.cells (wzeros n).toArray 22)) := by
  unfold wzeros
  obtain ⟨i0, hi0, hz0, hz1, hz2⟩ := info_parts u32_info
  have h := run_make (P := Tryd.prog) W 30 22 i0 (.int .u32 0) Tryd.underlying30 hi0 hz0 .i64 .i64 n n (by omega) (by omega) (by rw [hz2]; omega) (by omega)
  rw [h, Int.toNat_natCast, hz1, Nat.mul_one]
  congr 3
  apply Array.ext_getElem?
  intro i
  simp only [madeCells, Value.cells]
  by_cases h : i < n
  · simp [h, Nat.mod_one]
  · simp [h]
section
variable {P : Program} {w : World} {ops : Array Oper} {rest : List Oper} {o o1 o2 : Oper} {a : Act} {Q : Exit → Act → World → Prop}
/-- 'x := f(..)', x an array: a new variable, and the value stored into it. -/
theorem vput_step (hg1 : o1.guard = none) (hg2 : o2.guard = none) (t : TypeId) (x y : Operand) (h1 : o1.op = .alloc t) (h2 : o2.op = .store t x y) (n : Nat) (zs vs : List Value)
    (hx : (a.put o1.dst (.pointer (some ⟨w.heap.size, 0, none⟩))).eval x = .pointer (some ⟨w.heap.size, 0, none⟩)) (hy : (a.put o1.dst (.pointer (some ⟨w.heap.size, 0, none⟩))).eval y = .agg vs.toArray)
    (hz : ∀ w, (zeroValue t).run P w = .ok (.agg zs.toArray) w) (hzl : zs.length = n) (hs : (P.info? t).map (·.size) = some n) (hl : vs.length = n) (h1c : vs.toArray.all (·.oneCell') = true)
    (h : ∀ w', Below w.heap.size w w' → Cells w' w.heap.size vs t → wpList P ops Q rest ((a.put o1.dst (.pointer (some ⟨w.heap.size, 0, none⟩))).put o2.dst undef) w') : wpList P ops Q (o1 :: o2 :: rest) a w := by
  refine alloc_step hg1 t h1 _ hz ?_
  intro w1 hw1
  have hB1 : Below w.heap.size w w1 := by rw [hw1]; exact (Below.refl _ _).alloc (Nat.le_refl _) _
  have hC1 : Cells w1 w.heap.size zs t := by rw [hw1]; exact Cells.new w _ _
  clear hw1
  have hsz : vs.toArray.size = n := by rw [List.size_toArray, hl]
  refine wpList_store_mid hg2 t x y h2 w.heap.size 0 vs.toArray hx hy (by rw [hsz]; exact hC1.there 0 n (by omega)) (by rw [hsz]; exact hs) h1c ?_
  have hC2 := hC1.setCells (cs := vs) (o := 0) (by omega)
  rw [splice_all _ _ (by omega)] at hC2
  exact h _ (below_setCells hB1 (Nat.le_refl _) _ _) hC2
/-- A variable that is an array, as a value. -/
theorem vget_step (hgd : o.guard = none) (t : TypeId) (x : Operand) (ho : o.op = .load t x) (g n : Nat) (vs : List Value) (e : TypeId) (hx : a.eval x = .pointer (some ⟨g, 0, none⟩)) (hC : Cells w g vs t) (hu : P.underlying t = some (.array n e))
    (hs : (P.info? t).map (·.size) = some n) (hl : vs.length = n) (h : wpList P ops Q rest (a.put o.dst (.agg vs.toArray)) w) : wpList P ops Q (o :: rest) a w :=
  wpList_load_row hgd t x ho g hx t vs.toArray (0, 0) _ hC hu rfl (by rw [List.size_toArray, hl]; exact hs) h
/-- An array stored over a variable. -/
theorem vset_step (hgd : o.guard = none) (t : TypeId) (x y : Operand) (ho : o.op = .store t x y) (g n : Nat) (us vs : List Value) (hx : a.eval x = .pointer (some ⟨g, 0, none⟩)) (hy : a.eval y = .agg vs.toArray) (hC : Cells w g us t) (hv : us.length = n)
    (hs : (P.info? t).map (·.size) = some n) (hl : vs.length = n) (h1c : vs.toArray.all (·.oneCell') = true) (h : ∀ w', But g w w' → Cells w' g vs t → w'.heap.size = w.heap.size → wpList P ops Q rest (a.put o.dst undef) w') : wpList P ops Q (o :: rest) a w := by
  have hsz : vs.toArray.size = n := by rw [List.size_toArray, hl]
  refine wpList_store_mid hgd t x y ho g 0 vs.toArray hx hy (by rw [hsz]; exact hC.there 0 n (by omega)) (by rw [hsz]; exact hs) h1c ?_
  have hC2 := hC.setCells (cs := vs) (o := 0) (by omega)
  rw [splice_all _ _ (by omega)] at hC2
  exact h _ ((But.refl g w).setCells _ _) hC2 (heap_setCells _ _ _ _).2.2.2.1
/-- A new variable of a type whose zero value is known. -/
theorem vzero_step (hgd : o.guard = none) (t : TypeId) (ho : o.op = .alloc t) (zs : List Value) (hz : ∀ w, (zeroValue t).run P w = .ok (.agg zs.toArray) w)
    (h : ∀ w', Below w.heap.size w w' → Cells w' w.heap.size zs t → wpList P ops Q rest (a.put o.dst (.pointer (some ⟨w.heap.size, 0, none⟩))) w') : wpList P ops Q (o :: rest) a w := by
  refine alloc_step hgd t ho _ hz ?_
  intro w1 hw1
  exact h w1 (by rw [hw1]; exact (Below.refl _ _).alloc (Nat.le_refl _) _) (by rw [hw1]; exact Cells.new w _ _)
/-- An array that comes as a value, laid into a new variable. -/
theorem vtake_step (hgd : o.guard = none) (t : TypeId) (x : Operand) (ho : o.op = .box t x) (vs : List Value) (hx : a.eval x = .agg vs.toArray)
    (h : ∀ w', Below w.heap.size w w' → Cells w' w.heap.size vs t → wpList P ops Q rest (a.put o.dst (.pointer (some ⟨w.heap.size, 0, none⟩))) w') : wpList P ops Q (o :: rest) a w := by
  refine box_step hgd t x ho _ hx ?_
  intro w1 hw1
  exact h w1 (by rw [hw1]; exact (Below.refl _ _).alloc (Nat.le_refl _) _) (by rw [hw1]; exact Cells.new w _ _)
end
/-- A function whose result is an array in a block of its own. -/
theorem vret {P : Program} {fn : Func} {R : Ending → World → Prop} {a : Act} {w : World} {p : Tmp} {ty e : TypeId} {n : Nat} (hres : fn.results = #[.cell p ty]) (g : Nat) (vs : List Value)
    (hp : a.tmps.getD p undef = .pointer (some ⟨g, 0, none⟩)) (hg : Cells w g vs ty) (hu : P.underlying ty = some (.array n e)) (hi : (P.info? ty).map (·.size) = some n) (hl : vs.length = n)
    (hdf : a.defers = []) (hR : R (.returned (.agg vs.toArray)) w) : bodyPost P fn R .ret a w :=
  ret_block hres g vs ty hp hg hu rfl (by rw [hl]; exact hi) hdf hR
end Go.Proofs.YtejcbboajikdkaaDoor
namespace Go.Proofs.YtejcbboajikdkaaDoor
open Go.RowKit
theorem results_tmp4 {fn : Func} {t u v x : Tmp} (h : fn.results = #[.tmp t, .tmp u, .tmp v, .tmp x]) (tmps : Array Value) (P : Program) (w : World) :
    (results fn tmps).run P w = .ok (.tuple #[tmps.getD t undef, tmps.getD u undef, tmps.getD v undef, tmps.getD x undef]) w := by
  simp [results, h]
/-- Four words as a call answers them. -/
def Quad.tuple (q : Quad) : Value := .tuple #[wcell q.a, wcell q.b, wcell q.c, wcell q.d]
set_option maxRecDepth 100000 in
theorem quarter_any (a b c d : BitVec 32) (w : World) :
    Calls Tryd.prog 8 #[wcell a, wcell b, wcell c, wcell d] w fun e w' => e = .returned (quarter a b c d).tuple ∧ w = w' := by
  have HQ : Hid (quarter a b c d = ⟨a + b + rotL32 (b ^^^ (c + rotL32 (d ^^^ (a + b)) 16)) 12, rotL32 (rotL32 (b ^^^ (c + rotL32 (d ^^^ (a + b)) 16)) 12 ^^^ (c + rotL32 (d ^^^ (a + b)) 16 + rotL32 (rotL32 (d ^^^ (a + b)) 16 ^^^ (a + b + rotL32 (b ^^^ (c + rotL32 (d ^^^ (a + b)) 16)) 12)) 8)) 7, c + rotL32 (d ^^^ (a + b)) 16 + rotL32 (rotL32 (d ^^^ (a + b)) 16 ^^^ (a + b + rotL32 (b ^^^ (c + rotL32 (d ^^^ (a + b)) 16)) 12)) 8, rotL32 (rotL32 (d ^^^ (a + b)) 16 ^^^ (a + b + rotL32 (b ^^^ (c + rotL32 (d ^^^ (a + b)) 16)) 12)) 8⟩) := rfl
  go_enter Tryd.func8, Tryd.ntmps8
  go_wp2_with fail
  rw [add32, xor32]
  refine (left_any _ _ _).mono ?_
  rintro e w1 ⟨rfl, rfl⟩
  generalize a + b = a1 at *
  generalize rotL32 (d ^^^ a1) 16 = d1 at *
  go_wp2_with fail
  rw [add32, xor32]
  refine (left_any _ _ _).mono ?_
  rintro e w1 ⟨rfl, rfl⟩
  generalize c + d1 = c1 at *
  generalize rotL32 (b ^^^ c1) 12 = b1 at *
  go_wp2_with fail
  rw [add32, xor32]
  refine (left_any _ _ _).mono ?_
  rintro e w1 ⟨rfl, rfl⟩
  generalize a1 + b1 = a2 at *
  generalize rotL32 (d1 ^^^ a2) 8 = d2 at *
  go_wp2_with fail
  rw [add32, xor32]
  refine (left_any _ _ _).mono ?_
  rintro e w1 ⟨rfl, rfl⟩
  generalize c1 + d2 = c2 at *
  generalize rotL32 (b1 ^^^ c2) 7 = b2 at *
  go_wp2
  try simp only [Exit.inBlock, Exit.then]
  refine bodyPost_ret (results_tmp4 rfl _ _ _) rfl ?_
  exact ⟨by rw [HQ.out]; rfl, rfl⟩
set_option maxRecDepth 100000 in
theorem streamPut_any (x : BitVec 32) (w : World) :
    Calls Tryd.prog 25 #[wcell x] w fun e w' => e = .returned (.slice (some ⟨w.heap.size, 0, none⟩) 4 4) ∧ Below w.heap.size w w' ∧ Made w' w.heap.size (putL x.toNat 4) := by
  have hx := x.isLt
  have HC := Lib.hid (putLittle_in x.toNat 4 w (by omega) (by omega))
  go_enter Tryd.func25, Tryd.ntmps25
  go_wp2_with fail
  refine HC.out.mono ?_
  rintro e w1 ⟨rfl, hB1, hM1⟩
  clear HC
  go_wp2
  go_ret
  exact ⟨rfl, hB1, hM1⟩
set_option maxRecDepth 100000 in
theorem streamLittle_any (A : Option Addr) (c : Nat) (bs : List UInt8) (w : World) (hl : bs.length = 4) (hr : Row w w.heap.size A bs) :
    Calls Tryd.prog 27 #[.slice A 4 c] w fun e w' => e = .returned (wcell (word4L bs)) ∧ w = w' := by
  have HC := Lib.hid (little_few A c 4 bs w hl hr (by omega))
  have hb := bigN_lt bs.reverse
  rw [List.length_reverse, hl] at hb
  have HW : Hid (word4L bs = BitVec.ofNat 32 (bigN bs.reverse)) := rfl
  generalize bigN bs.reverse = n at *
  go_enter Tryd.func27, Tryd.ntmps27
  go_wp2_with fail
  refine HC.out.mono ?_
  rintro e w1 ⟨rfl, rfl⟩
  clear HC
  go_wp2
  go_ret
  exact ⟨by rw [HW.out]; exact ret_int (by rw [BitVec.toNat_ofNat]; omega), rfl⟩
end Go.Proofs.YtejcbboajikdkaaDoor
namespace Go.Proofs.YtejcbboajikdkaaDoor
open Go.RowKit
theorem turn6_any (x : BitVec 32) (n : Nat) (w : World) (hn0 : 0 < n) (hn : n < 32) :
    Calls Tryd.prog 18 #[.int .u32 x.toNat, .int .u64 n] w fun e w' => e = .returned (.int .u32 ((rotL32 x n).toNat : Int)) ∧ w' = w := by
  have HR : Hid (bits .or .u32 ((x.toNat : Int) * 2 ^ n % 4294967296) ((x.toNat : Int) / 2 ^ (32 - n)) = ((rotL32 x n).toNat : Int)) := by
    show _ = _
    rw [rotl32 x n hn]
    unfold rotL32
    rw [show ((n : Int) % 32).toNat = n by omega]
  have h1 : (32 : Int) - n = ((32 - n : Nat) : Int) := by omega
  have h2 : ((32 : Int) - (n : Int)).toNat = 32 - n := by omega
  go_enter Tryd.func18, Tryd.ntmps18
  go_wp2
  go_ret
  exact ⟨ret_int HR.out, rfl⟩
theorem turn6_at (x : BitVec 32) (z : Int) (w : World) (h0 : 0 < z) (h : z < 32) :
    Calls Tryd.prog 18 #[.int .u32 x.toNat, .int .u64 z] w fun e w' => e = .returned (.int .u32 ((rotL32 x z).toNat : Int)) ∧ w' = w := by
  obtain ⟨n, rfl⟩ := Int.eq_ofNat_of_zero_le (show 0 ≤ z by omega)
  exact turn6_any x n w (by omega) (by omega)
theorem wrest_at (l : List (BitVec 32)) (rest : List Value) (k : Nat) (hk : k < l.length) : (l.map wcell ++ rest)[k]? = some (wcell (l.getD k 0)) := by
  rw [List.getElem?_append_left (by rw [List.length_map]; exact hk), list_at l k hk]
theorem wrest_set (l : List (BitVec 32)) (rest : List Value) (k : Nat) (x : BitVec 32) (hk : k < l.length) : (l.map wcell ++ rest).set k (wcell x) = (l.set k x).map wcell ++ rest := by
  rw [List.set_append_left _ _ (by rw [List.length_map]; exact hk), wset_map]
/-- The quarter round statement by statement, in place. -/
def qstep (l : List (BitVec 32)) (i j k m : Nat) : List (BitVec 32) :=
  let l1 := l.set i (l.getD i 0 + l.getD j 0)
  let l2 := l1.set m (rotL32 (l1.getD m 0 ^^^ l1.getD i 0) 16)
  let l3 := l2.set k (l2.getD k 0 + l2.getD m 0)
  let l4 := l3.set j (rotL32 (l3.getD j 0 ^^^ l3.getD k 0) 12)
  let l5 := l4.set i (l4.getD i 0 + l4.getD j 0)
  let l6 := l5.set m (rotL32 (l5.getD m 0 ^^^ l5.getD i 0) 8)
  let l7 := l6.set k (l6.getD k 0 + l6.getD m 0)
  l7.set j (rotL32 (l7.getD j 0 ^^^ l7.getD k 0) 7)
theorem getD_set_self (l : List (BitVec 32)) (k : Nat) (x : BitVec 32) (h : k < l.length) : (l.set k x).getD k 0 = x := by
  rw [List.getD_eq_getElem?_getD, List.getElem?_set_self h]; rfl
theorem getD_set_other (l : List (BitVec 32)) (k j : Nat) (x : BitVec 32) (h : k ≠ j) : (l.set k x).getD j 0 = l.getD j 0 := by
  rw [List.getD_eq_getElem?_getD, List.getElem?_set_ne h, List.getD_eq_getElem?_getD]
theorem qstep_eq (l : List (BitVec 32)) (i j k m : Nat) (hi : i < l.length) (hj : j < l.length) (hk : k < l.length) (hm : m < l.length) (h1 : i ≠ j) (h2 : i ≠ k) (h3 : i ≠ m) (h4 : j ≠ k) (h5 : j ≠ m) (h6 : k ≠ m) : qstep l i j k m = qset l i j k m := by
  simp only [qstep, qset, qput, quarter, getD_set_self, getD_set_other, List.length_set, hi, hj, hk, hm, h1, h2, h3, h4, h5, h6, h1.symm, h2.symm, h3.symm, h4.symm, h5.symm, h6.symm, ne_eq, not_false_eq_true]
  generalize l.getD i 0 = a
  generalize l.getD j 0 = b
  generalize l.getD k 0 = c
  generalize l.getD m 0 = d
  generalize a + b = a1
  generalize rotL32 (d ^^^ a1) 16 = d1
  generalize c + d1 = c1
  generalize rotL32 (b ^^^ c1) 12 = b1
  generalize a1 + b1 = a2
  generalize rotL32 (d1 ^^^ a2) 8 = d2
  generalize c1 + d2 = c2
  generalize rotL32 (b1 ^^^ c2) 7 = b2
  refine List.ext_getElem? fun t => ?_
  simp only [List.getElem?_set, List.length_set]
  by_cases t1 : i = t
  · subst t1; simp [h1.symm, h2.symm, h3.symm, hi]
  · by_cases t2 : j = t
    · subst t2; simp [h4.symm, h5.symm, hj]
    · by_cases t3 : k = t
      · subst t3; simp [h4, h6.symm, hk]
      · by_cases t4 : m = t
        · subst t4; simp [h5, h6, hm]
        · simp [t1, t2, t3, t4]
end Go.Proofs.YtejcbboajikdkaaDoor
namespace Go.Proofs.YtejcbboajikdkaaDoor
open Go.RowKit
set_option maxRecDepth 100000 in
set_option maxHeartbeats 2000000 in
theorem refQuarter_step (g n c i j k m : Nat) (l : List (BitVec 32)) (rest : List Value) (w : World) (hl : l.length = n) (hi : i < n) (hj : j < n) (hk : k < n) (hm : m < n) (hC : Cells w g (l.map wcell ++ rest) 22) :
    Calls Tryd.prog 9 #[.slice (some ⟨g, 0, none⟩) n c, .int .i64 (i : Int), .int .i64 (j : Int), .int .i64 (k : Int), .int .i64 (m : Int)] w fun e w' => e = .returned (.tuple #[]) ∧ But g w w' ∧ Cells w' g ((qstep l i j k m).map wcell ++ rest) 22 := by
  have HL0 := Lib.hid hl
  have HI := Lib.hid hi
  have HJ := Lib.hid hj
  have HK := Lib.hid hk
  have HM := Lib.hid hm
  have i1 : (0 : Int) ≤ (i : Int) := by omega
  have i2 : (0 : Int) ≤ (j : Int) := by omega
  have i3 : (0 : Int) ≤ (k : Int) := by omega
  have i4 : (0 : Int) ≤ (m : Int) := by omega
  have j1 : (i : Int) < (n : Int) := by omega
  have j2 : (j : Int) < (n : Int) := by omega
  have j3 : (k : Int) < (n : Int) := by omega
  have j4 : (m : Int) < (n : Int) := by omega
  clear hl hi hj hk hm
  have hb0 : But g w w := But.refl g w
  obtain ⟨l0, hl0⟩ : ∃ l0, l0 = l := ⟨_, rfl⟩
  rw [← hl0] at hC HL0
  have HE0 := Lib.hid hl0
  clear hl0
  go_enter Tryd.func9, Tryd.ntmps9
  go_wp2_with fail
  refine wp_region_tail 12 (by kernel_rfl) (by kernel_rfl) ?_
  intro v0 hv
  have hd : Cells v0 g (l0.map wcell ++ rest) 22 := by rw [hv]; exact hC
  have hbd : But g w v0 := by rw [hv]; exact hb0.drew
  clear hv hC hb0
  have ca := hd.get (wrest_at l0 rest i (by rw [HL0.out]; exact HI.out))
  have cb := hd.get (wrest_at l0 rest j (by rw [HL0.out]; exact HJ.out))
  have ht := hd.there i 1 (by have h1 := HL0.out; have h2 := HI.out; rw [List.length_append, List.length_map]; omega)
  have HT := Lib.hid ht
  clear ht
  have HE1 : Hid (l0.set i (l0.getD i 0 + l0.getD j 0) = l0.set i (l0.getD i 0 + l0.getD j 0)) := rfl
  generalize hl1 : l0.set i (l0.getD i 0 + l0.getD j 0) = l1 at HE1
  clear HE1
  have HE1 := Lib.hid hl1
  clear hl1
  have HL1 : Hid (l1.length = n) := by show _ = _; rw [← HE1.out, List.length_set, HL0.out]
  have HX1 : Hid (∀ W, Cells W g (l0.map wcell ++ rest) 22 → Cells (W.setCell ⟨g, i, none⟩ (wcell (l0.getD i 0 + l0.getD j 0))) g (l1.map wcell ++ rest) 22) := by
    intro W h
    rw [← HE1.out, ← wrest_set l0 rest i _ (by rw [HL0.out]; exact HI.out)]
    exact h.set i _
  generalize l0.getD i 0 = xa at ca HX1
  generalize l0.getD j 0 = xb at cb HX1
  simp only [List.take_succ_cons, List.take_zero, List.drop_succ_cons, List.drop_zero]
  iterate 12 still_step
  refine wpStill_nil ?_
  clear ca cb
  go_wp2_with (first
    | (refine store_step rfl 22 _ _ rfl g i .u32 _ rfl rfl size_u32 HT.out ?_
       intro w1 hw
       have hC : Cells w1 g (l1.map wcell ++ rest) 22 := by rw [hw, wadd32]; exact HX1.out _ hd
       have hb1 : But g w w1 := by rw [hw]; exact hbd.setCell _ _
       clear hw hd hbd HT HX1))
  go_wp2_with fail
  refine wp_region_tail 13 (by kernel_rfl) (by kernel_rfl) ?_
  intro v1 hv
  have hd : Cells v1 g (l1.map wcell ++ rest) 22 := by rw [hv]; exact hC
  have hbd : But g w v1 := by rw [hv]; exact hb1.drew
  clear hv hC hb1
  have ca := hd.get (wrest_at l1 rest m (by rw [HL1.out]; exact HM.out))
  have cb := hd.get (wrest_at l1 rest i (by rw [HL1.out]; exact HI.out))
  have ht := hd.there m 1 (by have h1 := HL1.out; have h2 := HM.out; rw [List.length_append, List.length_map]; omega)
  have HT := Lib.hid ht
  clear ht
  have HE2 : Hid (l1.set m (rotL32 (l1.getD m 0 ^^^ l1.getD i 0) 16) = l1.set m (rotL32 (l1.getD m 0 ^^^ l1.getD i 0) 16)) := rfl
  generalize hl2 : l1.set m (rotL32 (l1.getD m 0 ^^^ l1.getD i 0) 16) = l2 at HE2
  clear HE2
  have HE2 := Lib.hid hl2
  clear hl2
  have HL2 : Hid (l2.length = n) := by show _ = _; rw [← HE2.out, List.length_set, HL1.out]
  have HX2 : Hid (∀ W, Cells W g (l1.map wcell ++ rest) 22 → Cells (W.setCell ⟨g, m, none⟩ (wcell (rotL32 (l1.getD m 0 ^^^ l1.getD i 0) 16))) g (l2.map wcell ++ rest) 22) := by
    intro W h
    rw [← HE2.out, ← wrest_set l1 rest m _ (by rw [HL1.out]; exact HM.out)]
    exact h.set m _
  generalize l1.getD m 0 = xa at ca HX2
  generalize l1.getD i 0 = xb at cb HX2
  simp only [List.take_succ_cons, List.take_zero, List.drop_succ_cons, List.drop_zero]
  have q := turn6_at (xa ^^^ xb) 16 v1 (by omega) (by omega)
  rw [← xor32] at q
  iterate 11 still_step
  still_call q
  still_step
  clear q
  refine wpStill_nil ?_
  clear ca cb
  go_wp2_with (first
    | (refine store_step rfl 22 _ _ rfl g m .u32 _ rfl rfl size_u32 HT.out ?_
       intro w2 hw
       have hC : Cells w2 g (l2.map wcell ++ rest) 22 := by rw [hw]; exact HX2.out _ hd
       have hb2 : But g w w2 := by rw [hw]; exact hbd.setCell _ _
       clear hw hd hbd HT HX2))
  go_wp2_with fail
  refine wp_region_tail 12 (by kernel_rfl) (by kernel_rfl) ?_
  intro v2 hv
  have hd : Cells v2 g (l2.map wcell ++ rest) 22 := by rw [hv]; exact hC
  have hbd : But g w v2 := by rw [hv]; exact hb2.drew
  clear hv hC hb2
  have ca := hd.get (wrest_at l2 rest k (by rw [HL2.out]; exact HK.out))
  have cb := hd.get (wrest_at l2 rest m (by rw [HL2.out]; exact HM.out))
  have ht := hd.there k 1 (by have h1 := HL2.out; have h2 := HK.out; rw [List.length_append, List.length_map]; omega)
  have HT := Lib.hid ht
  clear ht
  have HE3 : Hid (l2.set k (l2.getD k 0 + l2.getD m 0) = l2.set k (l2.getD k 0 + l2.getD m 0)) := rfl
  generalize hl3 : l2.set k (l2.getD k 0 + l2.getD m 0) = l3 at HE3
  clear HE3
  have HE3 := Lib.hid hl3
  clear hl3
  have HL3 : Hid (l3.length = n) := by show _ = _; rw [← HE3.out, List.length_set, HL2.out]
  have HX3 : Hid (∀ W, Cells W g (l2.map wcell ++ rest) 22 → Cells (W.setCell ⟨g, k, none⟩ (wcell (l2.getD k 0 + l2.getD m 0))) g (l3.map wcell ++ rest) 22) := by
    intro W h
    rw [← HE3.out, ← wrest_set l2 rest k _ (by rw [HL2.out]; exact HK.out)]
    exact h.set k _
  generalize l2.getD k 0 = xa at ca HX3
  generalize l2.getD m 0 = xb at cb HX3
  simp only [List.take_succ_cons, List.take_zero, List.drop_succ_cons, List.drop_zero]
  iterate 12 still_step
  refine wpStill_nil ?_
  clear ca cb
  go_wp2_with (first
    | (refine store_step rfl 22 _ _ rfl g k .u32 _ rfl rfl size_u32 HT.out ?_
       intro w3 hw
       have hC : Cells w3 g (l3.map wcell ++ rest) 22 := by rw [hw, wadd32]; exact HX3.out _ hd
       have hb3 : But g w w3 := by rw [hw]; exact hbd.setCell _ _
       clear hw hd hbd HT HX3))
  go_wp2_with fail
  refine wp_region_tail 13 (by kernel_rfl) (by kernel_rfl) ?_
  intro v3 hv
  have hd : Cells v3 g (l3.map wcell ++ rest) 22 := by rw [hv]; exact hC
  have hbd : But g w v3 := by rw [hv]; exact hb3.drew
  clear hv hC hb3
  have ca := hd.get (wrest_at l3 rest j (by rw [HL3.out]; exact HJ.out))
  have cb := hd.get (wrest_at l3 rest k (by rw [HL3.out]; exact HK.out))
  have ht := hd.there j 1 (by have h1 := HL3.out; have h2 := HJ.out; rw [List.length_append, List.length_map]; omega)
  have HT := Lib.hid ht
  clear ht
  have HE4 : Hid (l3.set j (rotL32 (l3.getD j 0 ^^^ l3.getD k 0) 12) = l3.set j (rotL32 (l3.getD j 0 ^^^ l3.getD k 0) 12)) := rfl
  generalize hl4 : l3.set j (rotL32 (l3.getD j 0 ^^^ l3.getD k 0) 12) = l4 at HE4
  clear HE4
  have HE4 := Lib.hid hl4
  clear hl4
  have HL4 : Hid (l4.length = n) := by show _ = _; rw [← HE4.out, List.length_set, HL3.out]
  have HX4 : Hid (∀ W, Cells W g (l3.map wcell ++ rest) 22 → Cells (W.setCell ⟨g, j, none⟩ (wcell (rotL32 (l3.getD j 0 ^^^ l3.getD k 0) 12))) g (l4.map wcell ++ rest) 22) := by
    intro W h
    rw [← HE4.out, ← wrest_set l3 rest j _ (by rw [HL3.out]; exact HJ.out)]
    exact h.set j _
  generalize l3.getD j 0 = xa at ca HX4
  generalize l3.getD k 0 = xb at cb HX4
  simp only [List.take_succ_cons, List.take_zero, List.drop_succ_cons, List.drop_zero]
  have q := turn6_at (xa ^^^ xb) 12 v3 (by omega) (by omega)
  rw [← xor32] at q
  iterate 11 still_step
  still_call q
  still_step
  clear q
  refine wpStill_nil ?_
  clear ca cb
  go_wp2_with (first
    | (refine store_step rfl 22 _ _ rfl g j .u32 _ rfl rfl size_u32 HT.out ?_
       intro w4 hw
       have hC : Cells w4 g (l4.map wcell ++ rest) 22 := by rw [hw]; exact HX4.out _ hd
       have hb4 : But g w w4 := by rw [hw]; exact hbd.setCell _ _
       clear hw hd hbd HT HX4))
  go_wp2_with fail
  refine wp_region_tail 12 (by kernel_rfl) (by kernel_rfl) ?_
  intro v4 hv
  have hd : Cells v4 g (l4.map wcell ++ rest) 22 := by rw [hv]; exact hC
  have hbd : But g w v4 := by rw [hv]; exact hb4.drew
  clear hv hC hb4
  have ca := hd.get (wrest_at l4 rest i (by rw [HL4.out]; exact HI.out))
  have cb := hd.get (wrest_at l4 rest j (by rw [HL4.out]; exact HJ.out))
  have ht := hd.there i 1 (by have h1 := HL4.out; have h2 := HI.out; rw [List.length_append, List.length_map]; omega)
  have HT := Lib.hid ht
  clear ht
  have HE5 : Hid (l4.set i (l4.getD i 0 + l4.getD j 0) = l4.set i (l4.getD i 0 + l4.getD j 0)) := rfl
  generalize hl5 : l4.set i (l4.getD i 0 + l4.getD j 0) = l5 at HE5
  clear HE5
  have HE5 := Lib.hid hl5
  clear hl5
  have HL5 : Hid (l5.length = n) := by show _ = _; rw [← HE5.out, List.length_set, HL4.out]
  have HX5 : Hid (∀ W, Cells W g (l4.map wcell ++ rest) 22 → Cells (W.setCell ⟨g, i, none⟩ (wcell (l4.getD i 0 + l4.getD j 0))) g (l5.map wcell ++ rest) 22) := by
    intro W h
    rw [← HE5.out, ← wrest_set l4 rest i _ (by rw [HL4.out]; exact HI.out)]
    exact h.set i _
  generalize l4.getD i 0 = xa at ca HX5
  generalize l4.getD j 0 = xb at cb HX5
  simp only [List.take_succ_cons, List.take_zero, List.drop_succ_cons, List.drop_zero]
  iterate 12 still_step
  refine wpStill_nil ?_
  clear ca cb
  go_wp2_with (first
    | (refine store_step rfl 22 _ _ rfl g i .u32 _ rfl rfl size_u32 HT.out ?_
       intro w5 hw
       have hC : Cells w5 g (l5.map wcell ++ rest) 22 := by rw [hw, wadd32]; exact HX5.out _ hd
       have hb5 : But g w w5 := by rw [hw]; exact hbd.setCell _ _
       clear hw hd hbd HT HX5))
  go_wp2_with fail
  refine wp_region_tail 13 (by kernel_rfl) (by kernel_rfl) ?_
  intro v5 hv
  have hd : Cells v5 g (l5.map wcell ++ rest) 22 := by rw [hv]; exact hC
  have hbd : But g w v5 := by rw [hv]; exact hb5.drew
  clear hv hC hb5
  have ca := hd.get (wrest_at l5 rest m (by rw [HL5.out]; exact HM.out))
  have cb := hd.get (wrest_at l5 rest i (by rw [HL5.out]; exact HI.out))
  have ht := hd.there m 1 (by have h1 := HL5.out; have h2 := HM.out; rw [List.length_append, List.length_map]; omega)
  have HT := Lib.hid ht
  clear ht
  have HE6 : Hid (l5.set m (rotL32 (l5.getD m 0 ^^^ l5.getD i 0) 8) = l5.set m (rotL32 (l5.getD m 0 ^^^ l5.getD i 0) 8)) := rfl
  generalize hl6 : l5.set m (rotL32 (l5.getD m 0 ^^^ l5.getD i 0) 8) = l6 at HE6
  clear HE6
  have HE6 := Lib.hid hl6
  clear hl6
  have HL6 : Hid (l6.length = n) := by show _ = _; rw [← HE6.out, List.length_set, HL5.out]
  have HX6 : Hid (∀ W, Cells W g (l5.map wcell ++ rest) 22 → Cells (W.setCell ⟨g, m, none⟩ (wcell (rotL32 (l5.getD m 0 ^^^ l5.getD i 0) 8))) g (l6.map wcell ++ rest) 22) := by
    intro W h
    rw [← HE6.out, ← wrest_set l5 rest m _ (by rw [HL5.out]; exact HM.out)]
    exact h.set m _
  generalize l5.getD m 0 = xa at ca HX6
  generalize l5.getD i 0 = xb at cb HX6
  simp only [List.take_succ_cons, List.take_zero, List.drop_succ_cons, List.drop_zero]
  have q := turn6_at (xa ^^^ xb) 8 v5 (by omega) (by omega)
  rw [← xor32] at q
  iterate 11 still_step
  still_call q
  still_step
  clear q
  refine wpStill_nil ?_
  clear ca cb
  go_wp2_with (first
    | (refine store_step rfl 22 _ _ rfl g m .u32 _ rfl rfl size_u32 HT.out ?_
       intro w6 hw
       have hC : Cells w6 g (l6.map wcell ++ rest) 22 := by rw [hw]; exact HX6.out _ hd
       have hb6 : But g w w6 := by rw [hw]; exact hbd.setCell _ _
       clear hw hd hbd HT HX6))
  go_wp2_with fail
  refine wp_region_tail 12 (by kernel_rfl) (by kernel_rfl) ?_
  intro v6 hv
  have hd : Cells v6 g (l6.map wcell ++ rest) 22 := by rw [hv]; exact hC
  have hbd : But g w v6 := by rw [hv]; exact hb6.drew
  clear hv hC hb6
  have ca := hd.get (wrest_at l6 rest k (by rw [HL6.out]; exact HK.out))
  have cb := hd.get (wrest_at l6 rest m (by rw [HL6.out]; exact HM.out))
  have ht := hd.there k 1 (by have h1 := HL6.out; have h2 := HK.out; rw [List.length_append, List.length_map]; omega)
  have HT := Lib.hid ht
  clear ht
  have HE7 : Hid (l6.set k (l6.getD k 0 + l6.getD m 0) = l6.set k (l6.getD k 0 + l6.getD m 0)) := rfl
  generalize hl7 : l6.set k (l6.getD k 0 + l6.getD m 0) = l7 at HE7
  clear HE7
  have HE7 := Lib.hid hl7
  clear hl7
  have HL7 : Hid (l7.length = n) := by show _ = _; rw [← HE7.out, List.length_set, HL6.out]
  have HX7 : Hid (∀ W, Cells W g (l6.map wcell ++ rest) 22 → Cells (W.setCell ⟨g, k, none⟩ (wcell (l6.getD k 0 + l6.getD m 0))) g (l7.map wcell ++ rest) 22) := by
    intro W h
    rw [← HE7.out, ← wrest_set l6 rest k _ (by rw [HL6.out]; exact HK.out)]
    exact h.set k _
  generalize l6.getD k 0 = xa at ca HX7
  generalize l6.getD m 0 = xb at cb HX7
  simp only [List.take_succ_cons, List.take_zero, List.drop_succ_cons, List.drop_zero]
  iterate 12 still_step
  refine wpStill_nil ?_
  clear ca cb
  go_wp2_with (first
    | (refine store_step rfl 22 _ _ rfl g k .u32 _ rfl rfl size_u32 HT.out ?_
       intro w7 hw
       have hC : Cells w7 g (l7.map wcell ++ rest) 22 := by rw [hw, wadd32]; exact HX7.out _ hd
       have hb7 : But g w w7 := by rw [hw]; exact hbd.setCell _ _
       clear hw hd hbd HT HX7))
  go_wp2_with fail
  refine wp_region_tail 13 (by kernel_rfl) (by kernel_rfl) ?_
  intro v7 hv
  have hd : Cells v7 g (l7.map wcell ++ rest) 22 := by rw [hv]; exact hC
  have hbd : But g w v7 := by rw [hv]; exact hb7.drew
  clear hv hC hb7
  have ca := hd.get (wrest_at l7 rest j (by rw [HL7.out]; exact HJ.out))
  have cb := hd.get (wrest_at l7 rest k (by rw [HL7.out]; exact HK.out))
  have ht := hd.there j 1 (by have h1 := HL7.out; have h2 := HJ.out; rw [List.length_append, List.length_map]; omega)
  have HT := Lib.hid ht
  clear ht
  have HE8 : Hid (l7.set j (rotL32 (l7.getD j 0 ^^^ l7.getD k 0) 7) = l7.set j (rotL32 (l7.getD j 0 ^^^ l7.getD k 0) 7)) := rfl
  generalize hl8 : l7.set j (rotL32 (l7.getD j 0 ^^^ l7.getD k 0) 7) = l8 at HE8
  clear HE8
  have HE8 := Lib.hid hl8
  clear hl8
  have HL8 : Hid (l8.length = n) := by show _ = _; rw [← HE8.out, List.length_set, HL7.out]
  have HX8 : Hid (∀ W, Cells W g (l7.map wcell ++ rest) 22 → Cells (W.setCell ⟨g, j, none⟩ (wcell (rotL32 (l7.getD j 0 ^^^ l7.getD k 0) 7))) g (l8.map wcell ++ rest) 22) := by
    intro W h
    rw [← HE8.out, ← wrest_set l7 rest j _ (by rw [HL7.out]; exact HJ.out)]
    exact h.set j _
  generalize l7.getD j 0 = xa at ca HX8
  generalize l7.getD k 0 = xb at cb HX8
  simp only [List.take_succ_cons, List.take_zero, List.drop_succ_cons, List.drop_zero]
  have q := turn6_at (xa ^^^ xb) 7 v7 (by omega) (by omega)
  rw [← xor32] at q
  iterate 11 still_step
  still_call q
  still_step
  clear q
  refine wpStill_nil ?_
  clear ca cb
  go_wp2_with (first
    | (refine store_step rfl 22 _ _ rfl g j .u32 _ rfl rfl size_u32 HT.out ?_
       intro w8 hw
       have hC : Cells w8 g (l8.map wcell ++ rest) 22 := by rw [hw]; exact HX8.out _ hd
       have hb8 : But g w w8 := by rw [hw]; exact hbd.setCell _ _
       clear hw hd hbd HT HX8))
  go_end0
  refine ⟨rfl, hb8, ?_⟩
  have e : qstep l i j k m = l8 := by
    unfold qstep
    rw [← HE8.out, ← HE7.out, ← HE6.out, ← HE5.out, ← HE4.out, ← HE3.out, ← HE2.out, ← HE1.out, HE0.out]
  rw [e]
  exact hC
theorem refQuarter_any (g n c i j k m : Nat) (l : List (BitVec 32)) (rest : List Value) (w : World) (hl : l.length = n) (hi : i < n) (hj : j < n) (hk : k < n) (hm : m < n) (h1 : i ≠ j) (h2 : i ≠ k) (h3 : i ≠ m) (h4 : j ≠ k) (h5 : j ≠ m) (h6 : k ≠ m) (hC : Cells w g (l.map wcell ++ rest) 22) :
    Calls Tryd.prog 9 #[.slice (some ⟨g, 0, none⟩) n c, .int .i64 (i : Int), .int .i64 (j : Int), .int .i64 (k : Int), .int .i64 (m : Int)] w fun e w' => e = .returned (.tuple #[]) ∧ But g w w' ∧ Cells w' g ((qset l i j k m).map wcell ++ rest) 22 := by
  have h := refQuarter_step g n c i j k m l rest w hl hi hj hk hm hC
  rw [qstep_eq l i j k m (by omega) (by omega) (by omega) (by omega) h1 h2 h3 h4 h5 h6] at h
  exact h
end Go.Proofs.YtejcbboajikdkaaDoor
namespace Go.Proofs.YtejcbboajikdkaaDoor
open Go.RowKit
theorem four_at (ms : List UInt8) (i : Nat) (h : i + 3 < ms.length) : (ms.drop i).take 4 = [ms.getD i 0, ms.getD (i + 1) 0, ms.getD (i + 2) 0, ms.getD (i + 3) 0] := by
  rw [getD_lt ms i (by omega), getD_lt ms (i + 1) (by omega), getD_lt ms (i + 2) (by omega), getD_lt ms (i + 3) h, List.drop_eq_getElem_cons (by omega), List.drop_eq_getElem_cons (by omega), List.drop_eq_getElem_cons (by omega), List.drop_eq_getElem_cons (by omega)]
  rfl
theorem zero_r32 : ∀ w, (zeroValue 24).run Tryd.prog w = .ok (.agg (List.replicate 32 (cellOf 0)).toArray) w := (zero_of_info (P := Tryd.prog) (t := 24) (v := .agg (List.replicate 32 (cellOf 0)).toArray) (n := 32) (by kernel_rfl)).1
theorem size_r32 : (Tryd.prog.info? 24).map (·.size) = some 32 := by kernel_rfl
/-- The slice v is a row of the call's own (blocks from base on) that begins with these words. -/
def OwnsW (w : World) (base : Nat) (v : Value) (l : List (BitVec 32)) : Prop := w.ownsRow base 22 1 v l.length (l.map wcell)
section
variable {w w' : World} {base : Nat} {v : Value} {l : List (BitVec 32)}
theorem OwnsW.lit (w : World) (l : List (BitVec 32)) (hb : base ≤ w.heap.size) (hc : l.length ≤ 1000000) : OwnsW (w.alloc (.cells (l.map wcell).toArray 22)) base (.slice (some ⟨w.heap.size, 0, none⟩) l.length l.length) l := by
  have h := World.ownsRow_lit (base := base) (e := 22) (size := 1) w (l.map wcell).toArray l.length hb (by simp only [maxLen]; omega) (by simp)
  simp only at h ⊢
  exact h
theorem OwnsW.keep (h : OwnsW w base v l) (hk : ∀ g, v.ownBlock = some g → w'.heap[g]? = w.heap[g]?) : OwnsW w' base v l := by
  obtain ⟨h1, h2⟩ := h
  refine ⟨h1, ?_⟩
  rcases h2 with h2 | ⟨g, cap, cur, hv, hg, hh, r⟩
  · exact .inl h2
  · refine .inr ⟨g, cap, cur, hv, hg, ?_, r⟩
    rw [hk g (by rw [hv]; rfl)]
    exact hh
theorem OwnsW.on (h : OwnsW w base v l) (hb : Below w.heap.size w w') : OwnsW w' base v l := h.keep fun g hg => hb.block g (World.ownsRow.lt h g hg).2
theorem OwnsW.far (h : OwnsW w base v l) : ∀ k, v.ownBlock = some k → base ≤ k := fun k hk => (World.ownsRow.lt h k hk).1
/-- The row's block, known whole. -/
theorem OwnsW.cells (h : OwnsW w base v l) (hp : 0 < l.length) : ∃ g c rest, v = .slice (some ⟨g, 0, none⟩) l.length c ∧ base ≤ g ∧ l.length ≤ c ∧ c ≤ maxLen ∧ Cells w g (l.map wcell ++ rest) 22 := by
  rcases h.2 with ⟨rfl, hn⟩ | ⟨g, cap, cur, rfl, hb, hg, hnc, hcm, hsz, htk⟩
  · omega
  · refine ⟨g, cap, cur.toList.drop l.length, rfl, hb, hnc, hcm, ?_⟩
    rw [Nat.mul_one] at htk
    unfold Cells
    rw [← htk, List.take_append_drop]
    exact hg
end
/-- 'append(s, us...)' of words. -/
theorem append_words {w : World} {ops : Array Oper} {rest : List Oper} {o : Oper} {a : Act} {Q : Exit → Act → World → Prop} (hgd : o.guard = none) (s x : Operand)
    (ho : o.op = .call { callee := .builtin .append, args := #[s, x], argTypes := #[30, 30] }) (base : Nat)
    (v : Value) (l us : List (BitVec 32)) (b m c : Nat) (hs : a.eval s = v) (hown : OwnsW w base v l) (hx : a.eval x = .slice (some ⟨b, 0, none⟩) m c) (hm : us.length = m) (hcl : w.rangeAt b 0 (us.map wcell))
    (hlen : l.length + us.length ≤ 1000000) (hbase : base ≤ w.heap.size)
    (h : ∀ v' w', OwnsW w' base v' (l ++ us) → Below base w w' → wpList Tryd.prog ops Q rest (a.put o.dst v') w') : wpList Tryd.prog ops Q (o :: rest) a w := by
  subst hm
  obtain ⟨i0, hi0, hz0, hz1, hz2⟩ := info_parts u32_info
  refine wpList_append_own w hgd s x 30 ho base 22 i0 _ 1 4 Tryd.underlying30 hi0 hz0 hz1 hz2 rfl (by omega) v l.length (l.map wcell) hs hown ⟨b, 0, none⟩ us.length c (us.map wcell) hx (by simp) ?_ ?_ (by simp only [maxLen]; omega) (by omega) hbase ?_
  · intro j u hu
    rw [Addr.add_mid]
    exact hcl j u hu
  · intro u hu
    obtain ⟨q, _, rfl⟩ := List.mem_map.1 hu
    rfl
  · intro v' w' h2 h3 _
    refine h v' w' ?_ ((Below.refl _ _).grown h3 hbase (fun k hk => hown.far k hk))
    unfold OwnsW
    simpa using h2
end Go.Proofs.YtejcbboajikdkaaDoor
namespace Go.Proofs.YtejcbboajikdkaaDoor
open Go.RowKit
theorem zeroCells_u8 (n : Nat) : Builtin.zeroCells (Value.int .u8 0).cells n = (List.replicate n (cellOf 0)).toArray := by
  apply Array.ext_getElem?
  intro i
  simp only [Builtin.zeroCells, Value.cells]
  by_cases h : i < n
  · simp [h, Nat.mod_one]
  · simp [h]
theorem str_size (bs : List UInt8) : (str bs).size = bs.length := by simp [str, ByteArray.size]
theorem strCells_str (bs : List UInt8) : Lib.strCells (str bs) = bs.map cellOf := by simp [Lib.strCells, str]
theorem run_append_zeros (w : World) (ty : TypeId) (A : Option Addr) (l c n : Nat) (hn : l + n ≤ 1000000) :
    (Builtin.append_ #[26, 3] ty #[.slice A l c, .int .i64 (n : Int)]).run Tryd.prog w = (Builtin.append_ #[26, 9] ty #[.slice A l c, .string (str (List.replicate n 0))]).run Tryd.prog w := by
  obtain ⟨i0, hi0, hz0, hz1, hz2⟩ := info_parts u8_info
  have hs : (str (List.replicate n 0)).size = n := by rw [str_size, List.length_replicate]
  have hf : ∀ w, (Builtin.firstCells 1 n (.string (str (List.replicate n 0)))).run Tryd.prog w = .ok (List.replicate n (cellOf 0)).toArray w := fun w => by
    have h := Lib.run_firstCells_string (P := Tryd.prog) w 1 (str (List.replicate n 0))
    rw [hs, strCells_str, List.map_replicate] at h
    exact h
  have hwr : IntKind.i64.wrap (n : Int) = (n : Int) := IntWalk.i64_in _ (by omega)
  have h1 : ¬ (n : Int) < 0 := by omega
  have h2 : ¬ (281474976710656 : Int) < (n : Int) := by omega
  have hzc := zeroCells_u8
  have ha : ∀ (n : Int) w, (asInt (.int .i64 n)).run Tryd.prog w = .ok n w := fun n w => by simp [asInt, asIntOf]
  have hw0 : IntKind.i64.wrap 0 = 0 := by decide
  by_cases h0 : n = 0
  · subst h0
    rw [List.replicate_zero] at hs hf
    have hf' : ∀ w, (Builtin.firstCells 1 0 (.string (str []))).run Tryd.prog w = .ok #[] w := hf
    by_cases hroom : l ≤ c
    · simp [Builtin.append_, run_underlying Tryd.underlying26, run_underlying Tryd.underlying3, run_underlying Tryd.underlying9, sizeOf, typeInfo, zeroValue, hi0, hz0, hz1, hz2, Builtin.lenOf, hs, hf', ha, hroom, hw0, hzc]
    · have h63 : ¬ (9223372036854775807 < (l : Int)) := by omega
      have h48 : ¬ (281474976710656 < Builtin.nextslicecap l c) := by
        have := growslice_fits (need := l) (old := c) (bytes := 1) (by omega) (by omega)
        omega
      simp [Builtin.append_, run_underlying Tryd.underlying26, run_underlying Tryd.underlying3, run_underlying Tryd.underlying9, sizeOf, typeInfo, zeroValue, hi0, hz0, hz1, hz2, Builtin.lenOf, hs, hf', ha, hroom, hw0, hzc, h63, h48]
  · by_cases hroom : l + n ≤ c
    · simp [Builtin.append_, run_underlying Tryd.underlying26, run_underlying Tryd.underlying3, run_underlying Tryd.underlying9, sizeOf, typeInfo, zeroValue, hi0, hz0, hz1, hz2, Builtin.lenOf, hs, hwr, h1, h2, hf, ha, hroom, h0, hzc]
    · have h63 : ¬ (9223372036854775807 < (l : Int) + (n : Int)) := by omega
      have h48 : ¬ (281474976710656 < Builtin.nextslicecap (l + n) c) := by
        have := growslice_fits (need := l + n) (old := c) (bytes := 1) (by omega) (by omega)
        omega
      simp [Builtin.append_, run_underlying Tryd.underlying26, run_underlying Tryd.underlying3, run_underlying Tryd.underlying9, sizeOf, typeInfo, zeroValue, hi0, hz0, hz1, hz2, Builtin.lenOf, hs, hwr, h1, h2, hf, ha, hroom, h0, hzc, h63, h48]
theorem Owns.form2 {w : World} {base : Nat} {v : Value} {bs : List UInt8} (h : Owns w base v bs) : ∃ A c, v = .slice A bs.length c ∧ bs.length ≤ c ∧ c ≤ maxLen ∧ (A = none → c = 0) ∧ Row w w.heap.size A bs := by
  obtain ⟨A, c, hv, hc, hA, hR⟩ := h.form
  refine ⟨A, c, hv, hc, ?_, hA, hR⟩
  rcases h.2 with ⟨h0, _⟩ | ⟨g, cap, cur, h0, _, _, _, hcm, _⟩
  · rw [hv] at h0; injection h0 with _ _ e; rw [e]; exact Nat.zero_le _
  · rw [hv] at h0; injection h0 with _ _ e; rw [e]; exact hcm
/-- 'append(out, make([]byte, n)...)'. -/
theorem append_zeros {w : World} {ops : Array Oper} {rest : List Oper} {o : Oper} {a : Act} {Q : Exit → Act → World → Prop} (hgd : o.guard = none) (s x : Operand)
    (ho : o.op = .call { callee := .builtin .append, args := #[s, x], argTypes := #[26, 3] }) (base n : Nat)
    (v : Value) (bs : List UInt8) (hs : a.eval s = v) (hown : Owns w base v bs) (hx : a.eval x = .int .i64 (n : Int))
    (hlen : bs.length + n ≤ 1000000) (hbase : base ≤ w.heap.size)
    (h : ∀ v' w', Owns w' base v' (bs ++ List.replicate n 0) → Below base w w' → wpList Tryd.prog ops Q rest (a.put o.dst v') w') : wpList Tryd.prog ops Q (o :: rest) a w := by
  obtain ⟨i0, hi0, hz0, hz1, hz2⟩ := info_parts u8_info
  have hsz : (str (List.replicate n 0)).size = n := by rw [str_size, List.length_replicate]
  refine wpList_plain hgd fun K hK => ?_
  obtain ⟨v', w', hr, h2, h3, _⟩ := Lib.run_append_own_string (P := Tryd.prog) w base 26 9 o.type 5 i0 Tryd.underlying26 Tryd.underlying9 hi0 hz0 hz1 hz2 v bs.length (bs.map cellOf) hown (str (List.replicate n 0)) (by rw [hsz]; simp only [maxLen]; omega) (by rw [hsz]; omega) hbase
  obtain ⟨A, c, rfl, _, _, _⟩ := hown.form
  rw [← run_append_zeros w o.type A bs.length c n hlen] at hr
  unfold Oper.wp execOp
  simp only [ho, resolve, invoke, builtin, Sem.run_bind, Sem.run_pure, Result.andThen_ok, List.map_toArray, List.map_cons, List.map_nil, hs, hx, hr]
  refine hK _ _ (h v' w' ?_ ((Below.refl _ _).grown h3 hbase (fun k hk => hown.far k hk)))
  rw [strCells_str, hsz, ← List.map_append] at h2
  unfold Owns
  rw [List.length_append, List.length_replicate]
  exact h2
end Go.Proofs.YtejcbboajikdkaaDoor
