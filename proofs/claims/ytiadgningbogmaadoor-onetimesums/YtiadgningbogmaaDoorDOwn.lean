/- More steps on rows of bytes: a row of the call's own cut short, texts as bytes, texts appended, literals of slices. -/
import Derived.Test.YtiadgningbogmaaDoorWZeros
import Derived.Laws.IdiomStrings
namespace Go.Proofs.YtiadgningbogmaaDoor
open Go.RowKit
theorem Owns.cutTo {w : World} {base n c : Nat} {A : Option Addr} {bs : List UInt8} (h : Owns w base (.slice A n c) bs) (k : Nat) (hk : k ≤ n) : Owns w base (.slice A k c) (bs.take k) := by
  obtain ⟨h1, h2⟩ := h
  rcases h2 with ⟨hv, hn⟩ | ⟨g, cap, cur, hv, hg, hh, hnc, hcm, hsz, htk⟩
  · injection hv with hA hn2 hc
    obtain rfl : k = 0 := by omega
    subst hA hc
    exact ⟨by simp, .inl ⟨rfl, by simp⟩⟩
  · injection hv with hA hn2 hc
    subst hA hc
    have hl : (bs.take k).length = k := by rw [List.length_take]; omega
    refine ⟨by simp, .inr ⟨g, c, cur, by rw [hl], hg, hh, by omega, hcm, hsz, ?_⟩⟩
    rw [hl, Nat.mul_one, List.map_take, ← htk, Nat.mul_one, List.take_take, Nat.min_eq_left (by omega)]
theorem str_of (s : ByteArray) : s = str s.data.toList := by unfold str; simp
theorem str_append (a b : List UInt8) : str a ++ str b = str (a ++ b) := by
  unfold str
  rw [ByteArray.ext_iff, ByteArray.data_append]
  simp
section
variable {w : World} {ops : Array Oper} {rest : List Oper} {o : Oper} {a : Act} {Q : Exit → Act → World → Prop}
/-- '[]byte(s)'. -/
theorem bytes_step (hgd : o.guard = none) (x : Operand) (ho : o.op = .convert 9 25 x) (n : Nat) (bs : List UInt8) (hl : bs.length = n) (hx : a.eval x = .string (str bs)) (hn : n ≤ 1000000)
    (h : ∀ w' c, Below w.heap.size w w' → Row w' w'.heap.size (some ⟨w.heap.size, 0, none⟩) bs → w'.heap.size = w.heap.size + 1 → n ≤ c → c ≤ maxLen → wpList Tryd.prog ops Q rest (a.put o.dst (.slice (some ⟨w.heap.size, 0, none⟩) n c)) w') : wpList Tryd.prog ops Q (o :: rest) a w := by
  refine wpList_plain hgd fun K hK => ?_
  have hrun := run_bytes_of_string (P := Tryd.prog) w 9 25 5 (str bs) Tryd.underlying9 Tryd.underlying25 Tryd.underlying5
  have hs : (str bs).size = n := by rw [str_size, hl]
  rw [hs] at hrun
  unfold Oper.wp
  simp only [execOp, ho, hx, hrun, Sem.run_bind, Sem.run_pure, Result.andThen_ok]
  have hb : Below w.heap.size w (w.drew.alloc (.cells (bytesRow (str bs) (grownCap w n 0 5)) 5 ((bytesRow (str bs) (grownCap w n 0 5)).size, (bytesRow (str bs) (grownCap w n 0 5)).size + 1))) :=
    (Below.refl w.heap.size w).drew.alloc (Nat.le_refl _) _
  refine hK _ _ (h _ _ hb ?_ (by simp) (grownCap_ge w n 0 _) (grownCap_le_maxLen w n 0 _ (by unfold maxLen; omega)))
  refine .inr ⟨w.heap.size, 0, rfl, by simp, fun j u hu => ?_⟩
  have hj := World.cell?_alloc_mark w.drew (bytesRow (str bs) (grownCap w n 0 5)) 5 ((bytesRow (str bs) (grownCap w n 0 5)).size, (bytesRow (str bs) (grownCap w n 0 5)).size + 1) j
  rw [Nat.zero_add]
  refine (show _ = _ from hj).trans ?_
  have hjl : j < bs.length := by
    rcases Nat.lt_or_ge j bs.length with h | h
    · exact h
    · rw [List.getElem?_eq_none h] at hu; cases hu
  rw [List.getElem?_eq_getElem hjl] at hu
  cases hu
  simp [bytesRow, str, Array.getElem?_append, hjl]
/-- 'append(out, s...)', s a text. -/
theorem append_text (hgd : o.guard = none) (s x : Operand) (ho : o.op = .call { callee := .builtin .append, args := #[s, x], argTypes := #[25, 9] }) (base n : Nat)
    (v : Value) (bs us : List UInt8) (hs : a.eval s = v) (hown : Owns w base v bs) (hx : a.eval x = .string (str us)) (hl : us.length = n) (hlen : bs.length + n ≤ 1000000) (hbase : base ≤ w.heap.size)
    (h : ∀ v' w', Owns w' base v' (bs ++ us) → Below base w w' → wpList Tryd.prog ops Q rest (a.put o.dst v') w') : wpList Tryd.prog ops Q (o :: rest) a w := by
  obtain ⟨i0, hi0, hz0, hz1, hz2⟩ := info_parts u8_info
  have hsz : (str us).size = n := by rw [str_size, hl]
  refine Lib.wpList_append_own_string (P := Tryd.prog) w hgd s x 25 9 ho base 5 i0 Tryd.underlying25 Tryd.underlying9 hi0 hz0 hz1 hz2 v bs.length (bs.map cellOf) hs hown (str us) hx (by rw [hsz]; simp only [maxLen]; omega) (by rw [hsz]; omega) hbase ?_
  intro v' w' h2 h3 _
  refine h v' w' ?_ ((Below.refl _ _).grown h3 hbase (fun k hk => hown.far k hk))
  rw [strCells_str, hsz, ← List.map_append, ← hl] at h2
  unfold Owns
  rw [List.length_append]
  exact h2
end
/-- 'b[:i]'. -/
theorem cut_to {w : World} {ops : Array Oper} {rest : List Oper} {o : Oper} {a : Act} {Q : Exit → Act → World → Prop} (hgd : o.guard = none) (x y : Operand) (ho : o.op = .slice 25 x none (some y) none)
    (A : Option Addr) (len cap i : Nat) (z : Int) (hx : a.eval x = .slice A len cap) (hy : a.eval y = .int .i64 z) (hz : z = (i : Int)) (hi : i ≤ cap)
    (h : wpList Tryd.prog ops Q rest (a.put o.dst (.slice (cutA A 0 cap) i cap)) w) : wpList Tryd.prog ops Q (o :: rest) a w := by
  subst hz
  refine wpList_plain hgd fun K hK => ?_
  obtain ⟨i0, hi0, hs0⟩ := Option.map_eq_some_iff.1 size_u8
  have hrun : (Instr.sliceAt 25 (.slice A len cap) none (some (.int .i64 (i : Int))) none).run Tryd.prog w = .ok (.slice (cutA A 0 cap) i cap) w := by
    have hu : Tryd.prog.underlying 25 = some (.slice 5) := Tryd.underlying25
    have h1 : (Instr.sliceAt 25 (.slice A len cap) none (some (.int .i64 (i : Int))) none).run Tryd.prog w = (Instr.slice 25 (.slice A len cap) none (some (.int .i64 (i : Int))) none).run Tryd.prog w := by
      simp [Instr.sliceAt, run_underlying hu]
    rw [h1]
    have h4 : (i : Int) ≤ (cap : Int) := by omega
    simp [Instr.slice, run_underlying hu, Instr.sliceBounds, run_sliceBound, sizeOf, typeInfo, hi0, cutA, h4]
  unfold Oper.wp
  simp only [execOp, ho, hx, hy, Option.map_some, Option.map_none, hrun, Sem.run_bind, Sem.run_pure, Result.andThen_ok]
  exact hK _ _ h
/-- 'min(p, q)' of integers. -/
theorem min_step {w : World} {ops : Array Oper} {rest : List Oper} {o : Oper} {a : Act} {Q : Exit → Act → World → Prop} (hgd : o.guard = none) (p q : Operand) (ho : o.op = .call { callee := .builtin .min, args := #[p, q], argTypes := #[3, 3] })
    (x y : Int) (m : Nat) (hp : a.eval p = .int .i64 x) (hq : a.eval q = .int .i64 y) (hm : min x y = (m : Int)) (h : wpList Tryd.prog ops Q rest (a.put o.dst (.int .i64 (m : Int))) w) : wpList Tryd.prog ops Q (o :: rest) a w := by
  refine wpList_plain hgd fun K hK => ?_
  have e : (if y < x then y else x) = (m : Int) := by rw [← hm]; split <;> omega
  unfold Oper.wp execOp
  simp only [ho, resolve, invoke, builtin, Sem.run_bind, Sem.run_pure, Result.andThen_ok, List.map_toArray, List.map_cons, List.map_nil, hp, hq, run_min_int2, e]
  exact hK _ _ h
theorem Row.cutTo {w : World} {B : Nat} {A : Option Addr} {us : List UInt8} (h : Row w B A us) (i cap : Nat) (hl : us.length ≤ cap) : Row w B (cutA A 0 cap) (us.take i) := by
  have h := (h.cut 0 cap hl).take i
  rwa [List.drop_zero] at h
theorem cutA_zero (g o cap : Nat) : cutA (some ⟨g, o, none⟩) 0 cap = some ⟨g, o, none⟩ := by
  unfold cutA
  split <;> simp [Addr.add_mid]
/-- A slice of these bytes, as a part. -/
theorem Part.mk {w : World} {B : Nat} {A : Option Addr} {n c : Nat} {us : List UInt8} (hl : us.length = n) (hr : Row w B A us) (hA : A = none → c = 0) (hc : n ≤ c) (hc2 : c ≤ maxLen) : Part w B (.slice A n c) us := ⟨A, c, by rw [hl], hr, by omega, hc2, hA⟩
theorem Part.on {w w' : World} {v : Value} {us : List UInt8} (h : Part w w.heap.size v us) (hb : Below w.heap.size w w') : Part w' w'.heap.size v us := (h.below hb).more hb.size
theorem parts_three (w : World) (a b c : Value) (x y z : List UInt8) (ha : Part w w.heap.size a x) (hb : Part w w.heap.size b y) (hc : Part w w.heap.size c z) :
    Parts (w.alloc (.cells #[a, b, c] 25)) (w.alloc (.cells #[a, b, c] 25)).heap.size (some ⟨w.heap.size, 0, none⟩) [x, y, z] := parts_lit w #[a, b, c] [x, y, z] (fun j us hu => by
  match j, hu with
  | 0, hu => cases hu; exact ⟨a, rfl, ha⟩
  | 1, hu => cases hu; exact ⟨b, rfl, hb⟩
  | 2, hu => cases hu; exact ⟨c, rfl, hc⟩
  | j + 3, hu => simp at hu)
theorem parts_four (w : World) (a b c d : Value) (x y z u : List UInt8) (ha : Part w w.heap.size a x) (hb : Part w w.heap.size b y) (hc : Part w w.heap.size c z) (hd : Part w w.heap.size d u) :
    Parts (w.alloc (.cells #[a, b, c, d] 25)) (w.alloc (.cells #[a, b, c, d] 25)).heap.size (some ⟨w.heap.size, 0, none⟩) [x, y, z, u] := parts_lit w #[a, b, c, d] [x, y, z, u] (fun j us hu => by
  match j, hu with
  | 0, hu => cases hu; exact ⟨a, rfl, ha⟩
  | 1, hu => cases hu; exact ⟨b, rfl, hb⟩
  | 2, hu => cases hu; exact ⟨c, rfl, hc⟩
  | 3, hu => cases hu; exact ⟨d, rfl, hd⟩
  | j + 4, hu => simp at hu)
theorem parts_five (w : World) (a b c d e : Value) (x y z u v : List UInt8) (ha : Part w w.heap.size a x) (hb : Part w w.heap.size b y) (hc : Part w w.heap.size c z) (hd : Part w w.heap.size d u) (he : Part w w.heap.size e v) :
    Parts (w.alloc (.cells #[a, b, c, d, e] 25)) (w.alloc (.cells #[a, b, c, d, e] 25)).heap.size (some ⟨w.heap.size, 0, none⟩) [x, y, z, u, v] := parts_lit w #[a, b, c, d, e] [x, y, z, u, v] (fun j us hu => by
  match j, hu with
  | 0, hu => cases hu; exact ⟨a, rfl, ha⟩
  | 1, hu => cases hu; exact ⟨b, rfl, hb⟩
  | 2, hu => cases hu; exact ⟨c, rfl, hc⟩
  | 3, hu => cases hu; exact ⟨d, rfl, hd⟩
  | 4, hu => cases hu; exact ⟨e, rfl, he⟩
  | j + 5, hu => simp at hu)
theorem Cells.rangeAll {w : World} {g : Nat} {vs : List Value} {t : TypeId} (h : Cells w g vs t) : w.rangeAt g 0 vs := fun j v hj => by
  rw [Nat.zero_add]
  exact h.get hj
theorem Row.rangeAll {w : World} {B b off : Nat} {ds : List UInt8} (h : Row w B (some ⟨b, off, none⟩) ds) : w.rangeAt b off (ds.map cellOf) := fun j v hj => by
  rw [List.getElem?_map] at hj
  cases hd : ds[j]? with
  | none => rw [hd] at hj; cases hj
  | some u =>
    rw [hd] at hj
    cases hj
    rcases h with rfl | ⟨b', off', hA, _, hc⟩
    · simp at hd
    · cases hA
      exact hc j u hd
/-- A row of bytes loaded as an array's value. -/
theorem load_row_step {w : World} {ops : Array Oper} {rest : List Oper} {o : Oper} {a : Act} {Q : Exit → Act → World → Prop} (hgd : o.guard = none) (t : TypeId) (x : Operand) (ho : o.op = .load t x) (B b off n : Nat) (ds : List UInt8) (e : TypeId) (hx : a.eval x = .pointer (some ⟨b, off, none⟩)) (hR : Row w B (some ⟨b, off, none⟩) ds) (hu : Tryd.prog.underlying t = some (.array n e))
    (hs : (Tryd.prog.info? t).map (·.size) = some n) (hl : ds.length = n) (h : wpList Tryd.prog ops Q rest (a.put o.dst (hashVal ds)) w) : wpList Tryd.prog ops Q (o :: rest) a w :=
  wpList_load_mid hgd t x ho b off hx (ds.map cellOf) _ hR.rangeAll hu rfl (by rw [List.length_map, hl]; exact hs) h
theorem Row.some {w : World} {B : Nat} {A : Option Addr} {ds : List UInt8} (h : Row w B A ds) (hp : 0 < ds.length) : ∃ b off, A = some ⟨b, off, none⟩ := by
  rcases h with rfl | ⟨b, off, rfl, _, _⟩
  · simp at hp
  · exact ⟨b, off, rfl⟩
/-- What a call answers that makes a row of these bytes. -/
def Gives (w : World) (bs : List UInt8) (n : Nat) (e : Ending) (w' : World) : Prop :=
  ∃ A c, e = .returned (.slice A n c) ∧ (A = none → c = 0) ∧ n ≤ c ∧ c ≤ maxLen ∧ Row w' w'.heap.size A bs ∧ Below w.heap.size w w'
/-- What a call answers that makes a row of these bytes, and no error. -/
def GivesOk (w : World) (bs : List UInt8) (n : Nat) (e : Ending) (w' : World) : Prop :=
  ∃ A c, e = .returned (.tuple #[.slice A n c, .nilIface]) ∧ (A = none → c = 0) ∧ n ≤ c ∧ c ≤ maxLen ∧ Row w' w'.heap.size A bs ∧ Below w.heap.size w w'
end Go.Proofs.YtiadgningbogmaaDoor
