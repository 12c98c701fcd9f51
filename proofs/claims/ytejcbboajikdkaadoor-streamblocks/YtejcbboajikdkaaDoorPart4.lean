/- Part 4 of what the laws of this seat share: DOwn, WAppAt, CRefB, WOrders. -/
import Derived.Laws.IdiomStrings
import Derived.Deep.RegionHeld
import Derived.RegionTactic
import Derived.StillTail
import Derived.Test.YtejcbboajikdkaaDoorPart3
namespace Go.Proofs.YtejcbboajikdkaaDoor
open Go.RowKit
theorem Owns.cutTo {w : World} {base n c : Nat} {A : Option Addr} {bs : List UInt8} (h : Owns w base (.slice A n c) bs) (k : Nat) (hk : k ≤ n) : Owns w base (.slice A k c) (bs.take k) := by
  obtain ⟨h1, h2⟩ := h
  rcases h2 with ⟨hv, hn⟩ | ⟨g, cap, cur, hv, hg, hh, hnc, hcm, hsz, htk⟩
  · injection hv with hA hn2 hc
    obtain rfl : k = 0 := by omega
    subst hA hc
    exact ⟨by simp, .inl ⟨rfl, by simp⟩⟩
  · injection hv with hA hn2 hc
    subst hA hc
    have hl : (bs.take k).length = k := by rw [List.length_take]; omega
    refine ⟨by simp, .inr ⟨g, c, cur, by rw [hl], hg, hh, by omega, hcm, hsz, ?_⟩⟩
    rw [hl, Nat.mul_one, List.map_take, ← htk, Nat.mul_one, List.take_take, Nat.min_eq_left (by omega)]
theorem str_of (s : ByteArray) : s = str s.data.toList := by unfold str; simp
theorem str_append (a b : List UInt8) : str a ++ str b = str (a ++ b) := by
  unfold str
  rw [ByteArray.ext_iff, ByteArray.data_append]
  simp
section
variable {w : World} {ops : Array Oper} {rest : List Oper} {o : Oper} {a : Act} {Q : Exit → Act → World → Prop}
/-- '[]byte(s)'. -/
theorem bytes_step (hgd : o.guard = none) (x : Operand) (ho : o.op = .convert 9 26 x) (n : Nat) (bs : List UInt8) (hl : bs.length = n) (hx : a.eval x = .string (str bs)) (hn : n ≤ 1000000)
    (h : ∀ w' c, Below w.heap.size w w' → Row w' w'.heap.size (some ⟨w.heap.size, 0, none⟩) bs → w'.heap.size = w.heap.size + 1 → n ≤ c → c ≤ maxLen → wpList Tryd.prog ops Q rest (a.put o.dst (.slice (some ⟨w.heap.size, 0, none⟩) n c)) w') : wpList Tryd.prog ops Q (o :: rest) a w := by
  refine wpList_plain hgd fun K hK => ?_
  have hrun := run_bytes_of_string (P := Tryd.prog) w 9 26 5 (str bs) Tryd.underlying9 Tryd.underlying26 Tryd.underlying5
  have hs : (str bs).size = n := by rw [str_size, hl]
  rw [hs] at hrun
  unfold Oper.wp
  simp only [execOp, ho, hx, hrun, Sem.run_bind, Sem.run_pure, Result.andThen_ok]
  have hb : Below w.heap.size w (w.drew.alloc (.cells (bytesRow (str bs) (grownCap w n 0 5)) 5 ((bytesRow (str bs) (grownCap w n 0 5)).size, (bytesRow (str bs) (grownCap w n 0 5)).size + 1))) :=
    (Below.refl w.heap.size w).drew.alloc (Nat.le_refl _) _
  refine hK _ _ (h _ _ hb ?_ (by simp) (grownCap_ge w n 0 _) (grownCap_le_maxLen w n 0 _ (by unfold maxLen; omega)))
  refine .inr ⟨w.heap.size, 0, rfl, by simp, fun j u hu => ?_⟩
  have hj := World.cell?_alloc_mark w.drew (bytesRow (str bs) (grownCap w n 0 5)) 5 ((bytesRow (str bs) (grownCap w n 0 5)).size, (bytesRow (str bs) (grownCap w n 0 5)).size + 1) j
  rw [Nat.zero_add]
  refine (show _ = _ from hj).trans ?_
  have hjl : j < bs.length := by
    rcases Nat.lt_or_ge j bs.length with h | h
    · exact h
    · rw [List.getElem?_eq_none h] at hu; cases hu
  rw [List.getElem?_eq_getElem hjl] at hu
  cases hu
  simp [bytesRow, str, Array.getElem?_append, hjl]
/-- 'append(out, s...)', s a text. -/
theorem append_text (hgd : o.guard = none) (s x : Operand) (ho : o.op = .call { callee := .builtin .append, args := #[s, x], argTypes := #[26, 9] }) (base n : Nat)
    (v : Value) (bs us : List UInt8) (hs : a.eval s = v) (hown : Owns w base v bs) (hx : a.eval x = .string (str us)) (hl : us.length = n) (hlen : bs.length + n ≤ 1000000) (hbase : base ≤ w.heap.size)
    (h : ∀ v' w', Owns w' base v' (bs ++ us) → Below base w w' → wpList Tryd.prog ops Q rest (a.put o.dst v') w') : wpList Tryd.prog ops Q (o :: rest) a w := by
  obtain ⟨i0, hi0, hz0, hz1, hz2⟩ := info_parts u8_info
  have hsz : (str us).size = n := by rw [str_size, hl]
  refine Lib.wpList_append_own_string (P := Tryd.prog) w hgd s x 26 9 ho base 5 i0 Tryd.underlying26 Tryd.underlying9 hi0 hz0 hz1 hz2 v bs.length (bs.map cellOf) hs hown (str us) hx (by rw [hsz]; simp only [maxLen]; omega) (by rw [hsz]; omega) hbase ?_
  intro v' w' h2 h3 _
  refine h v' w' ?_ ((Below.refl _ _).grown h3 hbase (fun k hk => hown.far k hk))
  rw [strCells_str, hsz, ← List.map_append, ← hl] at h2
  unfold Owns
  rw [List.length_append]
  exact h2
end
/-- 'b[:i]'. -/
theorem cut_to {w : World} {ops : Array Oper} {rest : List Oper} {o : Oper} {a : Act} {Q : Exit → Act → World → Prop} (hgd : o.guard = none) (x y : Operand) (ho : o.op = .slice 26 x none (some y) none)
    (A : Option Addr) (len cap i : Nat) (z : Int) (hx : a.eval x = .slice A len cap) (hy : a.eval y = .int .i64 z) (hz : z = (i : Int)) (hi : i ≤ cap)
    (h : wpList Tryd.prog ops Q rest (a.put o.dst (.slice (cutA A 0 cap) i cap)) w) : wpList Tryd.prog ops Q (o :: rest) a w := by
  subst hz
  refine wpList_plain hgd fun K hK => ?_
  obtain ⟨i0, hi0, hs0⟩ := Option.map_eq_some_iff.1 size_u8
  have hrun : (Instr.sliceAt 26 (.slice A len cap) none (some (.int .i64 (i : Int))) none).run Tryd.prog w = .ok (.slice (cutA A 0 cap) i cap) w := by
    have hu : Tryd.prog.underlying 26 = some (.slice 5) := Tryd.underlying26
    have h1 : (Instr.sliceAt 26 (.slice A len cap) none (some (.int .i64 (i : Int))) none).run Tryd.prog w = (Instr.slice 26 (.slice A len cap) none (some (.int .i64 (i : Int))) none).run Tryd.prog w := by
      simp [Instr.sliceAt, run_underlying hu]
    rw [h1]
    have h4 : (i : Int) ≤ (cap : Int) := by omega
    simp [Instr.slice, run_underlying hu, Instr.sliceBounds, run_sliceBound, sizeOf, typeInfo, hi0, cutA, h4]
  unfold Oper.wp
  simp only [execOp, ho, hx, hy, Option.map_some, Option.map_none, hrun, Sem.run_bind, Sem.run_pure, Result.andThen_ok]
  exact hK _ _ h
/-- 'min(p, q)' of integers. -/
theorem min_step {w : World} {ops : Array Oper} {rest : List Oper} {o : Oper} {a : Act} {Q : Exit → Act → World → Prop} (hgd : o.guard = none) (p q : Operand) (ho : o.op = .call { callee := .builtin .min, args := #[p, q], argTypes := #[3, 3] })
    (x y : Int) (m : Nat) (hp : a.eval p = .int .i64 x) (hq : a.eval q = .int .i64 y) (hm : min x y = (m : Int)) (h : wpList Tryd.prog ops Q rest (a.put o.dst (.int .i64 (m : Int))) w) : wpList Tryd.prog ops Q (o :: rest) a w := by
  refine wpList_plain hgd fun K hK => ?_
  have e : (if y < x then y else x) = (m : Int) := by rw [← hm]; split <;> omega
  unfold Oper.wp execOp
  simp only [ho, resolve, invoke, builtin, Sem.run_bind, Sem.run_pure, Result.andThen_ok, List.map_toArray, List.map_cons, List.map_nil, hp, hq, run_min_int2, e]
  exact hK _ _ h
theorem Row.cutTo {w : World} {B : Nat} {A : Option Addr} {us : List UInt8} (h : Row w B A us) (i cap : Nat) (hl : us.length ≤ cap) : Row w B (cutA A 0 cap) (us.take i) := by
  have h := (h.cut 0 cap hl).take i
  rwa [List.drop_zero] at h
theorem cutA_zero (g o cap : Nat) : cutA (some ⟨g, o, none⟩) 0 cap = some ⟨g, o, none⟩ := by
  unfold cutA
  split <;> simp [Addr.add_mid]
/-- A slice of these bytes, as a part. -/
theorem Part.mk {w : World} {B : Nat} {A : Option Addr} {n c : Nat} {us : List UInt8} (hl : us.length = n) (hr : Row w B A us) (hA : A = none → c = 0) (hc : n ≤ c) (hc2 : c ≤ maxLen) : Part w B (.slice A n c) us := ⟨A, c, by rw [hl], hr, by omega, hc2, hA⟩
theorem Part.on {w w' : World} {v : Value} {us : List UInt8} (h : Part w w.heap.size v us) (hb : Below w.heap.size w w') : Part w' w'.heap.size v us := (h.below hb).more hb.size
theorem parts_three (w : World) (a b c : Value) (x y z : List UInt8) (ha : Part w w.heap.size a x) (hb : Part w w.heap.size b y) (hc : Part w w.heap.size c z) :
    Parts (w.alloc (.cells #[a, b, c] 26)) (w.alloc (.cells #[a, b, c] 26)).heap.size (some ⟨w.heap.size, 0, none⟩) [x, y, z] := parts_lit w #[a, b, c] [x, y, z] (fun j us hu => by
  match j, hu with
  | 0, hu => cases hu; exact ⟨a, rfl, ha⟩
  | 1, hu => cases hu; exact ⟨b, rfl, hb⟩
  | 2, hu => cases hu; exact ⟨c, rfl, hc⟩
  | j + 3, hu => simp at hu)
theorem parts_four (w : World) (a b c d : Value) (x y z u : List UInt8) (ha : Part w w.heap.size a x) (hb : Part w w.heap.size b y) (hc : Part w w.heap.size c z) (hd : Part w w.heap.size d u) :
    Parts (w.alloc (.cells #[a, b, c, d] 26)) (w.alloc (.cells #[a, b, c, d] 26)).heap.size (some ⟨w.heap.size, 0, none⟩) [x, y, z, u] := parts_lit w #[a, b, c, d] [x, y, z, u] (fun j us hu => by
  match j, hu with
  | 0, hu => cases hu; exact ⟨a, rfl, ha⟩
  | 1, hu => cases hu; exact ⟨b, rfl, hb⟩
  | 2, hu => cases hu; exact ⟨c, rfl, hc⟩
  | 3, hu => cases hu; exact ⟨d, rfl, hd⟩
  | j + 4, hu => simp at hu)
theorem parts_five (w : World) (a b c d e : Value) (x y z u v : List UInt8) (ha : Part w w.heap.size a x) (hb : Part w w.heap.size b y) (hc : Part w w.heap.size c z) (hd : Part w w.heap.size d u) (he : Part w w.heap.size e v) :
    Parts (w.alloc (.cells #[a, b, c, d, e] 26)) (w.alloc (.cells #[a, b, c, d, e] 26)).heap.size (some ⟨w.heap.size, 0, none⟩) [x, y, z, u, v] := parts_lit w #[a, b, c, d, e] [x, y, z, u, v] (fun j us hu => by
  match j, hu with
  | 0, hu => cases hu; exact ⟨a, rfl, ha⟩
  | 1, hu => cases hu; exact ⟨b, rfl, hb⟩
  | 2, hu => cases hu; exact ⟨c, rfl, hc⟩
  | 3, hu => cases hu; exact ⟨d, rfl, hd⟩
  | 4, hu => cases hu; exact ⟨e, rfl, he⟩
  | j + 5, hu => simp at hu)
theorem Cells.rangeAll {w : World} {g : Nat} {vs : List Value} {t : TypeId} (h : Cells w g vs t) : w.rangeAt g 0 vs := fun j v hj => by
  rw [Nat.zero_add]
  exact h.get hj
theorem Row.rangeAll {w : World} {B b off : Nat} {ds : List UInt8} (h : Row w B (some ⟨b, off, none⟩) ds) : w.rangeAt b off (ds.map cellOf) := fun j v hj => by
  rw [List.getElem?_map] at hj
  cases hd : ds[j]? with
  | none => rw [hd] at hj; cases hj
  | some u =>
    rw [hd] at hj
    cases hj
    rcases h with rfl | ⟨b', off', hA, _, hc⟩
    · simp at hd
    · cases hA
      exact hc j u hd
/-- A row of bytes loaded as an array's value. -/
theorem load_row_step {w : World} {ops : Array Oper} {rest : List Oper} {o : Oper} {a : Act} {Q : Exit → Act → World → Prop} (hgd : o.guard = none) (t : TypeId) (x : Operand) (ho : o.op = .load t x) (B b off n : Nat) (ds : List UInt8) (e : TypeId) (hx : a.eval x = .pointer (some ⟨b, off, none⟩)) (hR : Row w B (some ⟨b, off, none⟩) ds) (hu : Tryd.prog.underlying t = some (.array n e))
    (hs : (Tryd.prog.info? t).map (·.size) = some n) (hl : ds.length = n) (h : wpList Tryd.prog ops Q rest (a.put o.dst (hashVal ds)) w) : wpList Tryd.prog ops Q (o :: rest) a w :=
  wpList_load_mid hgd t x ho b off hx (ds.map cellOf) _ hR.rangeAll hu rfl (by rw [List.length_map, hl]; exact hs) h
theorem Row.some {w : World} {B : Nat} {A : Option Addr} {ds : List UInt8} (h : Row w B A ds) (hp : 0 < ds.length) : ∃ b off, A = some ⟨b, off, none⟩ := by
  rcases h with rfl | ⟨b, off, rfl, _, _⟩
  · simp at hp
  · exact ⟨b, off, rfl⟩
/-- What a call answers that makes a row of these bytes. -/
def Gives (w : World) (bs : List UInt8) (n : Nat) (e : Ending) (w' : World) : Prop :=
  ∃ A c, e = .returned (.slice A n c) ∧ (A = none → c = 0) ∧ n ≤ c ∧ c ≤ maxLen ∧ Row w' w'.heap.size A bs ∧ Below w.heap.size w w'
/-- What a call answers that makes a row of these bytes, and no error. -/
def GivesOk (w : World) (bs : List UInt8) (n : Nat) (e : Ending) (w' : World) : Prop :=
  ∃ A c, e = .returned (.tuple #[.slice A n c, .nilIface]) ∧ (A = none → c = 0) ∧ n ≤ c ∧ c ≤ maxLen ∧ Row w' w'.heap.size A bs ∧ Below w.heap.size w w'
end Go.Proofs.YtejcbboajikdkaaDoor
namespace Go.Proofs.YtejcbboajikdkaaDoor
open Go.RowKit
/-- 'append(out, b...)': of the old blocks only out's may have turned, and the new row lies there, or in a new block. -/
theorem append_at {w : World} {ops : Array Oper} {rest : List Oper} {o : Oper} {a : Act} {Q : Exit → Act → World → Prop} (hgd : o.guard = none) (s x : Operand)
    (ho : o.op = .call { callee := .builtin .append, args := #[s, x], argTypes := #[26, 26] }) (base g l c0 B b off m c : Nat)
    (bs us : List UInt8) (hs : a.eval s = .slice (some ⟨g, 0, none⟩) l c0) (hown : Owns w base (.slice (some ⟨g, 0, none⟩) l c0) bs) (hl : bs.length = l) (hx : a.eval x = .slice (some ⟨b, off, none⟩) m c) (hm : us.length = m) (hpos : 0 < m) (hr : Row w B (some ⟨b, off, none⟩) us)
    (hlen : l + m ≤ 1000000) (hbase : base ≤ w.heap.size)
    (h : ∀ g' c' w', Owns w' base (.slice (some ⟨g', 0, none⟩) (l + m) c') (bs ++ us) → But g w w' → (g' = g ∨ g' = w.heap.size) → wpList Tryd.prog ops Q rest (a.put o.dst (.slice (some ⟨g', 0, none⟩) (l + m) c')) w') : wpList Tryd.prog ops Q (o :: rest) a w := by
  subst hl hm
  obtain ⟨i0, hi0, hz0, hz1, hz2⟩ := info_parts u8_info
  refine wpList_append_own_at w hgd s x 26 ho base 5 i0 _ 1 1 Tryd.underlying26 hi0 hz0 hz1 hz2 rfl (by omega) _ bs.length (bs.map cellOf) hs hown ⟨b, off, none⟩ us.length c (us.map cellOf) hx (by simp) ?_ ?_ (by simp only [maxLen]; omega) (by omega) hbase ?_
  · intro j u hu
    rw [List.getElem?_map] at hu
    cases hj : us[j]? with
    | none => rw [hj] at hu; cases hu
    | some q =>
      rw [hj] at hu
      rcases hr with rfl | ⟨b', off', hb1, _, hc⟩
      · simp at hj
      · cases hb1
        rw [Addr.add_mid, hc j q hj]
        exact hu
  · intro u hu
    obtain ⟨q, _, rfl⟩ := List.mem_map.1 hu
    rfl
  · intro v' w' h2 h3 _ h5
    have hO : Owns w' base v' (bs ++ us) := by
      unfold Owns
      simpa using h2
    obtain ⟨g', c', hv, _, _, _, _⟩ := hO.form_pos (by rw [List.length_append]; omega)
    rw [List.length_append] at hv
    subst hv
    refine h g' c' w' hO ⟨h3.os, h3.tape, h3.output, h3.size, fun k hk hne => h3.block k hk (fun e => hne (by simpa [Value.ownBlock] using e))⟩ ?_
    simpa [Value.ownBlock] using h5
/-- What a call answers that makes a row of these bytes in a block of its own. -/
def GivesAt (w : World) (bs : List UInt8) (n : Nat) (e : Ending) (w' : World) : Prop :=
  ∃ g c, e = .returned (.slice (some ⟨g, 0, none⟩) n c) ∧ w.heap.size ≤ g ∧ n ≤ c ∧ c ≤ maxLen ∧ Row w' w'.heap.size (some ⟨g, 0, none⟩) bs ∧ Below w.heap.size w w'
end Go.Proofs.YtejcbboajikdkaaDoor
namespace Go.Proofs.YtejcbboajikdkaaDoor
open Go.RowKit
theorem word_le4 (a b c d : UInt8) : (((a.toNat : Int) + 256 * ((b.toNat : Int) % 4294967296) + 65536 * ((c.toNat : Int) % 4294967296)) % 4294967296 + 16777216 * ((d.toNat : Int) % 4294967296) % 4294967296) % 4294967296 = ((word4L [a, b, c, d]).toNat : Int) := by
  rw [word4L, BitVec.toNat_ofNat]
  simp [bigN]
  have h1 := a.toNat_lt
  have h2 := b.toNat_lt
  have h3 := c.toNat_lt
  have h4 := d.toNat_lt
  omega
set_option maxRecDepth 100000 in
theorem refWord_any (A : Option Addr) (c n i : Nat) (bs : List UInt8) (w : World) (hl : bs.length = n) (hr : Row w w.heap.size A bs) (hi : 4 * i + 4 ≤ n) (hn : n ≤ 100000) :
    Calls Tryd.prog 22 #[.slice A n c, .int .i64 (i : Int)] w fun e w' => e = .returned (wcell (word4L ((bs.drop (4 * i)).take 4))) ∧ ∃ k, w' = w.drewN k := by
  have HL := Lib.hid hl
  obtain ⟨b, off, rfl, hb0, c0⟩ := hr.atD (4 * i) (by omega)
  obtain ⟨_, _, hA, _, c1⟩ := hr.atD (4 * i + 1) (by omega)
  cases hA
  obtain ⟨_, _, hA, _, c2⟩ := hr.atD (4 * i + 2) (by omega)
  cases hA
  obtain ⟨_, _, hA, _, c3⟩ := hr.atD (4 * i + 3) (by omega)
  cases hA
  have HF := Lib.hid (four_at bs (4 * i) (by omega))
  clear hl
  generalize bs.getD (4 * i) 0 = x0 at *
  generalize bs.getD (4 * i + 1) 0 = x1 at *
  generalize bs.getD (4 * i + 2) 0 = x2 at *
  generalize bs.getD (4 * i + 3) 0 = x3 at *
  rw [HF.out]
  clear HF HL hr
  have i0 : (0 : Int) ≤ 4 * (i : Int) := by omega
  have i1 : (0 : Int) ≤ 4 * (i : Int) + 1 := by omega
  have i2 : (0 : Int) ≤ 4 * (i : Int) + 2 := by omega
  have i3 : (0 : Int) ≤ 4 * (i : Int) + 3 := by omega
  have j0 : 4 * (i : Int) < (n : Int) := by omega
  have j1 : 4 * (i : Int) + 1 < (n : Int) := by omega
  have j2 : 4 * (i : Int) + 2 < (n : Int) := by omega
  have j3 : 4 * (i : Int) + 3 < (n : Int) := by omega
  have t0 : (4 * (i : Int)).toNat = 4 * i := by omega
  have t1 : (4 * (i : Int) + 1).toNat = 4 * i + 1 := by omega
  have t2 : (4 * (i : Int) + 2).toNat = 4 * i + 2 := by omega
  have t3 : (4 * (i : Int) + 3).toNat = 4 * i + 3 := by omega
  go_enter Tryd.func22, Tryd.ntmps22
  go_wp2
  go_quiet (fail)
  go_wp2
  go_ret
  exact ⟨ret_int (word_le4 x0 x1 x2 x3), _, rfl⟩
theorem refWord_at (A : Option Addr) (c n i : Nat) (z : Int) (xw : BitVec 32) (bs : List UInt8) (w : World) (hz : z = (i : Int)) (hx : word4L ((bs.drop (4 * i)).take 4) = xw) (hl : bs.length = n) (hr : Row w w.heap.size A bs) (hi : 4 * i + 4 ≤ n) (hn : n ≤ 100000) :
    Calls Tryd.prog 22 #[.slice A n c, .int .i64 z] w fun e w' => e = .returned (wcell xw) ∧ Below w.heap.size w w' := by
  subst hz hx
  refine (refWord_any A c n i bs w hl hr hi hn).mono ?_
  rintro e w' ⟨rfl, k, rfl⟩
  exact ⟨rfl, below_drewN (Below.refl _ _) k⟩
theorem refQuarter_at (g n c i j k m : Nat) (zi zj zk zm : Int) (l l' : List (BitVec 32)) (rest : List Value) (w : World) (ei : zi = (i : Int)) (ej : zj = (j : Int)) (ek : zk = (k : Int)) (em : zm = (m : Int)) (hq : qset l i j k m = l') (hl : l.length = n) (hi : i < n) (hj : j < n) (hk : k < n) (hm : m < n) (h1 : i ≠ j) (h2 : i ≠ k) (h3 : i ≠ m) (h4 : j ≠ k) (h5 : j ≠ m) (h6 : k ≠ m) (hC : Cells w g (l.map wcell ++ rest) 22) :
    Calls Tryd.prog 9 #[.slice (some ⟨g, 0, none⟩) n c, .int .i64 zi, .int .i64 zj, .int .i64 zk, .int .i64 zm] w fun e w' => e = .returned (.tuple #[]) ∧ But g w w' ∧ Cells w' g (l'.map wcell ++ rest) 22 := by
  subst ei ej ek em hq
  exact refQuarter_any g n c i j k m l rest w hl hi hj hk hm h1 h2 h3 h4 h5 h6 hC
theorem le_cells (y : BitVec 32) : (#[.int .u8 ((y.toNat : Int) % 256), .int .u8 ((y.toNat : Int) / 256 % 256), .int .u8 ((y.toNat : Int) / 65536 % 256), .int .u8 ((y.toNat : Int) / 16777216)] : Array Value) = ((putL y.toNat 4).map cellOf).toArray := by
  have h := y.isLt
  have e : putL y.toNat 4 = [byteAt y.toNat 0, byteAt y.toNat 1, byteAt y.toNat 2, byteAt y.toNat 3] := rfl
  have b0 : cellOf (byteAt y.toNat 0) = .int .u8 ((y.toNat : Int) % 256) := by
    show Value.int .u8 _ = _
    rw [byteAt, UInt8.toNat_ofNat']
    congr 1
    all_goals omega
  have b1 : cellOf (byteAt y.toNat 1) = .int .u8 ((y.toNat : Int) / 256 % 256) := by
    show Value.int .u8 _ = _
    rw [byteAt, UInt8.toNat_ofNat']
    congr 1
    all_goals omega
  have b2 : cellOf (byteAt y.toNat 2) = .int .u8 ((y.toNat : Int) / 65536 % 256) := by
    show Value.int .u8 _ = _
    rw [byteAt, UInt8.toNat_ofNat']
    congr 1
    all_goals omega
  have b3 : cellOf (byteAt y.toNat 3) = .int .u8 ((y.toNat : Int) / 16777216) := by
    show Value.int .u8 _ = _
    rw [byteAt, UInt8.toNat_ofNat']
    congr 1
    all_goals omega
  rw [e, List.map_cons, List.map_cons, List.map_cons, List.map_cons, List.map_nil, b0, b1, b2, b3]
theorem Cells.rangeHead {w : World} {g : Nat} {vs rest : List Value} {t : TypeId} (h : Cells w g (vs ++ rest) t) : w.rangeAt g 0 vs := fun j v hj => by
  rw [Nat.zero_add]
  refine h.get ?_
  rcases Nat.lt_or_ge j vs.length with hl | hl
  · rw [List.getElem?_append_left hl, hj]
  · rw [List.getElem?_eq_none hl] at hj; cases hj
/-- The first words of a state, and those of the key up to the k-th. -/
def start4 : List (BitVec 32) := [0x61707865, 0x3320646e, 0x79622d32, 0x6b206574]
set_option maxRecDepth 100000 in
set_option maxHeartbeats 2000000 in
theorem refBlock_over (A : Option Addr) (d : Nat) (key nonce : List UInt8) (x n0 n1 n2 : BitVec 32) (S : Nat → List (BitVec 32)) (s : List (BitVec 32)) (X : Nat → List (BitVec 32)) (E : Nat → List UInt8) (w : World) (HK : Hid (key.length = 32)) (HNL : Hid (nonce.length = 12)) (hr : Row w w.heap.size A nonce)
    (H0 : Hid (S 0 = start4)) (HS : Hid (∀ k, S (k + 1) = S k ++ [word4L ((key.drop (4 * k)).take 4)])) (HSL : Hid (∀ k, (S k).length = 4 + k)) (HW0 : Hid (word4L ((nonce.drop (4 * 0)).take 4) = n0)) (HW1 : Hid (word4L ((nonce.drop (4 * 1)).take 4) = n1)) (HW2 : Hid (word4L ((nonce.drop (4 * 2)).take 4) = n2)) (HSS : Hid (S 8 ++ [x, n0, n1, n2] = s)) (HL : Hid (s.length = 16))
    (HX0 : Hid (X 0 = s)) (HX : Hid (∀ k, X (k + 1) = qset (qset (qset (qset (qset (qset (qset (qset (X k) 0 4 8 12) 1 5 9 13) 2 6 10 14) 3 7 11 15) 0 5 10 15) 1 6 11 12) 2 7 8 13) 3 4 9 14)) (HXL : Hid (∀ k, (X k).length = 16))
    (HE0 : Hid (E 0 = [])) (HE : Hid (∀ k, E (k + 1) = E k ++ putL ((X 10).getD k 0 + s.getD k 0).toNat 4)) (HEL : Hid (∀ k, (E k).length = 4 * k)) :
    Calls Tryd.prog 12 #[hashVal key, wcell x, .slice A 12 d] w (GivesAt w (E 16) 64) := by
  go_enter Tryd.func12, Tryd.ntmps12
  go_wp2_with (first
    | (refine take_step rfl 24 _ rfl key rfl ?_
       intro w1 hB1 hC1 hz1
       clear hz1))
  have hb2 : Below w1.heap.size w1 (w1.alloc (.cells #[.int .u32 1634760805, .int .u32 857760878, .int .u32 2036477234, .int .u32 1797285236] 22)) := (Below.refl _ _).alloc (Nat.le_refl _) _
  have hO2 : OwnsW (w1.alloc (.cells #[.int .u32 1634760805, .int .u32 857760878, .int .u32 2036477234, .int .u32 1797285236] 22)) w1.heap.size (.slice (some ⟨w1.heap.size, 0, none⟩) 4 4) (S 0) := by
    rw [H0.out]
    exact OwnsW.lit w1 start4 (Nat.le_refl _) (by decide)
  generalize w1.alloc (.cells #[.int .u32 1634760805, .int .u32 857760878, .int .u32 2036477234, .int .u32 1797285236] 22) = w2 at *
  have hB2 := below_then hB1 hb2
  have hC2 := hC1.on hb2
  have hg1 := hC1.lt
  have hz2 := hb2.size
  clear hB1 hC1 hb2 H0
  generalize w1.heap.size = g1 at *
  go_loopw [7, 8] (fun v i wr => ∃ k : Nat, k ≤ 8 ∧ i = .int .i64 k ∧ Below w.heap.size w wr ∧ g1 ≤ wr.heap.size ∧ Cells wr w.heap.size (key.map cellOf) 24 ∧ OwnsW wr g1 v (S k)) (fun _ i _ => 8 - (intOf i).toNat)
  case atStart => exact ⟨0, Nat.zero_le _, rfl, hB2, hz2, hC2, hO2⟩
  case round =>
    clear hB2 hC2 hO2 hz2
    obtain ⟨k, hk, rfl, hB, hz, hC, hO⟩ := hrel
    have HSk := Lib.hid (HSL.out k)
    by_cases hlt : k < 8
    · have HN := Lib.hid (HS.out k)
      obtain ⟨xw, HXW⟩ : ∃ xw, Hid (word4L ((key.drop (4 * k)).take 4) = xw) := ⟨_, rfl⟩
      rw [HXW.out] at HN
      have i1 : (k : Int) < 8 := by omega
      go_wp2_with fail
      refine (refWord_at _ 32 32 k _ xw key wr rfl HXW.out HK.out hC.all (by omega) (by omega)).mono ?_
      rintro e w3 ⟨rfl, hb3⟩
      have hB3 := below_then hB hb3
      have hC3 := hC.on hb3
      have hO3 := hO.on hb3
      have hz3 := Nat.le_trans hz hb3.size
      clear hB hC hO hz hb3 HXW
      have hb4 : Below w3.heap.size w3 (w3.alloc (.cells #[wcell xw] 22)) := (Below.refl _ _).alloc (Nat.le_refl _) _
      have hR4 : (w3.alloc (.cells #[wcell xw] 22)).rangeAt w3.heap.size 0 ([xw].map wcell) := (Cells.new w3 #[wcell xw] 22).rangeAll
      go_wp2_with (first
        | (at_builtin
           generalize w3.alloc (.cells #[wcell xw] 22) = w4 at *
           have hB4 := below_then hB3 hb4
           have hC4 := hC3.on hb4
           have hO4 := hO3.on hb4
           have hz4 := Nat.le_trans hz3 hb4.size
           clear hB3 hC3 hO3 hz3 hb4
           generalize w3.heap.size = g3 at *
           refine append_words rfl (.tmp 19) (.tmp 23) rfl g1 _ (S k) [xw] g3 1 1 rfl hO4 rfl rfl hR4 (by rw [HSk.out]; simp; omega) hz4 ?_
           intro v5 w5 hO5 hB5
           clear hR4 hO4))
      go_roundw
      case rel => exact ⟨k + 1, by omega, by go_num, hB4.trans (hB5.mono (Nat.le_of_lt hg1)), Nat.le_trans hz4 hB5.size, hC4.below hB5 hg1, by rw [HN.out]; exact hO5⟩
      case measure => simp [intOf]; omega
    · obtain rfl : k = 8 := by omega
      clear hC HS
      rename_i v7
      go_wp2_with fail
      refine (refWord_at A d 12 0 _ n0 nonce wr rfl HW0.out HNL.out (hr.on hB) (by omega) (by omega)).mono ?_
      rintro e w3 ⟨rfl, hb3⟩
      have hB3 := below_then hB hb3
      have hO3 := hO.on hb3
      have hz3 := Nat.le_trans hz hb3.size
      clear hB hO hz hb3
      go_wp2_with fail
      refine (refWord_at A d 12 1 _ n1 nonce w3 rfl HW1.out HNL.out (hr.on hB3) (by omega) (by omega)).mono ?_
      rintro e w4 ⟨rfl, hb4⟩
      have hB4 := below_then hB3 hb4
      have hO4 := hO3.on hb4
      have hz4 := Nat.le_trans hz3 hb4.size
      clear hB3 hO3 hz3 hb4
      go_wp2_with fail
      refine (refWord_at A d 12 2 _ n2 nonce w4 rfl HW2.out HNL.out (hr.on hB4) (by omega) (by omega)).mono ?_
      rintro e w5 ⟨rfl, hb5⟩
      have hB5 := below_then hB4 hb5
      have hO5 := hO4.on hb5
      have hz5 := Nat.le_trans hz4 hb5.size
      clear hB4 hO4 hz4 hb5 HW0 HW1 HW2
      have hb6 : Below w5.heap.size w5 (w5.alloc (.cells #[wcell x, wcell n0, wcell n1, wcell n2] 22)) := (Below.refl _ _).alloc (Nat.le_refl _) _
      have hR6 : (w5.alloc (.cells #[wcell x, wcell n0, wcell n1, wcell n2] 22)).rangeAt w5.heap.size 0 ([x, n0, n1, n2].map wcell) := (Cells.new w5 #[wcell x, wcell n0, wcell n1, wcell n2] 22).rangeAll
      go_wp2_with (first
        | (at_builtin
           generalize w5.alloc (.cells #[wcell x, wcell n0, wcell n1, wcell n2] 22) = w6 at *
           have hB6 := below_then hB5 hb6
           have hO6 := hO5.on hb6
           have hz6 := Nat.le_trans hz5 hb6.size
           clear hB5 hO5 hz5 hb6
           generalize w5.heap.size = g5 at *
           refine append_words rfl (.tmp 25) (.tmp 33) rfl g1 _ (S 8) [x, n0, n1, n2] g5 4 4 rfl hO6 rfl rfl hR6 (by rw [HSk.out]; simp) hz6 ?_
           intro v7 w7 hO7 hb7
           rw [HSS.out] at hO7
           have hB7 := hB6.trans (hb7.mono (Nat.le_of_lt hg1))
           have hz7 := Nat.le_trans hz6 hb7.size
           clear hR6 hO6 hB6 hz6 hb7 HSS HSk HSL
           obtain ⟨gs, cs, rs, rfl, hgs, hcs1, hcs2, hCs7⟩ := hO7.cells (by rw [HL.out]; omega)
           rw [HL.out] at hcs1 ⊢
           clear hO7)
        | (at_builtin
           have hb8 : Below w7.heap.size w7 (w7.alloc (.cells #[] 22)) := (Below.refl _ _).alloc (Nat.le_refl _) _
           have hO8 : OwnsW (w7.alloc (.cells #[] 22)) w7.heap.size (.slice (some ⟨w7.heap.size, 0, none⟩) 0 0) [] := OwnsW.lit w7 [] (Nat.le_refl _) (by decide)
           generalize w7.alloc (.cells #[] 22) = w8 at *
           have hB8 := below_then hB7 hb8
           have hCs8 := hCs7.on hb8
           have hgs2 := hCs7.lt
           have hz8 := hb8.size
           have hz9 := hB7.size
           clear hB7 hCs7 hb8
           generalize w7.heap.size = g7 at *
           refine append_words rfl (.tmp 35) (.tmp 36) rfl g7 _ [] s gs 16 cs rfl hO8 rfl HL.out hCs8.rangeHead (by rw [HL.out]; decide) hz8 ?_
           intro v9 w9 hO9 hb9
           rw [List.nil_append] at hO9
           have hB9 := hB8.trans (hb9.mono (by omega))
           have hCs9 := hCs8.below hb9 hgs2
           obtain ⟨gx, cx, rx, rfl, hgx, _, _, hX9⟩ := hO9.cells (by rw [HL.out]; omega)
           rw [HL.out]
           clear hO8 hB8 hCs8 hb9 hO9 hz8))
      have hsx : gs < gx := by omega
      have hwx : w.heap.size ≤ gx := by omega
      have hws : w.heap.size ≤ gs := by omega
      go_loopw [10] (fun i wr => ∃ k : Nat, k ≤ 10 ∧ i = .int .i64 k ∧ Below w.heap.size w wr ∧ Cells wr gs (s.map wcell ++ rs) 22 ∧ Cells wr gx ((X k).map wcell ++ rx) 22) (fun i _ => 10 - (intOf i).toNat)
      case atStart => exact ⟨0, Nat.zero_le _, rfl, hB9, hCs9, by rw [HX0.out]; exact hX9⟩
      case round =>
        clear hB9 hCs9 hX9
        obtain ⟨k, hk, rfl, hB, hCs, hXk⟩ := hrel
        rename World => wr
        by_cases hlt : k < 10
        · have HN := Lib.hid (HX.out k)
          have HL0 := Lib.hid (HXL.out k)
          generalize X k = l0 at *
          clear HX HXL
          have i1 : (k : Int) < 10 := by omega
          have hXc := hXk
          clear hXk
          obtain ⟨l1, HQ1⟩ : ∃ x, Hid (qset l0 0 4 8 12 = x) := ⟨_, rfl⟩
          have HL1 : Hid (l1.length = 16) := by show _ = _; rw [← HQ1.out, qset_length, HL0.out]
          rw [HQ1.out] at HN
          have CQ := Lib.hid (refQuarter_at gx 16 cx 0 4 8 12 _ _ _ _ l0 l1 rx wr rfl rfl rfl rfl HQ1.out HL0.out (by omega) (by omega) (by omega) (by omega) (by omega) (by omega) (by omega) (by omega) (by omega) (by omega) hXc)
          clear HQ1 HL0
          go_wp2_with fail
          refine CQ.out.mono ?_
          rintro e p1 ⟨rfl, hb, hXn⟩
          have hBn := hB.trans (hb.below hwx hB.size)
          have hCn := hCs.but hb (Nat.ne_of_lt hsx)
          clear CQ hB hCs hXc hb
          have hB := hBn
          have hCs := hCn
          have hXc := hXn
          clear hBn hCn hXn
          obtain ⟨l2, HQ2⟩ : ∃ x, Hid (qset l1 1 5 9 13 = x) := ⟨_, rfl⟩
          have HL2 : Hid (l2.length = 16) := by show _ = _; rw [← HQ2.out, qset_length, HL1.out]
          rw [HQ2.out] at HN
          have CQ := Lib.hid (refQuarter_at gx 16 cx 1 5 9 13 _ _ _ _ l1 l2 rx p1 rfl rfl rfl rfl HQ2.out HL1.out (by omega) (by omega) (by omega) (by omega) (by omega) (by omega) (by omega) (by omega) (by omega) (by omega) hXc)
          clear HQ2 HL1
          go_wp2_with fail
          refine CQ.out.mono ?_
          rintro e p2 ⟨rfl, hb, hXn⟩
          have hBn := hB.trans (hb.below hwx hB.size)
          have hCn := hCs.but hb (Nat.ne_of_lt hsx)
          clear CQ hB hCs hXc hb
          have hB := hBn
          have hCs := hCn
          have hXc := hXn
          clear hBn hCn hXn
          obtain ⟨l3, HQ3⟩ : ∃ x, Hid (qset l2 2 6 10 14 = x) := ⟨_, rfl⟩
          have HL3 : Hid (l3.length = 16) := by show _ = _; rw [← HQ3.out, qset_length, HL2.out]
          rw [HQ3.out] at HN
          have CQ := Lib.hid (refQuarter_at gx 16 cx 2 6 10 14 _ _ _ _ l2 l3 rx p2 rfl rfl rfl rfl HQ3.out HL2.out (by omega) (by omega) (by omega) (by omega) (by omega) (by omega) (by omega) (by omega) (by omega) (by omega) hXc)
          clear HQ3 HL2
          go_wp2_with fail
          refine CQ.out.mono ?_
          rintro e p3 ⟨rfl, hb, hXn⟩
          have hBn := hB.trans (hb.below hwx hB.size)
          have hCn := hCs.but hb (Nat.ne_of_lt hsx)
          clear CQ hB hCs hXc hb
          have hB := hBn
          have hCs := hCn
          have hXc := hXn
          clear hBn hCn hXn
          obtain ⟨l4, HQ4⟩ : ∃ x, Hid (qset l3 3 7 11 15 = x) := ⟨_, rfl⟩
          have HL4 : Hid (l4.length = 16) := by show _ = _; rw [← HQ4.out, qset_length, HL3.out]
          rw [HQ4.out] at HN
          have CQ := Lib.hid (refQuarter_at gx 16 cx 3 7 11 15 _ _ _ _ l3 l4 rx p3 rfl rfl rfl rfl HQ4.out HL3.out (by omega) (by omega) (by omega) (by omega) (by omega) (by omega) (by omega) (by omega) (by omega) (by omega) hXc)
          clear HQ4 HL3
          go_wp2_with fail
          refine CQ.out.mono ?_
          rintro e p4 ⟨rfl, hb, hXn⟩
          have hBn := hB.trans (hb.below hwx hB.size)
          have hCn := hCs.but hb (Nat.ne_of_lt hsx)
          clear CQ hB hCs hXc hb
          have hB := hBn
          have hCs := hCn
          have hXc := hXn
          clear hBn hCn hXn
          obtain ⟨l5, HQ5⟩ : ∃ x, Hid (qset l4 0 5 10 15 = x) := ⟨_, rfl⟩
          have HL5 : Hid (l5.length = 16) := by show _ = _; rw [← HQ5.out, qset_length, HL4.out]
          rw [HQ5.out] at HN
          have CQ := Lib.hid (refQuarter_at gx 16 cx 0 5 10 15 _ _ _ _ l4 l5 rx p4 rfl rfl rfl rfl HQ5.out HL4.out (by omega) (by omega) (by omega) (by omega) (by omega) (by omega) (by omega) (by omega) (by omega) (by omega) hXc)
          clear HQ5 HL4
          go_wp2_with fail
          refine CQ.out.mono ?_
          rintro e p5 ⟨rfl, hb, hXn⟩
          have hBn := hB.trans (hb.below hwx hB.size)
          have hCn := hCs.but hb (Nat.ne_of_lt hsx)
          clear CQ hB hCs hXc hb
          have hB := hBn
          have hCs := hCn
          have hXc := hXn
          clear hBn hCn hXn
          obtain ⟨l6, HQ6⟩ : ∃ x, Hid (qset l5 1 6 11 12 = x) := ⟨_, rfl⟩
          have HL6 : Hid (l6.length = 16) := by show _ = _; rw [← HQ6.out, qset_length, HL5.out]
          rw [HQ6.out] at HN
          have CQ := Lib.hid (refQuarter_at gx 16 cx 1 6 11 12 _ _ _ _ l5 l6 rx p5 rfl rfl rfl rfl HQ6.out HL5.out (by omega) (by omega) (by omega) (by omega) (by omega) (by omega) (by omega) (by omega) (by omega) (by omega) hXc)
          clear HQ6 HL5
          go_wp2_with fail
          refine CQ.out.mono ?_
          rintro e p6 ⟨rfl, hb, hXn⟩
          have hBn := hB.trans (hb.below hwx hB.size)
          have hCn := hCs.but hb (Nat.ne_of_lt hsx)
          clear CQ hB hCs hXc hb
          have hB := hBn
          have hCs := hCn
          have hXc := hXn
          clear hBn hCn hXn
          obtain ⟨l7, HQ7⟩ : ∃ x, Hid (qset l6 2 7 8 13 = x) := ⟨_, rfl⟩
          have HL7 : Hid (l7.length = 16) := by show _ = _; rw [← HQ7.out, qset_length, HL6.out]
          rw [HQ7.out] at HN
          have CQ := Lib.hid (refQuarter_at gx 16 cx 2 7 8 13 _ _ _ _ l6 l7 rx p6 rfl rfl rfl rfl HQ7.out HL6.out (by omega) (by omega) (by omega) (by omega) (by omega) (by omega) (by omega) (by omega) (by omega) (by omega) hXc)
          clear HQ7 HL6
          go_wp2_with fail
          refine CQ.out.mono ?_
          rintro e p7 ⟨rfl, hb, hXn⟩
          have hBn := hB.trans (hb.below hwx hB.size)
          have hCn := hCs.but hb (Nat.ne_of_lt hsx)
          clear CQ hB hCs hXc hb
          have hB := hBn
          have hCs := hCn
          have hXc := hXn
          clear hBn hCn hXn
          obtain ⟨l8, HQ8⟩ : ∃ x, Hid (qset l7 3 4 9 14 = x) := ⟨_, rfl⟩
          have HL8 : Hid (l8.length = 16) := by show _ = _; rw [← HQ8.out, qset_length, HL7.out]
          rw [HQ8.out] at HN
          have CQ := Lib.hid (refQuarter_at gx 16 cx 3 4 9 14 _ _ _ _ l7 l8 rx p7 rfl rfl rfl rfl HQ8.out HL7.out (by omega) (by omega) (by omega) (by omega) (by omega) (by omega) (by omega) (by omega) (by omega) (by omega) hXc)
          clear HQ8 HL7
          go_wp2_with fail
          refine CQ.out.mono ?_
          rintro e p8 ⟨rfl, hb, hXn⟩
          have hBn := hB.trans (hb.below hwx hB.size)
          have hCn := hCs.but hb (Nat.ne_of_lt hsx)
          clear CQ hB hCs hXc hb
          have hB := hBn
          have hCs := hCn
          have hXc := hXn
          clear hBn hCn hXn
          go_wp2
          go_roundw
          case rel => exact ⟨k + 1, by omega, by go_num, hB, hCs, by rw [HN.out]; exact hXc⟩
          case measure => simp [intOf]; omega
        · obtain rfl : k = 10 := by omega
          have HX10 := Lib.hid (HXL.out 10)
          generalize X 10 = xs at *
          clear HX HXL HX0
          have hb4 : Below wr.heap.size wr (wr.alloc (.cells #[] 5)) := (Below.refl _ _).alloc (Nat.le_refl _) _
          have hO4 : Owns (wr.alloc (.cells #[] 5)) wr.heap.size (.slice (some ⟨wr.heap.size, 0, none⟩) 0 0) [] := Owns.lit wr [] (Nat.le_refl _) (by decide)
          have HB4 := Lib.hid hb4
          have HO4 := Lib.hid hO4
          clear hb4 hO4
          go_wp2_with fail
          generalize wr.alloc (.cells #[] 5) = w4 at *
          have hB4 := below_then hB HB4.out
          have hCs4 := hCs.on HB4.out
          have hX4 := hXk.on HB4.out
          have hO4 := HO4.out
          have hgx2 := hXk.lt
          have hz4 := HB4.out.size
          have hwz := hB.size
          clear hB hCs hXk HB4 HO4
          generalize wr.heap.size = go at *
          go_loopw [11, 12] (fun v i wr => ∃ k : Nat, k ≤ 16 ∧ i = .int .i64 k ∧ Below w.heap.size w wr ∧ go ≤ wr.heap.size ∧ Cells wr gs (s.map wcell ++ rs) 22 ∧ Cells wr gx (xs.map wcell ++ rx) 22 ∧ Owns wr go v (E k)) (fun _ i _ => 16 - (intOf i).toNat)
          case atStart => exact ⟨0, Nat.zero_le _, rfl, hB4, hz4, hCs4, hX4, by rw [HE0.out]; exact hO4⟩
          case round =>
            clear hB4 hz4 hCs4 hX4 hO4
            obtain ⟨k, hk, rfl, hB, hz, hCs, hX, hO⟩ := hrel
            rename World => wr
            have HEk := Lib.hid (HEL.out k)
            by_cases hlt : k < 16
            · have HN := Lib.hid (HE.out k)
              have cx := hX.get (wrest_at xs rx k (by rw [HX10.out]; exact hlt))
              have cs := hCs.get (wrest_at s rs k (by rw [HL.out]; exact hlt))
              generalize xs.getD k 0 = xk at *
              generalize s.getD k 0 = sk at *
              have i1 : (0 : Int) ≤ (k : Int) := by omega
              have i2 : (k : Int) < 16 := by omega
              go_wp2_with fail
              go_quiet (fail)
              rw [add32]
              generalize xk + sk = y at *
              have hBq : Below w.heap.size w (wr.drewN nq) := below_drewN hB nq
              have hzq : go ≤ (wr.drewN nq).heap.size := hz
              have hCq : Cells (wr.drewN nq) gs (s.map wcell ++ rs) 22 := hCs
              have hXq : Cells (wr.drewN nq) gx (xs.map wcell ++ rx) 22 := hX
              have hOq := hO.drewN nq
              clear cx cs hB hz hCs hX hO
              generalize wr.drewN nq = wq at *
              have hb5 : Below wq.heap.size wq (wq.alloc (.cells ((putL y.toNat 4).map cellOf).toArray 5)) := (Below.refl _ _).alloc (Nat.le_refl _) _
              have hR5 : Row (wq.alloc (.cells ((putL y.toNat 4).map cellOf).toArray 5)) (wq.alloc (.cells ((putL y.toNat 4).map cellOf).toArray 5)).heap.size (some ⟨wq.heap.size, 0, none⟩) (putL y.toNat 4) := Cells.all (Cells.new wq _ _)
              have HPL := Lib.hid (putL_length y.toNat 4)
              have HLE := Lib.hid (le_cells y)
              go_wp2_with (first
                | (at_builtin
                   rw [HLE.out]
                   clear HLE
                   generalize putL y.toNat 4 = us at *
                   generalize wq.alloc (.cells (us.map cellOf).toArray 5) = w5 at *
                   have hB5 := below_then hBq hb5
                   have hC5 := hCq.on hb5
                   have hX5 := hXq.on hb5
                   have hO5 := hOq.on hb5
                   have hz5 := Nat.le_trans hzq hb5.size
                   clear hBq hCq hXq hOq hzq hb5
                   generalize wq.heap.size = gq at *
                   refine append_row rfl (.tmp 72) (.tmp 84) rfl go _ (E k) us _ (some ⟨gq, 0, none⟩) 4 rfl hO5 (by rw [HPL.out]; rfl) (fun h => by cases h) hR5 (by rw [HEk.out, HPL.out]; omega) hz5 ?_
                   intro v6 w6 hO6 hB6
                   clear hO5 hR5))
              go_roundw
              case rel => exact ⟨_, _, _, _, _, _, _, _, _, _, _, _, _, _, _, _, _, _, _, _, _, _, _, _, _, _, _, _, _, _, ⟨k + 1, by omega, by go_num, hB5.trans (hB6.mono hwz), Nat.le_trans hz5 hB6.size, hC5.below hB6 (by omega), hX5.below hB6 hgx2, by rw [HN.out]; exact hO6⟩, rfl⟩
              case measure => simp [intOf]; omega
            · obtain rfl : k = 16 := by omega
              obtain ⟨g', c', hv, h1, h2, h3, h4⟩ := hO.form_pos (by rw [HEk.out]; omega)
              rw [HEk.out] at hv h1
              subst hv
              clear hCs hX HE
              go_wp2
              go_ret
              exact ⟨g', c', rfl, Nat.le_trans hwz h3, h1, h2, h4, hB⟩
end Go.Proofs.YtejcbboajikdkaaDoor
namespace Go.Proofs.YtejcbboajikdkaaDoor
open Go.RowKit
section
variable {P : Program} {ops : Array Oper} {Q : Exit → Act → World → Prop} {md : Region.Mode} {S : World → Prop} {c : Nat}
/-- Whatever order is picked from here on; until operation c has come up, S holds behind each. -/
def wpAnyU (P : Program) (md : Region.Mode) (ops : Array Oper) (Q : Exit → Act → World → Prop) (S : World → Prop) (c : Nat) : Nat → Array Bool → Act → World → Prop
  | 0, listed, a, w => Region.ready md ops listed = [] ∧ Q .normal a w
  | fuel + 1, listed, a, w =>
    (Region.ready md ops listed = [] → Q .normal a w) ∧
    ∀ i ∈ Region.ready md ops listed, wpOp P ops Q i (fun a' w' => (i = c → wpAny P md ops Q fuel (listed.setIfInBounds i true) a' w') ∧ (i ≠ c → S w' ∧ wpAnyU P md ops Q S c fuel (listed.setIfInBounds i true) a' w')) a w
theorem wpAny_of_until : ∀ (fuel : Nat) (listed : Array Bool) (a : Act) (w : World), wpAnyU P md ops Q S c fuel listed a w → wpAny P md ops Q fuel listed a w
  | 0, _, _, _, h => h
  | fuel + 1, _, _, _, h => ⟨h.1, fun i hi => wpOp_mono (fun a' w' h' => by
      by_cases e : i = c
      · exact h'.1 e
      · exact wpAny_of_until fuel _ a' w' (h'.2 e).2) (h.2 i hi)⟩
/-- Operation c waits for operation i. -/
def waitsFor (md : Region.Mode) (ops : Array Oper) (c i : Nat) : Bool := match ops[c]? with
  | some oc => oc.after.any fun e => Region.binds md e && e.on == i
  | none => false
theorem not_ready {i : Nat} {listed : Array Bool} (hw : waitsFor md ops c i = true) (hr : i ∈ Region.ready md ops listed) : c ∉ Region.ready md ops listed := by
  intro hc
  obtain ⟨_, oc, hoc, hall⟩ := mem_ready.1 hc
  have h0 := (mem_ready.1 hr).1
  simp only [waitsFor, hoc] at hw
  obtain ⟨e, he, hb⟩ := Array.any_eq_true'.1 hw
  simp only [Bool.and_eq_true, beq_iff_eq] at hb
  have h1 := hall e he hb.1
  rw [hb.2] at h1
  rcases Nat.lt_or_ge i listed.size with h' | h'
  · simp [h'] at h0 h1; rw [h0] at h1; cases h1
  · simp [Array.getElem?_eq_none h'] at h1
theorem wpAnyU_first {i : Nat} {oi : Oper} {v : Value} (hi : ops[i]? = some oi) (hic : i ≠ c) (hwt : waitsFor md ops c i = true) (hsel : ∀ (j : Nat) (o : Oper) cs b, ops[j]? = some o → o.op ≠ .select cs b)
    (hQ : ∀ c a w, Q (.panic c) (a.put oi.dst v) w → Q (.panic c) a w) :
    ∀ (fuel : Nat) (listed : Array Bool) (a : Act) (w : World),
      (∀ j oj, ops[j]? = some oj → j ≠ i → listed.getD j true = false → (∀ e ∈ oj.after, Region.binds md e = true → e.on ≠ i) → oi.apart ops oj = true) →
      i ∈ Region.ready md ops listed → YieldsIf P ops S oi v a → S w →
      wpAnyU P md ops Q S c fuel (listed.setIfInBounds i true) (a.put oi.dst v) w → wpAnyU P md ops Q S c (fuel + 1) listed a w := by
  intro fuel
  induction fuel with
  | zero =>
    intro listed a w _ hr hy hS H
    refine ⟨fun h => (by rw [h] at hr; cases hr), fun j hj => ?_⟩
    by_cases hji : j = i
    · subst hji; exact hy.wpOp hi hS ⟨fun e => absurd e hic, fun _ => ⟨hS, H⟩⟩
    · have := ready_mono hj hji
      rw [H.1] at this
      cases this
  | succ fuel ih =>
    intro listed a w hfree hr hy hS H
    refine ⟨fun h => (by rw [h] at hr; cases hr), fun j hj => ?_⟩
    by_cases hji : j = i
    · subst hji; exact hy.wpOp hi hS ⟨fun e => absurd e hic, fun _ => ⟨hS, H⟩⟩
    · have hjc : j ≠ c := fun e => not_ready hwt hr (e ▸ hj)
      have h1 := wpOp_mono (fun a' w' h' => h'.2 hjc) (H.2 j (ready_mono hj hji))
      obtain ⟨hjun, oj, hoj, hall⟩ := mem_ready.1 hj
      have hnot : ∀ e ∈ oj.after, Region.binds md e = true → e.on ≠ i := fun e he hb heq => by
        have h1 := hall e he hb
        have h0 := (mem_ready.1 hr).1
        rw [heq] at h1
        rcases Nat.lt_or_ge i listed.size with h' | h'
        · simp [h'] at h0 h1; rw [h0] at h1; cases h1
        · simp [Array.getElem?_eq_none h'] at h1
      have h2 := wpOp_putIf hoj (hfree j oj hoj hji hjun hnot) (fun cs b => hsel i oi cs b hi) (fun cs b => hsel j oj cs b hoj) hQ hy h1
      have hfree' : ∀ k ok, ops[k]? = some ok → k ≠ i → (listed.setIfInBounds j true).getD k true = false →
          (∀ e ∈ ok.after, Region.binds md e = true → e.on ≠ i) → oi.apart ops ok = true := fun k ok hk hki hun hno => by
        refine hfree k ok hk hki ?_ hno
        by_cases hjk : j = k
        · subst hjk; exact hjun
        · rw [getD_set_ne true hjk] at hun; exact hun
      refine wpOp_mono (fun a' w' h3 => ⟨fun e => absurd e hjc, fun _ => ⟨h3.2.1, ih (listed.setIfInBounds j true) a' w' hfree' (ready_mono hr (Ne.symm hji)) h3.1 h3.2.1 ?_⟩⟩) h2
      rw [Array.setIfInBounds_comm _ _ hji]
      exact h3.2.2
/-- Take number i first: c waits for it. -/
theorem wpAnyU_take {i : Nat} {oi : Oper} {v : Value} {fuel : Nat} {listed : Array Bool} {a : Act} {w : World} (hi : ops[i]? = some oi) (hic : i ≠ c) (hwt : waitsFor md ops c i = true)
    (hs : Region.noSelect ops = true) (hf : Region.free md ops listed i = true) (hr : (Region.ready md ops listed).contains i = true)
    (hQ : ∀ c a w, Q (.panic c) (a.put oi.dst v) w → Q (.panic c) a w) (hy : YieldsIf P ops S oi v a) (hS : S w)
    (h : wpAnyU P md ops Q S c fuel (listed.setIfInBounds i true) (a.put oi.dst v) w) : wpAnyU P md ops Q S c (fuel + 1) listed a w :=
  wpAnyU_first hi hic hwt (Region.noSelect_spec hs) hQ fuel listed a w (Region.free_spec hi hf) (by simpa using hr) hy hS h
/-- c comes up, and nothing else can. -/
theorem wpAnyU_end {o : Oper} {fuel : Nat} {listed : Array Bool} {a : Act} {w : World} (hr : Region.ready md ops listed = [c]) (ho : ops[c]? = some o)
    (h : ∀ K' : Act → World → Prop, Shut (∀ a w, wpAny P md ops Q fuel (listed.setIfInBounds c true) a w → K' a w) → if Region.wanted o (yielded ops a.tmps) = true then Oper.wp P o a w K' Q else K' (a.put o.dst undef) w) : wpAnyU P md ops Q S c (fuel + 1) listed a w := by
  refine ⟨fun h0 => (by rw [hr] at h0; cases h0), fun i hi => ?_⟩
  rw [hr] at hi
  obtain rfl : i = c := by simpa using hi
  refine wpOp_step ho fun K' hK => h K' fun a' w' h' => hK a' w' ⟨fun _ => h', fun e => absurd rfl e⟩
/-- One operation can come up. -/
theorem wpAny_one {i : Nat} {o : Oper} {fuel : Nat} {listed : Array Bool} {a : Act} {w : World} (hr : Region.ready md ops listed = [i]) (ho : ops[i]? = some o)
    (h : ∀ K' : Act → World → Prop, Shut (∀ a w, wpAny P md ops Q fuel (listed.setIfInBounds i true) a w → K' a w) → if Region.wanted o (yielded ops a.tmps) = true then Oper.wp P o a w K' Q else K' (a.put o.dst undef) w) : wpAny P md ops Q (fuel + 1) listed a w :=
  wpAny_ready hr (by simp) (AllReady.cons ho h AllReady.nil)
/-- From here on the rest comes in the text's order. -/
theorem wpAny_rest {l : List Oper} {fuel : Nat} {listed : Array Bool} {a : Act} {w : World} (n : Nat) (hf : fuel = (l.drop n).length) (hB : Region.seqB md l.toArray (l.drop n).length n listed = true) (h : wpList P l.toArray Q (l.drop n) a w) : wpAny P md l.toArray Q fuel listed a w := by
  subst hf
  exact wpAny_of_seq (l.drop n) n listed a w (fun j => by simp [List.getElem?_drop]) hB h
/-- One operation can come up: it stores an integer into one cell. -/
theorem wpAny_store {i : Nat} {o : Oper} {fuel : Nat} {listed : Array Bool} {a : Act} {w : World} (hr : Region.ready md ops listed = [i]) (ho : ops[i]? = some o) (hgd : o.guard = none) (t : TypeId) (x y : Operand) (hop : o.op = .store t x y) (g j : Nat) (ik : IntKind) (z : Int)
    (hx : a.eval x = .pointer (some ⟨g, j, none⟩)) (hy : a.eval y = .int ik z) (hs : (P.info? t).map (·.size) = some 1) (ht : w.there g j 1)
    (h : ∀ w', w' = w.setCell ⟨g, j, none⟩ (.int ik z) → wpAny P md ops Q fuel (listed.setIfInBounds i true) (a.put o.dst undef) w') : wpAny P md ops Q (fuel + 1) listed a w := by
  refine wpAny_one hr ho (fun K hK => ?_)
  obtain ⟨i0, hi0, hs0⟩ := Option.map_eq_some_iff.1 hs
  have hst := run_storeCells_cells (P := P) g j [.int ik z] 0 w (fun i hi => by simpa using (ht i hi).1) (fun i hi => by simpa using (ht i hi).2) (by intro v hv; cases List.mem_singleton.1 hv; rfl)
  have hrun : (Instr.storeAt t (.pointer (some ⟨g, j, none⟩)) (.int ik z)).run P w = .ok () (w.setCell ⟨g, j, none⟩ (.int ik z)) := by
    simp only [Instr.storeAt, Instr.sureAddr, Sem.run_bind, Sem.run_pure, Result.andThen_ok]
    simp [storeVar, sizeOf, typeInfo, hi0, hs0, Value.cells, hst, World.setCells]
  rw [if_pos (by simp [Region.wanted, hgd])]
  unfold Oper.wp
  simp only [execOp, hop, hx, hy, hrun, Sem.run_bind, Sem.run_pure, Result.andThen_ok]
  exact hK.out _ _ (h _ rfl)
end
end Go.Proofs.YtejcbboajikdkaaDoor
