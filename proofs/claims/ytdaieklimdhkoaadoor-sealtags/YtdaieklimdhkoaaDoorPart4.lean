/- Part 4 of what the laws of this seat share: DOwn, DConcat, Frame, WOpen, WOpen2, WOpen3, WKey. -/
import Derived.Laws.IdiomStrings
import Derived.Test.YtdaieklimdhkoaaDoorCards
import Derived.Test.YtdaieklimdhkoaaDoorTie
import Derived.WalkKit
import Derived.ProofKit
import Derived.OpenShut
import Derived.ShutString
import Derived.LaidMore
import Derived.Deep.DeepHandedRow
import Derived.Deep.DeepWitnessRowRef
import Derived.Deep.Matrix
import Derived.Deep.Strs
import Derived.Deep.WholeRow
import Derived.Test.YtdaieklimdhkoaaDoorPart3
namespace Go.Proofs.YtdaieklimdhkoaaDoor
open Go.RowKit
theorem Owns.cutTo {w : World} {base n c : Nat} {A : Option Addr} {bs : List UInt8} (h : Owns w base (.slice A n c) bs) (k : Nat) (hk : k ≤ n) : Owns w base (.slice A k c) (bs.take k) := by
  obtain ⟨h1, h2⟩ := h
  rcases h2 with ⟨hv, hn⟩ | ⟨g, cap, cur, hv, hg, hh, hnc, hcm, hsz, htk⟩
  · injection hv with hA hn2 hc
    obtain rfl : k = 0 := by omega
    subst hA hc
    exact ⟨by simp, .inl ⟨rfl, by simp⟩⟩
  · injection hv with hA hn2 hc
    subst hA hc
    have hl : (bs.take k).length = k := by rw [List.length_take]; omega
    refine ⟨by simp, .inr ⟨g, c, cur, by rw [hl], hg, hh, by omega, hcm, hsz, ?_⟩⟩
    rw [hl, Nat.mul_one, List.map_take, ← htk, Nat.mul_one, List.take_take, Nat.min_eq_left (by omega)]
theorem str_of (s : ByteArray) : s = str s.data.toList := by unfold str; simp
theorem str_append (a b : List UInt8) : str a ++ str b = str (a ++ b) := by
  unfold str
  rw [ByteArray.ext_iff, ByteArray.data_append]
  simp
section
variable {w : World} {ops : Array Oper} {rest : List Oper} {o : Oper} {a : Act} {Q : Exit → Act → World → Prop}
/-- '[]byte(s)'. -/
theorem bytes_step (hgd : o.guard = none) (x : Operand) (ho : o.op = .convert 9 24 x) (n : Nat) (bs : List UInt8) (hl : bs.length = n) (hx : a.eval x = .string (str bs)) (hn : n ≤ 1000000)
    (h : ∀ w' c, Below w.heap.size w w' → Row w' w'.heap.size (some ⟨w.heap.size, 0, none⟩) bs → w'.heap.size = w.heap.size + 1 → n ≤ c → c ≤ maxLen → wpList Tryd.prog ops Q rest (a.put o.dst (.slice (some ⟨w.heap.size, 0, none⟩) n c)) w') : wpList Tryd.prog ops Q (o :: rest) a w := by
  refine wpList_plain hgd fun K hK => ?_
  have hrun := run_bytes_of_string (P := Tryd.prog) w 9 24 5 (str bs) Tryd.underlying9 Tryd.underlying24 Tryd.underlying5
  have hs : (str bs).size = n := by rw [str_size, hl]
  rw [hs] at hrun
  unfold Oper.wp
  simp only [execOp, ho, hx, hrun, Sem.run_bind, Sem.run_pure, Result.andThen_ok]
  have hb : Below w.heap.size w (w.drew.alloc (.cells (bytesRow (str bs) (grownCap w n 0 5)) 5 ((bytesRow (str bs) (grownCap w n 0 5)).size, (bytesRow (str bs) (grownCap w n 0 5)).size + 1))) :=
    (Below.refl w.heap.size w).drew.alloc (Nat.le_refl _) _
  refine hK _ _ (h _ _ hb ?_ (by simp) (grownCap_ge w n 0 _) (grownCap_le_maxLen w n 0 _ (by unfold maxLen; omega)))
  refine .inr ⟨w.heap.size, 0, rfl, by simp, fun j u hu => ?_⟩
  have hj := World.cell?_alloc_mark w.drew (bytesRow (str bs) (grownCap w n 0 5)) 5 ((bytesRow (str bs) (grownCap w n 0 5)).size, (bytesRow (str bs) (grownCap w n 0 5)).size + 1) j
  rw [Nat.zero_add]
  refine (show _ = _ from hj).trans ?_
  have hjl : j < bs.length := by
    rcases Nat.lt_or_ge j bs.length with h | h
    · exact h
    · rw [List.getElem?_eq_none h] at hu; cases hu
  rw [List.getElem?_eq_getElem hjl] at hu
  cases hu
  simp [bytesRow, str, Array.getElem?_append, hjl]
/-- 'append(out, s...)', s a text. -/
theorem append_text (hgd : o.guard = none) (s x : Operand) (ho : o.op = .call { callee := .builtin .append, args := #[s, x], argTypes := #[24, 9] }) (base n : Nat)
    (v : Value) (bs us : List UInt8) (hs : a.eval s = v) (hown : Owns w base v bs) (hx : a.eval x = .string (str us)) (hl : us.length = n) (hlen : bs.length + n ≤ 1000000) (hbase : base ≤ w.heap.size)
    (h : ∀ v' w', Owns w' base v' (bs ++ us) → Below base w w' → wpList Tryd.prog ops Q rest (a.put o.dst v') w') : wpList Tryd.prog ops Q (o :: rest) a w := by
  obtain ⟨i0, hi0, hz0, hz1, hz2⟩ := info_parts u8_info
  have hsz : (str us).size = n := by rw [str_size, hl]
  refine Lib.wpList_append_own_string (P := Tryd.prog) w hgd s x 24 9 ho base 5 i0 Tryd.underlying24 Tryd.underlying9 hi0 hz0 hz1 hz2 v bs.length (bs.map cellOf) hs hown (str us) hx (by rw [hsz]; simp only [maxLen]; omega) (by rw [hsz]; omega) hbase ?_
  intro v' w' h2 h3 _
  refine h v' w' ?_ ((Below.refl _ _).grown h3 hbase (fun k hk => hown.far k hk))
  rw [strCells_str, hsz, ← List.map_append, ← hl] at h2
  unfold Owns
  rw [List.length_append]
  exact h2
end
/-- 'b[:i]'. -/
theorem cut_to {w : World} {ops : Array Oper} {rest : List Oper} {o : Oper} {a : Act} {Q : Exit → Act → World → Prop} (hgd : o.guard = none) (x y : Operand) (ho : o.op = .slice 24 x none (some y) none)
    (A : Option Addr) (len cap i : Nat) (z : Int) (hx : a.eval x = .slice A len cap) (hy : a.eval y = .int .i64 z) (hz : z = (i : Int)) (hi : i ≤ cap)
    (h : wpList Tryd.prog ops Q rest (a.put o.dst (.slice (cutA A 0 cap) i cap)) w) : wpList Tryd.prog ops Q (o :: rest) a w := by
  subst hz
  refine wpList_plain hgd fun K hK => ?_
  obtain ⟨i0, hi0, hs0⟩ := Option.map_eq_some_iff.1 size_u8
  have hrun : (Instr.sliceAt 24 (.slice A len cap) none (some (.int .i64 (i : Int))) none).run Tryd.prog w = .ok (.slice (cutA A 0 cap) i cap) w := by
    have hu : Tryd.prog.underlying 24 = some (.slice 5) := Tryd.underlying24
    have h1 : (Instr.sliceAt 24 (.slice A len cap) none (some (.int .i64 (i : Int))) none).run Tryd.prog w = (Instr.slice 24 (.slice A len cap) none (some (.int .i64 (i : Int))) none).run Tryd.prog w := by
      simp [Instr.sliceAt, run_underlying hu]
    rw [h1]
    have h4 : (i : Int) ≤ (cap : Int) := by omega
    simp [Instr.slice, run_underlying hu, Instr.sliceBounds, run_sliceBound, sizeOf, typeInfo, hi0, cutA, h4]
  unfold Oper.wp
  simp only [execOp, ho, hx, hy, Option.map_some, Option.map_none, hrun, Sem.run_bind, Sem.run_pure, Result.andThen_ok]
  exact hK _ _ h
/-- 'min(p, q)' of integers. -/
theorem min_step {w : World} {ops : Array Oper} {rest : List Oper} {o : Oper} {a : Act} {Q : Exit → Act → World → Prop} (hgd : o.guard = none) (p q : Operand) (ho : o.op = .call { callee := .builtin .min, args := #[p, q], argTypes := #[3, 3] })
    (x y : Int) (m : Nat) (hp : a.eval p = .int .i64 x) (hq : a.eval q = .int .i64 y) (hm : min x y = (m : Int)) (h : wpList Tryd.prog ops Q rest (a.put o.dst (.int .i64 (m : Int))) w) : wpList Tryd.prog ops Q (o :: rest) a w := by
  refine wpList_plain hgd fun K hK => ?_
  have e : (if y < x then y else x) = (m : Int) := by rw [← hm]; split <;> omega
  unfold Oper.wp execOp
  simp only [ho, resolve, invoke, builtin, Sem.run_bind, Sem.run_pure, Result.andThen_ok, List.map_toArray, List.map_cons, List.map_nil, hp, hq, run_min_int2, e]
  exact hK _ _ h
theorem Row.cutTo {w : World} {B : Nat} {A : Option Addr} {us : List UInt8} (h : Row w B A us) (i cap : Nat) (hl : us.length ≤ cap) : Row w B (cutA A 0 cap) (us.take i) := by
  have h := (h.cut 0 cap hl).take i
  rwa [List.drop_zero] at h
theorem cutA_zero (g o cap : Nat) : cutA (some ⟨g, o, none⟩) 0 cap = some ⟨g, o, none⟩ := by
  unfold cutA
  split <;> simp [Addr.add_mid]
/-- A slice of these bytes, as a part. -/
theorem Part.mk {w : World} {B : Nat} {A : Option Addr} {n c : Nat} {us : List UInt8} (hl : us.length = n) (hr : Row w B A us) (hA : A = none → c = 0) (hc : n ≤ c) (hc2 : c ≤ maxLen) : Part w B (.slice A n c) us := ⟨A, c, by rw [hl], hr, by omega, hc2, hA⟩
theorem Part.on {w w' : World} {v : Value} {us : List UInt8} (h : Part w w.heap.size v us) (hb : Below w.heap.size w w') : Part w' w'.heap.size v us := (h.below hb).more hb.size
theorem parts_three (w : World) (a b c : Value) (x y z : List UInt8) (ha : Part w w.heap.size a x) (hb : Part w w.heap.size b y) (hc : Part w w.heap.size c z) :
    Parts (w.alloc (.cells #[a, b, c] 24)) (w.alloc (.cells #[a, b, c] 24)).heap.size (some ⟨w.heap.size, 0, none⟩) [x, y, z] := parts_lit w #[a, b, c] [x, y, z] (fun j us hu => by
  match j, hu with
  | 0, hu => cases hu; exact ⟨a, rfl, ha⟩
  | 1, hu => cases hu; exact ⟨b, rfl, hb⟩
  | 2, hu => cases hu; exact ⟨c, rfl, hc⟩
  | j + 3, hu => simp at hu)
theorem parts_four (w : World) (a b c d : Value) (x y z u : List UInt8) (ha : Part w w.heap.size a x) (hb : Part w w.heap.size b y) (hc : Part w w.heap.size c z) (hd : Part w w.heap.size d u) :
    Parts (w.alloc (.cells #[a, b, c, d] 24)) (w.alloc (.cells #[a, b, c, d] 24)).heap.size (some ⟨w.heap.size, 0, none⟩) [x, y, z, u] := parts_lit w #[a, b, c, d] [x, y, z, u] (fun j us hu => by
  match j, hu with
  | 0, hu => cases hu; exact ⟨a, rfl, ha⟩
  | 1, hu => cases hu; exact ⟨b, rfl, hb⟩
  | 2, hu => cases hu; exact ⟨c, rfl, hc⟩
  | 3, hu => cases hu; exact ⟨d, rfl, hd⟩
  | j + 4, hu => simp at hu)
theorem parts_five (w : World) (a b c d e : Value) (x y z u v : List UInt8) (ha : Part w w.heap.size a x) (hb : Part w w.heap.size b y) (hc : Part w w.heap.size c z) (hd : Part w w.heap.size d u) (he : Part w w.heap.size e v) :
    Parts (w.alloc (.cells #[a, b, c, d, e] 24)) (w.alloc (.cells #[a, b, c, d, e] 24)).heap.size (some ⟨w.heap.size, 0, none⟩) [x, y, z, u, v] := parts_lit w #[a, b, c, d, e] [x, y, z, u, v] (fun j us hu => by
  match j, hu with
  | 0, hu => cases hu; exact ⟨a, rfl, ha⟩
  | 1, hu => cases hu; exact ⟨b, rfl, hb⟩
  | 2, hu => cases hu; exact ⟨c, rfl, hc⟩
  | 3, hu => cases hu; exact ⟨d, rfl, hd⟩
  | 4, hu => cases hu; exact ⟨e, rfl, he⟩
  | j + 5, hu => simp at hu)
theorem Cells.rangeAll {w : World} {g : Nat} {vs : List Value} {t : TypeId} (h : Cells w g vs t) : w.rangeAt g 0 vs := fun j v hj => by
  rw [Nat.zero_add]
  exact h.get hj
theorem Row.rangeAll {w : World} {B b off : Nat} {ds : List UInt8} (h : Row w B (some ⟨b, off, none⟩) ds) : w.rangeAt b off (ds.map cellOf) := fun j v hj => by
  rw [List.getElem?_map] at hj
  cases hd : ds[j]? with
  | none => rw [hd] at hj; cases hj
  | some u =>
    rw [hd] at hj
    cases hj
    rcases h with rfl | ⟨b', off', hA, _, hc⟩
    · simp at hd
    · cases hA
      exact hc j u hd
/-- A row of bytes loaded as an array's value. -/
theorem load_row_step {w : World} {ops : Array Oper} {rest : List Oper} {o : Oper} {a : Act} {Q : Exit → Act → World → Prop} (hgd : o.guard = none) (t : TypeId) (x : Operand) (ho : o.op = .load t x) (B b off n : Nat) (ds : List UInt8) (e : TypeId) (hx : a.eval x = .pointer (some ⟨b, off, none⟩)) (hR : Row w B (some ⟨b, off, none⟩) ds) (hu : Tryd.prog.underlying t = some (.array n e))
    (hs : (Tryd.prog.info? t).map (·.size) = some n) (hl : ds.length = n) (h : wpList Tryd.prog ops Q rest (a.put o.dst (hashVal ds)) w) : wpList Tryd.prog ops Q (o :: rest) a w :=
  wpList_load_mid hgd t x ho b off hx (ds.map cellOf) _ hR.rangeAll hu rfl (by rw [List.length_map, hl]; exact hs) h
theorem Row.some {w : World} {B : Nat} {A : Option Addr} {ds : List UInt8} (h : Row w B A ds) (hp : 0 < ds.length) : ∃ b off, A = some ⟨b, off, none⟩ := by
  rcases h with rfl | ⟨b, off, rfl, _, _⟩
  · simp at hp
  · exact ⟨b, off, rfl⟩
/-- What a call answers that makes a row of these bytes. -/
def Gives (w : World) (bs : List UInt8) (n : Nat) (e : Ending) (w' : World) : Prop :=
  ∃ A c, e = .returned (.slice A n c) ∧ (A = none → c = 0) ∧ n ≤ c ∧ c ≤ maxLen ∧ Row w' w'.heap.size A bs ∧ Below w.heap.size w w'
/-- What a call answers that makes a row of these bytes, and no error. -/
def GivesOk (w : World) (bs : List UInt8) (n : Nat) (e : Ending) (w' : World) : Prop :=
  ∃ A c, e = .returned (.tuple #[.slice A n c, .nilIface]) ∧ (A = none → c = 0) ∧ n ≤ c ∧ c ≤ maxLen ∧ Row w' w'.heap.size A bs ∧ Below w.heap.size w w'
end Go.Proofs.YtdaieklimdhkoaaDoor
namespace Go.Proofs.YtdaieklimdhkoaaDoor
open Go.RowKit
set_option maxRecDepth 100000 in
/-- Room for n bytes, none of them taken. -/
theorem grow_none (n : Nat) (w : World) (hn : n ≤ 1000000) :
    Calls Tryd.prog 57 #[.slice none 0 0, .int .i64 (n : Int)] w fun e w' => ∃ v, e = .returned v ∧ Owns w' w.heap.size v [] ∧ Below w.heap.size w w' := by
  have h0 : Owns w w.heap.size (.slice none 0 0) [] := ⟨by simp, .inl ⟨rfl, by simp⟩⟩
  have i0 : ¬ (n : Int) < 0 := by omega
  by_cases hz : n = 0
  · subst hz
    go_enter Tryd.func57, Tryd.ntmps57
    go_wp2
    go_ret
    exact ⟨_, rfl, h0, Below.refl _ _⟩
  · have i1 : (0 : Int) < (n : Int) := by omega
    go_enter Tryd.func57, Tryd.ntmps57
    go_wp2_with (first
      | (at_builtin
         refine append_zeros rfl (.tmp 20) (.tmp 21) rfl w.heap.size n _ [] rfl h0 rfl (by simpa using hn) (Nat.le_refl _) ?_
         intro v1 w1 hO1 hB1
         rw [List.nil_append] at hO1
         obtain ⟨g1, c1, hv1, _, _, _, _⟩ := hO1.form_pos (by rw [List.length_replicate]; omega)
         rw [List.length_replicate] at hv1
         subst hv1
         have hO2 := hO1.cutTo 0 (Nat.zero_le _)
         rw [List.take_zero] at hO2)
      | (refine cut_to rfl (.tmp 22) (.tmp 24) rfl (some ⟨g1, 0, none⟩) n c1 0 _ rfl rfl rfl (Nat.zero_le _) ?_
         rw [cutA_zero]))
    go_ret
    exact ⟨_, rfl, hO2, hB1⟩
set_option maxRecDepth 100000 in
set_option maxHeartbeats 800000 in
/-- All parts one behind the other, in a row of its own. -/
theorem concat_any (D : Option Addr) (d m L : Nat) (ps : List (List UInt8)) (w : World) (hpl : ps.length = m) (hP : Parts w w.heap.size D ps) (hm : m ≤ 1000000) (hL : ps.flatten.length = L) (hn : L ≤ 1000000) :
    Calls Tryd.prog 40 #[.slice D m d] w (Gives w ps.flatten L) := by
  have HPL := Lib.hid hpl
  have HFL := Lib.hid hL
  clear hpl hL
  go_enter Tryd.func40, Tryd.ntmps40
  go_wp2
  go_loopw [3, 11] (fun s i wr => ∃ k : Nat, k ≤ m ∧ i = .int .i64 k ∧ s = .int .i64 ((ps.take k).flatten.length : Int) ∧ wr = w) (fun _ i _ => m - (intOf i).toNat)
  case atStart => exact ⟨0, Nat.zero_le _, rfl, by simp, rfl⟩
  case round =>
    obtain ⟨k, hk, rfl, rfl, rfl⟩ := hrel
    have HTL := Lib.hid (flatten_take_le ps k)
    generalize hs : (ps.take k).flatten.length = s at *
    replace hs := Lib.hid hs
    by_cases hlt : k < m
    · have hlt2 : k < ps.length := by rw [HPL.out]; exact hlt
      obtain ⟨b, off, A1, c1, rfl, hcl, hr1, h1, h2, h3⟩ := hP.at k hlt2
      have HS := Lib.hid (show (ps.take (k + 1)).flatten.length = (ps.take k).flatten.length + ps[k].length by rw [take_snoc ps k hlt2, List.flatten_append]; simp)
      have HTL2 := Lib.hid (flatten_take_le ps (k + 1))
      generalize hul : ps[k].length = q at *
      replace hul := Lib.hid hul
      have hq : s + q ≤ L := by have h1 := HS.out; have h2 := hs.out; have h3 := HTL2.out; have h4 := HFL.out; omega
      have i1 : ¬ (s : Int) + (q : Int) < 0 := by omega
      have i2 : (0 : Int) ≤ (s : Int) + (q : Int) := by omega
      go_wp2
      go_roundw
      case rel => exact ⟨k + 1, by omega, by go_num, by rw [HS.out, hs.out]; go_num, trivial⟩
      case measure => simp [intOf]; omega
    · obtain rfl : k = m := by omega
      have e1 : s = L := by rw [← hs.out, List.take_of_length_le (by rw [HPL.out]; exact Nat.le_refl _), HFL.out]
      subst e1
      clear HTL hs
      go_wp2_with (first
        | (go_at_call 57
           refine (grow_none s wr hn).mono ?_
           rintro e w1 ⟨v1, rfl, hO1, hB1⟩))
      have HZ := Lib.hid hB1.size
      have HB1 := Lib.hid hB1
      have HO1 := Lib.hid hO1
      clear hO1 hB1
      go_loopw [6, 27] (fun v i wq => ∃ j : Nat, j ≤ k ∧ i = .int .i64 j ∧ Below wr.heap.size wr wq ∧ Owns wq wr.heap.size v (ps.take j).flatten) (fun _ i _ => k - (intOf i).toNat)
      case atStart => exact ⟨0, Nat.zero_le _, rfl, HB1.out, by simpa using HO1.out⟩
      case round =>
        obtain ⟨j, hj, rfl, hB, hO⟩ := hrel
        rename World => wq
        by_cases hlt : j < k
        · have hlt2 : j < ps.length := by rw [HPL.out]; exact hlt
          obtain ⟨b, off, A1, c1, rfl, hcl, hr1, h1, h2, h3⟩ := (hP.below hB).at j hlt2
          have HS := Lib.hid (show (ps.take (j + 1)).flatten = (ps.take j).flatten ++ ps[j] by rw [take_snoc ps j hlt2, List.flatten_append]; simp)
          have HTL2 : Hid ((ps.take j).flatten.length + ps[j].length ≤ s) := by
            show _ ≤ _
            have h1 := flatten_take_le ps (j + 1)
            rw [HS.out, List.length_append, HFL.out] at h1
            exact h1
          generalize ps[j] = us at *
          generalize hul : us.length = q at *
          replace hul := Lib.hid hul
          generalize hF : (ps.take j).flatten = F at *
          replace hF := Lib.hid hF
          have hsz := hB.size
          go_wp2_with (first
            | (at_builtin
               refine append_row rfl (.tmp 31) (.tmp 32) rfl wr.heap.size _ F us _ A1 c1 rfl hO (by rw [hul.out]; rfl) h3 (hr1.more hsz) (by rw [hul.out]; have := HTL2.out; omega) hsz ?_
               intro v7 w7 hO7 hB7))
          go_roundw
          case rel => exact ⟨j + 1, by omega, by go_num, hB.trans hB7, by rw [HS.out]; exact hO7⟩
          case measure => simp [intOf]; omega
        · obtain rfl : j = k := by omega
          rw [List.take_of_length_le (by rw [HPL.out]; exact Nat.le_refl _)] at hO
          obtain ⟨A', c', hv, h1, h2, h3, h4⟩ := hO.form2
          rw [HFL.out] at hv h1
          subst hv
          go_wp2
          go_ret
          exact ⟨A', c', rfl, h3, h1, h2, h4, hB⟩
end Go.Proofs.YtdaieklimdhkoaaDoor
namespace Go.Proofs.YtdaieklimdhkoaaDoor
open Go.ChangeShapes Go.WideShapes Go.ChangeAt Go.RowKit

theorem own : ownKnob Tryd.prog.godebug = none := by kernel_rfl
theorem laidOut : laidOutB Tryd.prog = true := by kernel_rfl

/-- All arguments read as they did where nothing old has turned. -/
theorem trodAll_below {H : Type} {enc : TypeId × Value → H} {P : Program} (hl : laidOutB P = true) {W W' : World} (hb : Below W.heap.size W W') :
    ∀ (ts : List TypeId) (vs : List Value) (ds : List (DataW H)) (ps : List MemPlace), (ts.all fun t => P.readableRec t && decide (t < P.types.size)) = true → (∀ x ∈ ps, x.block < W.heap.size) →
      DataW.TrodAll enc P W 0 (fun _ => true) true ts vs ds ps → DataW.TrodAll enc P W' 0 (fun b => decide (b < W.heap.size)) true ts vs ds ps
  | [], [], [], ps, _, _, h => h
  | t :: ts, v :: vs, d :: ds, ps, hr, hlt, ⟨p, q, h1, h2, h3⟩ => by
    subst h3
    rw [List.all_cons, Bool.and_eq_true, Bool.and_eq_true] at hr
    exact ⟨p, q, Below.trod hl hr.1.1 (of_decide_eq_true hr.1.2) h1 hb (fun x hx => hlt x (List.mem_append_left _ hx)),
      trodAll_below hl hb ts vs ds q hr.2 (fun x hx => hlt x (List.mem_append_right _ hx)) h2, rfl⟩

/-- A law's last step. -/
theorem law_post {H : Type} {enc : TypeId × Value → H} {P : Program} {f : Func} {s : ChangeSpec} {tb : TypeId} {W W' : World} {args : Array Value} {ds gs : List (DataW H)} {before : List MemPlace}
    (hl : laidOutB P = true) (hbool : P.underlying tb = some .bool) (hres : f.resultTypes = #[tb]) (hts : (f.params.toList.all fun t => P.readableRec t && decide (t < P.types.size)) = true) (hvars : s.vars = [])
    (hfn : (s.fn H ds).results = [.lit (.bool true)] ∧ (s.fn H ds).args = ds ∧ (s.fn H ds).vars = [])
    (hW : DataW.Whole enc P f.params.toList s.vars false W args.toList ds gs before) (hb : Below W.heap.size W W') :
    s.post enc P f false true false false W args (.bool true) W' := by
  have hlt : ∀ p ∈ before, p.block < W.heap.size := fun p hp => hW.lt p hp
  have hW' := hW
  obtain ⟨p, q, hA, hV, rfl, hfz, hnd⟩ := hW
  rw [hvars] at hV
  obtain ⟨rfl, rfl⟩ := trodVars_none hV
  have e : ds ++ [] = ds := List.append_nil _
  refine ⟨ds, [], _, [], p, [], hW', ?_, ?_, ?_, hb.frame _ |> World.keptBut_mono (fun x hx => ⟨hx, .inr (.inl (by simpa using hx))⟩), fun h => by cases h⟩
  · rw [e, hfn.1, hres]; exact trodAll_mk1 (shut_bool hbool _)
  · rw [e, hfn.2.1]; exact trodAll_below hl hb _ _ _ _ hts (fun x hx => hlt x (by simpa using hx)) hA
  · rw [e, hfn.2.2, hvars]; rfl

theorem word32 {n : Int} (h : (Lit.int .u32 n).wf = true) : ∃ x : BitVec 32, n = (x.toNat : Int) := by
  have := bounds_u32 h
  exact ⟨BitVec.ofNat 32 n.toNat, by rw [BitVec.toNat_ofNat]; omega⟩
theorem word64 {n : Int} (h : (Lit.int .u64 n).wf = true) : ∃ x : BitVec 64, n = (x.toNat : Int) := by
  have := bounds_u64 h
  exact ⟨BitVec.ofNat 64 n.toNat, by rw [BitVec.toNat_ofNat]; omega⟩

/-- An array of integers that comes in by value. -/
theorem open_intarr {H : Type} {enc : TypeId × Value → H} {P : Program} {W : World} {r : Reach} {b0 base : Nat} {spare : Nat → Bool} {held : Bool} {t e : TypeId} {n : Nat} {k : IntKind} {v : Value} {d : DataW H} {p : List MemPlace}
    (ht : P.underlying t = some (.array n e)) (he : P.underlying e = some (.int k)) (hc : P.cellsOf e = 1) (hC : P.cellsOf t = n)
    (hv : Value.okWide P W r b0 t v) (h : DataW.Trod enc P W base spare held t v d p) :
    ∃ zs : List Int, v = .agg (zs.map (Value.int k)).toArray ∧ zs.length = n ∧ ∀ z ∈ zs, (Lit.int k z).wf = true := by
  simp only [Value.okWide, ht] at hv
  obtain ⟨⟨cs⟩, rfl, hsz, _⟩ := hv
  obtain ⟨fuel, hf⟩ := h
  obtain ⟨xs, m, rfl, hx, hl, hn, hel⟩ := DataW.trod_array ht hf
  simp only [Value.cells] at hl hel
  rw [hC] at hl
  have hi : ∀ i, i < n → ∃ z, cs[i]? = some (.int k z) ∧ (Lit.int k z).wf = true := by
    intro i hi
    have h1 := hel i hi
    rw [hc, Nat.mul_one, List.getElem?_eq_getElem (by omega)] at h1
    obtain ⟨z, e1, _, e3⟩ := DataW.trod_int he h1
    refine ⟨z, ?_, e3⟩
    have e4 : ((cs.drop i).take 1)[0]? = some (.int k z) := by rw [e1]; rfl
    simpa using e4
  refine ⟨cs.map fun c => intOf c, ?_, by simpa using hl, ?_⟩
  · congr 1
    simp only [List.map_map]
    congr 1
    refine List.ext_getElem? fun i => ?_
    rw [List.getElem?_map]
    by_cases h : i < n
    · obtain ⟨z, hz, _⟩ := hi i h
      rw [hz]; rfl
    · rw [List.getElem?_eq_none (by omega)]; rfl
  · intro z hz
    obtain ⟨c, hc1, rfl⟩ := List.mem_map.1 hz
    obtain ⟨i, hi1, hi2⟩ := List.getElem_of_mem hc1
    obtain ⟨z, hz1, hz2⟩ := hi i (by omega)
    rw [List.getElem?_eq_getElem hi1, hi2] at hz1
    cases hz1
    exact hz2
end Go.Proofs.YtdaieklimdhkoaaDoor
namespace Go.Proofs.YtdaieklimdhkoaaDoor
open Go.ChangeShapes Go.WideShapes Go.ChangeAt Go.RowKit
theorem cells_u8 : Tryd.prog.cellsOf 5 = 1 := by kernel_rfl
set_option maxRecDepth 100000 in
/-- A slice of bytes that comes in. -/
theorem open_bytes {H : Type} {enc : TypeId × Value → H} {W : World} {r : Reach} {b0 : Nat} {v : Value} {d : DataW H} {p : List MemPlace} (hv : Value.okWide Tryd.prog W r b0 24 v) (h : DataW.Trod enc Tryd.prog W 0 (fun _ => true) true 24 v d p) :
    ∃ A c bs, v = .slice A bs.length c ∧ (A = none → c = 0) ∧ Row W W.heap.size A bs ∧ bs.length ≤ c ∧ c ≤ maxLen := by
  obtain ⟨a0, len, cap, rfl⟩ := okWide_slice Tryd.underlying24 hv
  obtain ⟨fuel, hf⟩ := h
  rcases open_ints Tryd.underlying24 Tryd.underlying5 cells_u8 hf with ⟨hcs, _⟩ | ⟨x, l, c, zs, hcs, _, hl, hm, hz, _, hcell, hwz⟩
  · simp [Value.cells] at hcs
    obtain ⟨rfl, rfl, rfl⟩ := hcs
    exact ⟨none, 0, [], rfl, fun _ => rfl, .inl rfl, Nat.le_refl _, Nat.zero_le _⟩
  · simp [Value.cells] at hcs
    obtain ⟨rfl, rfl, rfl⟩ := hcs
    simp only [if_true] at hz
    refine ⟨some x, cap, (zs.take len).map fun z => UInt8.ofNat z.toNat, ?_, (fun h => by cases h), ?_, ?_, hm⟩
    · simp; omega
    · by_cases h0 : len = 0
      · subst h0; exact .inl (by simp)
      · obtain ⟨b, off, rfl, hc⟩ := ints_at hcell (by omega)
        have hlt := block_lt_of_cell (hc 0 (by omega))
        refine .inr ⟨b, off, rfl, hlt, fun j u hu => ?_⟩
        rw [List.getElem?_map] at hu
        have hj : j < len := by
          rcases Nat.lt_or_ge j len with h | h
          · exact h
          · rw [List.getElem?_eq_none (by rw [List.length_take]; omega)] at hu; cases hu
        have hjz : j < zs.length := by omega
        rw [List.getElem?_take_of_lt hj, List.getElem?_eq_getElem hjz] at hu
        simp only [Option.map_some, Option.some.injEq] at hu
        have hb := bounds_u8 (hwz zs[j] (List.getElem_mem _))
        rw [hc j hjz, ← hu]
        simp only [cellOf, UInt8.toNat_ofNat']
        simp [List.getD, hjz]
        omega
    · simp; omega
/-- The errors as the program's text lays them. -/
def errTexts : List (String × List UInt8) := [("fellowship/api.ErrRange", [102, 101, 108, 108, 111, 119, 115, 104, 105, 112, 58, 32, 114, 97, 110, 103, 101]), ("fellowship/api.ErrShort", [102, 101, 108, 108, 111, 119, 115, 104, 105, 112, 58, 32, 115, 104, 111, 114, 116]), ("fellowship/api.ErrLong", [102, 101, 108, 108, 111, 119, 115, 104, 105, 112, 58, 32, 108, 111, 110, 103]), ("fellowship/api.ErrForm", [102, 101, 108, 108, 111, 119, 115, 104, 105, 112, 58, 32, 102, 111, 114, 109]), ("fellowship/api.ErrKey", [102, 101, 108, 108, 111, 119, 115, 104, 105, 112, 58, 32, 107, 101, 121]), ("fellowship/api.ErrSign", [102, 101, 108, 108, 111, 119, 115, 104, 105, 112, 58, 32, 115, 105, 103, 110]), ("fellowship/api.ErrSeal", [102, 101, 108, 108, 111, 119, 115, 104, 105, 112, 58, 32, 115, 101, 97, 108]), ("fellowship/api.ErrEpoch", [102, 101, 108, 108, 111, 119, 115, 104, 105, 112, 58, 32, 101, 112, 111, 99, 104]), ("fellowship/api.ErrGroup", [102, 101, 108, 108, 111, 119, 115, 104, 105, 112, 58, 32, 103, 114, 111, 117, 112]), ("fellowship/api.ErrSender", [102, 101, 108, 108, 111, 119, 115, 104, 105, 112, 58, 32, 115, 101, 110, 100, 101, 114]), ("fellowship/api.ErrLeaf", [102, 101, 108, 108, 111, 119, 115, 104, 105, 112, 58, 32, 108, 101, 97, 102]), ("fellowship/api.ErrOffer", [102, 101, 108, 108, 111, 119, 115, 104, 105, 112, 58, 32, 111, 102, 102, 101, 114]), ("fellowship/api.ErrPath", [102, 101, 108, 108, 111, 119, 115, 104, 105, 112, 58, 32, 112, 97, 116, 104]), ("fellowship/api.ErrTag", [102, 101, 108, 108, 111, 119, 115, 104, 105, 112, 58, 32, 116, 97, 103]), ("fellowship/api.ErrNone", [102, 101, 108, 108, 111, 119, 115, 104, 105, 112, 58, 32, 110, 111, 110, 101]), ("fellowship/api.ErrRemoved", [102, 101, 108, 108, 111, 119, 115, 104, 105, 112, 58, 32, 114, 101, 109, 111, 118, 101, 100]), ("fellowship/api.ErrFull", [102, 101, 108, 108, 111, 119, 115, 104, 105, 112, 58, 32, 102, 117, 108, 108]), ("fellowship/api.ErrState", [102, 101, 108, 108, 111, 119, 115, 104, 105, 112, 58, 32, 115, 116, 97, 116, 101]), ("fellowship/api.ErrTwice", [102, 101, 108, 108, 111, 119, 115, 104, 105, 112, 58, 32, 116, 119, 105, 99, 101])]
theorem errs_of {W : World} (h : laidMetH Tryd.prog (errTexts.map fun x => (x.1, .iface "*errors.errorString" (.ptr (.agg [.lit (.string x.2)])))) W) : ∃ es, Errs W es := by
  rw [MakeChecks.laidMetH_plain _ _ _ (by kernel_rfl)] at h
  obtain ⟨ps, hv, hnd, hrows⟩ := h
  obtain ⟨es, h1, h2, _, h4⟩ := sentinels errTexts errVars ps (by kernel_rfl) (fun g hg => by
    have hall : (errVars.all fun g => ((Tryd.prog.globals[g]?).map (·.type)) == some 30) = true := by kernel_rfl
    simpa using List.all_eq_true.1 hall g hg) hv hnd hrows
  exact ⟨es, h1, h2, h4⟩
end Go.Proofs.YtdaieklimdhkoaaDoor
namespace Go.Proofs.YtdaieklimdhkoaaDoor
open Go.ChangeShapes Go.WideShapes Go.ChangeAt Go.RowKit
theorem var_lt {W : World} {name : String} {g : Nat} {cs : Array Value} {v : Value} (hg : Tryd.prog.globalNamed name = some g) (hv : W.var? Tryd.prog name = some cs) (h0 : cs[0]? = some v) : g < W.heap.size := by
  have h := World.var?_cell hg hv 0
  rw [h0] at h
  exact block_lt_of_cell (a := ⟨g, 0, none⟩) (by simpa using h)
theorem var_there {W : World} {name : String} {g : Nat} {cs : Array Value} (hg : Tryd.prog.globalNamed name = some g) (hv : W.var? Tryd.prog name = some cs) : g < W.heap.size := by
  rcases Nat.lt_or_ge g W.heap.size with h | h
  · exact h
  · simp [World.var?, hg, Array.getElem?_eq_none h] at hv
theorem row_of_ints {W : World} {a : Addr} {L : Nat} {zs : List Int} (hl : L ≤ zs.length) (hw : ∀ n ∈ zs, (Lit.int .u8 n).wf = true) (hc : ∀ i, i < zs.length → W.cell? (a.add i) = some (.int .u8 (zs.getD i 0))) :
    Row W W.heap.size (some a) ((zs.take L).map fun z => UInt8.ofNat z.toNat) := by
  by_cases h0 : L = 0
  · subst h0; exact .inl (by simp)
  · obtain ⟨b, off, rfl, hc2⟩ := ints_at hc (by omega)
    have hlt := block_lt_of_cell (hc2 0 (by omega))
    refine .inr ⟨b, off, rfl, hlt, fun j u hu => ?_⟩
    rw [List.getElem?_map] at hu
    have hj : j < L := by
      rcases Nat.lt_or_ge j L with h | h
      · exact h
      · rw [List.getElem?_eq_none (by rw [List.length_take]; omega)] at hu; cases hu
    have hjz : j < zs.length := by omega
    rw [List.getElem?_take_of_lt hj, List.getElem?_eq_getElem hjz] at hu
    simp only [Option.map_some, Option.some.injEq] at hu
    have hb := bounds_u8 (hw zs[j] (List.getElem_mem _))
    rw [hc2 j hjz, ← hu]
    simp only [cellOf, UInt8.toNat_ofNat']
    simp [List.getD, hjz]
    omega
theorem cells_bs : Tryd.prog.cellsOf 24 = 1 := by kernel_rfl
set_option maxRecDepth 100000 in
/-- A slice of slices of bytes that comes in. -/
theorem open_parts {H : Type} {enc : TypeId × Value → H} {W : World} {r : Reach} {b0 : Nat} {v : Value} {d : DataW H} {p : List MemPlace} (hv : Value.okWide Tryd.prog W r b0 58 v) (h : DataW.Trod enc Tryd.prog W 0 (fun _ => true) true 58 v d p) :
    ∃ D c ps, v = .slice D ps.length c ∧ Parts W W.heap.size D ps ∧ ps.length ≤ c ∧ c ≤ maxLen := by
  obtain ⟨a0, len, cap, rfl⟩ := okWide_slice Tryd.underlying58 hv
  obtain ⟨fuel, hf⟩ := h
  rcases Go.Deep.open_int_rows Tryd.underlying58 Tryd.underlying24 Tryd.underlying5 cells_bs cells_u8 hf with ⟨hcs, _⟩ | ⟨a, l, c, A, L, C, Z, hcs, _, hl, hm, _, hr⟩
  · simp [Value.cells] at hcs
    obtain ⟨rfl, rfl, rfl⟩ := hcs
    exact ⟨none, 0, [], rfl, .inl rfl, Nat.le_refl _, Nat.zero_le _⟩
  · simp [Value.cells] at hcs
    obtain ⟨rfl, rfl, rfl⟩ := hcs
    refine ⟨some a, cap, (List.range len).map fun r => ((Z r).take (L r)).map fun z => UInt8.ofNat z.toNat, by simp, ?_, by simpa using hl, hm⟩
    by_cases h0 : len = 0
    · subst h0; exact .inl (by simp)
    · obtain ⟨b, off, spot⟩ := a
      have hspot : spot = none := by simpa [Addr.add] using World.cell?_spot (hr 0 (by omega)).1
      subst hspot
      have hlt := block_lt_of_cell (hr 0 (by omega)).1
      refine .inr ⟨b, off, rfl, by simpa [Addr.add] using hlt, fun j us hu => ?_⟩
      have hj : j < len := by
        rcases Nat.lt_or_ge j len with h | h
        · exact h
        · rw [List.getElem?_eq_none (by simpa using h)] at hu; cases hu
      rw [List.getElem?_map, List.getElem?_range hj] at hu
      simp only [Option.map_some, Option.some.injEq] at hu
      subst hu
      obtain ⟨h1, h2, h3, h4, h5, h6, h7⟩ := hr j (by omega)
      rw [Go.WideShapes.add_plain] at h1
      have hlen : (((Z j).take (L j)).map fun z => UInt8.ofNat z.toNat).length = L j := by simp; omega
      refine ⟨_, h1, A j, C j, by rw [hlen], ?_, by rw [hlen]; exact h2, h3, h6⟩
      cases hA : A j with
      | none =>
        have := h6 hA
        exact .inl (List.eq_nil_of_length_eq_zero (by rw [hlen]; omega))
      | some a' => exact row_of_ints (by omega) h5 (fun i hi => (h7 a' hA).2 i (by omega))
/-- A list of laid variables in two parts. -/
theorem laid_split {W : World} : ∀ (l1 l2 : List (String × DataW Unit)) (ps : List MemPlace), DataW.LaidVars Tryd.prog W (l1 ++ l2) ps → ∃ p1 p2, ps = p1 ++ p2 ∧ DataW.LaidVars Tryd.prog W l1 p1 ∧ DataW.LaidVars Tryd.prog W l2 p2
  | [], l2, ps, h => ⟨[], ps, rfl, rfl, h⟩
  | x :: l1, l2, ps, h => by
    obtain ⟨g, t, cs, f, p, q, h1, h2, h3, h4, h5, rfl⟩ := h
    obtain ⟨p1, p2, rfl, h6, h7⟩ := laid_split l1 l2 q h5
    exact ⟨_, p2, by simp only [List.append_assoc], ⟨g, t, cs, f, p, p1, h1, h2, h3, h4, h6, rfl⟩, h7⟩
theorem errs_vars {W : World} {ps : List MemPlace} (hv : DataW.LaidVars Tryd.prog W (errTexts.map fun x => (x.1, .iface "*errors.errorString" (.ptr (.agg [.lit (.string x.2)])))) ps) (hnd : ps.Nodup)
    (hrows : ∀ b off, MemPlace.cell b off ∈ ps → (∃ c t, W.heap[b]? = some (.cells c t (0, 0))) ∧ ∀ u v, W.cell? ⟨b, off, none⟩ = some (.iface u v) → Value.okWide Tryd.prog W .any 0 u v) : ∃ es, Errs W es := by
  obtain ⟨es, h1, h2, _, h4⟩ := sentinels errTexts errVars ps (by kernel_rfl) (fun g hg => by
    have hall : (errVars.all fun g => ((Tryd.prog.globals[g]?).map (·.type)) == some 30) = true := by kernel_rfl
    simpa using List.all_eq_true.1 hall g hg) hv hnd hrows
  exact ⟨es, h1, h2, h4⟩
end Go.Proofs.YtdaieklimdhkoaaDoor
namespace Go.Proofs.YtdaieklimdhkoaaDoor
open Go.ChangeShapes Go.WideShapes Go.ChangeAt Go.RowKit
set_option maxRecDepth 100000 in
/-- A slice of bytes, by its cells. -/
theorem cells_bytes {H : Type} {enc : TypeId × Value → H} {W : World} {fuel : Nat} {cs : List Value} {x : DataW H × List MemPlace} (hf : DataW.trod enc Tryd.prog W 0 (fun _ => true) true fuel 24 cs = some x) :
    ∃ A c bs, cs = [.slice A bs.length c] ∧ (A = none → c = 0) ∧ Row W W.heap.size A bs ∧ bs.length ≤ c ∧ c ≤ maxLen := by
  rcases open_ints Tryd.underlying24 Tryd.underlying5 cells_u8 hf with ⟨hcs, _⟩ | ⟨x, l, c, zs, hcs, _, hl, hm, hz, _, hcell, hwz⟩
  · exact ⟨none, 0, [], hcs, fun _ => rfl, .inl rfl, Nat.le_refl _, Nat.zero_le _⟩
  · simp only [if_true] at hz
    have hlen : ((zs.take l).map fun z => UInt8.ofNat z.toNat).length = l := by simp; omega
    exact ⟨some x, c, (zs.take l).map fun z => UInt8.ofNat z.toNat, by rw [hlen]; exact hcs, (fun h => by cases h), row_of_ints (by omega) hwz hcell, by rw [hlen]; exact hl, hm⟩
/-- An array of integers, by its cells. -/
theorem cells_ints {H : Type} {enc : TypeId × Value → H} {P : Program} {W : World} {base : Nat} {spare : Nat → Bool} {held : Bool} {fuel : Nat} {t e : TypeId} {n : Nat} {k : IntKind} {cs : List Value} {x : DataW H × List MemPlace}
    (ht : P.underlying t = some (.array n e)) (he : P.underlying e = some (.int k)) (hc : P.cellsOf e = 1) (hC : P.cellsOf t = n) (hf : DataW.trod enc P W base spare held fuel t cs = some x) :
    ∃ zs : List Int, cs = zs.map (Value.int k) ∧ zs.length = n ∧ ∀ z ∈ zs, (Lit.int k z).wf = true := by
  obtain ⟨xs, m, rfl, hx, hl, hn, hel⟩ := DataW.trod_array ht hf
  rw [hC] at hl
  have hi : ∀ i, i < n → ∃ z, cs[i]? = some (.int k z) ∧ (Lit.int k z).wf = true := by
    intro i hi
    have h1 := hel i hi
    rw [hc, Nat.mul_one, List.getElem?_eq_getElem (by omega)] at h1
    obtain ⟨z, e1, _, e3⟩ := DataW.trod_int he h1
    refine ⟨z, ?_, e3⟩
    have e4 : ((cs.drop i).take 1)[0]? = some (.int k z) := by rw [e1]; rfl
    simpa using e4
  refine ⟨cs.map fun c => intOf c, ?_, by simpa using hl, ?_⟩
  · simp only [List.map_map]
    refine List.ext_getElem? fun i => ?_
    rw [List.getElem?_map]
    by_cases h : i < n
    · obtain ⟨z, hz, _⟩ := hi i h
      rw [hz]; rfl
    · rw [List.getElem?_eq_none (by omega)]; rfl
  · intro z hz
    obtain ⟨c, hc1, rfl⟩ := List.mem_map.1 hz
    obtain ⟨i, hi1, hi2⟩ := List.getElem_of_mem hc1
    obtain ⟨z, hz1, hz2⟩ := hi i (by omega)
    rw [List.getElem?_eq_getElem hi1, hi2] at hz1
    cases hz1
    exact hz2
/-- Integers that are bytes, as bytes. -/
theorem bytes_of_ints (zs : List Int) (hw : ∀ z ∈ zs, (Lit.int .u8 z).wf = true) : ∃ bs : List UInt8, zs.map (Value.int .u8) = bs.map cellOf ∧ bs.length = zs.length := by
  refine ⟨zs.map fun z => UInt8.ofNat z.toNat, ?_, by simp⟩
  rw [List.map_map]
  refine List.map_congr_left fun z hm => ?_
  have hb := bounds_u8 (hw z hm)
  show Value.int .u8 z = cellOf (UInt8.ofNat z.toNat)
  unfold cellOf
  rw [UInt8.toNat_ofNat']
  congr 1
  omega
/-- Integers that are words, as words. -/
theorem words_of_ints (zs : List Int) (hw : ∀ z ∈ zs, (Lit.int .u32 z).wf = true) : ∃ l : List (BitVec 32), zs.map (Value.int .u32) = l.map wcell ∧ l.length = zs.length := by
  refine ⟨zs.map fun z => BitVec.ofNat 32 z.toNat, ?_, by simp⟩
  rw [List.map_map]
  refine List.map_congr_left fun z hm => ?_
  have hb := bounds_u32 (hw z hm)
  show Value.int .u32 z = wcell (BitVec.ofNat 32 z.toNat)
  unfold wcell
  rw [BitVec.toNat_ofNat]
  congr 1
  omega
end Go.Proofs.YtdaieklimdhkoaaDoor
namespace Go.Proofs.YtdaieklimdhkoaaDoor
open Go.ChangeShapes Go.WideShapes Go.ChangeAt Go.RowKit
set_option maxRecDepth 100000 in
/-- An array of 32 bytes, a key, that comes in by value. -/
theorem open_key {H : Type} {enc : TypeId × Value → H} {W : World} {r : Reach} {b0 : Nat} {v : Value} {d : DataW H} {p : List MemPlace} (hv : Value.okWide Tryd.prog W r b0 23 v) (h : DataW.Trod enc Tryd.prog W 0 (fun _ => true) true 23 v d p) : ∃ s : List UInt8, v = hashVal s ∧ s.length = 32 := by
  obtain ⟨zs, rfl, hz, hw⟩ := open_intarr Tryd.underlying23 Tryd.underlying5 cells_u8 (by kernel_rfl) hv h
  obtain ⟨bs, h1, h2⟩ := bytes_of_ints zs hw
  exact ⟨bs, by unfold hashVal; rw [h1], by omega⟩
theorem zero_key : ∀ w, (zeroValue 23).run Tryd.prog w = .ok (.agg (List.replicate 32 (cellOf 0)).toArray) w := (zero_of_info (P := Tryd.prog) (t := 23) (v := .agg (List.replicate 32 (cellOf 0)).toArray) (n := 32) (by kernel_rfl)).1
theorem size_key : (Tryd.prog.info? 23).map (·.size) = some 32 := by kernel_rfl
end Go.Proofs.YtdaieklimdhkoaaDoor
