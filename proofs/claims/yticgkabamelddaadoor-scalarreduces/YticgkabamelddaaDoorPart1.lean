/- Part 1 of what the laws of this seat share: WMem, PMath, WMath, WTurns, WBig, WRows, WMix, WApp, WErr, WNum, WPut. -/
import Derived.WalkKit
import Derived.Lib.Hide
import Derived.WalkSmall
import Derived.Deep.Draws
import Derived.Laws.BytesArg
import Derived.WalkMore
import Derived.ScopeJumps
import Derived.Below
import Derived.Laws.OwnMore
import Derived.Laws.Rows
import Derived.Test.YticgkabamelddaaDoorProg
import Derived.BigQuiet
import Derived.Deep.QuietTactic
import Derived.StillTailTactics
import Derived.Deep.RegionHeld3
import Derived.Laws.AppendOwnNone
import Derived.Deep.AppendLies
import Derived.Maps.AppendAt
import Derived.Test.YticgkabamelddaaDoorChecked
import Derived.LaidEql
import Derived.Stop.Asserts
import Derived.RowKitTokens
import Derived.LaidLaws
import Derived.Stop.LaidErr
import Derived.MakeChecks
import Derived.ProofKit
namespace Go.Proofs.YticgkabamelddaaDoor
open Go.RowKit
/-- A byte as a cell holds it. -/
abbrev cellOf (u : UInt8) : Value := .int .u8 (u.toNat : Int)
/-- The address A leads to the bytes bs, in a block below B (of no bytes: any address, none too). -/
def Row (w : World) (B : Nat) (A : Option Addr) (bs : List UInt8) : Prop :=
  bs = [] ∨ ∃ b off, A = some ⟨b, off, none⟩ ∧ b < B ∧ ∀ j u, bs[j]? = some u → w.cell? ⟨b, off + j, none⟩ = some (cellOf u)
section
variable {w w' : World} {B B' : Nat} {A : Option Addr} {bs : List UInt8}
theorem Row.nil : Row w B A [] := .inl rfl
theorem Row.at (h : Row w B A bs) (k : Nat) (hk : k < bs.length) : ∃ b off, A = some ⟨b, off, none⟩ ∧ b < B ∧ w.cell? ⟨b, off + k, none⟩ = some (cellOf bs[k]) := by
  rcases h with rfl | ⟨b, off, hA, hb, hc⟩
  · simp at hk
  · exact ⟨b, off, hA, hb, hc k _ (List.getElem?_eq_getElem hk)⟩
theorem Row.keep (h : Row w B A bs) (hk : ∀ p : Addr, p.block < B → w'.cell? p = w.cell? p) : Row w' B A bs := by
  rcases h with rfl | ⟨b, off, hA, hb, hc⟩
  · exact .inl rfl
  · exact .inr ⟨b, off, hA, hb, fun j u hu => (hk _ hb).trans (hc j u hu)⟩
theorem Row.more (h : Row w B A bs) (hB : B ≤ B') : Row w B' A bs := by
  rcases h with rfl | ⟨b, off, hA, hb, hc⟩
  · exact .inl rfl
  · exact .inr ⟨b, off, hA, by omega, hc⟩
theorem Row.below (h : Row w B A bs) (hb : Below B w w') : Row w' B A bs := h.keep fun _ hp => hb.cell hp
theorem Row.drewN (h : Row w B A bs) (n : Nat) : Row (w.drewN n) B A bs := h
theorem Row.lt (h : Row w B A bs) (hB : B ≤ w.heap.size) : Row w w.heap.size A bs := h.more hB
theorem Row.take (h : Row w B A bs) (n : Nat) : Row w B A (bs.take n) := by
  rcases h with rfl | ⟨b, off, hA, hb, hc⟩
  · exact .inl (by simp)
  · refine .inr ⟨b, off, hA, hb, fun j u hu => hc j u ?_⟩
    rw [List.getElem?_take] at hu
    split at hu
    · exact hu
    · cases hu
end
/-- The text that bytes are. (Named, so that a walk leaves it whole.) -/
def str (bs : List UInt8) : ByteArray := ⟨bs.toArray⟩
theorem str_toList (bs : List UInt8) : (str bs).toList = bs := by
  unfold str; exact ByteArray.toList_mk bs
theorem str_beq (a b : List UInt8) : ((str a).toList == (str b).toList) = (a == b) := by rw [str_toList, str_toList]
/-- 'string(b)' of a row. -/
theorem Row.conv {P : Program} {w : World} {B : Nat} {A : Option Addr} {bs : List UInt8} (h : Row w B A bs) (c : Nat) {src e dst : TypeId} (hs : P.underlying src = some (.slice e)) (he : P.underlying e = some (.int .u8)) (hd : P.underlying dst = some .string) :
    (convert src dst (.slice A bs.length c)).run P w = .ok (.string (str bs)) w := by
  have hn : ∀ A : Option Addr, (convert src dst (.slice A 0 c)).run P w = .ok (.string (str [])) w := by
    intro A
    rw [run_convert_bytes_string w src dst e A 0 c hs he hd]
    cases A <;> simp [Conv.bytesToString, loadCells, str]
    all_goals rfl
  rcases h with rfl | ⟨b, off, rfl, hb, hc⟩
  · exact hn A
  · have := run_convert_bytes_arg (P := P) w src e hs he b off bs.length c (bs.map fun u => (u.toNat : Int)) (by simp) (fun i hi => by
      rw [hc i _ (List.getElem?_eq_getElem hi)]; simp [hi]) dst hd
    rw [this]
    congr 2
    simp [strOfNums, str, Function.comp_def]
/-- A scope with one label that is jumped back to: what holds at the label (J), the way from there on walked once, a measure that every pass lowers. -/
theorem wp_scope_once {P : Program} {c rest : Code} {Q : Exit → Act → World → Prop} {a : Act} {w : World} (l : Nat) (J : Act → World → Prop) (μ : Act → World → Nat) (hf : findLabel c l = some (Code.skip.seq rest))
    (first : Hid (∀ a w, J a w → rest.wp P (Exit.jump l J Q) a w) → c.wp P (Exit.jump l J Q) a w)
    (pass : ∀ a w, J a w → rest.wp P (Exit.jump l (fun a' w' => J a' w' ∧ μ a' w' < μ a w) Q) a w) : (Code.scope c).wp P Q a w :=
  wp_scope_jumps l J μ hf (first fun a w h => Code.wp_mono (fun e _ _ hq => by
    cases e <;> first | exact hq | exact ⟨hq.1, hq.2.1⟩) (pass a w h)) (fun a w h => wp_seq (wp_skip (pass a w h)))
/-- A row that the call itself has made: block g is just these bytes. -/
def Made (w : World) (g : Nat) (bs : List UInt8) : Prop := w.heap[g]? = some (.cells (bs.map cellOf).toArray 5 (0, 0))
theorem Made.cell {w : World} {g : Nat} {bs : List UInt8} (h : Made w g bs) (j : Nat) (hj : j < bs.length) : w.cell? ⟨g, j, none⟩ = some (cellOf bs[j]) := by
  rw [cell_of_row w g j _ _ _ h]
  simp [hj]
theorem Made.lt {w : World} {g : Nat} {bs : List UInt8} (h : Made w g bs) : g < w.heap.size := by
  rcases Nat.lt_or_ge g w.heap.size with hlt | hge
  · exact hlt
  · unfold Made at h; rw [Array.getElem?_eq_none hge] at h; cases h
theorem Made.row {w : World} {g B : Nat} {bs : List UInt8} (h : Made w g bs) (hB : g < B) : Row w B (some ⟨g, 0, none⟩) bs :=
  .inr ⟨g, 0, rfl, hB, fun j u hu => by
    have hj : j < bs.length := by
      rcases Nat.lt_or_ge j bs.length with h | h
      · exact h
      · rw [List.getElem?_eq_none h] at hu; cases hu
    rw [Nat.zero_add, h.cell j hj]
    rw [List.getElem?_eq_getElem hj] at hu
    cases hu; rfl⟩
theorem Made.below {w w' : World} {g B : Nat} {bs : List UInt8} (h : Made w g bs) (hb : Below B w w') (hg : g < B) : Made w' g bs := (hb.block g hg).trans h
theorem Made.frozen {w : World} {g : Nat} {bs : List UInt8} (h : Made w g bs) (j : Nat) : w.frozen? ⟨g, j, none⟩ = false := by
  unfold Made at h
  simp [World.frozen?, h]
theorem Made.set {w : World} {g : Nat} {bs : List UInt8} (h : Made w g bs) (j : Nat) (u : UInt8) : Made (w.setCell ⟨g, j, none⟩ (cellOf u)) g (bs.set j u) := by
  unfold Made at h ⊢
  simp [World.setCell, Array.getElem?_modify, h, List.map_set]
theorem Made.drew {w : World} {g : Nat} {bs : List UInt8} (h : Made w g bs) : Made w.drew g bs := h
theorem Made.drewN {w : World} {g : Nat} {bs : List UInt8} (h : Made w g bs) (n : Nat) : Made (w.drewN n) g bs := h
/-- A new row's cells. -/
def rowCells (bs : List UInt8) : Array Value := (bs.map cellOf).toArray
theorem Made.new (w : World) (bs : List UInt8) : Made (w.alloc (.cells (rowCells bs) 5)) w.heap.size bs := heap_alloc_new w _
theorem zeros_made (n : Nat) : madeCells (Value.int .u8 0).cells n = rowCells (List.replicate n 0) := by
  apply Array.ext_getElem?
  intro i
  simp only [madeCells, rowCells, Value.cells, List.map_replicate]
  by_cases h : i < n
  · simp [h, Nat.mod_one]
  · simp [h]
theorem below_then {a b c : World} (h : Below a.heap.size a b) (k : Below b.heap.size b c) : Below a.heap.size a c := h.trans (k.mono h.size)
/-- A row that stood stands in every world in which nothing old has turned. -/
theorem Row.on {w : World} {A : Option Addr} {bs : List UInt8} (h : Row w w.heap.size A bs) {w' : World} (hb : Below w.heap.size w w') : Row w' w'.heap.size A bs := (h.below hb).more hb.size
theorem below_redrew {B j k : Nat} {a w : World} (h : Below B a (w.drewN j)) : Below B a (w.drewN k) := ⟨h.os, h.tape, h.output, h.size, h.block⟩
end Go.Proofs.YticgkabamelddaaDoor
namespace Go.Proofs.YticgkabamelddaaDoor
open Go.RowKit
/-- The number of a row of digits (which may be 256 and above). -/
def dval : List Nat → Nat
  | [] => 0
  | x :: l => x + 256 * dval l
/-- A number's digits, no nought at the high end. -/
def digs (n : Nat) : List Nat := if h : n = 0 then [] else n % 256 :: digs (n / 256)
termination_by n
decreasing_by omega
theorem digs_zero : digs 0 = [] := by rw [digs]; simp
theorem digs_pos {n : Nat} (h : n ≠ 0) : digs n = n % 256 :: digs (n / 256) := by rw [digs]; simp [h]
theorem dval_digs (n : Nat) : dval (digs n) = n := by
  induction n using Nat.strongRecOn with
  | _ n ih =>
    by_cases h : n = 0
    · subst h; rw [digs_zero]; rfl
    · rw [digs_pos h, dval, ih (n / 256) (by omega)]
      omega
theorem digs_lt (n : Nat) : ∀ x ∈ digs n, x < 256 := by
  induction n using Nat.strongRecOn with
  | _ n ih =>
    by_cases h : n = 0
    · subst h; rw [digs_zero]; intro x hx; cases hx
    · rw [digs_pos h]
      intro x hx
      rcases List.mem_cons.1 hx with rfl | hx
      · omega
      · exact ih (n / 256) (by omega) x hx
theorem dval_append (a b : List Nat) : dval (a ++ b) = dval a + 256 ^ a.length * dval b := by
  induction a with
  | nil => simp [dval]
  | cons x a ih =>
    rw [List.cons_append, dval, dval, ih, List.length_cons, Nat.pow_succ, Nat.mul_add]
    rw [show 256 * (256 ^ a.length * dval b) = 256 ^ a.length * 256 * dval b by rw [Nat.mul_comm (256 ^ a.length) 256, Nat.mul_assoc]]
    omega
theorem dval_lt (a : List Nat) (h : ∀ x ∈ a, x < 256) : dval a < 256 ^ a.length := by
  induction a with
  | nil => simp [dval]
  | cons x a ih =>
    rw [dval, List.length_cons, Nat.pow_succ]
    have h1 := h x List.mem_cons_self
    have h2 := ih fun y hy => h y (List.mem_cons_of_mem _ hy)
    omega
/-- Noughts at the high end struck. -/
def dtrim (a : List Nat) : List Nat := (a.reverse.dropWhile (· == 0)).reverse
theorem dtrim_snoc (a : List Nat) (x : Nat) : dtrim (a ++ [x]) = if x = 0 then dtrim a else a ++ [x] := by
  unfold dtrim
  rw [List.reverse_append, List.reverse_singleton, List.singleton_append, List.dropWhile_cons]
  by_cases h : x = 0
  · simp [h]
  · simp [h]
theorem dtrim_nil : dtrim [] = [] := rfl
theorem digs_snoc : ∀ (a : List Nat) (x : Nat), (∀ y ∈ a, y < 256) → x < 256 → x ≠ 0 → digs (dval (a ++ [x])) = a ++ [x]
  | [], x, _, hx, h0 => by
    show digs (x + 256 * 0) = [x]
    rw [Nat.mul_zero, Nat.add_zero, digs_pos h0, show x / 256 = 0 by omega, digs_zero, Nat.mod_eq_of_lt hx]
  | y :: a, x, ha, hx, h0 => by
    have hy := ha y List.mem_cons_self
    have ih := digs_snoc a x (fun z hz => ha z (List.mem_cons_of_mem _ hz)) hx h0
    have hp : dval (a ++ [x]) ≠ 0 := by
      intro e
      rw [e, digs_zero] at ih
      simp at ih
    rw [List.cons_append, dval, digs_pos (by omega), show (y + 256 * dval (a ++ [x])) % 256 = y by omega, show (y + 256 * dval (a ++ [x])) / 256 = dval (a ++ [x]) by omega, ih]
/-- A row of digits below 256, its noughts at the high end struck, is its number's. -/
theorem dtrim_digs (a : List Nat) (h : ∀ x ∈ a, x < 256) : dtrim a = digs (dval a) := by
  rcases List.eq_nil_or_concat a with rfl | ⟨b, x, rfl⟩
  · rw [dtrim_nil]; exact digs_zero.symm
  · have hb : ∀ y ∈ b, y < 256 := fun y hy => h y (by simp [hy])
    have hx : x < 256 := h x (by simp)
    rw [List.concat_eq_append, dtrim_snoc]
    by_cases h0 : x = 0
    · have : b.length < (b.concat x).length := by simp
      rw [if_pos h0, dtrim_digs b hb, dval_append]
      simp [dval, h0]
    · rw [if_neg h0, digs_snoc b x hb hx h0]
termination_by a.length
theorem digs_length_le (n k : Nat) (h : n < 256 ^ k) : (digs n).length ≤ k := by
  induction k generalizing n with
  | zero =>
    have : n = 0 := by simpa using h
    subst this
    rw [digs_zero]; exact Nat.le_refl _
  | succ k ih =>
    by_cases h0 : n = 0
    · subst h0; rw [digs_zero]; exact Nat.zero_le _
    · rw [digs_pos h0, List.length_cons]
      have := ih (n / 256) (by rw [Nat.pow_succ] at h; omega)
      omega
theorem digs_length_gt (n k : Nat) (h : 256 ^ k ≤ n) : k < (digs n).length := by
  rcases Nat.lt_or_ge k (digs n).length with h1 | h1
  · exact h1
  · have h2 := dval_lt (digs n) (digs_lt n)
    rw [dval_digs] at h2
    have h3 : 256 ^ (digs n).length ≤ 256 ^ k := Nat.pow_le_pow_right (by omega) h1
    omega
theorem digs_eq_nil (n : Nat) : digs n = [] ↔ n = 0 := by
  constructor
  · intro h
    have := dval_digs n
    rw [h] at this
    exact this.symm
  · intro h; subst h; exact digs_zero
/-- 2^130 - 5. -/
def polyP : Nat := 2 ^ 130 - 5
/-- One step of the reduction keeps the rest. -/
theorem poly_step (n : Nat) : (n % 2 ^ 130 + n / 2 ^ 130 * 5) % polyP = n % polyP := by
  have h : n = n % 2 ^ 130 + n / 2 ^ 130 * 2 ^ 130 := by omega
  have e : n / 2 ^ 130 * 2 ^ 130 = n / 2 ^ 130 * 5 + n / 2 ^ 130 * polyP := by
    rw [← Nat.mul_add]
    rfl
  conv => rhs; rw [h, e, ← Nat.add_assoc, Nat.add_mul_mod_self_right]
theorem poly_less (n : Nat) (h : n / 2 ^ 130 ≠ 0) : n % 2 ^ 130 + n / 2 ^ 130 * 5 < n := by omega
/-- The last step. -/
theorem poly_last (n : Nat) (h : n / 2 ^ 130 = 0) : (if (n + 5) / 2 ^ 130 ≠ 0 then (n + 5) % 2 ^ 130 else n) = n % polyP := by
  have hp : polyP = 2 ^ 130 - 5 := rfl
  by_cases h5 : (n + 5) / 2 ^ 130 = 0
  · rw [if_neg (fun h => h h5), Nat.mod_eq_of_lt (by rw [hp]; omega)]
  · rw [if_pos h5, hp]
    omega
/- Carries: a row's digits made even. -/
theorem dval_drop (a : List Nat) (i : Nat) (h : i < a.length) : dval (a.drop i) = a[i] + 256 * dval (a.drop (i + 1)) := by
  rw [List.drop_eq_getElem_cons h, dval]
theorem dval_drop_end (a : List Nat) (i : Nat) (h : a.length ≤ i) : dval (a.drop i) = 0 := by rw [List.drop_eq_nil_of_le h]; rfl
theorem even_step (out : List Nat) (i o rest : Nat) (hl : out.length = i) : dval (out ++ [o % 256]) + 256 ^ (i + 1) * (o / 256 + rest) = dval out + 256 ^ i * (o + 256 * rest) := by
  have e : dval [o % 256] = o % 256 := by simp [dval]
  rw [dval_append, hl, e, Nat.pow_succ, Nat.mul_assoc, Nat.add_assoc, ← Nat.mul_add]
  congr 2
  omega
/- One digit raised. -/
theorem dval_set (l : List Nat) (i x : Nat) (h : i < l.length) : dval (l.set i (l[i] + x)) = dval l + 256 ^ i * x := by
  induction l generalizing i with
  | nil => simp at h
  | cons y l ih =>
    cases i with
    | zero => simp [dval]; omega
    | succ i =>
      have h2 : i < l.length := by simpa using h
      have e := ih i h2
      rw [List.set_cons_succ, dval, dval, List.getElem_cons_succ, e, Nat.pow_succ, Nat.mul_add]
      rw [show 256 * (256 ^ i * x) = 256 ^ i * 256 * x by rw [Nat.mul_comm (256 ^ i) 256, Nat.mul_assoc]]
      omega
theorem dval_zeros (n : Nat) : dval (List.replicate n 0) = 0 := by
  induction n with
  | zero => rfl
  | succ n ih => rw [List.replicate_succ, dval, ih]
theorem dval_take (a : List Nat) (i : Nat) (h : i < a.length) : dval (a.take (i + 1)) = dval (a.take i) + 256 ^ i * a[i] := by
  have e : a.take (i + 1) = a.take i ++ [a[i]] := (List.take_append_getElem h).symm
  rw [e, dval_append, List.length_take, Nat.min_eq_left (by omega)]
  simp [dval]
/- Two bits down. -/
def dshift : List Nat → List Nat
  | [] => []
  | x :: l => (x / 4 + l.headD 0 % 4 * 64) :: dshift l
theorem dshift_length : ∀ l, (dshift l).length = l.length
  | [] => rfl
  | x :: l => by rw [dshift, List.length_cons, List.length_cons, dshift_length l]
theorem dval_head (l : List Nat) : dval l % 4 = l.headD 0 % 4 := by
  cases l with
  | nil => rfl
  | cons x l => show (x + 256 * dval l) % 4 = x % 4; omega
theorem dshift_val : ∀ l : List Nat, dval (dshift l) = dval l / 4
  | [] => rfl
  | x :: l => by
    rw [dshift, dval, dval, dshift_val l, ← dval_head]
    omega
theorem dshift_lt (l : List Nat) (h : ∀ x ∈ l, x < 256) : ∀ x ∈ dshift l, x < 256 := by
  induction l with
  | nil => intro x hx; cases hx
  | cons y l ih =>
    intro x hx
    rw [dshift] at hx
    rcases List.mem_cons.1 hx with rfl | hx
    · have := h y List.mem_cons_self
      omega
    · exact ih (fun z hz => h z (List.mem_cons_of_mem _ hz)) x hx
theorem dshift_get (l : List Nat) (k : Nat) (h : k < l.length) : (dshift l)[k]'(by rw [dshift_length]; exact h) = l[k] / 4 + l.getD (k + 1) 0 % 4 * 64 := by
  induction l generalizing k with
  | nil => simp at h
  | cons y l ih =>
    cases k with
    | zero => cases l <;> simp [dshift, List.headD]
    | succ k =>
      have h2 : k < l.length := by simpa using h
      have := ih k h2
      simp only [dshift, List.getElem_cons_succ, List.getD_cons_succ]
      exact this
/-- A row's lower 130 bits, and those above. -/
theorem halved_low (a : List Nat) (h : 16 < a.length) (hl : ∀ x ∈ a, x < 256) : dval ((a.take 17).set 16 (a[16] % 4)) = dval a % 2 ^ 130 := by
  have e1 : (a.take 17).set 16 (a[16] % 4) = a.take 16 ++ [a[16] % 4] := by
    rw [show a.take 17 = a.take 16 ++ [a[16]] from (List.take_append_getElem h).symm, List.set_append_right _ _ (by rw [List.length_take]; omega), List.length_take, Nat.min_eq_left (by omega)]
    rfl
  have hlen : (a.take 16).length = 16 := by rw [List.length_take]; omega
  have e2 : dval a = dval (a.take 16) + 256 ^ 16 * (a[16] + 256 * dval (a.drop 17)) := by
    conv => lhs; rw [← List.take_append_drop 16 a]
    rw [dval_append, hlen, dval_drop a 16 h]
  have h3 := dval_lt (a.take 16) (fun x hx => hl x (List.mem_of_mem_take hx))
  rw [hlen] at h3
  rw [e1, dval_append, hlen, e2, show dval [a[16] % 4] = a[16] % 4 by simp [dval]]
  generalize dval (a.take 16) = u at *
  generalize dval (a.drop 17) = v at *
  generalize a[16] = t at *
  rw [show (256 : Nat) ^ 16 = 340282366920938463463374607431768211456 from rfl] at *
  rw [show (2 : Nat) ^ 130 = 1361129467683753853853498429727072845824 from rfl]
  omega
theorem halved_high (a : List Nat) (h : 16 < a.length) (hl : ∀ x ∈ a, x < 256) : dval (dshift (a.drop 16)) = dval a / 2 ^ 130 := by
  have hlen : (a.take 16).length = 16 := by rw [List.length_take]; omega
  have e2 : dval a = dval (a.take 16) + 256 ^ 16 * dval (a.drop 16) := by
    conv => lhs; rw [← List.take_append_drop 16 a]
    rw [dval_append, hlen]
  have h3 := dval_lt (a.take 16) (fun x hx => hl x (List.mem_of_mem_take hx))
  rw [hlen] at h3
  rw [dshift_val, e2]
  generalize dval (a.take 16) = u at *
  generalize dval (a.drop 16) = v at *
  rw [show (256 : Nat) ^ 16 = 340282366920938463463374607431768211456 from rfl] at *
  rw [show (2 : Nat) ^ 130 = 1361129467683753853853498429727072845824 from rfl]
  omega
end Go.Proofs.YticgkabamelddaaDoor
namespace Go.Proofs.YticgkabamelddaaDoor
theorem and31 (n : Int) : bits .and .u64 (IntKind.u64.wrap n) 31 = ((n % 32).toNat : Int) := by
  rw [IntKind.wrap_u64, u64_and _ _ (by omega) (by omega) (by omega) (by omega)]
  show (((n % 18446744073709551616).toNat &&& 31 : Nat) : Int) = _
  rw [nat_mask5]; omega
theorem and63 (n : Int) : bits .and .u64 (IntKind.u64.wrap n) 63 = ((n % 64).toNat : Int) := by
  rw [IntKind.wrap_u64, u64_and _ _ (by omega) (by omega) (by omega) (by omega)]
  show (((n % 18446744073709551616).toNat &&& 63 : Nat) : Int) = _
  rw [nat_mask6]; omega
theorem pow_cast (k : Nat) : ((2 : Int) ^ k) = ((2 ^ k : Nat) : Int) := by simp
theorem shl32 (x : BitVec 32) (k : Nat) : (x.toNat : Int) * 2 ^ k % 4294967296 = ((x <<< k).toNat : Int) := by
  rw [BitVec.toNat_shiftLeft, Nat.shiftLeft_eq, pow_cast, Int.natCast_emod, Int.natCast_mul]
  rfl
theorem shr32 (x : BitVec 32) (k : Nat) : (x.toNat : Int) / 2 ^ k = ((x >>> k).toNat : Int) := by
  rw [BitVec.toNat_ushiftRight, Nat.shiftRight_eq_div_pow, pow_cast, Int.natCast_ediv]
theorem or32 (x y : BitVec 32) : bits .or .u32 (x.toNat : Int) (y.toNat : Int) = ((x ||| y).toNat : Int) := by
  rw [u32_or_nat _ _ x.isLt y.isLt, BitVec.toNat_or]
theorem xor32 (x y : BitVec 32) : bits .xor .u32 (x.toNat : Int) (y.toNat : Int) = ((x ^^^ y).toNat : Int) := by
  rw [u32_xor_nat _ _ x.isLt y.isLt, BitVec.toNat_xor]
theorem and32 (x y : BitVec 32) : bits .and .u32 (x.toNat : Int) (y.toNat : Int) = ((x &&& y).toNat : Int) := by
  rw [u32_and_nat _ _ x.isLt y.isLt, BitVec.toNat_and]
theorem rotl32 (x : BitVec 32) (k : Nat) (hk : k < 32) : bits .or .u32 ((x.toNat : Int) * 2 ^ k % 4294967296) ((x.toNat : Int) / 2 ^ (32 - k)) = ((x.rotateLeft k).toNat : Int) := by
  rw [shl32, shr32, or32, BitVec.rotateLeft_def, Nat.mod_eq_of_lt hk]
theorem rotr32 (x : BitVec 32) (k : Nat) (hk : k < 32) : bits .or .u32 ((x.toNat : Int) / 2 ^ k) ((x.toNat : Int) * 2 ^ (32 - k) % 4294967296) = ((x.rotateRight k).toNat : Int) := by
  rw [shl32, shr32, or32, BitVec.rotateRight_def, Nat.mod_eq_of_lt hk]
theorem shl64 (x : BitVec 64) (k : Nat) : (x.toNat : Int) * 2 ^ k % 18446744073709551616 = ((x <<< k).toNat : Int) := by
  rw [BitVec.toNat_shiftLeft, Nat.shiftLeft_eq, pow_cast, Int.natCast_emod, Int.natCast_mul]
  rfl
theorem shr64 (x : BitVec 64) (k : Nat) : (x.toNat : Int) / 2 ^ k = ((x >>> k).toNat : Int) := by
  rw [BitVec.toNat_ushiftRight, Nat.shiftRight_eq_div_pow, pow_cast, Int.natCast_ediv]
theorem or64 (x y : BitVec 64) : bits .or .u64 (x.toNat : Int) (y.toNat : Int) = ((x ||| y).toNat : Int) := by
  rw [u64_or_nat _ _ x.isLt y.isLt, BitVec.toNat_or]
theorem xor64 (x y : BitVec 64) : bits .xor .u64 (x.toNat : Int) (y.toNat : Int) = ((x ^^^ y).toNat : Int) := by
  rw [u64_xor_nat _ _ x.isLt y.isLt, BitVec.toNat_xor]
theorem and64 (x y : BitVec 64) : bits .and .u64 (x.toNat : Int) (y.toNat : Int) = ((x &&& y).toNat : Int) := by
  rw [u64_and_nat _ _ x.isLt y.isLt, BitVec.toNat_and]
theorem rotl64 (x : BitVec 64) (k : Nat) (hk : k < 64) : bits .or .u64 ((x.toNat : Int) * 2 ^ k % 18446744073709551616) ((x.toNat : Int) / 2 ^ (64 - k)) = ((x.rotateLeft k).toNat : Int) := by
  rw [shl64, shr64, or64, BitVec.rotateLeft_def, Nat.mod_eq_of_lt hk]
theorem rotr64 (x : BitVec 64) (k : Nat) (hk : k < 64) : bits .or .u64 ((x.toNat : Int) / 2 ^ k) ((x.toNat : Int) * 2 ^ (64 - k) % 18446744073709551616) = ((x.rotateRight k).toNat : Int) := by
  rw [shl64, shr64, or64, BitVec.rotateRight_def, Nat.mod_eq_of_lt hk]
/-- A word's bits up to the i-th, each laid n places on, round in so many places. -/
def turnedTo (x : BitVec 64) (W n : Nat) : Nat → BitVec 64
  | 0 => 0#64
  | i + 1 => turnedTo x W n i + if x.getLsbD i then BitVec.twoPow 64 ((i + n) % W) else 0#64
theorem mod_apart (W n a i : Nat) (h1 : a < i) (h2 : i < W) : (a + n) % W ≠ (i + n) % W := by
  intro h
  have h3 := Nat.sub_mod_eq_zero_of_mod_eq h.symm
  rw [Nat.add_sub_add_right, Nat.mod_eq_of_lt (by omega)] at h3
  omega
theorem turnedTo_bit (x : BitVec 64) (W n : Nat) (hW : 0 < W) (hW' : W ≤ 64) : ∀ i, i ≤ W → ∀ j, (turnedTo x W n i).getLsbD j = decide (∃ a, a < i ∧ x.getLsbD a = true ∧ (a + n) % W = j) := by
  intro i
  induction i with
  | zero => intro _ j; simp [turnedTo]
  | succ i ih =>
    intro hi j
    have ih := ih (by omega)
    by_cases hb : x.getLsbD i = true
    · have he : (i + n) % W < W := Nat.mod_lt _ hW
      have hz : turnedTo x W n i &&& BitVec.twoPow 64 ((i + n) % W) = 0#64 := by
        apply BitVec.eq_of_getLsbD_eq
        intro j hj
        rw [BitVec.getLsbD_and, ih, BitVec.getLsbD_twoPow, BitVec.getLsbD_zero]
        by_cases hj2 : (i + n) % W = j
        · rw [decide_eq_false (p := ∃ a, _) (by rintro ⟨a, h1, _, h3⟩; exact mod_apart W n a i h1 (by omega) (h3.trans hj2.symm))]; rfl
        · simp [hj2]
      simp only [turnedTo, hb, if_true]
      rw [BitVec.add_eq_or_of_and_eq_zero _ _ hz, BitVec.getLsbD_or, ih, BitVec.getLsbD_twoPow, Bool.eq_iff_iff]
      simp only [Bool.or_eq_true, decide_eq_true_eq, Bool.and_eq_true]
      constructor
      · rintro (⟨a, h1, h2, h3⟩ | ⟨_, h⟩)
        · exact ⟨a, by omega, h2, h3⟩
        · exact ⟨i, by omega, hb, h⟩
      · rintro ⟨a, h1, h2, h3⟩
        by_cases e : a = i
        · subst e; exact .inr ⟨by omega, h3⟩
        · exact .inl ⟨a, by omega, h2, h3⟩
    · have hb' : x.getLsbD i = false := by simpa using hb
      simp only [turnedTo, hb', Bool.false_eq_true, if_false, BitVec.add_zero]
      rw [ih, Bool.eq_iff_iff]
      simp only [decide_eq_true_eq]
      constructor
      · rintro ⟨a, h1, h2, h3⟩; exact ⟨a, by omega, h2, h3⟩
      · rintro ⟨a, h1, h2, h3⟩
        by_cases e : a = i
        · subst e; rw [hb'] at h2; cases h2
        · exact ⟨a, by omega, h2, h3⟩
theorem rl_bit32 (x : BitVec 32) (r j : Nat) (hj : j < 32) : (x.rotateLeft r).getLsbD j = x.getLsbD ((j + (32 - r % 32)) % 32) := by
  rw [BitVec.getLsbD_rotateLeft]
  by_cases h : j < r % 32
  · rw [decide_eq_true h, cond_true]; congr 1; omega
  · rw [decide_eq_false h, cond_false, decide_eq_true hj, Bool.true_and]; congr 1; omega
theorem rr_bit32 (x : BitVec 32) (r j : Nat) (hj : j < 32) : (x.rotateRight r).getLsbD j = x.getLsbD ((j + r) % 32) := by
  rw [BitVec.getLsbD_rotateRight]
  by_cases h : j < 32 - r % 32
  · rw [decide_eq_true h, cond_true]; congr 1; omega
  · rw [decide_eq_false h, cond_false, decide_eq_true hj, Bool.true_and]; congr 1; omega
theorem rl_rl32 (x : BitVec 32) (a b c : Nat) (h : (a + b) % 32 = c % 32) : (x.rotateLeft a).rotateLeft b = x.rotateLeft c := by
  apply BitVec.eq_of_getLsbD_eq
  intro j hj
  rw [rl_bit32 _ _ _ hj, rl_bit32 _ _ _ (Nat.mod_lt _ (by decide)), rl_bit32 _ _ _ hj]
  congr 1; omega
theorem rr_rr32 (x : BitVec 32) (a b c : Nat) (h : (a + b) % 32 = c % 32) : (x.rotateRight a).rotateRight b = x.rotateRight c := by
  apply BitVec.eq_of_getLsbD_eq
  intro j hj
  rw [rr_bit32 _ _ _ hj, rr_bit32 _ _ _ (Nat.mod_lt _ (by decide)), rr_bit32 _ _ _ hj]
  congr 1; omega
theorem rr_rl32 (x : BitVec 32) (a b : Nat) (h : (a + b) % 32 = 0) : x.rotateRight a = x.rotateLeft b := by
  apply BitVec.eq_of_getLsbD_eq
  intro j hj
  rw [rr_bit32 _ _ _ hj, rl_bit32 _ _ _ hj]
  congr 1; omega
theorem rl_032 (x : BitVec 32) (a : Nat) (h : a % 32 = 0) : x.rotateLeft a = x := by
  apply BitVec.eq_of_getLsbD_eq
  intro j hj
  rw [rl_bit32 _ _ _ hj]
  congr 1; omega
theorem rl_bit64 (x : BitVec 64) (r j : Nat) (hj : j < 64) : (x.rotateLeft r).getLsbD j = x.getLsbD ((j + (64 - r % 64)) % 64) := by
  rw [BitVec.getLsbD_rotateLeft]
  by_cases h : j < r % 64
  · rw [decide_eq_true h, cond_true]; congr 1; omega
  · rw [decide_eq_false h, cond_false, decide_eq_true hj, Bool.true_and]; congr 1; omega
theorem rr_bit64 (x : BitVec 64) (r j : Nat) (hj : j < 64) : (x.rotateRight r).getLsbD j = x.getLsbD ((j + r) % 64) := by
  rw [BitVec.getLsbD_rotateRight]
  by_cases h : j < 64 - r % 64
  · rw [decide_eq_true h, cond_true]; congr 1; omega
  · rw [decide_eq_false h, cond_false, decide_eq_true hj, Bool.true_and]; congr 1; omega
theorem rl_rl64 (x : BitVec 64) (a b c : Nat) (h : (a + b) % 64 = c % 64) : (x.rotateLeft a).rotateLeft b = x.rotateLeft c := by
  apply BitVec.eq_of_getLsbD_eq
  intro j hj
  rw [rl_bit64 _ _ _ hj, rl_bit64 _ _ _ (Nat.mod_lt _ (by decide)), rl_bit64 _ _ _ hj]
  congr 1; omega
theorem rr_rr64 (x : BitVec 64) (a b c : Nat) (h : (a + b) % 64 = c % 64) : (x.rotateRight a).rotateRight b = x.rotateRight c := by
  apply BitVec.eq_of_getLsbD_eq
  intro j hj
  rw [rr_bit64 _ _ _ hj, rr_bit64 _ _ _ (Nat.mod_lt _ (by decide)), rr_bit64 _ _ _ hj]
  congr 1; omega
theorem rr_rl64 (x : BitVec 64) (a b : Nat) (h : (a + b) % 64 = 0) : x.rotateRight a = x.rotateLeft b := by
  apply BitVec.eq_of_getLsbD_eq
  intro j hj
  rw [rr_bit64 _ _ _ hj, rl_bit64 _ _ _ hj]
  congr 1; omega
theorem rl_064 (x : BitVec 64) (a : Nat) (h : a % 64 = 0) : x.rotateLeft a = x := by
  apply BitVec.eq_of_getLsbD_eq
  intro j hj
  rw [rl_bit64 _ _ _ hj]
  congr 1; omega
theorem turned32 (x : BitVec 32) (k : Nat) : turnedTo (x.setWidth 64) 32 k 32 = (x.rotateLeft k).setWidth 64 := by
  apply BitVec.eq_of_getLsbD_eq
  intro j hj
  rw [turnedTo_bit _ _ _ (by decide) (by decide) _ (Nat.le_refl _), BitVec.getLsbD_setWidth, Bool.eq_iff_iff]
  simp only [decide_eq_true_eq, Bool.and_eq_true, BitVec.getLsbD_setWidth]
  by_cases hj2 : j < 32
  · rw [rl_bit32 _ _ _ hj2]
    constructor
    · rintro ⟨a, h1, ⟨_, h2⟩, h3⟩
      have : (j + (32 - k % 32)) % 32 = a := by omega
      exact ⟨hj, by rw [this]; exact h2⟩
    · rintro ⟨_, h⟩
      exact ⟨_, Nat.mod_lt _ (by decide), ⟨by omega, h⟩, by omega⟩
  · constructor
    · rintro ⟨a, _, _, h3⟩; omega
    · rintro ⟨_, h⟩; rw [BitVec.getLsbD_of_ge _ _ (by omega)] at h; cases h
theorem turned64 (x : BitVec 64) (k : Nat) : turnedTo x 64 k 64 = x.rotateLeft k := by
  apply BitVec.eq_of_getLsbD_eq
  intro j hj
  rw [turnedTo_bit _ _ _ (by decide) (by decide) _ (Nat.le_refl _), rl_bit64 _ _ _ hj, Bool.eq_iff_iff]
  simp only [decide_eq_true_eq]
  constructor
  · rintro ⟨a, h1, h2, h3⟩
    have : (j + (64 - k % 64)) % 64 = a := by omega
    rw [this]; exact h2
  · intro h
    exact ⟨_, Nat.mod_lt _ (by decide), h, by omega⟩
theorem bit_and1 (x : BitVec 64) (k : Nat) : bits .and .u64 ((x.toNat : Int) / 2 ^ k) 1 = if x.getLsbD k then 1 else 0 := by
  have h1 : x.toNat / 2 ^ k ≤ x.toNat := Nat.div_le_self _ _
  have h2 := x.isLt
  rw [pow_cast, ← Int.natCast_ediv, show (1 : Int) = ((1 : Nat) : Int) from rfl, u64_and_nat _ _ (by omega) (by omega), nat_mask1, ← BitVec.testBit_toNat, Nat.testBit_eq_decide_div_mod_eq]
  have := Nat.mod_two_eq_zero_or_one (x.toNat / 2 ^ k)
  rcases this with h | h <;> rw [h] <;> simp
theorem turned_yes (x : BitVec 64) (W n k : Nat) (hW : 0 < W) (hW' : W ≤ 64) (h : (bits .and .u64 ((x.toNat : Int) / 2 ^ k) 1 == 1) = true) :
    IntKind.u64.wrap (((turnedTo x W n k).toNat : Int) + IntKind.u64.wrap (2 ^ min (IntKind.u64.wrap (((k : Int) + n) % W)).toNat 64)) = ((turnedTo x W n (k + 1)).toNat : Int) := by
  have hb : x.getLsbD k = true := by
    rw [bit_and1] at h
    cases hx : x.getLsbD k <;> simp [hx] at h ⊢
  have he : (k + n) % W < W := Nat.mod_lt _ hW
  have e1 : (IntKind.u64.wrap (((k : Int) + n) % W)).toNat = (k + n) % W := by
    rw [IntKind.wrap_u64, ← Int.natCast_add, ← Int.natCast_emod]; omega
  have hpl : 2 ^ ((k + n) % W) < 2 ^ 64 := Nat.pow_lt_pow_right (by decide) (by omega)
  simp only [turnedTo, hb, if_true]
  rw [e1, Nat.min_eq_left (by omega), BitVec.toNat_add, BitVec.toNat_twoPow, Nat.mod_eq_of_lt (a := 2 ^ _) hpl, pow_cast, IntKind.wrap_u64, IntKind.wrap_u64]
  generalize 2 ^ ((k + n) % W) = q at *
  have := (turnedTo x W n k).isLt
  generalize (turnedTo x W n k).toNat = r at *
  omega
theorem turned_no (x : BitVec 64) (W n k : Nat) (h : (bits .and .u64 ((x.toNat : Int) / 2 ^ k) 1 == 1) = false) : turnedTo x W n (k + 1) = turnedTo x W n k := by
  have hb : x.getLsbD k = false := by
    rw [bit_and1] at h
    cases hx : x.getLsbD k <;> simp [hx] at h ⊢
  simp [turnedTo, hb]
theorem tmod_cases (n : Int) (m : Nat) (hm : 0 < m) : (n.tmod m < 0 → n.tmod m + m = n % m) ∧ (0 ≤ n.tmod m → n.tmod m = n % m) := by
  have hp := Int.emod_nonneg n (b := m) (by omega)
  have hq := Int.emod_lt_of_pos n (b := m) (by omega)
  have hd := @Int.tmod_eq_emod n m
  by_cases c : 0 ≤ n ∨ (m : Int) ∣ n
  · rw [if_pos c] at hd
    exact ⟨fun h => by omega, fun _ => by omega⟩
  · rw [if_neg c] at hd
    exact ⟨fun _ => by omega, fun h => by omega⟩
/-- A word turned to the left (to the right) by any number of bits; by a number from 0 on. (Named, so that a walk leaves them whole.) -/
def rotL32 (x : BitVec 32) (n : Int) : BitVec 32 := x.rotateLeft (n % 32).toNat
def rotR32 (x : BitVec 32) (n : Int) : BitVec 32 := x.rotateRight (n % 32).toNat
def rotR64 (x : BitVec 64) (n : Int) : BitVec 64 := x.rotateRight (n % 64).toNat
def rotTo32 (x : BitVec 32) (n : Int) : BitVec 32 := x.rotateLeft n.toNat
def rotTo64 (x : BitVec 64) (n : Int) : BitVec 64 := x.rotateLeft n.toNat
theorem rotTo_left (x : BitVec 32) (n : Int) : rotTo32 x (n % 32) = rotL32 x n := rfl
theorem rotTo_right (x : BitVec 32) (n : Int) : rotTo32 x (32 - n % 32) = rotR32 x n := (rr_rl32 x _ _ (by omega)).symm
theorem rotTo_right64 (x : BitVec 64) (n : Int) : rotTo64 x (64 - n % 64) = rotR64 x n := (rr_rl64 x _ _ (by omega)).symm
theorem rotR_rotL (x : BitVec 32) (n : Int) : rotR32 (rotL32 x n) n = x := by
  unfold rotR32 rotL32
  rw [rr_rl32 _ (n % 32).toNat (32 - (n % 32).toNat) (by omega), rl_rl32 _ _ _ 0 (by omega), rl_032 _ _ (by omega)]
theorem rotL_rotR (x : BitVec 32) (n : Int) : rotL32 (rotR32 x n) n = x := by
  unfold rotR32 rotL32
  rw [rr_rl32 _ (n % 32).toNat (32 - (n % 32).toNat) (by omega), rl_rl32 _ _ _ 0 (by omega), rl_032 _ _ (by omega)]
theorem rotL_rotL (x : BitVec 32) (a b : Int) : rotL32 (rotL32 x a) b = rotL32 x (a + b) := rl_rl32 _ _ _ _ (by omega)
theorem rotR_rotR64 (x : BitVec 64) (a b : Int) : rotR64 (rotR64 x a) b = rotR64 x (a + b) := rr_rr64 _ _ _ _ (by omega)
theorem rotL_32 (x : BitVec 32) : rotL32 x 32 = x := rl_032 _ _ (by decide)
theorem rotR_64 (x : BitVec 64) : rotR64 x 64 = x := by
  unfold rotR64
  rw [rr_rl64 _ _ 0 (by decide), rl_064 _ _ (by decide)]
theorem rotR_rotL_neg (x : BitVec 32) (a : Int) : rotR32 x a = rotL32 x (-a) := rr_rl32 _ _ _ (by omega)
end Go.Proofs.YticgkabamelddaaDoor
namespace Go.Proofs.YticgkabamelddaaDoor
open Go.RowKit
theorem ret_int {k : IntKind} {a b : Int} (h : a = b) : Ending.returned (.int k a) = .returned (.int k b) := by rw [h]
end Go.Proofs.YticgkabamelddaaDoor
namespace Go.Proofs.YticgkabamelddaaDoor
open Go.RowKit
/-- The number of bytes, the high one first. -/
def bigN (bs : List UInt8) : Nat := bs.foldl (fun x b => x * 256 + b.toNat) 0
theorem bigN_snoc (l : List UInt8) (u : UInt8) : bigN (l ++ [u]) = bigN l * 256 + u.toNat := by simp [bigN, List.foldl_append]
theorem take_snoc {α : Type} (l : List α) (k : Nat) (h : k < l.length) : l.take (k + 1) = l.take k ++ [l[k]] := List.take_succ_eq_append_getElem h
theorem bigN_lt (l : List UInt8) : bigN l < 256 ^ l.length := by
  suffices h : ∀ n, ∀ l : List UInt8, l.length = n → bigN l < 256 ^ n from h _ l rfl
  intro n
  induction n with
  | zero => intro l hl; rw [List.eq_nil_of_length_eq_zero hl]; decide
  | succ n ih =>
    intro l hl
    have h1 := ih (l.take n) (by rw [List.length_take]; omega)
    have h2 : l = l.take n ++ [l[n]] := by rw [← take_snoc l n (by omega), List.take_of_length_le (by omega)]
    rw [h2, bigN_snoc, Nat.pow_succ]
    have := l[n].toNat_lt
    omega
theorem pow256_le {k n : Nat} (h : k ≤ n) : 256 ^ k ≤ 256 ^ n := Nat.pow_le_pow_right (by decide) h
theorem big_round (l : List UInt8) (k : Nat) (hk : k < l.length) (hn : l.length ≤ 8) :
    bits .or .u64 (IntKind.u64.wrap ((bigN (l.take k) : Int) * 256)) (IntKind.u64.wrap (l[k].toNat : Int)) = (bigN (l.take (k + 1)) : Int) := by
  have h1 := bigN_lt (l.take k)
  have h2 : 256 ^ (l.take k).length ≤ 256 ^ 7 := pow256_le (by rw [List.length_take]; omega)
  have h3 := l[k].toNat_lt
  rw [take_snoc l k hk, bigN_snoc]
  generalize bigN (l.take k) = a at *
  generalize l[k].toNat = u at *
  rw [IntKind.wrap_u64, IntKind.wrap_u64, show ((a : Int) * 256) % 18446744073709551616 = ((a * 256 : Nat) : Int) by omega, show (u : Int) % 18446744073709551616 = (u : Int) by omega, u64_or_nat _ _ (by omega) (by omega), nat_join 8 _ _ (by omega) (by omega)]
end Go.Proofs.YticgkabamelddaaDoor
namespace Go.Proofs.YticgkabamelddaaDoor
open Go.RowKit
/-- The bits that stand in any of the bytes. -/
def orAll (bs : List UInt8) : UInt8 := bs.foldl (· ||| ·) 0
theorem orAll_snoc (l : List UInt8) (u : UInt8) : orAll (l ++ [u]) = orAll l ||| u := by simp [orAll, List.foldl_append]
theorem or8 (x y : UInt8) : bits .or .u8 (x.toNat : Int) (y.toNat : Int) = ((x ||| y).toNat : Int) := by
  rw [u8_or_nat _ _ x.toNat_lt y.toNat_lt, UInt8.toNat_or]
theorem xor8 (x y : UInt8) : bits .xor .u8 (x.toNat : Int) (y.toNat : Int) = ((x ^^^ y).toNat : Int) := by
  rw [u8_xor_nat _ _ x.toNat_lt y.toNat_lt, UInt8.toNat_xor]
theorem orAll_zero (l : List UInt8) : (((orAll l).toNat : Int) == 0) = l.all (· == 0) := by
  have h : ∀ (l : List UInt8) (x : UInt8), l.foldl (· ||| ·) x = 0 ↔ x = 0 ∧ ∀ u ∈ l, u = 0 := by
    intro l
    induction l with
    | nil => intro x; simp
    | cons u l ih => intro x; rw [List.foldl_cons, ih]; simp [UInt8.or_eq_zero_iff, and_assoc]
  rw [Bool.eq_iff_iff]
  have h2 : (((orAll l).toNat : Int) == 0) = true ↔ orAll l = 0 := by
    rw [beq_iff_eq, UInt8.toNat_inj.symm]
    show _ ↔ (orAll l).toNat = 0
    omega
  rw [h2, orAll, h]
  simp
/-- The exclusive or of two rows. -/
def xorL (a b : List UInt8) : List UInt8 := List.zipWith (· ^^^ ·) a b
theorem xorL_snoc (a b : List UInt8) (k : Nat) (ha : k < a.length) (hb : k < b.length) : xorL (a.take (k + 1)) (b.take (k + 1)) = xorL (a.take k) (b.take k) ++ [a[k] ^^^ b[k]] := by
  unfold xorL
  rw [take_snoc a k ha, take_snoc b k hb, List.zipWith_append (by simp; omega)]
  rfl
theorem xor_zero : ∀ a b : List UInt8, a.length = b.length → (xorL a b).all (· == 0) = (a == b)
  | [], [], _ => rfl
  | x :: a, y :: b, h => by
    have ih := xor_zero a b (by simpa using h)
    unfold xorL at *
    rw [List.zipWith_cons_cons, List.all_cons, ih, List.cons_beq_cons]
    congr 1
    rw [Bool.eq_iff_iff, beq_iff_eq, beq_iff_eq, UInt8.xor_eq_zero_iff]
end Go.Proofs.YticgkabamelddaaDoor
namespace Go.Proofs.YticgkabamelddaaDoor
open Go.RowKit
theorem u8_info : (Tryd.prog.info? 5).map (fun i => (i.zero, i.size, i.bytes)) = some (some (.int .u8 0), 1, 1) := by kernel_rfl
/-- 'make([]byte, n)' and 'make([]byte, 0, n)'. -/
theorem make_bytes (l n : Nat) (hl : l ≤ n) (hn : n ≤ 1000000) (W : World) :
    (Instr.makeSlice 29 (.int .i64 (l : Int)) (.int .i64 (n : Int))).run Tryd.prog W = .ok (.slice (some ⟨W.heap.size, 0, none⟩) l n) (W.alloc (.cells (rowCells (List.replicate n 0)) 5)) := by
  obtain ⟨i0, hi0, hz0, hz1, hz2⟩ := info_parts u8_info
  have h := run_make (P := Tryd.prog) W 29 5 i0 (.int .u8 0) Tryd.underlying29 hi0 hz0 .i64 .i64 l n (by omega) (by omega) (by rw [hz2]; omega) (by omega)
  rw [h, Int.toNat_natCast, Int.toNat_natCast, hz1, Nat.mul_one, zeros_made]
theorem set_next (l : List UInt8) (k n : Nat) (u : UInt8) (hl : l.length = k) (hk : k < n) : (l ++ List.replicate (n - k) 0).set k u = l ++ [u] ++ List.replicate (n - (k + 1)) 0 := by
  obtain ⟨m, hm⟩ : ∃ m, n - k = m + 1 := ⟨n - k - 1, by omega⟩
  rw [hm, show n - (k + 1) = m by omega, List.set_append_right _ _ (by omega), hl, Nat.sub_self, List.replicate_succ]
  simp
theorem xorL_length (a b : List UInt8) : (xorL a b).length = min a.length b.length := by simp [xorL]
end Go.Proofs.YticgkabamelddaaDoor
namespace Go.Proofs.YticgkabamelddaaDoor
open Go.RowKit
/-- The slice v is a row of the call's own (blocks from base on) that begins with these bytes. -/
def Owns (w : World) (base : Nat) (v : Value) (bs : List UInt8) : Prop := w.ownsRow base 5 1 v bs.length (bs.map cellOf)
section
variable {w w' : World} {base : Nat} {v : Value} {bs : List UInt8}
theorem Owns.kept_alloc (h : Owns w base v bs) (o : Obj) : Owns (w.alloc o) base v bs := World.ownsRow.alloc h o
theorem Owns.drewN (h : Owns w base v bs) (n : Nat) : Owns (w.drewN n) base v bs := h
theorem Owns.drew (h : Owns w base v bs) : Owns w.drew base v bs := h
theorem Owns.made (w : World) (c : Nat) (hb : base ≤ w.heap.size) (hc : c ≤ 1000000) : Owns (w.alloc (.cells (rowCells (List.replicate c 0)) 5)) base (.slice (some ⟨w.heap.size, 0, none⟩) 0 c) [] :=
  World.ownsRow_made w _ c hb (by simp only [maxLen]; omega) (by simp [rowCells])
theorem Owns.lit (w : World) (bs : List UInt8) (hb : base ≤ w.heap.size) (hc : bs.length ≤ 1000000) : Owns (w.alloc (.cells (rowCells bs) 5)) base (.slice (some ⟨w.heap.size, 0, none⟩) bs.length bs.length) bs := by
  have h := World.ownsRow_lit (base := base) (e := 5) (size := 1) w (rowCells bs) bs.length hb (by simp only [maxLen]; omega) (by simp [rowCells])
  simp only [rowCells] at h ⊢
  exact h
theorem Owns.form (h : Owns w base v bs) : ∃ A c, v = .slice A bs.length c ∧ bs.length ≤ c ∧ (A = none → c = 0) ∧ Row w w.heap.size A bs := by
  rcases h.2 with ⟨rfl, hn⟩ | ⟨g, cap, cur, rfl, hb, hg, hnc, _⟩
  · have : bs = [] := List.eq_nil_of_length_eq_zero hn
    subst this
    exact ⟨none, 0, rfl, Nat.le_refl _, fun _ => rfl, .inl rfl⟩
  · refine ⟨_, cap, rfl, hnc, (fun h => by cases h), .inr ⟨g, 0, rfl, (World.ownsRow.lt h g rfl).2, fun j u hu => ?_⟩⟩
    have := World.ownsRow.cells h (g := g) rfl j (cellOf u) (by rw [List.getElem?_map, hu]; rfl)
    rwa [Go.WideShapes.add_plain] at this
theorem Owns.form_pos (h : Owns w base v bs) (hp : 0 < bs.length) : ∃ g c, v = .slice (some ⟨g, 0, none⟩) bs.length c ∧ bs.length ≤ c ∧ c ≤ maxLen ∧ base ≤ g ∧ Row w w.heap.size (some ⟨g, 0, none⟩) bs := by
  rcases h.2 with ⟨rfl, hn⟩ | ⟨g, cap, cur, rfl, hb, hg, hnc, hcm, _⟩
  · omega
  · refine ⟨g, cap, rfl, hnc, hcm, hb, .inr ⟨g, 0, rfl, (World.ownsRow.lt h g rfl).2, fun j u hu => ?_⟩⟩
    have := World.ownsRow.cells h (g := g) rfl j (cellOf u) (by rw [List.getElem?_map, hu]; rfl)
    rwa [Go.WideShapes.add_plain] at this
theorem Owns.far (h : Owns w base v bs) : ∀ k, v.ownBlock = some k → base ≤ k := fun k hk => (World.ownsRow.lt h k hk).1
end
/-- 'append(out, b...)', b a row of bytes. -/
theorem append_row {w : World} {ops : Array Oper} {rest : List Oper} {o : Oper} {a : Act} {Q : Exit → Act → World → Prop} (hgd : o.guard = none) (s x : Operand)
    (ho : o.op = .call { callee := .builtin .append, args := #[s, x], argTypes := #[29, 29] }) (base : Nat)
    (v : Value) (bs us : List UInt8) (B : Nat) (A : Option Addr) (c : Nat) (hs : a.eval s = v) (hown : Owns w base v bs) (hx : a.eval x = .slice A us.length c) (hA : A = none → c = 0) (hr : Row w B A us)
    (hlen : bs.length + us.length ≤ 1000000) (hbase : base ≤ w.heap.size)
    (h : ∀ v' w', Owns w' base v' (bs ++ us) → Below base w w' → wpList Tryd.prog ops Q rest (a.put o.dst v') w') : wpList Tryd.prog ops Q (o :: rest) a w := by
  obtain ⟨i0, hi0, hz0, hz1, hz2⟩ := info_parts u8_info
  rcases A with _ | ad
  · have : us = [] := by
      rcases hr with h | ⟨_, _, h, _⟩
      · exact h
      · cases h
    subst this
    rw [hA rfl] at hx
    exact wpList_append_own_none hgd s x 29 ho base 5 i0 1 Tryd.underlying29 hi0 v bs.length (bs.map cellOf) hs hown hx (h v w (by simpa using hown) (Below.refl _ _))
  · refine wpList_append_own w hgd s x 29 ho base 5 i0 _ 1 1 Tryd.underlying29 hi0 hz0 hz1 hz2 rfl (by omega) v bs.length (bs.map cellOf) hs hown ad us.length c (us.map cellOf) hx (by simp) ?_ ?_ (by simp only [maxLen]; omega) (by omega) hbase ?_
    · intro j u hu
      rw [List.getElem?_map] at hu
      cases hj : us[j]? with
      | none => rw [hj] at hu; cases hu
      | some q =>
        rw [hj] at hu
        rcases hr with rfl | ⟨b, off, hb1, _, hc⟩
        · simp at hj
        · cases hb1
          rw [Go.WideShapes.add_plain, hc j q hj]
          exact hu
    · intro u hu
      obtain ⟨q, _, rfl⟩ := List.mem_map.1 hu
      rfl
    · intro v' w' h2 h3 _
      refine h v' w' ?_ ((Below.refl _ _).grown h3 hbase (fun k hk => hown.far k hk))
      unfold Owns
      simpa using h2
/-- The verifier's marks behind a copy. -/
def marks : List UInt8 := [201, 202, 203, 204, 205, 206]
/-- What 'Bytes' answers: a copy of these bytes in a new row, with the marks behind it. -/
def Copied (w : World) (bs : List UInt8) (e : Ending) (w' : World) : Prop :=
  ∃ g cap, e = .returned (.slice (some ⟨g, 0, none⟩) bs.length cap) ∧ bs.length + 6 ≤ cap ∧ cap ≤ maxLen ∧ w.heap.size ≤ g ∧ Row w' w'.heap.size (some ⟨g, 0, none⟩) (bs ++ marks) ∧ Below w.heap.size w w'
/-- What a call answers that makes a row of these bytes. -/
def GivesRow (w : World) (bs : List UInt8) (e : Ending) (w' : World) : Prop :=
  ∃ A c, e = .returned (.slice A bs.length c) ∧ (A = none → c = 0) ∧ Below w.heap.size w w' ∧ Row w' w'.heap.size A bs
/- The same contracts, the length a letter of its own. -/
def CopiedN (w : World) (bs : List UInt8) (n : Nat) (e : Ending) (w' : World) : Prop :=
  ∃ g cap, e = .returned (.slice (some ⟨g, 0, none⟩) n cap) ∧ n + 6 ≤ cap ∧ cap ≤ maxLen ∧ w.heap.size ≤ g ∧ Row w' w'.heap.size (some ⟨g, 0, none⟩) (bs ++ marks) ∧ Below w.heap.size w w'
def GivesRowN (w : World) (bs : List UInt8) (n : Nat) (e : Ending) (w' : World) : Prop :=
  ∃ A c, e = .returned (.slice A n c) ∧ (A = none → c = 0) ∧ Below w.heap.size w w' ∧ Row w' w'.heap.size A bs
section
variable {A B : Option Addr} {c d n : Nat} {xs ys : List UInt8} {w : World}
/-- 'string(b)' in every world in which nothing old has turned. -/
theorem conv_n (hx : xs.length = n) (h : Row w w.heap.size A xs) (c : Nat) : ∀ w' : World, Below w.heap.size w w' → (convert 29 9 (.slice A n c)).run Tryd.prog w' = .ok (.string (str xs)) w' := by
  subst hx
  exact fun _ hb => (h.below hb).conv c Tryd.underlying29 Tryd.underlying5 Tryd.underlying9
end
theorem Row.head {w : World} {B : Nat} {A : Option Addr} {xs ys : List UInt8} (h : Row w B A (xs ++ ys)) : Row w B A xs := by
  have h := h.take xs.length
  rwa [List.take_left' rfl] at h
end Go.Proofs.YticgkabamelddaaDoor
namespace Go.Proofs.YticgkabamelddaaDoor
open Go.RowKit Go.Extern.Stop Go.Stop Go.Extern
/-- An error of package api's, as a value: a pointer to a text of errors.New's. -/
abbrev errAt (a : Addr) : Value := .iface 63 (.pointer (some a))
theorem is_comp : (Tryd.prog.info? 63).map (·.comparable) = some true := by kernel_rfl
theorem is_size : (Tryd.prog.info? 81).map (·.size) = some 1 := by kernel_rfl
end Go.Proofs.YticgkabamelddaaDoor
namespace Go.Proofs.YticgkabamelddaaDoor
open Go.RowKit Go.Stop
/-- Variable g holds an error whose text lies at a. -/
def ErrIs (W : World) (g : Nat) (a : Addr) : Prop := W.cell? ⟨g, 0, none⟩ = some (errAt a) ∧ ∃ c t, W.heap[a.block]? = some (.cells c t (0, 0))
theorem lt_of_heap {W : World} {b : Nat} {o : Obj} (h : W.heap[b]? = some o) : b < W.heap.size := by
  rcases Nat.lt_or_ge b W.heap.size with hlt | hge
  · exact hlt
  · rw [Array.getElem?_eq_none hge] at h; cases h
theorem ErrIs.below {W W' : World} {g : Nat} {a : Addr} (h : ErrIs W g a) (hb : Below W.heap.size W W') : ErrIs W' g a := by
  obtain ⟨h1, c, t, h2⟩ := h
  refine ⟨(hb.cell (block_lt_of_cell h1)).trans h1, c, t, (hb.block _ ?_).trans h2⟩
  rcases Nat.lt_or_ge a.block W.heap.size with hlt | hge
  · exact hlt
  · rw [Array.getElem?_eq_none hge] at h2; cases h2
theorem row_err : ∀ u, Tryd.prog.typeName? 3 u = some "*errors.errorString" → u = 63 := typeName_ptr_named (nm := "errors.errorString") (by kernel_rfl) (by kernel_rfl) (by decide)
theorem cells_es : Tryd.prog.cellsOf 81 = 1 := by kernel_rfl
theorem cells_str : Tryd.prog.cellsOf 9 = 1 := by kernel_rfl
set_option maxRecDepth 100000 in
/-- What the row's list gives, of whatever length it is. -/
theorem sentinels {W : World} : ∀ (l : List (String × List UInt8)) (gs : List Nat) (ps : List MemPlace), l.map (fun x => Tryd.prog.globalNamed x.1) = gs.map some →
    (∀ g ∈ gs, (Tryd.prog.globals[g]?).map (·.type) = some 56) → DataW.LaidVars Tryd.prog W (l.map fun x => (x.1, .iface "*errors.errorString" (.ptr (.agg [.lit (.string x.2)])))) ps → ps.Nodup →
    (∀ b off, MemPlace.cell b off ∈ ps → (∃ c t, W.heap[b]? = some (.cells c t (0, 0))) ∧ ∀ u v, W.cell? ⟨b, off, none⟩ = some (.iface u v) → Value.okWide Tryd.prog W .any 0 u v) →
    ∃ es : List Addr, es.length = gs.length ∧ es.Nodup ∧ (∀ a ∈ es, MemPlace.cell a.block a.off ∈ ps ∧ a.spot = none) ∧ ∀ (i g : Nat) (a : Addr), gs[i]? = some g → es[i]? = some a → ErrIs W g a
  | [], [], _, _, _, _, _, _ => ⟨[], rfl, List.nodup_nil, fun _ h => (by cases h), fun i g a h => by simp at h⟩
  | [], _ :: _, _, h, _, _, _, _ => by simp at h
  | _ :: _, [], _, h, _, _, _, _ => by simp at h
  | x :: l, g :: gs, ps, hgs, hts, hv, hnd, hrows => by
    rw [List.map_cons, List.map_cons, List.cons.injEq] at hgs
    obtain ⟨g0, t0, cs0, f0, p0, q0, hg0, ht0, hv0, hd0, hq, rfl⟩ := hv
    obtain rfl := Option.some.inj (hgs.1.symm.trans hg0)
    obtain rfl := Option.some.inj ((hts g List.mem_cons_self).symm.trans ht0)
    have hok : ∀ u v, cs0.toList = [.iface u v] → Value.okWide Tryd.prog W .any 0 u v := fun u v e => by
      have hc0 : cs0 = #[.iface u v] := by cases cs0; simp_all
      subst hc0
      exact (hrows g 0 (by simp [MemPlace.row])).2 u v (by simpa using World.var?_cell hg0 hv0 0)
    obtain ⟨a0, s0, hcs, hc0, _, _, rfl⟩ := errorString_of_trod Tryd.underlying56 row_err Tryd.underlying63 Tryd.underlying81 rfl rfl Tryd.underlying9 cells_es cells_str hd0 hok
    have hcs' : cs0 = #[errAt a0] := by cases cs0; simp_all
    subst hcs'
    obtain ⟨es, h1, h2, h3, h4⟩ := sentinels l gs q0 hgs.2 (fun g hg => hts g (List.mem_cons_of_mem _ hg)) hq (List.Nodup.sublist (List.sublist_append_right _ _) hnd) (fun b off hm => hrows b off (List.mem_append_right _ hm))
    have hmem : MemPlace.cell a0.block a0.off ∈ MemPlace.row ⟨g, 0, none⟩ (#[errAt a0] : Array Value).size ++ MemPlace.row a0 1 ++ q0 := by simp [MemPlace.row]
    have hsp : a0.spot = none := by simpa using World.cell?_spot hc0
    refine ⟨a0 :: es, by simp [h1], List.nodup_cons.2 ⟨fun hin => ?_, h2⟩, ?_, ?_⟩
    · have hq1 := (h3 a0 hin).1
      have hd := (List.nodup_append.1 hnd).2.2 (MemPlace.cell a0.block a0.off) (by simp [MemPlace.row]) (MemPlace.cell a0.block a0.off) hq1
      exact hd rfl
    · intro a ha
      rcases List.mem_cons.1 ha with rfl | ha
      · exact ⟨hmem, hsp⟩
      · exact ⟨List.mem_append_right _ (h3 a ha).1, (h3 a ha).2⟩
    · intro i g' a hg' ha'
      cases i with
      | zero =>
        simp at hg' ha'
        subst hg' ha'
        exact ⟨by simpa using World.var?_cell hg0 hv0 0, (hrows _ _ hmem).1⟩
      | succ i => exact h4 i g' a (by simpa using hg') (by simpa using ha')
theorem nodup_one {α : Type} : ∀ (l : List α), l.Nodup → ∀ (i k : Nat) (a : α), l[i]? = some a → l[k]? = some a → i = k
  | [], _, _, _, _, h, _ => by simp at h
  | x :: l, hn, i, k, a, hi, hk => by
    rw [List.nodup_cons] at hn
    cases i with
    | zero =>
      cases k with
      | zero => rfl
      | succ k =>
        simp at hi hk
        subst hi
        exact absurd (List.mem_of_getElem? hk) hn.1
    | succ i =>
      cases k with
      | zero =>
        simp at hi hk
        subst hk
        exact absurd (List.mem_of_getElem? hi) hn.1
      | succ k => rw [nodup_one l hn.2 i k a (by simpa using hi) (by simpa using hk)]
end Go.Proofs.YticgkabamelddaaDoor
namespace Go.Proofs.YticgkabamelddaaDoor
open Go.RowKit
/-- A number's i-th byte from the low end; its k low bytes, the low one first. -/
def byteAt (x i : Nat) : UInt8 := UInt8.ofNat (x / 256 ^ i)
def putL (x k : Nat) : List UInt8 := (List.range k).map (byteAt x)
theorem putL_length (x k : Nat) : (putL x k).length = k := by simp [putL]
theorem putL_succ (x k : Nat) : putL x (k + 1) = putL x k ++ [byteAt x k] := by simp [putL, List.range_succ]
theorem pow_8 (i : Nat) : 2 ^ (8 * i) = 256 ^ i := by rw [Nat.pow_mul]
theorem byte_shr (x i : Nat) : (x : Int) / 2 ^ (8 * i) % 256 = ((byteAt x i).toNat : Int) := by
  rw [pow_cast, pow_8, ← Int.natCast_ediv, byteAt, UInt8.toNat_ofNat']
  omega
theorem byte_mod (x i : Nat) : ((x / 256 ^ i : Nat) : Int) % 256 = ((byteAt x i).toNat : Int) := by
  rw [byteAt, UInt8.toNat_ofNat']
  omega
theorem bigN_fold (l : List UInt8) : ∀ a : Nat, l.foldl (fun x b => x * 256 + b.toNat) a = a * 256 ^ l.length + bigN l := by
  induction l with
  | nil => intro a; simp [bigN]
  | cons u l ih =>
    intro a
    rw [List.foldl_cons, ih, show bigN (u :: l) = (u :: l).foldl (fun x b => x * 256 + b.toNat) 0 from rfl, List.foldl_cons, ih, List.length_cons, Nat.pow_succ, Nat.add_mul, Nat.zero_mul, Nat.zero_add, Nat.mul_assoc, Nat.mul_comm 256, Nat.add_assoc]
theorem bigN_cons (u : UInt8) (l : List UInt8) : bigN (u :: l) = u.toNat * 256 ^ l.length + bigN l := by
  rw [show bigN (u :: l) = (u :: l).foldl (fun x b => x * 256 + b.toNat) 0 from rfl, List.foldl_cons, bigN_fold, Nat.zero_mul, Nat.zero_add]
theorem refbig_round (l : List UInt8) (k : Nat) (hk : k < l.length) (hn : l.length ≤ 8) :
    IntKind.u64.wrap (IntKind.u64.wrap ((bigN (l.take k) : Int) * 256) + IntKind.u64.wrap (l[k].toNat : Int)) = (bigN (l.take (k + 1)) : Int) := by
  have h1 := bigN_lt (l.take k)
  have h2 : 256 ^ (l.take k).length ≤ 256 ^ 7 := pow256_le (by rw [List.length_take]; omega)
  have h3 := l[k].toNat_lt
  rw [take_snoc l k hk, bigN_snoc]
  generalize bigN (l.take k) = a at *
  generalize l[k].toNat = u at *
  rw [IntKind.wrap_u64, IntKind.wrap_u64, IntKind.wrap_u64]
  omega
theorem little_round (l : List UInt8) (k : Nat) (hk : k < l.length) (hn : l.length ≤ 8) :
    bits .or .u64 (bigN (l.take k).reverse : Int) (IntKind.u64.wrap (IntKind.u64.wrap (l[k].toNat : Int) * 2 ^ (8 * k))) = (bigN (l.take (k + 1)).reverse : Int) := by
  have h1 := bigN_lt (l.take k).reverse
  have hlk : (l.take k).reverse.length = k := by rw [List.length_reverse, List.length_take]; omega
  have h3 := l[k].toNat_lt
  rw [take_snoc l k hk, List.reverse_append, List.reverse_singleton, List.singleton_append, bigN_cons, hlk]
  rw [hlk] at h1
  have hp : 256 ^ k ≤ 256 ^ 7 := pow256_le (by omega)
  generalize bigN (l.take k).reverse = a at *
  generalize l[k].toNat = u at *
  have hu : u * 256 ^ k ≤ 255 * 256 ^ k := Nat.mul_le_mul_right _ (by omega)
  have e : IntKind.u64.wrap (IntKind.u64.wrap (u : Int) * 2 ^ (8 * k)) = ((u * 256 ^ k : Nat) : Int) := by
    rw [IntKind.wrap_u64, IntKind.wrap_u64, show (u : Int) % 18446744073709551616 = (u : Int) by omega, pow_cast, pow_8, ← Int.natCast_mul]
    omega
  rw [e, u64_or_nat _ _ (by omega) (by omega), Nat.or_comm, nat_join (8 * k) _ _ (by rw [pow_8]; exact Nat.mul_mod_left _ _) (by rw [pow_8]; exact h1)]
set_option maxRecDepth 100000 in
theorem putLittle_in (x n : Nat) (w : World) (_hx : x < 18446744073709551616) (hn : n ≤ 8) :
    Calls Tryd.prog 29 #[.int .u64 x, .int .i64 n] w fun e w' => e = .returned (.tuple #[.slice (some ⟨w.heap.size, 0, none⟩) n n, .nilIface]) ∧ Below w.heap.size w w' ∧ Made w' w.heap.size (putL x n) := by
  have hmk := make_bytes n n (Nat.le_refl _) (by omega)
  go_enter Tryd.func29, Tryd.ntmps29
  go_wp2
  go_loopw [7, 19] (fun _ i wr => ∃ k : Nat, k ≤ n ∧ i = .int .i64 k ∧ Below w.heap.size w wr ∧ Made wr w.heap.size (putL x k ++ List.replicate (n - k) 0)) (fun _ i _ => n - (intOf i).toNat)
  case atStart => exact ⟨0, Nat.zero_le _, rfl, (Below.refl _ _).alloc (Nat.le_refl _) _, by simpa [putL] using Made.new w (List.replicate n 0)⟩
  case round =>
    obtain ⟨k, hk, rfl, hB, hM⟩ := hrel
    by_cases hlt : k < n
    · have hf := hM.frozen k
      obtain ⟨v3, hc3⟩ : ∃ v, wr.cell? ⟨w.heap.size, k, none⟩ = some v := ⟨_, hM.cell k (by simp [putL]; omega)⟩
      have i1 : (0 : Int) ≤ (k : Int) := by omega
      have i2 : (k : Int) < (n : Int) := by omega
      have HS := Lib.hid (byte_shr x k)
      go_wp2
      go_roundw
      case rel =>
        rw [HS.out]
        refine ⟨k + 1, by omega, by go_num, hB.setCell (p := ⟨w.heap.size, k, none⟩) (Nat.le_refl _) _, ?_⟩
        have h := hM.set k (byteAt x k)
        rw [set_next _ k n _ (putL_length x k) hlt, ← putL_succ] at h
        exact h
      case measure => simp [intOf]; omega
    · go_wp2
      go_ret2
      refine ⟨rfl, hB, ?_⟩
      have e : k = n := by omega
      subst e
      simpa using hM
theorem putLittle_out (x n : Int) (E : Value) (w : World) (hn : n < 0 ∨ 8 < n) (hE : w.cell? ⟨2, 0, none⟩ = some E) :
    Calls Tryd.prog 29 #[.int .u64 x, .int .i64 n] w fun e w' => e = .returned (.tuple #[.slice none 0 0, E]) ∧ ∃ n, w' = w.drewN n := by
  by_cases h : n < 0
  all_goals
    try have h2 : 8 < n := by omega
    clear hn
    go_enter Tryd.func29, Tryd.ntmps29
    go_wp2
    go_quiet (fail)
    go_wp2
    go_ret2
    exact ⟨rfl, _, rfl⟩
/-- The high bytes of n, k of them, the high one first. -/
def putB (x n k : Nat) : List UInt8 := (List.range k).map fun i => byteAt x (n - 1 - i)
theorem putB_length (x n k : Nat) : (putB x n k).length = k := by simp [putB]
theorem putB_succ (x n k : Nat) : putB x n (k + 1) = putB x n k ++ [byteAt x (n - 1 - k)] := by simp [putB, List.range_succ]
theorem putB_rev (x n : Nat) : putB x n n = (putL x n).reverse := by
  refine List.ext_getElem (by simp [putB, putL]) fun i h1 h2 => ?_
  simp [putB, putL]
theorem little_few (A : Option Addr) (c n : Nat) (bs : List UInt8) (w : World) (hl : bs.length = n) (hr : Row w w.heap.size A bs) (hn : n ≤ 8) :
    Calls Tryd.prog 28 #[.slice A n c] w fun e w' => e = .returned (.tuple #[.int .u64 (bigN bs.reverse : Int), .nilIface]) ∧ w = w' := by
  subst hl
  go_enter Tryd.func28, Tryd.ntmps28
  go_wp2
  go_loop [4, 5, 6, 13] (fun x _ _ i => ∃ k : Nat, k ≤ bs.length ∧ i = .int .i64 k ∧ x = .int .u64 (bigN (bs.take k).reverse : Int)) (fun _ _ _ i => bs.length - (intOf i).toNat)
  case atStart => exact ⟨0, Nat.zero_le _, rfl, rfl⟩
  case round =>
    obtain ⟨k, hk, rfl, rfl⟩ := hrel
    by_cases hlt : k < bs.length
    · obtain ⟨b, off, rfl, hb, hc⟩ := hr.at k hlt
      go_wp2
      go_round
      case rel => exact ⟨k + 1, by omega, by go_num, by rw [little_round bs k hlt hn]⟩
      case measure => simp [intOf]; omega
    · go_wp2
      go_ret2
      exact ⟨by rw [List.take_of_length_le (by omega)]; rfl, rfl⟩
theorem little_long (A : Option Addr) (c n : Nat) (E : Value) (w : World) (hn : 8 < n) (hE : w.cell? ⟨1, 0, none⟩ = some E) :
    Calls Tryd.prog 28 #[.slice A n c] w fun e w' => e = .returned (.tuple #[.int .u64 0, E]) ∧ ∃ n, w' = w.drewN n := by
  have h : (8 : Int) < (n : Int) := by omega
  go_enter Tryd.func28, Tryd.ntmps28
  go_wp2
  go_quiet (fail)
  go_wp2
  go_ret2
  exact ⟨rfl, _, rfl⟩
theorem set_before (l : List UInt8) (m : Nat) (u : UInt8) : (List.replicate (m + 1) 0 ++ l).set m u = List.replicate m 0 ++ u :: l := by
  rw [List.replicate_succ', List.append_assoc, List.set_append_right _ _ (by simp)]
  simp
end Go.Proofs.YticgkabamelddaaDoor
