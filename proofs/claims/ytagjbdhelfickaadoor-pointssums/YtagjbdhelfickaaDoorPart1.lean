/- Part 1 of what the laws of this seat share: WMem, PMath, WMath, WTurns, WBig, WRows, WMix, WApp, WErr, WNum, WPut, PMath2, OMath, OMath2, NPrime. -/
import Derived.WalkKit
import Derived.Lib.Hide
import Derived.WalkSmall
import Derived.Deep.Draws
import Derived.Laws.BytesArg
import Derived.WalkMore
import Derived.ScopeJumps
import Derived.Below
import Derived.Laws.OwnMore
import Derived.Laws.Rows
import Derived.Test.YtagjbdhelfickaaDoorProg
import Derived.BigQuiet
import Derived.Deep.QuietTactic
import Derived.StillTailTactics
import Derived.Deep.RegionHeld3
import Derived.Laws.AppendOwnNone
import Derived.Deep.AppendLies
import Derived.Maps.AppendAt
import Derived.Test.YtagjbdhelfickaaDoorChecked
import Derived.LaidEql
import Derived.Stop.Asserts
import Derived.RowKitTokens
import Derived.LaidLaws
import Derived.Stop.LaidErr
import Derived.MakeChecks
import Derived.ProofKit
namespace Go.Proofs.YtagjbdhelfickaaDoor
open Go.RowKit
/-- A byte as a cell holds it. -/
abbrev cellOf (u : UInt8) : Value := .int .u8 (u.toNat : Int)
/-- The address A leads to the bytes bs, in a block below B (of no bytes: any address, none too). -/
def Row (w : World) (B : Nat) (A : Option Addr) (bs : List UInt8) : Prop :=
  bs = [] ∨ ∃ b off, A = some ⟨b, off, none⟩ ∧ b < B ∧ ∀ j u, bs[j]? = some u → w.cell? ⟨b, off + j, none⟩ = some (cellOf u)
section
variable {w w' : World} {B B' : Nat} {A : Option Addr} {bs : List UInt8}
theorem Row.nil : Row w B A [] := .inl rfl
theorem Row.at (h : Row w B A bs) (k : Nat) (hk : k < bs.length) : ∃ b off, A = some ⟨b, off, none⟩ ∧ b < B ∧ w.cell? ⟨b, off + k, none⟩ = some (cellOf bs[k]) := by
  rcases h with rfl | ⟨b, off, hA, hb, hc⟩
  · simp at hk
  · exact ⟨b, off, hA, hb, hc k _ (List.getElem?_eq_getElem hk)⟩
theorem Row.keep (h : Row w B A bs) (hk : ∀ p : Addr, p.block < B → w'.cell? p = w.cell? p) : Row w' B A bs := by
  rcases h with rfl | ⟨b, off, hA, hb, hc⟩
  · exact .inl rfl
  · exact .inr ⟨b, off, hA, hb, fun j u hu => (hk _ hb).trans (hc j u hu)⟩
theorem Row.more (h : Row w B A bs) (hB : B ≤ B') : Row w B' A bs := by
  rcases h with rfl | ⟨b, off, hA, hb, hc⟩
  · exact .inl rfl
  · exact .inr ⟨b, off, hA, by omega, hc⟩
theorem Row.below (h : Row w B A bs) (hb : Below B w w') : Row w' B A bs := h.keep fun _ hp => hb.cell hp
theorem Row.drewN (h : Row w B A bs) (n : Nat) : Row (w.drewN n) B A bs := h
theorem Row.lt (h : Row w B A bs) (hB : B ≤ w.heap.size) : Row w w.heap.size A bs := h.more hB
theorem Row.take (h : Row w B A bs) (n : Nat) : Row w B A (bs.take n) := by
  rcases h with rfl | ⟨b, off, hA, hb, hc⟩
  · exact .inl (by simp)
  · refine .inr ⟨b, off, hA, hb, fun j u hu => hc j u ?_⟩
    rw [List.getElem?_take] at hu
    split at hu
    · exact hu
    · cases hu
end
/-- The text that bytes are. (Named, so that a walk leaves it whole.) -/
def str (bs : List UInt8) : ByteArray := ⟨bs.toArray⟩
/-- 'string(b)' of a row. -/
theorem Row.conv {P : Program} {w : World} {B : Nat} {A : Option Addr} {bs : List UInt8} (h : Row w B A bs) (c : Nat) {src e dst : TypeId} (hs : P.underlying src = some (.slice e)) (he : P.underlying e = some (.int .u8)) (hd : P.underlying dst = some .string) :
    (convert src dst (.slice A bs.length c)).run P w = .ok (.string (str bs)) w := by
  have hn : ∀ A : Option Addr, (convert src dst (.slice A 0 c)).run P w = .ok (.string (str [])) w := by
    intro A
    rw [run_convert_bytes_string w src dst e A 0 c hs he hd]
    cases A <;> simp [Conv.bytesToString, loadCells, str]
    all_goals rfl
  rcases h with rfl | ⟨b, off, rfl, hb, hc⟩
  · exact hn A
  · have := run_convert_bytes_arg (P := P) w src e hs he b off bs.length c (bs.map fun u => (u.toNat : Int)) (by simp) (fun i hi => by
      rw [hc i _ (List.getElem?_eq_getElem hi)]; simp [hi]) dst hd
    rw [this]
    congr 2
    simp [strOfNums, str, Function.comp_def]
/-- A scope with one label that is jumped back to: what holds at the label (J), the way from there on walked once, a measure that every pass lowers. -/
theorem wp_scope_once {P : Program} {c rest : Code} {Q : Exit → Act → World → Prop} {a : Act} {w : World} (l : Nat) (J : Act → World → Prop) (μ : Act → World → Nat) (hf : findLabel c l = some (Code.skip.seq rest))
    (first : Hid (∀ a w, J a w → rest.wp P (Exit.jump l J Q) a w) → c.wp P (Exit.jump l J Q) a w)
    (pass : ∀ a w, J a w → rest.wp P (Exit.jump l (fun a' w' => J a' w' ∧ μ a' w' < μ a w) Q) a w) : (Code.scope c).wp P Q a w :=
  wp_scope_jumps l J μ hf (first fun a w h => Code.wp_mono (fun e _ _ hq => by
    cases e <;> first | exact hq | exact ⟨hq.1, hq.2.1⟩) (pass a w h)) (fun a w h => wp_seq (wp_skip (pass a w h)))
/-- A row that the call itself has made: block g is just these bytes. -/
def Made (w : World) (g : Nat) (bs : List UInt8) : Prop := w.heap[g]? = some (.cells (bs.map cellOf).toArray 5 (0, 0))
theorem Made.cell {w : World} {g : Nat} {bs : List UInt8} (h : Made w g bs) (j : Nat) (hj : j < bs.length) : w.cell? ⟨g, j, none⟩ = some (cellOf bs[j]) := by
  rw [cell_of_row w g j _ _ _ h]
  simp [hj]
theorem Made.lt {w : World} {g : Nat} {bs : List UInt8} (h : Made w g bs) : g < w.heap.size := by
  rcases Nat.lt_or_ge g w.heap.size with hlt | hge
  · exact hlt
  · unfold Made at h; rw [Array.getElem?_eq_none hge] at h; cases h
theorem Made.row {w : World} {g B : Nat} {bs : List UInt8} (h : Made w g bs) (hB : g < B) : Row w B (some ⟨g, 0, none⟩) bs :=
  .inr ⟨g, 0, rfl, hB, fun j u hu => by
    have hj : j < bs.length := by
      rcases Nat.lt_or_ge j bs.length with h | h
      · exact h
      · rw [List.getElem?_eq_none h] at hu; cases hu
    rw [Nat.zero_add, h.cell j hj]
    rw [List.getElem?_eq_getElem hj] at hu
    cases hu; rfl⟩
theorem Made.below {w w' : World} {g B : Nat} {bs : List UInt8} (h : Made w g bs) (hb : Below B w w') (hg : g < B) : Made w' g bs := (hb.block g hg).trans h
theorem Made.frozen {w : World} {g : Nat} {bs : List UInt8} (h : Made w g bs) (j : Nat) : w.frozen? ⟨g, j, none⟩ = false := by
  unfold Made at h
  simp [World.frozen?, h]
theorem Made.set {w : World} {g : Nat} {bs : List UInt8} (h : Made w g bs) (j : Nat) (u : UInt8) : Made (w.setCell ⟨g, j, none⟩ (cellOf u)) g (bs.set j u) := by
  unfold Made at h ⊢
  simp [World.setCell, Array.getElem?_modify, h, List.map_set]
theorem Made.drew {w : World} {g : Nat} {bs : List UInt8} (h : Made w g bs) : Made w.drew g bs := h
theorem Made.drewN {w : World} {g : Nat} {bs : List UInt8} (h : Made w g bs) (n : Nat) : Made (w.drewN n) g bs := h
/-- A new row's cells. -/
def rowCells (bs : List UInt8) : Array Value := (bs.map cellOf).toArray
theorem Made.new (w : World) (bs : List UInt8) : Made (w.alloc (.cells (rowCells bs) 5)) w.heap.size bs := heap_alloc_new w _
theorem zeros_made (n : Nat) : madeCells (Value.int .u8 0).cells n = rowCells (List.replicate n 0) := by
  apply Array.ext_getElem?
  intro i
  simp only [madeCells, rowCells, Value.cells, List.map_replicate]
  by_cases h : i < n
  · simp [h, Nat.mod_one]
  · simp [h]
theorem below_then {a b c : World} (h : Below a.heap.size a b) (k : Below b.heap.size b c) : Below a.heap.size a c := h.trans (k.mono h.size)
/-- A row that stood stands in every world in which nothing old has turned. -/
theorem Row.on {w : World} {A : Option Addr} {bs : List UInt8} (h : Row w w.heap.size A bs) {w' : World} (hb : Below w.heap.size w w') : Row w' w'.heap.size A bs := (h.below hb).more hb.size
end Go.Proofs.YtagjbdhelfickaaDoor
namespace Go.Proofs.YtagjbdhelfickaaDoor
open Go.RowKit
/-- The number of a row of digits (which may be 256 and above). -/
def dval : List Nat → Nat
  | [] => 0
  | x :: l => x + 256 * dval l
theorem dval_append (a b : List Nat) : dval (a ++ b) = dval a + 256 ^ a.length * dval b := by
  induction a with
  | nil => simp [dval]
  | cons x a ih =>
    rw [List.cons_append, dval, dval, ih, List.length_cons, Nat.pow_succ, Nat.mul_add]
    rw [show 256 * (256 ^ a.length * dval b) = 256 ^ a.length * 256 * dval b by rw [Nat.mul_comm (256 ^ a.length) 256, Nat.mul_assoc]]
    omega
theorem dval_lt (a : List Nat) (h : ∀ x ∈ a, x < 256) : dval a < 256 ^ a.length := by
  induction a with
  | nil => simp [dval]
  | cons x a ih =>
    rw [dval, List.length_cons, Nat.pow_succ]
    have h1 := h x List.mem_cons_self
    have h2 := ih fun y hy => h y (List.mem_cons_of_mem _ hy)
    omega
/-- 2^130 - 5. -/
def polyP : Nat := 2 ^ 130 - 5
/- Carries: a row's digits made even. -/
/- One digit raised. -/
/- Two bits down. -/
end Go.Proofs.YtagjbdhelfickaaDoor
namespace Go.Proofs.YtagjbdhelfickaaDoor
theorem pow_cast (k : Nat) : ((2 : Int) ^ k) = ((2 ^ k : Nat) : Int) := by simp
end Go.Proofs.YtagjbdhelfickaaDoor
namespace Go.Proofs.YtagjbdhelfickaaDoor
open Go.RowKit
end Go.Proofs.YtagjbdhelfickaaDoor
namespace Go.Proofs.YtagjbdhelfickaaDoor
open Go.RowKit
/-- The number of bytes, the high one first. -/
def bigN (bs : List UInt8) : Nat := bs.foldl (fun x b => x * 256 + b.toNat) 0
theorem bigN_snoc (l : List UInt8) (u : UInt8) : bigN (l ++ [u]) = bigN l * 256 + u.toNat := by simp [bigN, List.foldl_append]
theorem take_snoc {α : Type} (l : List α) (k : Nat) (h : k < l.length) : l.take (k + 1) = l.take k ++ [l[k]] := List.take_succ_eq_append_getElem h
theorem bigN_lt (l : List UInt8) : bigN l < 256 ^ l.length := by
  suffices h : ∀ n, ∀ l : List UInt8, l.length = n → bigN l < 256 ^ n from h _ l rfl
  intro n
  induction n with
  | zero => intro l hl; rw [List.eq_nil_of_length_eq_zero hl]; decide
  | succ n ih =>
    intro l hl
    have h1 := ih (l.take n) (by rw [List.length_take]; omega)
    have h2 : l = l.take n ++ [l[n]] := by rw [← take_snoc l n (by omega), List.take_of_length_le (by omega)]
    rw [h2, bigN_snoc, Nat.pow_succ]
    have := l[n].toNat_lt
    omega
theorem pow256_le {k n : Nat} (h : k ≤ n) : 256 ^ k ≤ 256 ^ n := Nat.pow_le_pow_right (by decide) h
end Go.Proofs.YtagjbdhelfickaaDoor
namespace Go.Proofs.YtagjbdhelfickaaDoor
open Go.RowKit
end Go.Proofs.YtagjbdhelfickaaDoor
namespace Go.Proofs.YtagjbdhelfickaaDoor
open Go.RowKit
theorem u8_info : (Tryd.prog.info? 5).map (fun i => (i.zero, i.size, i.bytes)) = some (some (.int .u8 0), 1, 1) := by kernel_rfl
/-- 'make([]byte, n)' and 'make([]byte, 0, n)'. -/
theorem make_bytes (l n : Nat) (hl : l ≤ n) (hn : n ≤ 1000000) (W : World) :
    (Instr.makeSlice 124 (.int .i64 (l : Int)) (.int .i64 (n : Int))).run Tryd.prog W = .ok (.slice (some ⟨W.heap.size, 0, none⟩) l n) (W.alloc (.cells (rowCells (List.replicate n 0)) 5)) := by
  obtain ⟨i0, hi0, hz0, hz1, hz2⟩ := info_parts u8_info
  have h := run_make (P := Tryd.prog) W 124 5 i0 (.int .u8 0) Tryd.underlying124 hi0 hz0 .i64 .i64 l n (by omega) (by omega) (by rw [hz2]; omega) (by omega)
  rw [h, Int.toNat_natCast, Int.toNat_natCast, hz1, Nat.mul_one, zeros_made]
theorem set_next (l : List UInt8) (k n : Nat) (u : UInt8) (hl : l.length = k) (hk : k < n) : (l ++ List.replicate (n - k) 0).set k u = l ++ [u] ++ List.replicate (n - (k + 1)) 0 := by
  obtain ⟨m, hm⟩ : ∃ m, n - k = m + 1 := ⟨n - k - 1, by omega⟩
  rw [hm, show n - (k + 1) = m by omega, List.set_append_right _ _ (by omega), hl, Nat.sub_self, List.replicate_succ]
  simp
end Go.Proofs.YtagjbdhelfickaaDoor
namespace Go.Proofs.YtagjbdhelfickaaDoor
open Go.RowKit
/-- The slice v is a row of the call's own (blocks from base on) that begins with these bytes. -/
def Owns (w : World) (base : Nat) (v : Value) (bs : List UInt8) : Prop := w.ownsRow base 5 1 v bs.length (bs.map cellOf)
section
variable {w w' : World} {base : Nat} {v : Value} {bs : List UInt8}
theorem Owns.drewN (h : Owns w base v bs) (n : Nat) : Owns (w.drewN n) base v bs := h
theorem Owns.drew (h : Owns w base v bs) : Owns w.drew base v bs := h
theorem Owns.made (w : World) (c : Nat) (hb : base ≤ w.heap.size) (hc : c ≤ 1000000) : Owns (w.alloc (.cells (rowCells (List.replicate c 0)) 5)) base (.slice (some ⟨w.heap.size, 0, none⟩) 0 c) [] :=
  World.ownsRow_made w _ c hb (by simp only [maxLen]; omega) (by simp [rowCells])
theorem Owns.lit (w : World) (bs : List UInt8) (hb : base ≤ w.heap.size) (hc : bs.length ≤ 1000000) : Owns (w.alloc (.cells (rowCells bs) 5)) base (.slice (some ⟨w.heap.size, 0, none⟩) bs.length bs.length) bs := by
  have h := World.ownsRow_lit (base := base) (e := 5) (size := 1) w (rowCells bs) bs.length hb (by simp only [maxLen]; omega) (by simp [rowCells])
  simp only [rowCells] at h ⊢
  exact h
end
/- The same contracts, the length a letter of its own. -/
section
variable {A B : Option Addr} {c d n : Nat} {xs ys : List UInt8} {w : World}
end
end Go.Proofs.YtagjbdhelfickaaDoor
namespace Go.Proofs.YtagjbdhelfickaaDoor
open Go.RowKit Go.Extern.Stop Go.Stop Go.Extern
/-- An error of package api's, as a value: a pointer to a text of errors.New's. -/
abbrev errAt (a : Addr) : Value := .iface 134 (.pointer (some a))
theorem is_typeOf (v : Value) (w : World) : (Extern.ReflectliteType.typeOf #[.iface 134 v]).run Tryd.prog w = .ok (.iface 108 (.agg #[.pointer (some ⟨23, 134, none⟩)])) w := by kernel_rfl
theorem is_comparable (w : World) : (callFunc 113 #[.agg #[.pointer (some ⟨23, 134, none⟩)]]).run Tryd.prog w = .ok (.value (.bool true)) w := by kernel_rfl
theorem is_methodComparable (v : Value) (w : World) : (Go.method 270 108 v "Comparable").run Tryd.prog w = .ok (113, v) w := by kernel_rfl
theorem is_comp : (Tryd.prog.info? 134).map (·.comparable) = some true := by kernel_rfl
theorem is_size : (Tryd.prog.info? 159).map (·.size) = some 1 := by kernel_rfl
theorem is_noIs (v : Value) (xT : TypeId) (w : World) : (Instr.typeAssert (.iface 134 v) xT 110 true).run Tryd.prog w = .ok (.tuple #[.nilIface, .bool false]) w :=
  run_typeAssert_lacksB Tryd.underlying110 (by kernel_rfl) (by kernel_rfl) v xT w
theorem is_noUnwrap (v : Value) (xT : TypeId) (w : World) : (Instr.typeAssert (.iface 134 v) xT 113 true).run Tryd.prog w = .ok (.tuple #[.nilIface, .bool false]) w :=
  run_typeAssert_lacksB Tryd.underlying113 (by kernel_rfl) (by kernel_rfl) v xT w
theorem is_noUnwraps (v : Value) (xT : TypeId) (w : World) : (Instr.typeAssert (.iface 134 v) xT 115 true).run Tryd.prog w = .ok (.tuple #[.nilIface, .bool false]) w :=
  run_typeAssert_lacksB Tryd.underlying115 (by kernel_rfl) (by kernel_rfl) v xT w
theorem is_same (a : Addr) (w : World) : Calls Tryd.prog 41 #[errAt a, errAt a] w fun e w' => e = .returned (.bool true) ∧ w = w' := by
  obtain ⟨i, hi, hcmp⟩ := Option.map_eq_some_iff.1 is_comp
  obtain ⟨j, hj, _⟩ := Option.map_eq_some_iff.1 is_size
  have h8 := @run_callFunc_extern Tryd.prog 69 _ Extern.ReflectliteType.typeOf Tryd.func69 (by kernel_rfl) (by kernel_rfl) (by kernel_rfl) (by kernel_rfl)
  have tT := is_typeOf
  have cT := is_comparable
  have mR := is_methodComparable
  have heq := run_eql_iface_ptr_same (P := Tryd.prog) w a Tryd.underlying33 Tryd.underlying134 hi hcmp hj
  go_enter Tryd.func41, Tryd.ntmps41
  go_wp2
  refine wp_loop_rounds 1 ?_
  rw [rounds_succ]
  go_wp2
  go_ret
  exact ⟨rfl, rfl⟩
theorem is_other (a b : Addr) (ca cb : Array Value) (ta tb : TypeId) (w : World) (hne : a ≠ b) (ha : w.heap[a.block]? = some (.cells ca ta (0, 0))) (hb : w.heap[b.block]? = some (.cells cb tb (0, 0))) :
    Calls Tryd.prog 41 #[errAt a, errAt b] w fun e w' => e = .returned (.bool false) ∧ w = w' := by
  obtain ⟨i, hi, hcmp⟩ := Option.map_eq_some_iff.1 is_comp
  obtain ⟨j, hj, hjs⟩ := Option.map_eq_some_iff.1 is_size
  have h8 := @run_callFunc_extern Tryd.prog 69 _ Extern.ReflectliteType.typeOf Tryd.func69 (by kernel_rfl) (by kernel_rfl) (by kernel_rfl) (by kernel_rfl)
  have tT := is_typeOf
  have cT := is_comparable
  have mR := is_methodComparable
  have nE := is_noIs
  have uE := is_noUnwrap
  have vE := is_noUnwraps
  have heq := run_eql_iface_ptr_other (P := Tryd.prog) w Tryd.underlying33 Tryd.underlying134 hi hcmp hj (by rw [hjs]; decide) hne ha hb
  go_enter Tryd.func41, Tryd.ntmps41
  go_wp2
  refine wp_loop_rounds 1 ?_
  rw [rounds_succ]
  go_wp2
  go_ret
  exact ⟨rfl, rfl⟩
end Go.Proofs.YtagjbdhelfickaaDoor
namespace Go.Proofs.YtagjbdhelfickaaDoor
open Go.RowKit Go.Stop
/-- Package api's errors in the table's order: the variables' numbers. -/
def errVars : List Nat := [1, 2, 3, 0, 4, 5, 6, 7, 8, 9, 10, 11, 12, 13, 14, 15, 16, 17, 18]
/-- Variable g holds an error whose text lies at a. -/
def ErrIs (W : World) (g : Nat) (a : Addr) : Prop := W.cell? ⟨g, 0, none⟩ = some (errAt a) ∧ ∃ c t, W.heap[a.block]? = some (.cells c t (0, 0))
theorem lt_of_heap {W : World} {b : Nat} {o : Obj} (h : W.heap[b]? = some o) : b < W.heap.size := by
  rcases Nat.lt_or_ge b W.heap.size with hlt | hge
  · exact hlt
  · rw [Array.getElem?_eq_none hge] at h; cases h
theorem ErrIs.below {W W' : World} {g : Nat} {a : Addr} (h : ErrIs W g a) (hb : Below W.heap.size W W') : ErrIs W' g a := by
  obtain ⟨h1, c, t, h2⟩ := h
  refine ⟨(hb.cell (block_lt_of_cell h1)).trans h1, c, t, (hb.block _ ?_).trans h2⟩
  rcases Nat.lt_or_ge a.block W.heap.size with hlt | hge
  · exact hlt
  · rw [Array.getElem?_eq_none hge] at h2; cases h2
/-- All of package api's errors stand, each apart from the others. -/
def Errs (W : World) (es : List Addr) : Prop := es.length = 19 ∧ es.Nodup ∧ ∀ (i g : Nat) (a : Addr), errVars[i]? = some g → es[i]? = some a → ErrIs W g a
theorem Errs.below {W W' : World} {es : List Addr} (h : Errs W es) (hb : Below W.heap.size W W') : Errs W' es :=
  ⟨h.1, h.2.1, fun i g a hg ha => (h.2.2 i g a hg ha).below hb⟩
theorem Errs.drewN {W : World} {es : List Addr} (h : Errs W es) (n : Nat) : Errs (W.drewN n) es := h
theorem Errs.var {W : World} {es : List Addr} (h : Errs W es) (i : Nat) {g : Nat} (hg : errVars[i]? = some g) : ∃ a, es[i]? = some a ∧ W.cell? ⟨g, 0, none⟩ = some (errAt a) := by
  have hi : i < es.length := by
    rcases Nat.lt_or_ge i es.length with hlt | hge
    · exact hlt
    · have h1 := h.1
      rw [List.getElem?_eq_none (by show 19 ≤ i; omega)] at hg
      cases hg
  exact ⟨es[i], List.getElem?_eq_getElem hi, (h.2.2 i g _ hg (List.getElem?_eq_getElem hi)).1⟩
theorem row_err : ∀ u, Tryd.prog.typeName? 3 u = some "*errors.errorString" → u = 134 := typeName_ptr_named (nm := "errors.errorString") (by kernel_rfl) (by kernel_rfl) (by decide)
theorem cells_es : Tryd.prog.cellsOf 159 = 1 := by kernel_rfl
theorem cells_str : Tryd.prog.cellsOf 9 = 1 := by kernel_rfl
set_option maxRecDepth 100000 in
/-- What the row's list gives, of whatever length it is. -/
theorem sentinels {W : World} : ∀ (l : List (String × List UInt8)) (gs : List Nat) (ps : List MemPlace), l.map (fun x => Tryd.prog.globalNamed x.1) = gs.map some →
    (∀ g ∈ gs, (Tryd.prog.globals[g]?).map (·.type) = some 33) → DataW.LaidVars Tryd.prog W (l.map fun x => (x.1, .iface "*errors.errorString" (.ptr (.agg [.lit (.string x.2)])))) ps → ps.Nodup →
    (∀ b off, MemPlace.cell b off ∈ ps → (∃ c t, W.heap[b]? = some (.cells c t (0, 0))) ∧ ∀ u v, W.cell? ⟨b, off, none⟩ = some (.iface u v) → Value.okWide Tryd.prog W .any 0 u v) →
    ∃ es : List Addr, es.length = gs.length ∧ es.Nodup ∧ (∀ a ∈ es, MemPlace.cell a.block a.off ∈ ps ∧ a.spot = none) ∧ ∀ (i g : Nat) (a : Addr), gs[i]? = some g → es[i]? = some a → ErrIs W g a
  | [], [], _, _, _, _, _, _ => ⟨[], rfl, List.nodup_nil, fun _ h => (by cases h), fun i g a h => by simp at h⟩
  | [], _ :: _, _, h, _, _, _, _ => by simp at h
  | _ :: _, [], _, h, _, _, _, _ => by simp at h
  | x :: l, g :: gs, ps, hgs, hts, hv, hnd, hrows => by
    rw [List.map_cons, List.map_cons, List.cons.injEq] at hgs
    obtain ⟨g0, t0, cs0, f0, p0, q0, hg0, ht0, hv0, hd0, hq, rfl⟩ := hv
    obtain rfl := Option.some.inj (hgs.1.symm.trans hg0)
    obtain rfl := Option.some.inj ((hts g List.mem_cons_self).symm.trans ht0)
    have hok : ∀ u v, cs0.toList = [.iface u v] → Value.okWide Tryd.prog W .any 0 u v := fun u v e => by
      have hc0 : cs0 = #[.iface u v] := by cases cs0; simp_all
      subst hc0
      exact (hrows g 0 (by simp [MemPlace.row])).2 u v (by simpa using World.var?_cell hg0 hv0 0)
    obtain ⟨a0, s0, hcs, hc0, _, _, rfl⟩ := errorString_of_trod Tryd.underlying33 row_err Tryd.underlying134 Tryd.underlying159 rfl rfl Tryd.underlying9 cells_es cells_str hd0 hok
    have hcs' : cs0 = #[errAt a0] := by cases cs0; simp_all
    subst hcs'
    obtain ⟨es, h1, h2, h3, h4⟩ := sentinels l gs q0 hgs.2 (fun g hg => hts g (List.mem_cons_of_mem _ hg)) hq (List.Nodup.sublist (List.sublist_append_right _ _) hnd) (fun b off hm => hrows b off (List.mem_append_right _ hm))
    have hmem : MemPlace.cell a0.block a0.off ∈ MemPlace.row ⟨g, 0, none⟩ (#[errAt a0] : Array Value).size ++ MemPlace.row a0 1 ++ q0 := by simp [MemPlace.row]
    have hsp : a0.spot = none := by simpa using World.cell?_spot hc0
    refine ⟨a0 :: es, by simp [h1], List.nodup_cons.2 ⟨fun hin => ?_, h2⟩, ?_, ?_⟩
    · have hq1 := (h3 a0 hin).1
      have hd := (List.nodup_append.1 hnd).2.2 (MemPlace.cell a0.block a0.off) (by simp [MemPlace.row]) (MemPlace.cell a0.block a0.off) hq1
      exact hd rfl
    · intro a ha
      rcases List.mem_cons.1 ha with rfl | ha
      · exact ⟨hmem, hsp⟩
      · exact ⟨List.mem_append_right _ (h3 a ha).1, (h3 a ha).2⟩
    · intro i g' a hg' ha'
      cases i with
      | zero =>
        simp at hg' ha'
        subst hg' ha'
        exact ⟨by simpa using World.var?_cell hg0 hv0 0, (hrows _ _ hmem).1⟩
      | succ i => exact h4 i g' a (by simpa using hg') (by simpa using ha')
theorem nodup_one {α : Type} : ∀ (l : List α), l.Nodup → ∀ (i k : Nat) (a : α), l[i]? = some a → l[k]? = some a → i = k
  | [], _, _, _, _, h, _ => by simp at h
  | x :: l, hn, i, k, a, hi, hk => by
    rw [List.nodup_cons] at hn
    cases i with
    | zero =>
      cases k with
      | zero => rfl
      | succ k =>
        simp at hi hk
        subst hi
        exact absurd (List.mem_of_getElem? hk) hn.1
    | succ i =>
      cases k with
      | zero =>
        simp at hi hk
        subst hk
        exact absurd (List.mem_of_getElem? hi) hn.1
      | succ k => rw [nodup_one l hn.2 i k a (by simpa using hi) (by simpa using hk)]
theorem num_nil (w : World) : Calls Tryd.prog 11 #[.nilIface] w fun e w' => e = .returned (.int .i64 0) ∧ w = w' := by
  go_enter Tryd.func11, Tryd.ntmps11
  go_wp2
  go_ret
  exact ⟨rfl, rfl⟩
set_option maxRecDepth 100000 in
set_option maxHeartbeats 1000000 in
/-- Num of the i-th error. -/
theorem num_err (es : List Addr) (i : Nat) (a : Addr) (w : World) (h : Errs w es) (ha : es[i]? = some a) :
    Calls Tryd.prog 11 #[errAt a] w fun e w' => e = .returned (.int .i64 ((i : Int) + 1)) ∧ Below w.heap.size w w' := by
  have hnd := h.2.1
  have hrow := h.2.2
  match es, h.1, ha, hnd, h with
  | [a0, a1, a2, a3, a4, a5, a6, a7, a8, a9, a10, a11, a12, a13, a14, a15, a16, a17, a18], _, ha, hnd, h =>
    have c0 := (h.2.2 0 1 a0 rfl rfl).1
    have c1 := (h.2.2 1 2 a1 rfl rfl).1
    have c2 := (h.2.2 2 3 a2 rfl rfl).1
    have c3 := (h.2.2 3 0 a3 rfl rfl).1
    have c4 := (h.2.2 4 4 a4 rfl rfl).1
    have c5 := (h.2.2 5 5 a5 rfl rfl).1
    have c6 := (h.2.2 6 6 a6 rfl rfl).1
    have c7 := (h.2.2 7 7 a7 rfl rfl).1
    have c8 := (h.2.2 8 8 a8 rfl rfl).1
    have c9 := (h.2.2 9 9 a9 rfl rfl).1
    have c10 := (h.2.2 10 10 a10 rfl rfl).1
    have c11 := (h.2.2 11 11 a11 rfl rfl).1
    have c12 := (h.2.2 12 12 a12 rfl rfl).1
    have c13 := (h.2.2 13 13 a13 rfl rfl).1
    have c14 := (h.2.2 14 14 a14 rfl rfl).1
    have c15 := (h.2.2 15 15 a15 rfl rfl).1
    have c16 := (h.2.2 16 16 a16 rfl rfl).1
    have c17 := (h.2.2 17 17 a17 rfl rfl).1
    have c18 := (h.2.2 18 18 a18 rfl rfl).1
    have HA := Lib.hid (fun (k : Nat) (b : Addr) (hb : [a0, a1, a2, a3, a4, a5, a6, a7, a8, a9, a10, a11, a12, a13, a14, a15, a16, a17, a18][k]? = some b) => show ∃ c t, w.heap[b.block]? = some (.cells c t (0, 0)) from by
      have hk : k < 19 := by
        rcases Nat.lt_or_ge k 19 with hlt | hge
        · exact hlt
        · rw [List.getElem?_eq_none (by simpa using hge)] at hb; cases hb
      exact (h.2.2 k _ b (List.getElem?_eq_getElem (by exact hk)) hb).2)
    have HD := Lib.hid (fun (k : Nat) (b : Addr) (hb : [a0, a1, a2, a3, a4, a5, a6, a7, a8, a9, a10, a11, a12, a13, a14, a15, a16, a17, a18][k]? = some b) (hki : k ≠ i) => show a ≠ b from by
      rintro rfl
      exact hki (nodup_one _ hnd _ _ _ hb ha))
    have HI := Lib.hid ha
    have hi : i < 19 := by
      rcases Nat.lt_or_ge i 19 with hlt | hge
      · exact hlt
      · rw [List.getElem?_eq_none (by simpa using hge)] at ha; cases ha
    clear hnd hrow h ha
    go_enter Tryd.func11, Tryd.ntmps11
    have hc1 : ∀ (k : Nat) (b : Addr), [a0, a1, a2, a3, a4, a5, a6, a7, a8, a9, a10, a11, a12, a13, a14, a15, a16, a17, a18][k]? = some b → (w.alloc (.cells #[errAt a0, errAt a1, errAt a2, errAt a3, errAt a4, errAt a5, errAt a6, errAt a7, errAt a8, errAt a9, errAt a10, errAt a11, errAt a12, errAt a13, errAt a14, errAt a15, errAt a16, errAt a17, errAt a18] 33)).cell? ⟨w.heap.size, k, none⟩ = some (errAt b) := by
      intro k b hb
      have h2 : ([a0, a1, a2, a3, a4, a5, a6, a7, a8, a9, a10, a11, a12, a13, a14, a15, a16, a17, a18].map errAt)[k]? = some (errAt b) := by rw [List.getElem?_map, hb]; rfl
      rw [World.cell?_alloc_at _ _ _ _ rfl, List.getElem?_toArray]
      exact h2
    have hB : Below w.heap.size w (w.alloc (.cells #[errAt a0, errAt a1, errAt a2, errAt a3, errAt a4, errAt a5, errAt a6, errAt a7, errAt a8, errAt a9, errAt a10, errAt a11, errAt a12, errAt a13, errAt a14, errAt a15, errAt a16, errAt a17, errAt a18] 33)) := (Below.refl _ _).alloc (Nat.le_refl _) _
    have HC := Lib.hid hc1
    clear hc1
    go_wp2
    generalize w.alloc (.cells #[errAt a0, errAt a1, errAt a2, errAt a3, errAt a4, errAt a5, errAt a6, errAt a7, errAt a8, errAt a9, errAt a10, errAt a11, errAt a12, errAt a13, errAt a14, errAt a15, errAt a16, errAt a17, errAt a18] 33) = w1 at *
    clear c0 c1 c2 c3 c4 c5 c6 c7 c8 c9 c10 c11 c12 c13 c14 c15 c16 c17 c18
    go_loop [4, 5, 30] (fun _ _ q => ∃ k : Nat, k ≤ i ∧ q = .int .i64 k) (fun _ _ q => 19 - (intOf q).toNat)
    case atStart => exact ⟨0, by omega, rfl⟩
    case round =>
      obtain ⟨k, hk, rfl⟩ := hrel
      have hk2 : k < [a0, a1, a2, a3, a4, a5, a6, a7, a8, a9, a10, a11, a12, a13, a14, a15, a16, a17, a18].length := by show k < 19; omega
      obtain ⟨b, hb⟩ : ∃ b, [a0, a1, a2, a3, a4, a5, a6, a7, a8, a9, a10, a11, a12, a13, a14, a15, a16, a17, a18][k]? = some b := ⟨_, List.getElem?_eq_getElem hk2⟩
      have hck := HC.out k b hb
      have i1 : (k : Int) < 19 := by omega
      rcases Nat.lt_or_eq_of_le hk with hlt | heq
      · have hne := HD.out k b hb (by omega)
        obtain ⟨ca, ta, ha1⟩ := HA.out i a HI.out
        obtain ⟨cb, tb, hb1⟩ := HA.out k b hb
        have H1 := Lib.hid (is_other a b ca cb ta tb w1 hne ((hB.block _ (lt_of_heap ha1)).trans ha1) ((hB.block _ (lt_of_heap hb1)).trans hb1))
        clear hb hne ha1 hb1
        go_wp2_with (go_at_call 41; refine (H1.out).mono ?_; rintro e w' ⟨rfl, rfl⟩)
        go_round
        case rel => exact ⟨k + 1, by omega, by go_num⟩
        case measure => simp [intOf]; omega
      · subst heq
        have hab : b = a := by have h3 := HI.out; rw [hb] at h3; exact Option.some.inj h3
        subst hab
        clear hb
        go_wp2_with (go_at_call 41; refine (is_same _ _).mono ?_; rintro e w' ⟨rfl, rfl⟩)
        go_ret
        exact ⟨rfl, hB⟩
/-- The same, the number written out. -/
theorem num_is (es : List Addr) (i : Nat) (n : Int) (a : Addr) (w : World) (h : Errs w es) (ha : es[i]? = some a) (hn : (i : Int) + 1 = n) :
    Calls Tryd.prog 11 #[errAt a] w fun e w' => e = .returned (.int .i64 n) ∧ Below w.heap.size w w' := by
  subst hn
  exact num_err es i a w h ha
end Go.Proofs.YtagjbdhelfickaaDoor
namespace Go.Proofs.YtagjbdhelfickaaDoor
open Go.RowKit
/-- A number's i-th byte from the low end; its k low bytes, the low one first. -/
def byteAt (x i : Nat) : UInt8 := UInt8.ofNat (x / 256 ^ i)
def putL (x k : Nat) : List UInt8 := (List.range k).map (byteAt x)
theorem putL_length (x k : Nat) : (putL x k).length = k := by simp [putL]
theorem putL_succ (x k : Nat) : putL x (k + 1) = putL x k ++ [byteAt x k] := by simp [putL, List.range_succ]
theorem pow_8 (i : Nat) : 2 ^ (8 * i) = 256 ^ i := by rw [Nat.pow_mul]
theorem byte_shr (x i : Nat) : (x : Int) / 2 ^ (8 * i) % 256 = ((byteAt x i).toNat : Int) := by
  rw [pow_cast, pow_8, ← Int.natCast_ediv, byteAt, UInt8.toNat_ofNat']
  omega
theorem bigN_fold (l : List UInt8) : ∀ a : Nat, l.foldl (fun x b => x * 256 + b.toNat) a = a * 256 ^ l.length + bigN l := by
  induction l with
  | nil => intro a; simp [bigN]
  | cons u l ih =>
    intro a
    rw [List.foldl_cons, ih, show bigN (u :: l) = (u :: l).foldl (fun x b => x * 256 + b.toNat) 0 from rfl, List.foldl_cons, ih, List.length_cons, Nat.pow_succ, Nat.add_mul, Nat.zero_mul, Nat.zero_add, Nat.mul_assoc, Nat.mul_comm 256, Nat.add_assoc]
theorem bigN_cons (u : UInt8) (l : List UInt8) : bigN (u :: l) = u.toNat * 256 ^ l.length + bigN l := by
  rw [show bigN (u :: l) = (u :: l).foldl (fun x b => x * 256 + b.toNat) 0 from rfl, List.foldl_cons, bigN_fold, Nat.zero_mul, Nat.zero_add]
theorem little_round (l : List UInt8) (k : Nat) (hk : k < l.length) (hn : l.length ≤ 8) :
    bits .or .u64 (bigN (l.take k).reverse : Int) (IntKind.u64.wrap (IntKind.u64.wrap (l[k].toNat : Int) * 2 ^ (8 * k))) = (bigN (l.take (k + 1)).reverse : Int) := by
  have h1 := bigN_lt (l.take k).reverse
  have hlk : (l.take k).reverse.length = k := by rw [List.length_reverse, List.length_take]; omega
  have h3 := l[k].toNat_lt
  rw [take_snoc l k hk, List.reverse_append, List.reverse_singleton, List.singleton_append, bigN_cons, hlk]
  rw [hlk] at h1
  have hp : 256 ^ k ≤ 256 ^ 7 := pow256_le (by omega)
  generalize bigN (l.take k).reverse = a at *
  generalize l[k].toNat = u at *
  have hu : u * 256 ^ k ≤ 255 * 256 ^ k := Nat.mul_le_mul_right _ (by omega)
  have e : IntKind.u64.wrap (IntKind.u64.wrap (u : Int) * 2 ^ (8 * k)) = ((u * 256 ^ k : Nat) : Int) := by
    rw [IntKind.wrap_u64, IntKind.wrap_u64, show (u : Int) % 18446744073709551616 = (u : Int) by omega, pow_cast, pow_8, ← Int.natCast_mul]
    omega
  rw [e, u64_or_nat _ _ (by omega) (by omega), Nat.or_comm, nat_join (8 * k) _ _ (by rw [pow_8]; exact Nat.mul_mod_left _ _) (by rw [pow_8]; exact h1)]
set_option maxRecDepth 100000 in
theorem putLittle_in (x n : Nat) (w : World) (_hx : x < 18446744073709551616) (hn : n ≤ 8) :
    Calls Tryd.prog 89 #[.int .u64 x, .int .i64 n] w fun e w' => e = .returned (.tuple #[.slice (some ⟨w.heap.size, 0, none⟩) n n, .nilIface]) ∧ Below w.heap.size w w' ∧ Made w' w.heap.size (putL x n) := by
  have hmk := make_bytes n n (Nat.le_refl _) (by omega)
  go_enter Tryd.func89, Tryd.ntmps89
  go_wp2
  go_loopw [7, 19] (fun _ i wr => ∃ k : Nat, k ≤ n ∧ i = .int .i64 k ∧ Below w.heap.size w wr ∧ Made wr w.heap.size (putL x k ++ List.replicate (n - k) 0)) (fun _ i _ => n - (intOf i).toNat)
  case atStart => exact ⟨0, Nat.zero_le _, rfl, (Below.refl _ _).alloc (Nat.le_refl _) _, by simpa [putL] using Made.new w (List.replicate n 0)⟩
  case round =>
    obtain ⟨k, hk, rfl, hB, hM⟩ := hrel
    by_cases hlt : k < n
    · have hf := hM.frozen k
      obtain ⟨v3, hc3⟩ : ∃ v, wr.cell? ⟨w.heap.size, k, none⟩ = some v := ⟨_, hM.cell k (by simp [putL]; omega)⟩
      have i1 : (0 : Int) ≤ (k : Int) := by omega
      have i2 : (k : Int) < (n : Int) := by omega
      have HS := Lib.hid (byte_shr x k)
      go_wp2
      go_roundw
      case rel =>
        rw [HS.out]
        refine ⟨k + 1, by omega, by go_num, hB.setCell (p := ⟨w.heap.size, k, none⟩) (Nat.le_refl _) _, ?_⟩
        have h := hM.set k (byteAt x k)
        rw [set_next _ k n _ (putL_length x k) hlt, ← putL_succ] at h
        exact h
      case measure => simp [intOf]; omega
    · go_wp2
      go_ret2
      refine ⟨rfl, hB, ?_⟩
      have e : k = n := by omega
      subst e
      simpa using hM
theorem little_few (A : Option Addr) (c n : Nat) (bs : List UInt8) (w : World) (hl : bs.length = n) (hr : Row w w.heap.size A bs) (hn : n ≤ 8) :
    Calls Tryd.prog 91 #[.slice A n c] w fun e w' => e = .returned (.tuple #[.int .u64 (bigN bs.reverse : Int), .nilIface]) ∧ w = w' := by
  subst hl
  go_enter Tryd.func91, Tryd.ntmps91
  go_wp2
  go_loop [4, 5, 6, 13] (fun x _ _ i => ∃ k : Nat, k ≤ bs.length ∧ i = .int .i64 k ∧ x = .int .u64 (bigN (bs.take k).reverse : Int)) (fun _ _ _ i => bs.length - (intOf i).toNat)
  case atStart => exact ⟨0, Nat.zero_le _, rfl, rfl⟩
  case round =>
    obtain ⟨k, hk, rfl, rfl⟩ := hrel
    by_cases hlt : k < bs.length
    · obtain ⟨b, off, rfl, hb, hc⟩ := hr.at k hlt
      go_wp2
      go_round
      case rel => exact ⟨k + 1, by omega, by go_num, by rw [little_round bs k hlt hn]⟩
      case measure => simp [intOf]; omega
    · go_wp2
      go_ret2
      exact ⟨by rw [List.take_of_length_le (by omega)]; rfl, rfl⟩
end Go.Proofs.YtagjbdhelfickaaDoor
namespace Go.Proofs.YtagjbdhelfickaaDoor
open Go.RowKit
/-- The number of a row of bytes, the low one first. -/
def lev (bs : List UInt8) : Nat := dval (bs.map (·.toNat))
theorem lev_digits (bs : List UInt8) : ∀ x ∈ bs.map (·.toNat), x < 256 := by
  intro x hx
  obtain ⟨u, _, rfl⟩ := List.mem_map.1 hx
  exact u.toNat_lt
theorem lev_lt (bs : List UInt8) : lev bs < 256 ^ bs.length := by
  have h := dval_lt _ (lev_digits bs)
  rwa [List.length_map] at h
theorem lev_append (a b : List UInt8) : lev (a ++ b) = lev a + 256 ^ a.length * lev b := by
  unfold lev
  rw [List.map_append, dval_append, List.length_map]
/-- A number's k low bytes are that number, modulo 256^k. -/
theorem lev_putL (x : Nat) : ∀ k, lev (putL x k) = x % 256 ^ k
  | 0 => by rw [Nat.pow_zero, Nat.mod_one]; rfl
  | k + 1 => by
    rw [putL_succ, lev_append, lev_putL x k, putL_length]
    have e : lev [byteAt x k] = x / 256 ^ k % 256 := by
      simp [lev, dval, byteAt]
    rw [e, Nat.pow_succ, Nat.mod_mul]
/- Two rows added digit by digit, with what is carried. -/
end Go.Proofs.YtagjbdhelfickaaDoor
namespace Go.Proofs.YtagjbdhelfickaaDoor
open Go.RowKit
/-- The number of a row of limbs (which may be 2^26 and above). -/
def lval : List Nat → Nat
  | [] => 0
  | x :: l => x + 67108864 * lval l
theorem lval_five (a b c d e : Nat) : lval [a, b, c, d, e] = a + 67108864 * (b + 67108864 * (c + 67108864 * (d + 67108864 * (e + 67108864 * 0)))) := rfl
theorem five_of {α : Type} (n : List α) (h : n.length = 5) : ∃ a b c d e, n = [a, b, c, d, e] := by
  match n, h with
  | [a, b, c, d, e], _ => exact ⟨a, b, c, d, e, rfl⟩
/-- Sums and products of words of 64 bits. -/
def addW (x y : Nat) : Nat := (x + y) % 18446744073709551616
theorem addW_in (x y : Nat) (h : x + y < 18446744073709551616) : addW x y = x + y := Nat.mod_eq_of_lt h
/-- Two numbers, limb by limb. -/
def plusTo (a b : List Nat) : Nat → List Nat
  | 0 => a
  | k + 1 => (plusTo a b k).set k (addW ((plusTo a b k).getD k 0) (b.getD k 0))
theorem plusTo_length (a b : List Nat) : ∀ k, (plusTo a b k).length = a.length
  | 0 => rfl
  | k + 1 => by rw [plusTo, List.length_set, plusTo_length]
def plusN (a b : List Nat) : List Nat := plusTo a b 5
/-- Limbs below their bound. -/
def Below5 (B : Nat) (n : List Nat) : Prop := ∀ x ∈ n, x < B
theorem below5_five (B a b c d e : Nat) : Below5 B [a, b, c, d, e] ↔ a < B ∧ b < B ∧ c < B ∧ d < B ∧ e < B := by
  simp [Below5]
theorem polyP_is : polyP = 1361129467683753853853498429727072845819 := rfl
/-- Behind two folds the limbs have no more than their bits, but for the first, which is at most 5 beyond them. -/
def Fine (n : List Nat) : Prop := n.length = 5 ∧ n.getD 0 0 < 67108869 ∧ ∀ i, 0 < i → n.getD i 0 < 67108864
theorem fine_five (a b c d e : Nat) (h : Fine [a, b, c, d, e]) : a < 67108869 ∧ b < 67108864 ∧ c < 67108864 ∧ d < 67108864 ∧ e < 67108864 := by
  obtain ⟨_, h0, h1⟩ := h
  exact ⟨h0, h1 1 (by omega), h1 2 (by omega), h1 3 (by omega), h1 4 (by omega)⟩
theorem Fine.below {n : List Nat} (h : Fine n) : Below5 67108869 n := by
  obtain ⟨a, b, c, d, e, rfl⟩ := five_of n h.1
  have := fine_five _ _ _ _ _ h
  rw [below5_five]
  omega
theorem mul_mod (a0 a1 a2 a3 a4 b0 b1 b2 b3 b4 : Nat) :
    lval [a0 * b0 + a1 * b4 * 5 + a2 * b3 * 5 + a3 * b2 * 5 + a4 * b1 * 5, a0 * b1 + a1 * b0 + a2 * b4 * 5 + a3 * b3 * 5 + a4 * b2 * 5, a0 * b2 + a1 * b1 + a2 * b0 + a3 * b4 * 5 + a4 * b3 * 5, a0 * b3 + a1 * b2 + a2 * b1 + a3 * b0 + a4 * b4 * 5, a0 * b4 + a1 * b3 + a2 * b2 + a3 * b1 + a4 * b0] % polyP = lval [a0, a1, a2, a3, a4] * lval [b0, b1, b2, b3, b4] % polyP := by
  have e : lval [a0, a1, a2, a3, a4] * lval [b0, b1, b2, b3, b4] = lval [a0 * b0 + a1 * b4 * 5 + a2 * b3 * 5 + a3 * b2 * 5 + a4 * b1 * 5, a0 * b1 + a1 * b0 + a2 * b4 * 5 + a3 * b3 * 5 + a4 * b2 * 5, a0 * b2 + a1 * b1 + a2 * b0 + a3 * b4 * 5 + a4 * b3 * 5, a0 * b3 + a1 * b2 + a2 * b1 + a3 * b0 + a4 * b4 * 5, a0 * b4 + a1 * b3 + a2 * b2 + a3 * b1 + a4 * b0] + polyP * (a1 * b4 + a2 * b3 + a3 * b2 + a4 * b1 + 67108864 * (a2 * b4 + a3 * b3 + a4 * b2 + 67108864 * (a3 * b4 + a4 * b3 + 67108864 * (a4 * b4)))) := by
    rw [lval_five, lval_five, lval_five, polyP_is]
    grind
  rw [e, Nat.add_mul_mod_self_left]
end Go.Proofs.YtagjbdhelfickaaDoor
namespace Go.Proofs.YtagjbdhelfickaaDoor
open Go.RowKit
theorem lev_cons (u : UInt8) (l : List UInt8) : lev (u :: l) = u.toNat + 256 * lev l := rfl
theorem lev_rev (l : List UInt8) : bigN l.reverse = lev l := by
  induction l with
  | nil => rfl
  | cons u l ih => rw [List.reverse_cons, bigN_snoc, ih, lev_cons]; omega
theorem lev_drop (b : List UInt8) (f : Nat) (hf : f ≤ b.length) : lev (b.drop f) = lev b / 256 ^ f := by
  have h := lev_append (b.take f) (b.drop f)
  rw [List.take_append_drop] at h
  have hl : (b.take f).length = f := by rw [List.length_take]; omega
  have h2 := lev_lt (b.take f)
  rw [hl] at h h2
  rw [h, Nat.add_mul_div_left _ _ (Nat.pow_pos (by omega)), Nat.div_eq_of_lt h2, Nat.zero_add]
theorem lev_take (b : List UInt8) (f : Nat) (hf : f ≤ b.length) : lev (b.take f) = lev b % 256 ^ f := by
  have h := lev_append (b.take f) (b.drop f)
  rw [List.take_append_drop] at h
  have hl : (b.take f).length = f := by rw [List.length_take]; omega
  have h2 := lev_lt (b.take f)
  rw [hl] at h h2
  rw [h, Nat.add_mul_mod_self_left, Nat.mod_eq_of_lt h2]
end Go.Proofs.YtagjbdhelfickaaDoor
namespace Go.Proofs.YtagjbdhelfickaaDoor.NP
/-- A prime number. -/
def Pr (p : Nat) : Prop := 2 ≤ p ∧ ∀ d, d ∣ p → d = 1 ∨ d = p
theorem Pr.pos {p : Nat} (h : Pr p) : 0 < p := by have := h.1; omega
theorem Pr.coprime {p a : Nat} (h : Pr p) (ha : ¬ p ∣ a) : Nat.Coprime p a := by
  rcases h.2 (Nat.gcd p a) (Nat.gcd_dvd_left p a) with h1 | h1
  · exact h1
  · exact absurd (h1 ▸ Nat.gcd_dvd_right p a) ha
theorem Pr.euclid {p a b : Nat} (h : Pr p) (hd : p ∣ a * b) : p ∣ a ∨ p ∣ b := by
  by_cases ha : p ∣ a
  · exact Or.inl ha
  · exact Or.inr (Nat.Coprime.dvd_of_dvd_mul_left (h.coprime ha) hd)
/-- How many sets of so many there are. -/
def ch : Nat → Nat → Nat
  | _, 0 => 1
  | 0, _ + 1 => 0
  | n + 1, k + 1 => ch n k + ch n (k + 1)
theorem ch_zero (n : Nat) : ch n 0 = 1 := by cases n <;> rfl
theorem ch_over (n : Nat) : ∀ k, n < k → ch n k = 0 := by
  induction n with
  | zero => intro k hk; cases k with
    | zero => omega
    | succ k => rfl
  | succ n ih => intro k hk; cases k with
    | zero => omega
    | succ k => show ch n k + ch n (k + 1) = 0; rw [ih k (by omega), ih (k + 1) (by omega)]
theorem ch_self (n : Nat) : ch n n = 1 := by
  induction n with
  | zero => rfl
  | succ n ih => show ch n n + ch n (n + 1) = 1; rw [ih, ch_over n (n + 1) (by omega)]
theorem ch_absorb (n : Nat) : ∀ k, (k + 1) * ch (n + 1) (k + 1) = (n + 1) * ch n k := by
  induction n with
  | zero => intro k; cases k with
    | zero => rfl
    | succ k => show (k + 1 + 1) * (ch 0 (k + 1) + ch 0 (k + 1 + 1)) = 1 * ch 0 (k + 1); rw [ch_over 0 (k + 1) (by omega), ch_over 0 (k + 1 + 1) (by omega)]; rfl
  | succ n ih => intro k; cases k with
    | zero =>
      have h := ih 0
      rw [ch_zero] at h
      show (0 + 1) * (ch (n + 1) 0 + ch (n + 1) (0 + 1)) = _
      rw [ch_zero]; omega
    | succ j =>
      have h1 := ih j
      have h2 := ih (j + 1)
      have h3 : ch (n + 1) (j + 1) = ch n j + ch n (j + 1) := rfl
      show (j + 1 + 1) * (ch (n + 1) (j + 1) + ch (n + 1) (j + 1 + 1)) = _
      rw [Nat.mul_add, h2]
      have h4 : (j + 1 + 1) * ch (n + 1) (j + 1) = (n + 1) * ch n j + ch (n + 1) (j + 1) := by rw [Nat.add_mul (j + 1) 1, h1]; omega
      rw [h4, h3, Nat.add_mul (n + 1) 1, Nat.mul_add (n + 1)]; omega
/-- The first terms of (a + 1)^n. -/
def bs (n a : Nat) : Nat → Nat
  | 0 => 0
  | m + 1 => bs n a m + ch n m * a ^ m
theorem bs_step (n a : Nat) : ∀ m, bs (n + 1) a (m + 1) = bs n a (m + 1) + a * bs n a m := by
  intro m
  induction m with
  | zero => simp [bs, ch_zero]
  | succ m ih =>
    rw [bs, ih]
    show _ + (ch n m + ch n (m + 1)) * a ^ (m + 1) = (bs n a (m + 1) + ch n (m + 1) * a ^ (m + 1)) + a * (bs n a m + ch n m * a ^ m)
    rw [Nat.add_mul, Nat.mul_add, Nat.pow_succ]
    have : a * (ch n m * a ^ m) = ch n m * (a ^ m * a) := by rw [Nat.mul_left_comm, Nat.mul_comm a]
    omega
theorem bs_all (n a : Nat) : bs n a (n + 1) = (a + 1) ^ n := by
  induction n with
  | zero => simp [bs, ch]
  | succ n ih =>
    rw [bs_step, bs, ih, ch_over n (n + 1) (by omega), Nat.pow_succ (a + 1), Nat.mul_add, Nat.mul_comm a]; omega
theorem Pr.dvd_ch {p : Nat} (h : Pr p) (k : Nat) (hk : k + 1 < p) : p ∣ ch p (k + 1) := by
  obtain ⟨q, rfl⟩ : ∃ q, p = q + 1 := ⟨p - 1, by have := h.1; omega⟩
  rcases h.euclid (⟨_, ch_absorb q k⟩ : q + 1 ∣ (k + 1) * ch (q + 1) (k + 1)) with h1 | h1
  · exact absurd (Nat.le_of_dvd (by omega) h1) (by omega)
  · exact h1
theorem Pr.bs_mod {p : Nat} (h : Pr p) (a : Nat) : ∀ m, m + 1 ≤ p → bs p a (m + 1) % p = 1 := by
  intro m
  induction m with
  | zero => intro _; simp [bs, ch_zero]; exact Nat.mod_eq_of_lt h.1
  | succ m ih =>
    intro hm
    rw [bs, Nat.add_mod, ih (by omega), Nat.mod_eq_zero_of_dvd (Nat.dvd_trans (h.dvd_ch m (by omega)) (Nat.dvd_mul_right _ _))]
    exact Nat.mod_eq_of_lt h.1
theorem Pr.step {p : Nat} (h : Pr p) (a : Nat) : (a + 1) ^ p % p = (a ^ p + 1) % p := by
  have h1 := h.1
  rw [← bs_all, bs, ch_self, Nat.one_mul, Nat.add_mod]
  obtain ⟨q, rfl⟩ : ∃ q, p = q + 1 := ⟨p - 1, by omega⟩
  rw [h.bs_mod a q (by omega), Nat.add_comm, Nat.mod_add_mod]
theorem Pr.fermat {p : Nat} (h : Pr p) (a : Nat) : a ^ p % p = a % p := by
  induction a with
  | zero => rw [Nat.zero_pow h.pos]
  | succ a ih => rw [h.step, Nat.add_mod, ih, ← Nat.add_mod]
theorem dvd_sub_of_mod {a b p : Nat} (h : a % p = b % p) : p ∣ a - b := by
  rcases Nat.lt_or_ge a b with hl | hl
  · rw [Nat.sub_eq_zero_of_le (by omega)]; exact Nat.dvd_zero p
  · refine ⟨a / p - b / p, ?_⟩
    have h1 := Nat.div_add_mod a p
    have h2 := Nat.div_add_mod b p
    rw [Nat.mul_sub]; omega
theorem mod_of_dvd_sub {a b p : Nat} (hl : b ≤ a) (h : p ∣ a - b) : a % p = b % p := by
  obtain ⟨c, hc⟩ := h
  rw [show a = b + p * c by omega, Nat.add_mul_mod_self_left]
/-- What is not divisible has 1 as its power p - 1. -/
theorem Pr.little {p : Nat} (h : Pr p) {a : Nat} (ha : ¬ p ∣ a) : a ^ (p - 1) % p = 1 := by
  have h1 := h.1
  have h2 := dvd_sub_of_mod (h.fermat a)
  have h3 : a ^ p - a = a * (a ^ (p - 1) - 1) := by
    rw [Nat.mul_sub, Nat.mul_one, ← Nat.pow_succ']
    rw [show (p - 1).succ = p by omega]
  rw [h3] at h2
  have ha0 : 0 < a := Nat.pos_of_ne_zero (fun e => ha (e ▸ Nat.dvd_zero p))
  have h4 := mod_of_dvd_sub (Nat.pow_pos (n := p - 1) ha0) ((h.euclid h2).resolve_left ha)
  rw [h4]; exact Nat.mod_eq_of_lt h1
theorem pow_one_mod {b r : Nat} (m k : Nat) (h : b ^ m % r = 1 % r) : b ^ (m * k) % r = 1 % r := by
  rw [Nat.pow_mul, Nat.pow_mod, h, ← Nat.pow_mod, Nat.one_pow]
theorem pow_gcd {b r : Nat} (m n : Nat) : b ^ m % r = 1 % r → b ^ n % r = 1 % r → b ^ (Nat.gcd m n) % r = 1 % r := by
  induction m, n using Nat.gcd.induction with
  | H0 n => intro _ h; rw [Nat.gcd_zero_left]; exact h
  | H1 m n hm ih =>
    intro h1 h2
    rw [Nat.gcd_rec]
    refine ih ?_ h1
    have h3 := pow_one_mod m (n / m) h1
    rw [← Nat.div_add_mod n m, Nat.pow_add, Nat.mul_mod, h3, ← Nat.mul_mod, Nat.one_mul] at h2
    exact h2
/-- Every number from 2 on has a prime divisor. -/
theorem has_prime (n : Nat) : 2 ≤ n → ∃ r, Pr r ∧ r ∣ n := by
  induction n using Nat.strongRecOn with
  | _ n ih =>
    intro hn
    by_cases h : Pr n
    · exact ⟨n, h, Nat.dvd_refl n⟩
    · have : ∃ d, d ∣ n ∧ d ≠ 1 ∧ d ≠ n := by
        refine Classical.byContradiction fun hc => h ⟨hn, fun d hd => ?_⟩
        refine Classical.byContradiction fun hc2 => hc ⟨d, hd, fun e => hc2 (Or.inl e), fun e => hc2 (Or.inr e)⟩
      obtain ⟨d, hd, h1, h2⟩ := this
      have hle := Nat.le_of_dvd (by omega) hd
      have hpos := Nat.pos_of_dvd_of_pos hd (by omega)
      obtain ⟨r, hr, hrd⟩ := ih d (by omega) (by omega)
      exact ⟨r, hr, Nat.dvd_trans hrd hd⟩
/-- A number without a prime divisor whose square is as little as it is prime. -/
theorem pr_of (n : Nat) (hn : 2 ≤ n) (h : ∀ r, Pr r → r ∣ n → n < r * r) : Pr n := by
  refine ⟨hn, fun d hd => ?_⟩
  refine Classical.byContradiction fun hc => ?_
  have hpos := Nat.pos_of_dvd_of_pos hd (by omega)
  obtain ⟨e, he⟩ := hd
  have h1 : d ≠ 1 := fun x => hc (Or.inl x)
  have h2 : e ≠ 1 := fun x => hc (Or.inr (by rw [he, x, Nat.mul_one]))
  have h0 : e ≠ 0 := fun x => by rw [x] at he; omega
  have key : ∀ a b, n = a * b → 2 ≤ a → a ≤ b → False := by
    intro a b hab ha hle
    obtain ⟨r, hr, hrd⟩ := has_prime a ha
    have h3 := h r hr (Nat.dvd_trans hrd ⟨b, hab⟩)
    have h4 := Nat.le_of_dvd (by omega) hrd
    have h5 : r * r ≤ a * b := Nat.mul_le_mul h4 (by omega)
    omega
  rcases Nat.le_total d e with hle | hle
  · exact key d e he (by omega) hle
  · exact key e d (by rw [he, Nat.mul_comm]) (by omega) hle
theorem dvd_pow_self (b : Nat) {q : Nat} (h : 0 < q) : b ∣ b ^ q := ⟨b ^ (q - 1), by rw [← Nat.pow_succ', show (q - 1).succ = q by omega]⟩
/-- Pocklington: a prime q of n - 1 is one of r - 1 too, for a prime divisor r of n. -/
theorem pock {n q a r : Nat} (hq : Pr q) (hr : Pr r) (hrn : r ∣ n) (hqn : q ∣ n - 1) (h1 : a ^ (n - 1) % n = 1 % n) (h2 : Nat.gcd (a ^ ((n - 1) / q) % n + (n - 1)) n = 1) (hn : 2 ≤ n) : q ∣ r - 1 := by
  have hr1 := hr.1
  have e1 : (a ^ ((n - 1) / q)) ^ q % r = 1 % r := by
    rw [← Nat.pow_mul, Nat.div_mul_cancel hqn]
    have := Nat.mod_mod_of_dvd (a ^ (n - 1)) hrn
    rw [h1, Nat.mod_mod_of_dvd 1 hrn] at this
    exact this.symm
  have e2 : a ^ ((n - 1) / q) % r ≠ 1 % r := by
    intro e
    have e3 : r ∣ a ^ ((n - 1) / q) % n + (n - 1) := by
      refine Nat.dvd_of_mod_eq_zero ?_
      obtain ⟨c, hc⟩ := hrn
      have e5 : (a ^ ((n - 1) / q) % n) % r = 1 % r := by rw [Nat.mod_mod_of_dvd _ ⟨c, hc⟩, e]
      rw [Nat.add_mod, e5, ← Nat.add_mod, show 1 + (n - 1) = r * c by omega]
      exact Nat.mul_mod_right r c
    have e4 := Nat.dvd_gcd e3 hrn
    rw [h2] at e4
    have := Nat.le_of_dvd (by omega) e4
    omega
  generalize a ^ ((n - 1) / q) = b at *
  have e6 : ¬ r ∣ b := by
    intro h
    have : b ^ q % r = 0 := Nat.mod_eq_zero_of_dvd (Nat.dvd_trans h (dvd_pow_self b (by have := hq.1; omega)))
    rw [this, Nat.mod_eq_of_lt hr1] at e1; omega
  have e7 := hr.little e6
  rw [← Nat.mod_eq_of_lt (show 1 < r by omega)] at e7
  rw [show (1 % r) = 1 % r from rfl] at e7
  have e8 := pow_gcd q (r - 1) e1 (by rw [Nat.mod_eq_of_lt (show 1 < r by omega)]; rw [Nat.mod_eq_of_lt (show 1 < r by omega)] at e7; exact e7)
  rcases hq.2 _ (Nat.gcd_dvd_left q (r - 1)) with h3 | h3
  · rw [h3, Nat.pow_one] at e8; exact absurd e8 e2
  · rw [← h3]; exact Nat.gcd_dvd_right q (r - 1)
/-- A power modulo m, by squares. -/
def pw : Nat → Nat → Nat → Nat → Nat
  | 0, _, _, m => 1 % m
  | f + 1, a, e, m => bif Nat.beq e 0 then 1 % m else bif Nat.beq (e % 2) 1 then (a * pw f (a * a % m) (e / 2) m) % m else pw f (a * a % m) (e / 2) m
theorem pw_eq (m : Nat) : ∀ f a e, e < 2 ^ f → pw f a e m = a ^ e % m := by
  intro f
  induction f with
  | zero => intro a e h; rw [show e = 0 by omega]; rfl
  | succ f ih =>
    intro a e h
    rw [Nat.pow_succ] at h
    have h1 := ih (a * a % m) (e / 2) (by omega)
    have h2 : (a * a % m) ^ (e / 2) % m = a ^ (2 * (e / 2)) % m := by
      rw [← Nat.pow_mod, Nat.pow_mul, Nat.pow_two]
    rw [h2] at h1
    rw [pw, h1]
    rcases Nat.eq_zero_or_pos e with h0 | h0
    · subst h0; rfl
    · have hb : Nat.beq e 0 = false := Bool.eq_false_iff.2 (fun c => by have := Nat.eq_of_beq_eq_true c; omega)
      rw [hb]
      rcases Nat.mod_two_eq_zero_or_one e with h3 | h3
      · rw [h3]
        show a ^ (2 * (e / 2)) % m = _
        rw [show 2 * (e / 2) = e by omega]
      · rw [h3]
        show a * (a ^ (2 * (e / 2)) % m) % m = _
        rw [Nat.mul_mod_mod, ← Nat.pow_succ', show (2 * (e / 2)).succ = e by omega]
/-- No number from d on, so many of them, divides n. -/
def none_from (n : Nat) : Nat → Nat → Bool
  | 0, _ => true
  | f + 1, d => bif Nat.beq (n % d) 0 then false else none_from n f (d + 1)
theorem none_from_is (n : Nat) : ∀ f d, none_from n f d = true → ∀ k, d ≤ k → k < d + f → ¬ k ∣ n := by
  intro f
  induction f with
  | zero => intro d _ k h1 h2; omega
  | succ f ih =>
    intro d h k h1 h2 hk
    rw [none_from] at h
    cases hb : Nat.beq (n % d) 0 with
    | true => rw [hb] at h; cases h
    | false =>
      rw [hb] at h
      by_cases e : k = d
      · subst e
        rw [Nat.mod_eq_zero_of_dvd hk] at hb; cases hb
      · exact ih (d + 1) h k (by omega) (by omega) hk
theorem pr_small (n f : Nat) (hn : 2 ≤ n) (h : none_from n f 2 = true) (hf : n < (f + 2) * (f + 2)) : Pr n := by
  refine pr_of n hn fun r hr hd => ?_
  refine Classical.byContradiction fun hc => none_from_is n f 2 h r hr.1 ?_ hd
  rcases Nat.lt_or_ge r (2 + f) with hl | hl
  · exact hl
  · have := Nat.mul_le_mul (show f + 2 ≤ r by omega) (show f + 2 ≤ r by omega)
    omega
/-- One prime of n - 1 that is great enough. -/
theorem pr_one {n q : Nat} (a f : Nat) (hq : Pr q) (hn : 2 ≤ n) (hqn : (n - 1) % q = 0) (h1 : pw f a (n - 1) n = 1 % n) (h2 : Nat.gcd (pw f a ((n - 1) / q) n + (n - 1)) n = 1) (hf : n ≤ 2 ^ f) (hl : n < (q + 1) * (q + 1)) : Pr n := by
  rw [pw_eq _ _ _ _ (by omega)] at h1
  rw [pw_eq _ _ _ _ (Nat.lt_of_le_of_lt (Nat.div_le_self _ _) (by omega))] at h2
  refine pr_of n hn fun r hr hd => ?_
  have h3 := pock hq hr hd (Nat.dvd_of_mod_eq_zero hqn) h1 h2 hn
  have h4 := Nat.le_of_dvd (by have := hr.1; omega) h3
  have := hr.1
  exact Nat.lt_of_lt_of_le hl (Nat.mul_le_mul (by omega) (by omega))
/-- Two primes of n - 1 whose product is great enough. -/
theorem pr_two {n q u : Nat} (a b f : Nat) (hq : Pr q) (hu : Pr u) (hqu : Nat.gcd q u = 1) (hn : 2 ≤ n) (hqn : (n - 1) % q = 0) (hun : (n - 1) % u = 0) (h1 : pw f a (n - 1) n = 1 % n) (h2 : Nat.gcd (pw f a ((n - 1) / q) n + (n - 1)) n = 1) (g1 : pw f b (n - 1) n = 1 % n) (g2 : Nat.gcd (pw f b ((n - 1) / u) n + (n - 1)) n = 1) (hf : n ≤ 2 ^ f) (hl : n < (q * u + 1) * (q * u + 1)) : Pr n := by
  rw [pw_eq _ _ _ _ (by omega)] at h1 g1
  rw [pw_eq _ _ _ _ (Nat.lt_of_le_of_lt (Nat.div_le_self _ _) (by omega))] at h2 g2
  refine pr_of n hn fun r hr hd => ?_
  have h3 := pock hq hr hd (Nat.dvd_of_mod_eq_zero hqn) h1 h2 hn
  have g3 := pock hu hr hd (Nat.dvd_of_mod_eq_zero hun) g1 g2 hn
  have h4 := Nat.le_of_dvd (by have := hr.1; omega) (Nat.Coprime.mul_dvd_of_dvd_of_dvd hqu h3 g3)
  have := hr.1
  exact Nat.lt_of_lt_of_le hl (Nat.mul_le_mul (by omega) (by omega))
def pT : Nat := 8574133
def pS : Nat := 1919519569386763
def pR : Nat := 75445702479781427272750846543864801
def pQ : Nat := 74058212732561358302231226437062788676166966415465897661863160754340907
/-- The number p of the chapter. -/
def PP : Nat := 57896044618658097711785492504343953926634992332820282019728792003956564819949
set_option maxRecDepth 100000 in
theorem pr_127 : Pr 127 := pr_small 127 10 (by decide) (by decide +kernel) (by decide)
set_option maxRecDepth 100000 in
theorem pr_353 : Pr 353 := pr_small 353 17 (by decide) (by decide +kernel) (by decide)
set_option maxRecDepth 100000 in
theorem pr_75707 : Pr 75707 := pr_small 75707 280 (by decide) (by decide +kernel) (by decide)
set_option maxRecDepth 100000 in
theorem pr_T : Pr pT := pr_small pT 2930 (by decide +kernel) (by decide +kernel) (by decide +kernel)
set_option maxRecDepth 100000 in
theorem pr_S : Pr pS := pr_two (q := pT) (u := 127) 2 2 51 pr_T pr_127 (by decide +kernel) (by decide +kernel) (by decide +kernel) (by decide +kernel) (by decide +kernel) (by decide +kernel) (by decide +kernel) (by decide +kernel) (by decide +kernel) (by decide +kernel)
set_option maxRecDepth 100000 in
theorem pr_R : Pr pR := pr_two (q := pS) (u := 75707) 2 2 116 pr_S pr_75707 (by decide +kernel) (by decide +kernel) (by decide +kernel) (by decide +kernel) (by decide +kernel) (by decide +kernel) (by decide +kernel) (by decide +kernel) (by decide +kernel) (by decide +kernel)
set_option maxRecDepth 100000 in
theorem pr_Q : Pr pQ := pr_two (q := pR) (u := 353) 2 2 236 pr_R pr_353 (by decide +kernel) (by decide +kernel) (by decide +kernel) (by decide +kernel) (by decide +kernel) (by decide +kernel) (by decide +kernel) (by decide +kernel) (by decide +kernel) (by decide +kernel)
set_option maxRecDepth 100000 in
theorem pr_P : Pr PP := pr_one (q := pQ) 2 255 pr_Q (by decide +kernel) (by decide +kernel) (by decide +kernel) (by decide +kernel) (by decide +kernel) (by decide +kernel)
end Go.Proofs.YtagjbdhelfickaaDoor.NP
