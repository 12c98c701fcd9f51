/- Rows of bytes in memory: what my contracts speak of. No program is named here. -/
import Derived.WalkKit
import Derived.Lib.Hide
import Derived.WalkSmall
import Derived.Deep.Draws
import Derived.Laws.BytesArg
import Derived.WalkMore
import Derived.ScopeJumps
import Derived.Below
import Derived.Laws.OwnMore
import Derived.Laws.Rows
namespace Go.Proofs.YtiadgningbogmaaDoor
open Go.RowKit
/-- A byte as a cell holds it. -/
abbrev cellOf (u : UInt8) : Value := .int .u8 (u.toNat : Int)
/-- The address A leads to the bytes bs, in a block below B (of no bytes: any address, none too). -/
def Row (w : World) (B : Nat) (A : Option Addr) (bs : List UInt8) : Prop :=
  bs = [] ∨ ∃ b off, A = some ⟨b, off, none⟩ ∧ b < B ∧ ∀ j u, bs[j]? = some u → w.cell? ⟨b, off + j, none⟩ = some (cellOf u)
section
variable {w w' : World} {B B' : Nat} {A : Option Addr} {bs : List UInt8}
theorem Row.nil : Row w B A [] := .inl rfl
theorem Row.at (h : Row w B A bs) (k : Nat) (hk : k < bs.length) : ∃ b off, A = some ⟨b, off, none⟩ ∧ b < B ∧ w.cell? ⟨b, off + k, none⟩ = some (cellOf bs[k]) := by
  rcases h with rfl | ⟨b, off, hA, hb, hc⟩
  · simp at hk
  · exact ⟨b, off, hA, hb, hc k _ (List.getElem?_eq_getElem hk)⟩
theorem Row.keep (h : Row w B A bs) (hk : ∀ p : Addr, p.block < B → w'.cell? p = w.cell? p) : Row w' B A bs := by
  rcases h with rfl | ⟨b, off, hA, hb, hc⟩
  · exact .inl rfl
  · exact .inr ⟨b, off, hA, hb, fun j u hu => (hk _ hb).trans (hc j u hu)⟩
theorem Row.more (h : Row w B A bs) (hB : B ≤ B') : Row w B' A bs := by
  rcases h with rfl | ⟨b, off, hA, hb, hc⟩
  · exact .inl rfl
  · exact .inr ⟨b, off, hA, by omega, hc⟩
theorem Row.below (h : Row w B A bs) (hb : Below B w w') : Row w' B A bs := h.keep fun _ hp => hb.cell hp
theorem Row.drewN (h : Row w B A bs) (n : Nat) : Row (w.drewN n) B A bs := h
theorem Row.lt (h : Row w B A bs) (hB : B ≤ w.heap.size) : Row w w.heap.size A bs := h.more hB
theorem Row.take (h : Row w B A bs) (n : Nat) : Row w B A (bs.take n) := by
  rcases h with rfl | ⟨b, off, hA, hb, hc⟩
  · exact .inl (by simp)
  · refine .inr ⟨b, off, hA, hb, fun j u hu => hc j u ?_⟩
    rw [List.getElem?_take] at hu
    split at hu
    · exact hu
    · cases hu
end
/-- The text that bytes are. (Named, so that a walk leaves it whole.) -/
def str (bs : List UInt8) : ByteArray := ⟨bs.toArray⟩
theorem str_toList (bs : List UInt8) : (str bs).toList = bs := by
  unfold str; exact ByteArray.toList_mk bs
theorem str_beq (a b : List UInt8) : ((str a).toList == (str b).toList) = (a == b) := by rw [str_toList, str_toList]
/-- 'string(b)' of a row. -/
theorem Row.conv {P : Program} {w : World} {B : Nat} {A : Option Addr} {bs : List UInt8} (h : Row w B A bs) (c : Nat) {src e dst : TypeId} (hs : P.underlying src = some (.slice e)) (he : P.underlying e = some (.int .u8)) (hd : P.underlying dst = some .string) :
    (convert src dst (.slice A bs.length c)).run P w = .ok (.string (str bs)) w := by
  have hn : ∀ A : Option Addr, (convert src dst (.slice A 0 c)).run P w = .ok (.string (str [])) w := by
    intro A
    rw [run_convert_bytes_string w src dst e A 0 c hs he hd]
    cases A <;> simp [Conv.bytesToString, loadCells, str]
    all_goals rfl
  rcases h with rfl | ⟨b, off, rfl, hb, hc⟩
  · exact hn A
  · have := run_convert_bytes_arg (P := P) w src e hs he b off bs.length c (bs.map fun u => (u.toNat : Int)) (by simp) (fun i hi => by
      rw [hc i _ (List.getElem?_eq_getElem hi)]; simp [hi]) dst hd
    rw [this]
    congr 2
    simp [strOfNums, str, Function.comp_def]
/-- A scope with one label that is jumped back to: what holds at the label (J), the way from there on walked once, a measure that every pass lowers. -/
theorem wp_scope_once {P : Program} {c rest : Code} {Q : Exit → Act → World → Prop} {a : Act} {w : World} (l : Nat) (J : Act → World → Prop) (μ : Act → World → Nat) (hf : findLabel c l = some (Code.skip.seq rest))
    (first : Hid (∀ a w, J a w → rest.wp P (Exit.jump l J Q) a w) → c.wp P (Exit.jump l J Q) a w)
    (pass : ∀ a w, J a w → rest.wp P (Exit.jump l (fun a' w' => J a' w' ∧ μ a' w' < μ a w) Q) a w) : (Code.scope c).wp P Q a w :=
  wp_scope_jumps l J μ hf (first fun a w h => Code.wp_mono (fun e _ _ hq => by
    cases e <;> first | exact hq | exact ⟨hq.1, hq.2.1⟩) (pass a w h)) (fun a w h => wp_seq (wp_skip (pass a w h)))
/-- A row that the call itself has made: block g is just these bytes. -/
def Made (w : World) (g : Nat) (bs : List UInt8) : Prop := w.heap[g]? = some (.cells (bs.map cellOf).toArray 5 (0, 0))
theorem Made.cell {w : World} {g : Nat} {bs : List UInt8} (h : Made w g bs) (j : Nat) (hj : j < bs.length) : w.cell? ⟨g, j, none⟩ = some (cellOf bs[j]) := by
  rw [cell_of_row w g j _ _ _ h]
  simp [hj]
theorem Made.lt {w : World} {g : Nat} {bs : List UInt8} (h : Made w g bs) : g < w.heap.size := by
  rcases Nat.lt_or_ge g w.heap.size with hlt | hge
  · exact hlt
  · unfold Made at h; rw [Array.getElem?_eq_none hge] at h; cases h
theorem Made.row {w : World} {g B : Nat} {bs : List UInt8} (h : Made w g bs) (hB : g < B) : Row w B (some ⟨g, 0, none⟩) bs :=
  .inr ⟨g, 0, rfl, hB, fun j u hu => by
    have hj : j < bs.length := by
      rcases Nat.lt_or_ge j bs.length with h | h
      · exact h
      · rw [List.getElem?_eq_none h] at hu; cases hu
    rw [Nat.zero_add, h.cell j hj]
    rw [List.getElem?_eq_getElem hj] at hu
    cases hu; rfl⟩
theorem Made.below {w w' : World} {g B : Nat} {bs : List UInt8} (h : Made w g bs) (hb : Below B w w') (hg : g < B) : Made w' g bs := (hb.block g hg).trans h
theorem Made.frozen {w : World} {g : Nat} {bs : List UInt8} (h : Made w g bs) (j : Nat) : w.frozen? ⟨g, j, none⟩ = false := by
  unfold Made at h
  simp [World.frozen?, h]
theorem Made.set {w : World} {g : Nat} {bs : List UInt8} (h : Made w g bs) (j : Nat) (u : UInt8) : Made (w.setCell ⟨g, j, none⟩ (cellOf u)) g (bs.set j u) := by
  unfold Made at h ⊢
  simp [World.setCell, Array.getElem?_modify, h, List.map_set]
theorem Made.drew {w : World} {g : Nat} {bs : List UInt8} (h : Made w g bs) : Made w.drew g bs := h
theorem Made.drewN {w : World} {g : Nat} {bs : List UInt8} (h : Made w g bs) (n : Nat) : Made (w.drewN n) g bs := h
/-- A new row's cells. -/
def rowCells (bs : List UInt8) : Array Value := (bs.map cellOf).toArray
theorem Made.new (w : World) (bs : List UInt8) : Made (w.alloc (.cells (rowCells bs) 5)) w.heap.size bs := heap_alloc_new w _
theorem zeros_made (n : Nat) : madeCells (Value.int .u8 0).cells n = rowCells (List.replicate n 0) := by
  apply Array.ext_getElem?
  intro i
  simp only [madeCells, rowCells, Value.cells, List.map_replicate]
  by_cases h : i < n
  · simp [h, Nat.mod_one]
  · simp [h]
theorem below_then {a b c : World} (h : Below a.heap.size a b) (k : Below b.heap.size b c) : Below a.heap.size a c := h.trans (k.mono h.size)
/-- A row that stood stands in every world in which nothing old has turned. -/
theorem Row.on {w : World} {A : Option Addr} {bs : List UInt8} (h : Row w w.heap.size A bs) {w' : World} (hb : Below w.heap.size w w') : Row w' w'.heap.size A bs := (h.below hb).more hb.size
theorem below_redrew {B j k : Nat} {a w : World} (h : Below B a (w.drewN j)) : Below B a (w.drewN k) := ⟨h.os, h.tape, h.output, h.size, h.block⟩
end Go.Proofs.YtiadgningbogmaaDoor
