/- Part 1 of what the laws of this seat share: WMath, WTurns, WMem, WBig, WRows, WMix, WCells, WCopy, WApp, WErr, WNum, WPut, WParts. -/
import Derived.WalkKit
import Derived.Test.YtoggkhjaghkpnaaDoorProg
import Derived.Lib.Hide
import Derived.WalkSmall
import Derived.Deep.Draws
import Derived.Laws.BytesArg
import Derived.WalkMore
import Derived.ScopeJumps
import Derived.Below
import Derived.Laws.OwnMore
import Derived.Laws.Rows
import Derived.BigQuiet
import Derived.Deep.QuietTactic
import Derived.StillTailTactics
import Derived.Deep.RegionHeld3
import Derived.Deep.MidRow
import Derived.Laws.CopyOwn
import Derived.Laws.AppendOwnNone
import Derived.Deep.AppendLies
import Derived.Maps.AppendAt
import Derived.Test.YtoggkhjaghkpnaaDoorChecked
import Derived.LaidEql
import Derived.Stop.Asserts
import Derived.RowKitTokens
import Derived.LaidLaws
import Derived.Stop.LaidErr
import Derived.MakeChecks
import Derived.ProofKit
namespace Go.Proofs.YtoggkhjaghkpnaaDoor
theorem and63 (n : Int) : bits .and .u64 (IntKind.u64.wrap n) 63 = ((n % 64).toNat : Int) := by
  rw [IntKind.wrap_u64, u64_and _ _ (by omega) (by omega) (by omega) (by omega)]
  show (((n % 18446744073709551616).toNat &&& 63 : Nat) : Int) = _
  rw [nat_mask6]; omega
theorem pow_cast (k : Nat) : ((2 : Int) ^ k) = ((2 ^ k : Nat) : Int) := by simp
theorem shl64 (x : BitVec 64) (k : Nat) : (x.toNat : Int) * 2 ^ k % 18446744073709551616 = ((x <<< k).toNat : Int) := by
  rw [BitVec.toNat_shiftLeft, Nat.shiftLeft_eq, pow_cast, Int.natCast_emod, Int.natCast_mul]
  rfl
theorem shr64 (x : BitVec 64) (k : Nat) : (x.toNat : Int) / 2 ^ k = ((x >>> k).toNat : Int) := by
  rw [BitVec.toNat_ushiftRight, Nat.shiftRight_eq_div_pow, pow_cast, Int.natCast_ediv]
theorem or64 (x y : BitVec 64) : bits .or .u64 (x.toNat : Int) (y.toNat : Int) = ((x ||| y).toNat : Int) := by
  rw [u64_or_nat _ _ x.isLt y.isLt, BitVec.toNat_or]
theorem xor64 (x y : BitVec 64) : bits .xor .u64 (x.toNat : Int) (y.toNat : Int) = ((x ^^^ y).toNat : Int) := by
  rw [u64_xor_nat _ _ x.isLt y.isLt, BitVec.toNat_xor]
theorem and64 (x y : BitVec 64) : bits .and .u64 (x.toNat : Int) (y.toNat : Int) = ((x &&& y).toNat : Int) := by
  rw [u64_and_nat _ _ x.isLt y.isLt, BitVec.toNat_and]
theorem rotr64 (x : BitVec 64) (k : Nat) (hk : k < 64) : bits .or .u64 ((x.toNat : Int) / 2 ^ k) ((x.toNat : Int) * 2 ^ (64 - k) % 18446744073709551616) = ((x.rotateRight k).toNat : Int) := by
  rw [shl64, shr64, or64, BitVec.rotateRight_def, Nat.mod_eq_of_lt hk]
def rotR64 (x : BitVec 64) (n : Int) : BitVec 64 := x.rotateRight (n % 64).toNat
open Go.RowKit
theorem ret_int {k : IntKind} {a b : Int} (h : a = b) : Ending.returned (.int k a) = .returned (.int k b) := by rw [h]
theorem right64_any (x : BitVec 64) (n : Int) (w : World) :
    Calls Tryd.prog 93 #[.int .u64 x.toNat, .int .i64 n] w fun e w' => e = .returned (.int .u64 ((rotR64 x n).toNat : Int)) ∧ w = w' := by
  have hk := and63 n
  have hl : (n % 64).toNat < 64 := by omega
  have HR := Lib.hid (show _ = ((rotR64 x n).toNat : Int) from rotr64 x _ hl)
  generalize (n % 64).toNat = k at *
  go_enter Tryd.func93, Tryd.ntmps93
  go_wp2
  go_ret
  exact ⟨ret_int HR.out, rfl⟩
/-- What a call answers that makes new memory alone: this value. -/
abbrev gvn (v : Value) (W : World) : Ending → World → Prop := fun e w' => e = .returned v ∧ Below W.heap.size W w'
/-- A slot written: the frame's list anew. -/
theorem putS : (∀ (t : Array Value) (ds : List Deferred) (d : Tmp) (v : Value), Act.put ⟨t, ds⟩ (some d) v = ⟨t.setIfInBounds d v, ds⟩) ∧ (∀ (a : Act) (v : Value), a.put none v = a) ∧ (∀ (l : List Value) (i : Nat) (v : Value), l.toArray.setIfInBounds i v = (l.set i v).toArray) ∧
    (∀ (x v : Value) (l : List Value), (x :: l).set 0 v = v :: l) ∧ (∀ (x v : Value) (l : List Value) (i : Nat), (x :: l).set (i + 1) v = x :: l.set i v) :=
  ⟨fun _ _ _ _ => rfl, fun _ _ => rfl, fun _ _ _ => List.setIfInBounds_toArray _ _ _, fun _ _ _ => rfl, fun _ _ _ _ => rfl⟩
/-- A byte as a cell holds it. -/
abbrev cellOf (u : UInt8) : Value := .int .u8 (u.toNat : Int)
/-- The address A leads to the bytes bs, in a block below B (of no bytes: any address, none too). -/
def Row (w : World) (B : Nat) (A : Option Addr) (bs : List UInt8) : Prop :=
  bs = [] ∨ ∃ b off, A = some ⟨b, off, none⟩ ∧ b < B ∧ ∀ j u, bs[j]? = some u → w.cell? ⟨b, off + j, none⟩ = some (cellOf u)
section
variable {w w' : World} {B B' : Nat} {A : Option Addr} {bs : List UInt8}
theorem Row.nil : Row w B A [] := .inl rfl
theorem Row.at (h : Row w B A bs) (k : Nat) (hk : k < bs.length) : ∃ b off, A = some ⟨b, off, none⟩ ∧ b < B ∧ w.cell? ⟨b, off + k, none⟩ = some (cellOf bs[k]) := by
  rcases h with rfl | ⟨b, off, hA, hb, hc⟩
  · simp at hk
  · exact ⟨b, off, hA, hb, hc k _ (List.getElem?_eq_getElem hk)⟩
theorem Row.keep (h : Row w B A bs) (hk : ∀ p : Addr, p.block < B → w'.cell? p = w.cell? p) : Row w' B A bs := by
  rcases h with rfl | ⟨b, off, hA, hb, hc⟩
  · exact .inl rfl
  · exact .inr ⟨b, off, hA, hb, fun j u hu => (hk _ hb).trans (hc j u hu)⟩
theorem Row.more (h : Row w B A bs) (hB : B ≤ B') : Row w B' A bs := by
  rcases h with rfl | ⟨b, off, hA, hb, hc⟩
  · exact .inl rfl
  · exact .inr ⟨b, off, hA, by omega, hc⟩
theorem Row.below (h : Row w B A bs) (hb : Below B w w') : Row w' B A bs := h.keep fun _ hp => hb.cell hp
theorem Row.drewN (h : Row w B A bs) (n : Nat) : Row (w.drewN n) B A bs := h
theorem Row.lt (h : Row w B A bs) (hB : B ≤ w.heap.size) : Row w w.heap.size A bs := h.more hB
theorem Row.take (h : Row w B A bs) (n : Nat) : Row w B A (bs.take n) := by
  rcases h with rfl | ⟨b, off, hA, hb, hc⟩
  · exact .inl (by simp)
  · refine .inr ⟨b, off, hA, hb, fun j u hu => hc j u ?_⟩
    rw [List.getElem?_take] at hu
    split at hu
    · exact hu
    · cases hu
end
/-- The text that bytes are. (Named, so that a walk leaves it whole.) -/
def str (bs : List UInt8) : ByteArray := ⟨bs.toArray⟩
/-- 'string(b)' of a row. -/
theorem Row.conv {P : Program} {w : World} {B : Nat} {A : Option Addr} {bs : List UInt8} (h : Row w B A bs) (c : Nat) {src e dst : TypeId} (hs : P.underlying src = some (.slice e)) (he : P.underlying e = some (.int .u8)) (hd : P.underlying dst = some .string) :
    (convert src dst (.slice A bs.length c)).run P w = .ok (.string (str bs)) w := by
  have hn : ∀ A : Option Addr, (convert src dst (.slice A 0 c)).run P w = .ok (.string (str [])) w := by
    intro A
    rw [run_convert_bytes_string w src dst e A 0 c hs he hd]
    cases A <;> simp [Conv.bytesToString, loadCells, str]
    all_goals rfl
  rcases h with rfl | ⟨b, off, rfl, hb, hc⟩
  · exact hn A
  · have := run_convert_bytes_arg (P := P) w src e hs he b off bs.length c (bs.map fun u => (u.toNat : Int)) (by simp) (fun i hi => by
      rw [hc i _ (List.getElem?_eq_getElem hi)]; simp [hi]) dst hd
    rw [this]
    congr 2
    simp [strOfNums, str, Function.comp_def]
/-- A scope with one label that is jumped back to: what holds at the label (J), the way from there on walked once, a measure that every pass lowers. -/
theorem wp_scope_once {P : Program} {c rest : Code} {Q : Exit → Act → World → Prop} {a : Act} {w : World} (l : Nat) (J : Act → World → Prop) (μ : Act → World → Nat) (hf : findLabel c l = some (Code.skip.seq rest))
    (first : Hid (∀ a w, J a w → rest.wp P (Exit.jump l J Q) a w) → c.wp P (Exit.jump l J Q) a w)
    (pass : ∀ a w, J a w → rest.wp P (Exit.jump l (fun a' w' => J a' w' ∧ μ a' w' < μ a w) Q) a w) : (Code.scope c).wp P Q a w :=
  wp_scope_jumps l J μ hf (first fun a w h => Code.wp_mono (fun e _ _ hq => by
    cases e <;> first | exact hq | exact ⟨hq.1, hq.2.1⟩) (pass a w h)) (fun a w h => wp_seq (wp_skip (pass a w h)))
/-- A row that the call itself has made: block g is just these bytes. -/
def Made (w : World) (g : Nat) (bs : List UInt8) : Prop := w.heap[g]? = some (.cells (bs.map cellOf).toArray 5 (0, 0))
theorem Made.cell {w : World} {g : Nat} {bs : List UInt8} (h : Made w g bs) (j : Nat) (hj : j < bs.length) : w.cell? ⟨g, j, none⟩ = some (cellOf bs[j]) := by
  rw [cell_of_row w g j _ _ _ h]
  simp [hj]
theorem Made.lt {w : World} {g : Nat} {bs : List UInt8} (h : Made w g bs) : g < w.heap.size := by
  rcases Nat.lt_or_ge g w.heap.size with hlt | hge
  · exact hlt
  · unfold Made at h; rw [Array.getElem?_eq_none hge] at h; cases h
theorem Made.row {w : World} {g B : Nat} {bs : List UInt8} (h : Made w g bs) (hB : g < B) : Row w B (some ⟨g, 0, none⟩) bs :=
  .inr ⟨g, 0, rfl, hB, fun j u hu => by
    have hj : j < bs.length := by
      rcases Nat.lt_or_ge j bs.length with h | h
      · exact h
      · rw [List.getElem?_eq_none h] at hu; cases hu
    rw [Nat.zero_add, h.cell j hj]
    rw [List.getElem?_eq_getElem hj] at hu
    cases hu; rfl⟩
theorem Made.below {w w' : World} {g B : Nat} {bs : List UInt8} (h : Made w g bs) (hb : Below B w w') (hg : g < B) : Made w' g bs := (hb.block g hg).trans h
theorem Made.frozen {w : World} {g : Nat} {bs : List UInt8} (h : Made w g bs) (j : Nat) : w.frozen? ⟨g, j, none⟩ = false := by
  unfold Made at h
  simp [World.frozen?, h]
theorem Made.set {w : World} {g : Nat} {bs : List UInt8} (h : Made w g bs) (j : Nat) (u : UInt8) : Made (w.setCell ⟨g, j, none⟩ (cellOf u)) g (bs.set j u) := by
  unfold Made at h ⊢
  simp [World.setCell, Array.getElem?_modify, h, List.map_set]
theorem Made.drew {w : World} {g : Nat} {bs : List UInt8} (h : Made w g bs) : Made w.drew g bs := h
theorem Made.drewN {w : World} {g : Nat} {bs : List UInt8} (h : Made w g bs) (n : Nat) : Made (w.drewN n) g bs := h
/-- A new row's cells. -/
def rowCells (bs : List UInt8) : Array Value := (bs.map cellOf).toArray
theorem Made.new (w : World) (bs : List UInt8) : Made (w.alloc (.cells (rowCells bs) 5)) w.heap.size bs := heap_alloc_new w _
theorem zeros_made (n : Nat) : madeCells (Value.int .u8 0).cells n = rowCells (List.replicate n 0) := by
  apply Array.ext_getElem?
  intro i
  simp only [madeCells, rowCells, Value.cells, List.map_replicate]
  by_cases h : i < n
  · simp [h, Nat.mod_one]
  · simp [h]
theorem below_then {a b c : World} (h : Below a.heap.size a b) (k : Below b.heap.size b c) : Below a.heap.size a c := h.trans (k.mono h.size)
/-- A row that stood stands in every world in which nothing old has turned. -/
theorem Row.on {w : World} {A : Option Addr} {bs : List UInt8} (h : Row w w.heap.size A bs) {w' : World} (hb : Below w.heap.size w w') : Row w' w'.heap.size A bs := (h.below hb).more hb.size
/-- The number of bytes, the high one first. -/
def bigN (bs : List UInt8) : Nat := bs.foldl (fun x b => x * 256 + b.toNat) 0
theorem bigN_snoc (l : List UInt8) (u : UInt8) : bigN (l ++ [u]) = bigN l * 256 + u.toNat := by simp [bigN, List.foldl_append]
theorem take_snoc {α : Type} (l : List α) (k : Nat) (h : k < l.length) : l.take (k + 1) = l.take k ++ [l[k]] := List.take_succ_eq_append_getElem h
theorem bigN_lt (l : List UInt8) : bigN l < 256 ^ l.length := by
  suffices h : ∀ n, ∀ l : List UInt8, l.length = n → bigN l < 256 ^ n from h _ l rfl
  intro n
  induction n with
  | zero => intro l hl; rw [List.eq_nil_of_length_eq_zero hl]; decide
  | succ n ih =>
    intro l hl
    have h1 := ih (l.take n) (by rw [List.length_take]; omega)
    have h2 : l = l.take n ++ [l[n]] := by rw [← take_snoc l n (by omega), List.take_of_length_le (by omega)]
    rw [h2, bigN_snoc, Nat.pow_succ]
    have := l[n].toNat_lt
    omega
theorem pow256_le {k n : Nat} (h : k ≤ n) : 256 ^ k ≤ 256 ^ n := Nat.pow_le_pow_right (by decide) h
theorem big_round (l : List UInt8) (k : Nat) (hk : k < l.length) (hn : l.length ≤ 8) :
    bits .or .u64 (IntKind.u64.wrap ((bigN (l.take k) : Int) * 256)) (IntKind.u64.wrap (l[k].toNat : Int)) = (bigN (l.take (k + 1)) : Int) := by
  have h1 := bigN_lt (l.take k)
  have h2 : 256 ^ (l.take k).length ≤ 256 ^ 7 := pow256_le (by rw [List.length_take]; omega)
  have h3 := l[k].toNat_lt
  rw [take_snoc l k hk, bigN_snoc]
  generalize bigN (l.take k) = a at *
  generalize l[k].toNat = u at *
  rw [IntKind.wrap_u64, IntKind.wrap_u64, show ((a : Int) * 256) % 18446744073709551616 = ((a * 256 : Nat) : Int) by omega, show (u : Int) % 18446744073709551616 = (u : Int) by omega, u64_or_nat _ _ (by omega) (by omega), nat_join 8 _ _ (by omega) (by omega)]
set_option maxHeartbeats 400000 in
theorem big_few (A : Option Addr) (c : Nat) (bs : List UInt8) (w : World) (hr : Row w w.heap.size A bs) (hn : bs.length ≤ 8) :
    Calls Tryd.prog 98 #[.slice A bs.length c] w fun e w' => e = .returned (.tuple #[.int .u64 (bigN bs : Int), .nilIface]) ∧ w = w' := by
  go_enter Tryd.func98, Tryd.ntmps98
  go_wp2
  go_loop [4, 13] (fun x i => ∃ k : Nat, k ≤ bs.length ∧ i = .int .i64 k ∧ x = .int .u64 (bigN (bs.take k) : Int)) (fun _ i => bs.length - (intOf i).toNat)
  case atStart => exact ⟨0, Nat.zero_le _, rfl, rfl⟩
  case round =>
    obtain ⟨k, hk, rfl, rfl⟩ := hrel
    by_cases hlt : k < bs.length
    · obtain ⟨b, off, rfl, hb, hc⟩ := hr.at k hlt
      go_wp2
      go_round
      case rel => exact ⟨k + 1, by omega, by go_num, by rw [big_round bs k hlt hn]⟩
      case measure => simp [intOf]; omega
    · go_wp2
      go_ret2
      exact ⟨by rw [List.take_of_length_le (by omega)]; rfl, rfl⟩
end Go.Proofs.YtoggkhjaghkpnaaDoor
namespace Go.Proofs.YtoggkhjaghkpnaaDoor
open Go.RowKit
theorem u8_info : (Tryd.prog.info? 5).map (fun i => (i.zero, i.size, i.bytes)) = some (some (.int .u8 0), 1, 1) := by kernel_rfl
/-- 'make([]byte, n)' and 'make([]byte, 0, n)'. -/
theorem make_bytes (l n : Nat) (hl : l ≤ n) (hn : n ≤ 1000000) (W : World) :
    (Instr.makeSlice 24 (.int .i64 (l : Int)) (.int .i64 (n : Int))).run Tryd.prog W = .ok (.slice (some ⟨W.heap.size, 0, none⟩) l n) (W.alloc (.cells (rowCells (List.replicate n 0)) 5)) := by
  obtain ⟨i0, hi0, hz0, hz1, hz2⟩ := info_parts u8_info
  have h := run_make (P := Tryd.prog) W 24 5 i0 (.int .u8 0) Tryd.underlying24 hi0 hz0 .i64 .i64 l n (by omega) (by omega) (by rw [hz2]; omega) (by omega)
  rw [h, Int.toNat_natCast, Int.toNat_natCast, hz1, Nat.mul_one, zeros_made]
theorem set_next (l : List UInt8) (k n : Nat) (u : UInt8) (hl : l.length = k) (hk : k < n) : (l ++ List.replicate (n - k) 0).set k u = l ++ [u] ++ List.replicate (n - (k + 1)) 0 := by
  obtain ⟨m, hm⟩ : ∃ m, n - k = m + 1 := ⟨n - k - 1, by omega⟩
  rw [hm, show n - (k + 1) = m by omega, List.set_append_right _ _ (by omega), hl, Nat.sub_self, List.replicate_succ]
  simp
/-- Block g is just these cells. -/
def Cells (w : World) (g : Nat) (vs : List Value) (t : TypeId) : Prop := w.heap[g]? = some (.cells vs.toArray t (0, 0))
/-- Of all blocks that there were only g may have turned. -/
structure But (g : Nat) (w w' : World) : Prop where
  os : w'.os = w.os
  tape : w'.tape = w.tape
  output : w'.output = w.output
  size : w.heap.size ≤ w'.heap.size
  block : ∀ k, k < w.heap.size → k ≠ g → w'.heap[k]? = w.heap[k]?
theorem heap_setCells (b : Nat) : ∀ (vs : List Value) (o : Nat) (w : World), (w.setCells b o vs).os = w.os ∧ (w.setCells b o vs).tape = w.tape ∧ (w.setCells b o vs).output = w.output ∧ (w.setCells b o vs).heap.size = w.heap.size ∧ ∀ k, k ≠ b → (w.setCells b o vs).heap[k]? = w.heap[k]?
  | [], _, _ => ⟨rfl, rfl, rfl, rfl, fun _ _ => rfl⟩
  | v :: r, o, w => by
    obtain ⟨h1, h2, h3, h4, h5⟩ := heap_setCells b r (o + 1) (w.setCell ⟨b, o, none⟩ v)
    refine ⟨h1, h2, h3, h4.trans (by simp [World.setCell]), fun k hk => (h5 k hk).trans (Below.heap_setCell _ _ _ _ hk)⟩
theorem heap_lt {w : World} {b : Nat} {o : Obj} (h : w.heap[b]? = some o) : b < w.heap.size := by
  rcases Nat.lt_or_ge b w.heap.size with hlt | hge
  · exact hlt
  · rw [Array.getElem?_eq_none hge] at h; cases h
section
variable {w w' w'' : World} {g B : Nat} {vs : List Value} {t : TypeId}
theorem Cells.cell (h : Cells w g vs t) (j : Nat) (hj : j < vs.length) : w.cell? ⟨g, j, none⟩ = some vs[j] := by
  rw [cell_of_row w g j _ _ _ h]
  simp [hj]
theorem Cells.get (h : Cells w g vs t) {j : Nat} {v : Value} (hj : vs[j]? = some v) : w.cell? ⟨g, j, none⟩ = some v := by
  rw [cell_of_row w g j _ _ _ h, List.getElem?_toArray, hj]
theorem Cells.lt (h : Cells w g vs t) : g < w.heap.size := heap_lt h
theorem Cells.below (h : Cells w g vs t) (hb : Below B w w') (hg : g < B) : Cells w' g vs t := (hb.block g hg).trans h
theorem Cells.frozen (h : Cells w g vs t) (j : Nat) : w.frozen? ⟨g, j, none⟩ = false := by
  unfold Cells at h
  simp [World.frozen?, h]
theorem Cells.set (h : Cells w g vs t) (j : Nat) (u : Value) : Cells (w.setCell ⟨g, j, none⟩ u) g (vs.set j u) t := by
  unfold Cells at h ⊢
  simp [World.setCell, Array.getElem?_modify, h]
theorem Cells.other (h : Cells w g vs t) {p : Addr} (hp : g ≠ p.block) (u : Value) : Cells (w.setCell p u) g vs t := (Below.heap_setCell _ _ _ _ hp).trans h
theorem Cells.drewN (h : Cells w g vs t) (n : Nat) : Cells (w.drewN n) g vs t := h
theorem Cells.drew (h : Cells w g vs t) : Cells w.drew g vs t := h
theorem Cells.alloc (h : Cells w g vs t) (o : Obj) : Cells (w.alloc o) g vs t := (Below.heap_alloc _ _ _ h.lt).trans h
theorem Cells.new (w : World) (vs : Array Value) (t : TypeId) : Cells (w.alloc (.cells vs t)) w.heap.size vs.toList t := by
  have := heap_alloc_new w (.cells vs t)
  unfold Cells
  rw [this]
theorem Cells.range (h : Cells w g vs t) (o n : Nat) : w.rangeAt g o ((vs.drop o).take n) := by
  intro j v hj
  rw [List.getElem?_take] at hj
  split at hj
  · rw [List.getElem?_drop] at hj
    exact h.get hj
  · cases hj
theorem Cells.there (h : Cells w g vs t) (o n : Nat) (hn : o + n ≤ vs.length) : w.there g o n := fun j hj =>
  ⟨by rw [h.cell (o + j) (by omega)]; rfl, h.frozen _⟩
/-- A piece of a list, written anew. -/
def splice (vs : List Value) (o : Nat) (cs : List Value) : List Value := vs.take o ++ cs ++ vs.drop (o + cs.length)
theorem splice_length (vs cs : List Value) (o : Nat) (h : o + cs.length ≤ vs.length) : (splice vs o cs).length = vs.length := by
  simp [splice]; omega
theorem set_splice (vs : List Value) (o : Nat) (u : Value) (cs : List Value) (h : o + 1 + cs.length ≤ vs.length) : splice (vs.set o u) (o + 1) cs = splice vs o (u :: cs) := by
  have e1 : (vs.set o u).take (o + 1) = vs.take o ++ [u] := by
    rw [List.take_succ_eq_append_getElem (by simp; omega), List.take_set_of_le (Nat.le_refl _)]
    simp
  have e2 : (vs.set o u).drop (o + 1 + cs.length) = vs.drop (o + (cs.length + 1)) := by
    rw [List.drop_set_of_lt (by omega)]
    congr 1; omega
  simp [splice, e1, e2]
theorem Cells.setCells : ∀ {cs : List Value} {w : World} {vs : List Value} {o : Nat}, Cells w g vs t → o + cs.length ≤ vs.length → Cells (w.setCells g o cs) g (splice vs o cs) t
  | [], w, vs, o, h, _ => by
    have e : splice vs o [] = vs := by simp [splice]
    rw [e]; exact h
  | u :: cs, w, vs, o, h, hl => by
    rw [← set_splice vs o u cs (by simp at hl; omega)]
    exact Cells.setCells (h.set o u) (by simp at hl ⊢; omega)
theorem Cells.otherCells (h : Cells w g vs t) {b : Nat} (hp : g ≠ b) (o : Nat) (cs : List Value) : Cells (w.setCells b o cs) g vs t := ((heap_setCells b cs o w).2.2.2.2 g hp).trans h
theorem But.refl (g : Nat) (w : World) : But g w w := ⟨rfl, rfl, rfl, Nat.le_refl _, fun _ _ _ => rfl⟩
theorem But.trans (h : But g w w') (k : But g w' w'') : But g w w'' :=
  ⟨k.os.trans h.os, k.tape.trans h.tape, k.output.trans h.output, Nat.le_trans h.size k.size, fun i hi hg => (k.block i (Nat.lt_of_lt_of_le hi h.size) hg).trans (h.block i hi hg)⟩
theorem But.of_below (h : Below w.heap.size w w') : But g w w' := ⟨h.os, h.tape, h.output, h.size, fun k hk _ => h.block k hk⟩
theorem But.below (h : But g w w') (hB : B ≤ g) (hw : B ≤ w.heap.size) : Below B w w' := ⟨h.os, h.tape, h.output, h.size, fun k hk => h.block k (by omega) (by omega)⟩
theorem But.drew (h : But g w w') : But g w w'.drew := ⟨h.os, h.tape, h.output, h.size, h.block⟩
theorem But.drewN (h : But g w w') (n : Nat) : But g w (w'.drewN n) := ⟨h.os, h.tape, h.output, h.size, h.block⟩
theorem But.setCell (h : But g w w') (j : Nat) (u : Value) : But g w (w'.setCell ⟨g, j, none⟩ u) :=
  h.trans ⟨rfl, rfl, rfl, by simp [World.setCell], fun k _ hk => Below.heap_setCell _ _ _ _ hk⟩
theorem But.alloc (h : But g w w') (o : Obj) : But g w (w'.alloc o) := h.trans ⟨rfl, rfl, rfl, by simp, fun k hk _ => Below.heap_alloc _ _ _ hk⟩
theorem But.setCells (h : But g w w') (o : Nat) (cs : List Value) : But g w (w'.setCells g o cs) := by
  obtain ⟨h1, h2, h3, h4, h5⟩ := heap_setCells g cs o w'
  exact h.trans ⟨h1, h2, h3, by rw [h4]; exact Nat.le_refl _, fun k _ hk => h5 k hk⟩
theorem below_setCells {B b : Nat} (h : Below B w w') (hb : B ≤ b) (o : Nat) (cs : List Value) : Below B w (w'.setCells b o cs) := by
  obtain ⟨h1, h2, h3, h4, h5⟩ := heap_setCells b cs o w'
  exact h.trans ⟨h1, h2, h3, by rw [h4]; exact Nat.le_refl _, fun k hk => h5 k (by omega)⟩
/-- A change of block b as well, where b is new. -/
theorem But.new (h : But g w w') {b : Nat} (hb : w.heap.size ≤ b) (k : But b w' w'') : But g w w'' :=
  ⟨k.os.trans h.os, k.tape.trans h.tape, k.output.trans h.output, Nat.le_trans h.size k.size, fun i hi hg => (k.block i (Nat.lt_of_lt_of_le hi h.size) (by omega)).trans (h.block i hi hg)⟩
theorem Cells.but (h : Cells w g vs t) {b : Nat} (hb : But b w w') (hg : g ≠ b) : Cells w' g vs t := (hb.block g h.lt hg).trans h
theorem Row.but {A : Option Addr} {bs : List UInt8} {b : Nat} (h : Row w w.heap.size A bs) (hb : But b w w') (hg : bs ≠ [] → ∀ p, A = some p → p.block ≠ b) : Row w' w'.heap.size A bs := by
  rcases h with rfl | ⟨b', off, rfl, hb', hc⟩
  · exact .inl rfl
  · refine .inr ⟨b', off, rfl, Nat.lt_of_lt_of_le hb' hb.size, fun j u hu => ?_⟩
    have hne : bs ≠ [] := fun e => by subst e; simp at hu
    rw [World.cell?_of_block (w := w) (hb.block b' hb' (hg hne _ rfl))]
    exact hc j u hu
/-- A region whose head only reads and calls quietly, and whose tail comes in the text's order: the drawn world under a name. -/
theorem wp_region_tail {P : Program} {id : Nat} {Q : Exit → Act → World → Prop} {a : Act} {w : World} {l : List Oper} (n : Nat) (hm : P.follows .mixedOrders = true) (hB : Region.lexTailB .any l.toArray n = true)
    (h : ∀ w1, w1 = w.drew → wpStill P l.toArray w1 (fun a' => wpList P l.toArray Q (l.drop n) a' w1) (l.take n) a) : (Code.region id l.toArray true).wp P Q a w := wp_region_still_tail n hm hB (h _ rfl)
end
section
variable {P : Program} {w : World} {ops : Array Oper} {rest : List Oper} {o : Oper} {a : Act} {Q : Exit → Act → World → Prop}
/-- A literal of a struct or an array. -/
theorem build_step (hgd : o.guard = none) (t : TypeId) (parts : List (Nat × Operand)) (ho : o.op = .build t parts.toArray) (ps : List (Nat × Value)) (hp : (parts.map fun (i, x) => (i, a.eval x)) = ps) (v : Value) (hr : ∀ w, (Instr.build t ps.toArray).run P w = .ok v w)
    (h : wpList P ops Q rest (a.put o.dst v) w) : wpList P ops Q (o :: rest) a w := by
  refine wpList_plain hgd fun K hK => ?_
  unfold Oper.wp
  simp only [execOp, ho, List.map_toArray, hp, hr, Sem.run_bind, Sem.run_pure, Result.andThen_ok]
  exact hK _ _ h
/-- A literal of a slice. -/
theorem slice_step (hgd : o.guard = none) (t : TypeId) (n : Nat) (parts : List (Nat × Operand)) (ho : o.op = .buildSlice t n parts.toArray) (ps : List (Nat × Value)) (hp : (parts.map fun (i, x) => (i, a.eval x)) = ps) (e : TypeId) (vs : Array Value)
    (hr : ∀ w, (Instr.buildSlice t n ps.toArray).run P w = .ok (.slice (some ⟨w.heap.size, 0, none⟩) n n) (w.alloc (.cells vs e)))
    (h : ∀ w', w' = w.alloc (.cells vs e) → wpList P ops Q rest (a.put o.dst (.slice (some ⟨w.heap.size, 0, none⟩) n n)) w') : wpList P ops Q (o :: rest) a w := by
  refine wpList_plain hgd fun K hK => ?_
  unfold Oper.wp
  simp only [execOp, ho, List.map_toArray, hp, hr, Sem.run_bind, Sem.run_pure, Result.andThen_ok]
  exact hK _ _ (h _ rfl)
/-- A new variable of a type whose zero value is known whole. -/
theorem alloc_step (hgd : o.guard = none) (t : TypeId) (ho : o.op = .alloc t) (vs : Array Value) (hz : ∀ w, (zeroValue t).run P w = .ok (.agg vs) w)
    (h : ∀ w', w' = w.alloc (.cells vs t) → wpList P ops Q rest (a.put o.dst (.pointer (some ⟨w.heap.size, 0, none⟩))) w') : wpList P ops Q (o :: rest) a w := by
  refine wpList_plain hgd fun K hK => ?_
  unfold Oper.wp
  simp only [execOp, ho, Instr.alloc, hz, newVar, Value.cells, Sem.run_bind, Sem.run_pure, Result.andThen_ok, go_sem]
  exact hK _ _ (h _ rfl)
/-- An integer stored into one cell. -/
theorem store_step (hgd : o.guard = none) (t : TypeId) (x y : Operand) (ho : o.op = .store t x y) (g j : Nat) (ik : IntKind) (z : Int) (hx : a.eval x = .pointer (some ⟨g, j, none⟩)) (hy : a.eval y = .int ik z) (hs : (P.info? t).map (·.size) = some 1) (ht : w.there g j 1)
    (h : ∀ w', w' = w.setCell ⟨g, j, none⟩ (.int ik z) → wpList P ops Q rest (a.put o.dst undef) w') : wpList P ops Q (o :: rest) a w := by
  refine wpList_plain hgd fun K hK => ?_
  obtain ⟨i0, hi0, hs0⟩ := Option.map_eq_some_iff.1 hs
  have hst := run_storeCells_cells (P := P) g j [.int ik z] 0 w (fun i hi => by simpa using (ht i hi).1) (fun i hi => by simpa using (ht i hi).2) (by intro v hv; cases List.mem_singleton.1 hv; rfl)
  have hrun : (Instr.storeAt t (.pointer (some ⟨g, j, none⟩)) (.int ik z)).run P w = .ok () (w.setCell ⟨g, j, none⟩ (.int ik z)) := by
    simp only [Instr.storeAt, Instr.sureAddr, Sem.run_bind, Sem.run_pure, Result.andThen_ok]
    simp [storeVar, sizeOf, typeInfo, hi0, hs0, Value.cells, hst, World.setCells]
  unfold Oper.wp
  simp only [execOp, ho, hx, hy, hrun, Sem.run_bind, Sem.run_pure, Result.andThen_ok]
  exact hK _ _ (h _ rfl)
/-- A value laid into a new variable. -/
theorem box_step (hgd : o.guard = none) (t : TypeId) (x : Operand) (ho : o.op = .box t x) (vs : Array Value) (hx : a.eval x = .agg vs)
    (h : ∀ w', w' = w.alloc (.cells vs t) → wpList P ops Q rest (a.put o.dst (.pointer (some ⟨w.heap.size, 0, none⟩))) w') : wpList P ops Q (o :: rest) a w := by
  refine wpList_plain hgd fun K hK => ?_
  unfold Oper.wp
  simp only [execOp, ho, hx, Instr.box]
  simp only [newVar, Value.cells, Sem.run_bind, Sem.run_pure, Result.andThen_ok, go_sem]
  exact hK _ _ (h _ rfl)
end
/-- 'a[i]' of an array of integers by value. -/
theorem run_index_int {P : Program} {t e : TypeId} {n : Nat} {ik : IntKind} (vs : List Value) (k : Nat) (v : Value) (w : World) (hu : P.underlying t = some (.array n e)) (he : P.underlying e = some (.int ik)) (hs : (P.info? e).map (·.size) = some 1) (hk : k < n) (hv : vs[k]? = some v) :
    (Instr.index t (.agg vs.toArray) (.int .i64 (k : Int))).run P w = .ok v w := by
  cases hq : P.info? e with
  | none => simp [hq] at hs
  | some i =>
    have hs1 : i.size = 1 := by simpa [hq] using hs
    simp [Instr.index, run_underlying hu, asIntOf, hk, part, isAgg, run_underlying he, sizeOf, typeInfo, hq, hs1, hv, go_sem]
/-- A row below B lies in no block from B on. -/
theorem Row.apart {w : World} {B g : Nat} {A : Option Addr} {bs : List UInt8} (h : Row w B A bs) (hg : B ≤ g) : bs ≠ [] → ∀ p, A = some p → p.block ≠ g := by
  intro hne p hp
  rcases h with rfl | ⟨b, off, rfl, hb, _⟩
  · exact absurd rfl hne
  · cases hp; show b ≠ g; omega
theorem splice_all (vs cs : List Value) (h : cs.length = vs.length) : splice vs 0 cs = cs := by simp [splice, h]
/-- A function whose result lies in a block of its own, a whole array or struct. -/
theorem ret_block {P : Program} {fn : Func} {R : Ending → World → Prop} {a : Act} {w : World} {p : Tmp} {ty : TypeId} {d : TypeDesc} (hres : fn.results = #[.cell p ty]) (g : Nat) (vs : List Value) (t : TypeId)
    (hp : a.tmps.getD p undef = .pointer (some ⟨g, 0, none⟩)) (hg : Cells w g vs t) (hu : P.underlying ty = some d) (hd : (match d with | .struct _ | .array _ _ => true | _ => false) = true) (hi : (P.info? ty).map (·.size) = some vs.length)
    (hdf : a.defers = []) (hR : R (.returned (.agg vs.toArray)) w) : bodyPost P fn R .ret a w :=
  bodyPost_ret (results_cell_row hres a.tmps w g t vs.toArray (0, 0) d hp hg hu hd (by simpa using hi)) hdf hR
theorem set_nextV {α : Type} (l : List α) (k n : Nat) (u z : α) (hl : l.length = k) (hk : k < n) : (l ++ List.replicate (n - k) z).set k u = l ++ [u] ++ List.replicate (n - (k + 1)) z := by
  obtain ⟨m, hm⟩ : ∃ m, n - k = m + 1 := ⟨n - k - 1, by omega⟩
  rw [hm, show n - (k + 1) = m by omega, List.set_append_right _ _ (by omega), hl, Nat.sub_self, List.replicate_succ]
  simp
theorem Row.piece {w : World} {B b off : Nat} {bs : List UInt8} (h : Row w B (some ⟨b, off, none⟩) bs) (i n : Nat) : Row w B (some ⟨b, off + i, none⟩) ((bs.drop i).take n) := by
  rcases h with rfl | ⟨b', off', hA, hb, hc⟩
  · exact .inl (by simp)
  · cases hA
    refine .inr ⟨b, off + i, rfl, hb, fun j u hu => ?_⟩
    rw [List.getElem?_take] at hu
    split at hu
    · rw [List.getElem?_drop] at hu
      rw [Nat.add_assoc]
      exact hc (i + j) u hu
    · cases hu
end Go.Proofs.YtoggkhjaghkpnaaDoor
namespace Go.Proofs.YtoggkhjaghkpnaaDoor
open Go.RowKit
theorem size_u8 : (Tryd.prog.info? 5).map (·.size) = some 1 := by kernel_rfl
theorem cells8_one (us : List UInt8) : ∀ v ∈ us.map cellOf, v.oneCell' = true := by
  intro v hv
  obtain ⟨x, _, rfl⟩ := List.mem_map.1 hv
  rfl
/-- 'copy(dst, src)', both rows of bytes, dst's room known. -/
theorem copy_row {w : World} {ops : Array Oper} {rest : List Oper} {o : Oper} {a : Act} {Q : Exit → Act → World → Prop} (hgd : o.guard = none) (d s : Operand)
    (ho : o.op = .call { callee := .builtin .copy, args := #[d, s], argTypes := #[24, 24] }) (g off dLen dCap sLen sCap B m : Nat) (A : Option Addr) (us : List UInt8) (hd : a.eval d = .slice (some ⟨g, off, none⟩) dLen dCap) (hs : a.eval s = .slice A sLen sCap)
    (hl : us.length = sLen) (hm : min sLen dLen = m) (hr : Row w B A us) (ht : w.there g off m) (h : ∀ w', w' = w.setCells g off ((us.take dLen).map cellOf) → wpList Tryd.prog ops Q rest (a.put o.dst (.int .i64 (m : Int))) w') : wpList Tryd.prog ops Q (o :: rest) a w := by
  subst hm
  replace h := h _ rfl
  have hlen : ((us.take dLen).map cellOf).length = Nat.min sLen dLen := by rw [List.length_map, List.length_take, hl, Nat.min_comm]
  by_cases h0 : Nat.min sLen dLen = 0
  · have e : (us.take dLen).map cellOf = [] := List.eq_nil_of_length_eq_zero (hlen.trans h0)
    refine wpList_copy_nothing hgd d s _ _ ho 5 Tryd.underlying24 size_u8 _ _ _ _ _ _ hd hs h0 ?_
    rw [e] at h
    have e2 : (min sLen dLen : Nat) = 0 := h0
    rw [e2] at h
    exact h
  · have hpos : us ≠ [] := by
      intro e
      subst e
      simp at hl
      subst hl
      simp at h0
    rcases hr with e | ⟨b, bo, rfl, hb, hc⟩
    · exact absurd e hpos
    · refine wpList_plain hgd fun K hK => ?_
      have hrun := run_copy_cells (P := Tryd.prog) w 24 24 o.type 5 g off dLen dCap ⟨b, bo, none⟩ sLen sCap ((us.take dLen).map cellOf) Tryd.underlying24 size_u8 hlen (fun j v hj => by
        rw [Addr.add_mid]
        rw [List.getElem?_map] at hj
        cases hu : (us.take dLen)[j]? with
        | none => rw [hu] at hj; cases hj
        | some u =>
          rw [hu] at hj
          cases hj
          refine hc j u ?_
          rw [List.getElem?_take] at hu
          split at hu
          · exact hu
          · cases hu) (fun j hj => (ht j (by rw [hlen] at hj; exact hj)).1) (fun j hj => (ht j (by rw [hlen] at hj; exact hj)).2) (cells8_one _)
      unfold Oper.wp
      simp only [execOp, ho, resolve, invoke, builtin, Sem.run_bind, Sem.run_pure, Result.andThen_ok, List.map_toArray, List.map_cons, List.map_nil, hd, hs, hrun]
      have e3 : goInt (((us.take dLen).map cellOf).length : Int) = .int .i64 ((min sLen dLen : Nat) : Int) := by rw [hlen]; rfl
      rw [e3]
      exact hK _ _ h
/-- Where a slice lies that is cut at l: at its room's end the address stays. -/
def cutA (A : Option Addr) (l cap : Nat) : Option Addr := if cap = l then A else A.map (·.add l)
theorem Row.cut {w : World} {B : Nat} {A : Option Addr} {us : List UInt8} (h : Row w B A us) (l cap : Nat) (hl : us.length ≤ cap) : Row w B (cutA A l cap) (us.drop l) := by
  unfold cutA
  split
  · exact .inl (List.drop_eq_nil_of_le (by omega))
  · rcases h with rfl | ⟨b, off, rfl, hb, hc⟩
    · exact .inl (by simp)
    · refine .inr ⟨b, off + l, by simp [Addr.add_mid], hb, fun j u hu => ?_⟩
      rw [List.getElem?_drop] at hu
      rw [Nat.add_assoc]
      exact hc (l + j) u hu
/-- 'b[l:]'. -/
theorem cut_from {w : World} {ops : Array Oper} {rest : List Oper} {o : Oper} {a : Act} {Q : Exit → Act → World → Prop} (hgd : o.guard = none) (x y : Operand) (ho : o.op = .slice 24 x (some y) none none)
    (A : Option Addr) (len cap l : Nat) (hx : a.eval x = .slice A len cap) (hy : a.eval y = .int .i64 (l : Int)) (hl : l ≤ len)
    (h : wpList Tryd.prog ops Q rest (a.put o.dst (.slice (cutA A l cap) (len - l) (cap - l))) w) : wpList Tryd.prog ops Q (o :: rest) a w := by
  refine wpList_plain hgd fun K hK => ?_
  obtain ⟨i0, hi0, hs0⟩ := Option.map_eq_some_iff.1 size_u8
  have hrun : (Instr.sliceAt 24 (.slice A len cap) (some (.int .i64 (l : Int))) none none).run Tryd.prog w = .ok (.slice (cutA A l cap) (len - l) (cap - l)) w := by
    have hu : Tryd.prog.underlying 24 = some (.slice 5) := Tryd.underlying24
    have h1 : (Instr.sliceAt 24 (.slice A len cap) (some (.int .i64 (l : Int))) none none).run Tryd.prog w = (Instr.slice 24 (.slice A len cap) (some (.int .i64 (l : Int))) none none).run Tryd.prog w := by
      simp [Instr.sliceAt, run_underlying hu]
    rw [h1]
    have hl' : (l : Int) ≤ (len : Int) := by omega
    simp [Instr.slice, run_underlying hu, Instr.sliceBounds, run_sliceBound, hl, sizeOf, typeInfo, hi0, hs0, cutA]
  unfold Oper.wp
  simp only [execOp, ho, hx, hy, Option.map_some, Option.map_none, hrun, Sem.run_bind, Sem.run_pure, Result.andThen_ok]
  exact hK _ _ h
/-- The slice v is a row of the call's own (blocks from base on) that begins with these bytes. -/
def Owns (w : World) (base : Nat) (v : Value) (bs : List UInt8) : Prop := w.ownsRow base 5 1 v bs.length (bs.map cellOf)
section
variable {w w' : World} {base : Nat} {v : Value} {bs : List UInt8}
theorem Owns.drewN (h : Owns w base v bs) (n : Nat) : Owns (w.drewN n) base v bs := h
theorem Owns.drew (h : Owns w base v bs) : Owns w.drew base v bs := h
theorem Owns.made (w : World) (c : Nat) (hb : base ≤ w.heap.size) (hc : c ≤ 1000000) : Owns (w.alloc (.cells (rowCells (List.replicate c 0)) 5)) base (.slice (some ⟨w.heap.size, 0, none⟩) 0 c) [] :=
  World.ownsRow_made w _ c hb (by simp only [maxLen]; omega) (by simp [rowCells])
theorem Owns.lit (w : World) (bs : List UInt8) (hb : base ≤ w.heap.size) (hc : bs.length ≤ 1000000) : Owns (w.alloc (.cells (rowCells bs) 5)) base (.slice (some ⟨w.heap.size, 0, none⟩) bs.length bs.length) bs := by
  have h := World.ownsRow_lit (base := base) (e := 5) (size := 1) w (rowCells bs) bs.length hb (by simp only [maxLen]; omega) (by simp [rowCells])
  simp only [rowCells] at h ⊢
  exact h
theorem Owns.form (h : Owns w base v bs) : ∃ A c, v = .slice A bs.length c ∧ bs.length ≤ c ∧ (A = none → c = 0) ∧ Row w w.heap.size A bs := by
  rcases h.2 with ⟨rfl, hn⟩ | ⟨g, cap, cur, rfl, hb, hg, hnc, _⟩
  · have : bs = [] := List.eq_nil_of_length_eq_zero hn
    subst this
    exact ⟨none, 0, rfl, Nat.le_refl _, fun _ => rfl, .inl rfl⟩
  · refine ⟨_, cap, rfl, hnc, (fun h => by cases h), .inr ⟨g, 0, rfl, (World.ownsRow.lt h g rfl).2, fun j u hu => ?_⟩⟩
    have := World.ownsRow.cells h (g := g) rfl j (cellOf u) (by rw [List.getElem?_map, hu]; rfl)
    rwa [Go.WideShapes.add_plain] at this
theorem Owns.form_pos (h : Owns w base v bs) (hp : 0 < bs.length) : ∃ g c, v = .slice (some ⟨g, 0, none⟩) bs.length c ∧ bs.length ≤ c ∧ c ≤ maxLen ∧ base ≤ g ∧ Row w w.heap.size (some ⟨g, 0, none⟩) bs := by
  rcases h.2 with ⟨rfl, hn⟩ | ⟨g, cap, cur, rfl, hb, hg, hnc, hcm, _⟩
  · omega
  · refine ⟨g, cap, rfl, hnc, hcm, hb, .inr ⟨g, 0, rfl, (World.ownsRow.lt h g rfl).2, fun j u hu => ?_⟩⟩
    have := World.ownsRow.cells h (g := g) rfl j (cellOf u) (by rw [List.getElem?_map, hu]; rfl)
    rwa [Go.WideShapes.add_plain] at this
theorem Owns.far (h : Owns w base v bs) : ∀ k, v.ownBlock = some k → base ≤ k := fun k hk => (World.ownsRow.lt h k hk).1
end
/-- 'append(out, b...)', b a row of bytes. -/
theorem append_row {w : World} {ops : Array Oper} {rest : List Oper} {o : Oper} {a : Act} {Q : Exit → Act → World → Prop} (hgd : o.guard = none) (s x : Operand)
    (ho : o.op = .call { callee := .builtin .append, args := #[s, x], argTypes := #[24, 24] }) (base : Nat)
    (v : Value) (bs us : List UInt8) (B : Nat) (A : Option Addr) (c : Nat) (hs : a.eval s = v) (hown : Owns w base v bs) (hx : a.eval x = .slice A us.length c) (hA : A = none → c = 0) (hr : Row w B A us)
    (hlen : bs.length + us.length ≤ 1000000) (hbase : base ≤ w.heap.size)
    (h : ∀ v' w', Owns w' base v' (bs ++ us) → Below base w w' → wpList Tryd.prog ops Q rest (a.put o.dst v') w') : wpList Tryd.prog ops Q (o :: rest) a w := by
  obtain ⟨i0, hi0, hz0, hz1, hz2⟩ := info_parts u8_info
  rcases A with _ | ad
  · have : us = [] := by
      rcases hr with h | ⟨_, _, h, _⟩
      · exact h
      · cases h
    subst this
    rw [hA rfl] at hx
    exact wpList_append_own_none hgd s x 24 ho base 5 i0 1 Tryd.underlying24 hi0 v bs.length (bs.map cellOf) hs hown hx (h v w (by simpa using hown) (Below.refl _ _))
  · refine wpList_append_own w hgd s x 24 ho base 5 i0 _ 1 1 Tryd.underlying24 hi0 hz0 hz1 hz2 rfl (by omega) v bs.length (bs.map cellOf) hs hown ad us.length c (us.map cellOf) hx (by simp) ?_ ?_ (by simp only [maxLen]; omega) (by omega) hbase ?_
    · intro j u hu
      rw [List.getElem?_map] at hu
      cases hj : us[j]? with
      | none => rw [hj] at hu; cases hu
      | some q =>
        rw [hj] at hu
        rcases hr with rfl | ⟨b, off, hb1, _, hc⟩
        · simp at hj
        · cases hb1
          rw [Go.WideShapes.add_plain, hc j q hj]
          exact hu
    · intro u hu
      obtain ⟨q, _, rfl⟩ := List.mem_map.1 hu
      rfl
    · intro v' w' h2 h3 _
      refine h v' w' ?_ ((Below.refl _ _).grown h3 hbase (fun k hk => hown.far k hk))
      unfold Owns
      simpa using h2
/- The same contracts, the length a letter of its own. -/
section
variable {A B : Option Addr} {c d n : Nat} {xs ys : List UInt8} {w : World}
end
end Go.Proofs.YtoggkhjaghkpnaaDoor
namespace Go.Proofs.YtoggkhjaghkpnaaDoor
open Go.RowKit Go.Extern.Stop Go.Stop Go.Extern
/-- An error of package api's, as a value: a pointer to a text of errors.New's. -/
abbrev errAt (a : Addr) : Value := .iface 138 (.pointer (some a))
end Go.Proofs.YtoggkhjaghkpnaaDoor
namespace Go.Proofs.YtoggkhjaghkpnaaDoor
open Go.RowKit Go.Stop
/-- Variable g holds an error whose text lies at a. -/
def ErrIs (W : World) (g : Nat) (a : Addr) : Prop := W.cell? ⟨g, 0, none⟩ = some (errAt a) ∧ ∃ c t, W.heap[a.block]? = some (.cells c t (0, 0))
theorem ErrIs.below {W W' : World} {g : Nat} {a : Addr} (h : ErrIs W g a) (hb : Below W.heap.size W W') : ErrIs W' g a := by
  obtain ⟨h1, c, t, h2⟩ := h
  refine ⟨(hb.cell (block_lt_of_cell h1)).trans h1, c, t, (hb.block _ ?_).trans h2⟩
  rcases Nat.lt_or_ge a.block W.heap.size with hlt | hge
  · exact hlt
  · rw [Array.getElem?_eq_none hge] at h2; cases h2
theorem row_err : ∀ u, Tryd.prog.typeName? 3 u = some "*errors.errorString" → u = 138 := typeName_ptr_named (nm := "errors.errorString") (by kernel_rfl) (by kernel_rfl) (by decide)
theorem cells_es : Tryd.prog.cellsOf 156 = 1 := by kernel_rfl
theorem cells_str : Tryd.prog.cellsOf 9 = 1 := by kernel_rfl
set_option maxRecDepth 100000 in
/-- What the row's list gives, of whatever length it is. -/
theorem sentinels {W : World} : ∀ (l : List (String × List UInt8)) (gs : List Nat) (ps : List MemPlace), l.map (fun x => Tryd.prog.globalNamed x.1) = gs.map some →
    (∀ g ∈ gs, (Tryd.prog.globals[g]?).map (·.type) = some 48) → DataW.LaidVars Tryd.prog W (l.map fun x => (x.1, .iface "*errors.errorString" (.ptr (.agg [.lit (.string x.2)])))) ps → ps.Nodup →
    (∀ b off, MemPlace.cell b off ∈ ps → (∃ c t, W.heap[b]? = some (.cells c t (0, 0))) ∧ ∀ u v, W.cell? ⟨b, off, none⟩ = some (.iface u v) → Value.okWide Tryd.prog W .any 0 u v) →
    ∃ es : List Addr, es.length = gs.length ∧ es.Nodup ∧ (∀ a ∈ es, MemPlace.cell a.block a.off ∈ ps ∧ a.spot = none) ∧ ∀ (i g : Nat) (a : Addr), gs[i]? = some g → es[i]? = some a → ErrIs W g a
  | [], [], _, _, _, _, _, _ => ⟨[], rfl, List.nodup_nil, fun _ h => (by cases h), fun i g a h => by simp at h⟩
  | [], _ :: _, _, h, _, _, _, _ => by simp at h
  | _ :: _, [], _, h, _, _, _, _ => by simp at h
  | x :: l, g :: gs, ps, hgs, hts, hv, hnd, hrows => by
    rw [List.map_cons, List.map_cons, List.cons.injEq] at hgs
    obtain ⟨g0, t0, cs0, f0, p0, q0, hg0, ht0, hv0, hd0, hq, rfl⟩ := hv
    obtain rfl := Option.some.inj (hgs.1.symm.trans hg0)
    obtain rfl := Option.some.inj ((hts g List.mem_cons_self).symm.trans ht0)
    have hok : ∀ u v, cs0.toList = [.iface u v] → Value.okWide Tryd.prog W .any 0 u v := fun u v e => by
      have hc0 : cs0 = #[.iface u v] := by cases cs0; simp_all
      subst hc0
      exact (hrows g 0 (by simp [MemPlace.row])).2 u v (by simpa using World.var?_cell hg0 hv0 0)
    obtain ⟨a0, s0, hcs, hc0, _, _, rfl⟩ := errorString_of_trod Tryd.underlying48 row_err Tryd.underlying138 Tryd.underlying156 rfl rfl Tryd.underlying9 cells_es cells_str hd0 hok
    have hcs' : cs0 = #[errAt a0] := by cases cs0; simp_all
    subst hcs'
    obtain ⟨es, h1, h2, h3, h4⟩ := sentinels l gs q0 hgs.2 (fun g hg => hts g (List.mem_cons_of_mem _ hg)) hq (List.Nodup.sublist (List.sublist_append_right _ _) hnd) (fun b off hm => hrows b off (List.mem_append_right _ hm))
    have hmem : MemPlace.cell a0.block a0.off ∈ MemPlace.row ⟨g, 0, none⟩ (#[errAt a0] : Array Value).size ++ MemPlace.row a0 1 ++ q0 := by simp [MemPlace.row]
    have hsp : a0.spot = none := by simpa using World.cell?_spot hc0
    refine ⟨a0 :: es, by simp [h1], List.nodup_cons.2 ⟨fun hin => ?_, h2⟩, ?_, ?_⟩
    · have hq1 := (h3 a0 hin).1
      have hd := (List.nodup_append.1 hnd).2.2 (MemPlace.cell a0.block a0.off) (by simp [MemPlace.row]) (MemPlace.cell a0.block a0.off) hq1
      exact hd rfl
    · intro a ha
      rcases List.mem_cons.1 ha with rfl | ha
      · exact ⟨hmem, hsp⟩
      · exact ⟨List.mem_append_right _ (h3 a ha).1, (h3 a ha).2⟩
    · intro i g' a hg' ha'
      cases i with
      | zero =>
        simp at hg' ha'
        subst hg' ha'
        exact ⟨by simpa using World.var?_cell hg0 hv0 0, (hrows _ _ hmem).1⟩
      | succ i => exact h4 i g' a (by simpa using hg') (by simpa using ha')
end Go.Proofs.YtoggkhjaghkpnaaDoor
namespace Go.Proofs.YtoggkhjaghkpnaaDoor
open Go.RowKit
/-- A number's i-th byte from the low end; its k low bytes, the low one first. -/
def byteAt (x i : Nat) : UInt8 := UInt8.ofNat (x / 256 ^ i)
def putL (x k : Nat) : List UInt8 := (List.range k).map (byteAt x)
theorem putL_length (x k : Nat) : (putL x k).length = k := by simp [putL]
theorem putL_succ (x k : Nat) : putL x (k + 1) = putL x k ++ [byteAt x k] := by simp [putL, List.range_succ]
theorem pow_8 (i : Nat) : 2 ^ (8 * i) = 256 ^ i := by rw [Nat.pow_mul]
theorem byte_shr (x i : Nat) : (x : Int) / 2 ^ (8 * i) % 256 = ((byteAt x i).toNat : Int) := by
  rw [pow_cast, pow_8, ← Int.natCast_ediv, byteAt, UInt8.toNat_ofNat']
  omega
theorem bigN_fold (l : List UInt8) : ∀ a : Nat, l.foldl (fun x b => x * 256 + b.toNat) a = a * 256 ^ l.length + bigN l := by
  induction l with
  | nil => intro a; simp [bigN]
  | cons u l ih =>
    intro a
    rw [List.foldl_cons, ih, show bigN (u :: l) = (u :: l).foldl (fun x b => x * 256 + b.toNat) 0 from rfl, List.foldl_cons, ih, List.length_cons, Nat.pow_succ, Nat.add_mul, Nat.zero_mul, Nat.zero_add, Nat.mul_assoc, Nat.mul_comm 256, Nat.add_assoc]
theorem bigN_cons (u : UInt8) (l : List UInt8) : bigN (u :: l) = u.toNat * 256 ^ l.length + bigN l := by
  rw [show bigN (u :: l) = (u :: l).foldl (fun x b => x * 256 + b.toNat) 0 from rfl, List.foldl_cons, bigN_fold, Nat.zero_mul, Nat.zero_add]
theorem little_round (l : List UInt8) (k : Nat) (hk : k < l.length) (hn : l.length ≤ 8) :
    bits .or .u64 (bigN (l.take k).reverse : Int) (IntKind.u64.wrap (IntKind.u64.wrap (l[k].toNat : Int) * 2 ^ (8 * k))) = (bigN (l.take (k + 1)).reverse : Int) := by
  have h1 := bigN_lt (l.take k).reverse
  have hlk : (l.take k).reverse.length = k := by rw [List.length_reverse, List.length_take]; omega
  have h3 := l[k].toNat_lt
  rw [take_snoc l k hk, List.reverse_append, List.reverse_singleton, List.singleton_append, bigN_cons, hlk]
  rw [hlk] at h1
  have hp : 256 ^ k ≤ 256 ^ 7 := pow256_le (by omega)
  generalize bigN (l.take k).reverse = a at *
  generalize l[k].toNat = u at *
  have hu : u * 256 ^ k ≤ 255 * 256 ^ k := Nat.mul_le_mul_right _ (by omega)
  have e : IntKind.u64.wrap (IntKind.u64.wrap (u : Int) * 2 ^ (8 * k)) = ((u * 256 ^ k : Nat) : Int) := by
    rw [IntKind.wrap_u64, IntKind.wrap_u64, show (u : Int) % 18446744073709551616 = (u : Int) by omega, pow_cast, pow_8, ← Int.natCast_mul]
    omega
  rw [e, u64_or_nat _ _ (by omega) (by omega), Nat.or_comm, nat_join (8 * k) _ _ (by rw [pow_8]; exact Nat.mul_mod_left _ _) (by rw [pow_8]; exact h1)]
set_option maxRecDepth 100000 in
theorem putLittle_in (x n : Nat) (w : World) (_hx : x < 18446744073709551616) (hn : n ≤ 8) :
    Calls Tryd.prog 55 #[.int .u64 x, .int .i64 n] w fun e w' => e = .returned (.tuple #[.slice (some ⟨w.heap.size, 0, none⟩) n n, .nilIface]) ∧ Below w.heap.size w w' ∧ Made w' w.heap.size (putL x n) := by
  have hmk := make_bytes n n (Nat.le_refl _) (by omega)
  go_enter Tryd.func55, Tryd.ntmps55
  go_wp2
  go_loopw [7, 19] (fun _ i wr => ∃ k : Nat, k ≤ n ∧ i = .int .i64 k ∧ Below w.heap.size w wr ∧ Made wr w.heap.size (putL x k ++ List.replicate (n - k) 0)) (fun _ i _ => n - (intOf i).toNat)
  case atStart => exact ⟨0, Nat.zero_le _, rfl, (Below.refl _ _).alloc (Nat.le_refl _) _, by simpa [putL] using Made.new w (List.replicate n 0)⟩
  case round =>
    obtain ⟨k, hk, rfl, hB, hM⟩ := hrel
    by_cases hlt : k < n
    · have hf := hM.frozen k
      obtain ⟨v3, hc3⟩ : ∃ v, wr.cell? ⟨w.heap.size, k, none⟩ = some v := ⟨_, hM.cell k (by simp [putL]; omega)⟩
      have i1 : (0 : Int) ≤ (k : Int) := by omega
      have i2 : (k : Int) < (n : Int) := by omega
      have HS := Lib.hid (byte_shr x k)
      go_wp2
      go_roundw
      case rel =>
        rw [HS.out]
        refine ⟨k + 1, by omega, by go_num, hB.setCell (p := ⟨w.heap.size, k, none⟩) (Nat.le_refl _) _, ?_⟩
        have h := hM.set k (byteAt x k)
        rw [set_next _ k n _ (putL_length x k) hlt, ← putL_succ] at h
        exact h
      case measure => simp [intOf]; omega
    · go_wp2
      go_ret2
      refine ⟨rfl, hB, ?_⟩
      have e : k = n := by omega
      subst e
      simpa using hM
/-- The high bytes of n, k of them, the high one first. -/
def putB (x n k : Nat) : List UInt8 := (List.range k).map fun i => byteAt x (n - 1 - i)
theorem putB_length (x n k : Nat) : (putB x n k).length = k := by simp [putB]
theorem putB_succ (x n k : Nat) : putB x n (k + 1) = putB x n k ++ [byteAt x (n - 1 - k)] := by simp [putB, List.range_succ]
theorem putB_rev (x n : Nat) : putB x n n = (putL x n).reverse := by
  refine List.ext_getElem (by simp [putB, putL]) fun i h1 h2 => ?_
  simp [putB, putL]
set_option maxRecDepth 100000 in
theorem putBig_in (x n : Nat) (w : World) (_hx : x < 18446744073709551616) (hn : n ≤ 8) :
    Calls Tryd.prog 94 #[.int .u64 x, .int .i64 n] w fun e w' => e = .returned (.tuple #[.slice (some ⟨w.heap.size, 0, none⟩) n n, .nilIface]) ∧ Below w.heap.size w w' ∧ Made w' w.heap.size (putL x n).reverse := by
  have hmk := make_bytes n n (Nat.le_refl _) (by omega)
  have HR := Lib.hid (putB_rev x n)
  go_enter Tryd.func94, Tryd.ntmps94
  go_wp2
  go_loopw [7, 19] (fun _ i wr => ∃ k : Nat, k ≤ n ∧ i = .int .i64 k ∧ Below w.heap.size w wr ∧ Made wr w.heap.size (putB x n k ++ List.replicate (n - k) 0)) (fun _ i _ => n - (intOf i).toNat)
  case atStart => exact ⟨0, Nat.zero_le _, rfl, (Below.refl _ _).alloc (Nat.le_refl _) _, by simpa [putB] using Made.new w (List.replicate n 0)⟩
  case round =>
    obtain ⟨k, hk, rfl, hB, hM⟩ := hrel
    by_cases hlt : k < n
    · have hf := hM.frozen k
      obtain ⟨v3, hc3⟩ : ∃ v, wr.cell? ⟨w.heap.size, k, none⟩ = some v := ⟨_, hM.cell k (by simp [putB]; omega)⟩
      have i1 : (0 : Int) ≤ (k : Int) := by omega
      have i2 : (k : Int) < (n : Int) := by omega
      have HS := Lib.hid (byte_shr x (n - 1 - k))
      go_wp2
      go_roundw
      case rel =>
        rw [HS.out]
        refine ⟨k + 1, by omega, by go_num, hB.setCell (p := ⟨w.heap.size, k, none⟩) (Nat.le_refl _) _, ?_⟩
        have h := hM.set k (byteAt x (n - 1 - k))
        rw [set_next _ k n _ (putB_length x n k) hlt, ← putB_succ] at h
        exact h
      case measure => simp [intOf]; omega
    · go_wp2
      go_ret2
      refine ⟨rfl, hB, ?_⟩
      have e : k = n := by omega
      subst e
      rw [← HR.out]
      simpa using hM
theorem little_few (A : Option Addr) (c n : Nat) (bs : List UInt8) (w : World) (hl : bs.length = n) (hr : Row w w.heap.size A bs) (hn : n ≤ 8) :
    Calls Tryd.prog 57 #[.slice A n c] w fun e w' => e = .returned (.tuple #[.int .u64 (bigN bs.reverse : Int), .nilIface]) ∧ w = w' := by
  subst hl
  go_enter Tryd.func57, Tryd.ntmps57
  go_wp2
  go_loop [4, 5, 6, 13] (fun x _ _ i => ∃ k : Nat, k ≤ bs.length ∧ i = .int .i64 k ∧ x = .int .u64 (bigN (bs.take k).reverse : Int)) (fun _ _ _ i => bs.length - (intOf i).toNat)
  case atStart => exact ⟨0, Nat.zero_le _, rfl, rfl⟩
  case round =>
    obtain ⟨k, hk, rfl, rfl⟩ := hrel
    by_cases hlt : k < bs.length
    · obtain ⟨b, off, rfl, hb, hc⟩ := hr.at k hlt
      go_wp2
      go_round
      case rel => exact ⟨k + 1, by omega, by go_num, by rw [little_round bs k hlt hn]⟩
      case measure => simp [intOf]; omega
    · go_wp2
      go_ret2
      exact ⟨by rw [List.take_of_length_le (by omega)]; rfl, rfl⟩
/-- The waiting bytes behind more of them. -/
def restPut (rest us : List UInt8) (h : Nat) : List UInt8 := rest.take h ++ us ++ rest.drop (h + us.length)
theorem restPut_length (rest us : List UInt8) (h : Nat) (hl : h + us.length ≤ rest.length) : (restPut rest us h).length = rest.length := by
  simp [restPut]; omega
theorem restPut_take (rest us : List UInt8) (h : Nat) (hl : h + us.length ≤ rest.length) : (restPut rest us h).take (h + us.length) = rest.take h ++ us := by
  rw [restPut, List.take_append_of_le_length (by simp; omega), List.take_of_length_le (by simp; omega)]
theorem splice_mid (X R T cs : List Value) (h : Nat) (hl : h + cs.length ≤ R.length) : splice (X ++ R ++ T) (X.length + h) cs = X ++ (R.take h ++ cs ++ R.drop (h + cs.length)) ++ T := by
  unfold splice
  rw [List.append_assoc X R T, List.take_length_add_append, Nat.add_assoc, List.drop_length_add_append, List.take_append_of_le_length (by omega), List.drop_append_of_le_length (by omega)]
  simp
def lenOf : Value → Nat | .slice _ n _ => n | _ => 0
/-- A number's n bytes as cells, the high one first. -/
def bigCells (x n : Nat) : List Value := (putL x n).reverse.map cellOf
theorem Cells.row {w : World} {g m : Nat} {vs : List Value} {t : TypeId} {us : List UInt8} (h : Cells w g vs t) (hv : vs.take m = us.map cellOf) : Row w w.heap.size (some ⟨g, 0, none⟩) us := by
  refine .inr ⟨g, 0, rfl, h.lt, fun j u hu => ?_⟩
  rw [Nat.zero_add]
  refine h.get ?_
  have h1 : (vs.take m)[j]? = some (cellOf u) := by rw [hv, List.getElem?_map, hu]; rfl
  rw [List.getElem?_take] at h1
  split at h1
  · exact h1
  · cases h1
/-- A digest as the program holds it. -/
def hashVal (ds : List UInt8) : Value := .agg (ds.map cellOf).toArray
/-- The value v is a slice of these bytes. -/
def Part (w : World) (B : Nat) (v : Value) (us : List UInt8) : Prop := ∃ A c, v = .slice A us.length c ∧ Row w B A us ∧ us.length ≤ c ∧ c ≤ maxLen ∧ (A = none → c = 0)
/-- The address leads to so many slices of bytes. -/
def Parts (w : World) (B : Nat) (D : Option Addr) (ps : List (List UInt8)) : Prop :=
  ps = [] ∨ ∃ b off, D = some ⟨b, off, none⟩ ∧ b < B ∧ ∀ j us, ps[j]? = some us → ∃ v, w.cell? ⟨b, off + j, none⟩ = some v ∧ Part w B v us
theorem Part.below {w w' : World} {B : Nat} {v : Value} {us : List UInt8} (h : Part w B v us) (hb : Below B w w') : Part w' B v us := by
  obtain ⟨A, c, e, hr, h1, h2⟩ := h
  exact ⟨A, c, e, hr.below hb, h1, h2⟩
theorem Part.more {w : World} {B B' : Nat} {v : Value} {us : List UInt8} (h : Part w B v us) (hB : B ≤ B') : Part w B' v us := by
  obtain ⟨A, c, e, hr, h1, h2⟩ := h
  exact ⟨A, c, e, hr.more hB, h1, h2⟩
theorem Parts.below {w w' : World} {B : Nat} {D : Option Addr} {ps : List (List UInt8)} (h : Parts w B D ps) (hb : Below B w w') : Parts w' B D ps := by
  rcases h with rfl | ⟨b, off, rfl, hlt, hc⟩
  · exact .inl rfl
  · refine .inr ⟨b, off, rfl, hlt, fun j us hu => ?_⟩
    obtain ⟨v, h1, h2⟩ := hc j us hu
    exact ⟨v, (hb.cell hlt).trans h1, h2.below hb⟩
theorem Parts.more {w : World} {B B' : Nat} {D : Option Addr} {ps : List (List UInt8)} (h : Parts w B D ps) (hB : B ≤ B') : Parts w B' D ps := by
  rcases h with rfl | ⟨b, off, rfl, hlt, hc⟩
  · exact .inl rfl
  · refine .inr ⟨b, off, rfl, by omega, fun j us hu => ?_⟩
    obtain ⟨v, h1, h2⟩ := hc j us hu
    exact ⟨v, h1, h2.more hB⟩
theorem Parts.at {w : World} {B : Nat} {D : Option Addr} {ps : List (List UInt8)} (h : Parts w B D ps) (k : Nat) (hk : k < ps.length) : ∃ b off A c, D = some ⟨b, off, none⟩ ∧ w.cell? ⟨b, off + k, none⟩ = some (.slice A ps[k].length c) ∧ Row w B A ps[k] ∧ ps[k].length ≤ c ∧ c ≤ maxLen ∧ (A = none → c = 0) := by
  rcases h with rfl | ⟨b, off, rfl, hlt, hc⟩
  · simp at hk
  · obtain ⟨v, h1, A, c, rfl, h2, h3, h4⟩ := hc k _ (List.getElem?_eq_getElem hk)
    exact ⟨b, off, A, c, rfl, h1, h2, h3, h4⟩
theorem flatten_take_le (ps : List (List UInt8)) (k : Nat) : (ps.take k).flatten.length ≤ ps.flatten.length := by
  conv => rhs; rw [← List.take_append_drop k ps, List.flatten_append, List.length_append]
  omega
theorem Owns.keep {w w' : World} {base : Nat} {v : Value} {bs : List UInt8} (h : Owns w base v bs) (hk : ∀ g, v.ownBlock = some g → w'.heap[g]? = w.heap[g]?) : Owns w' base v bs := by
  obtain ⟨h1, h2⟩ := h
  refine ⟨h1, ?_⟩
  rcases h2 with h2 | ⟨g, cap, cur, hv, hg, hh, r⟩
  · exact .inl h2
  · refine .inr ⟨g, cap, cur, hv, hg, ?_, r⟩
    rw [hk g (by rw [hv]; rfl)]
    exact hh
theorem Owns.on {w w' : World} {base : Nat} {v : Value} {bs : List UInt8} (h : Owns w base v bs) (hb : Below w.heap.size w w') : Owns w' base v bs :=
  h.keep fun g hg => hb.block g (World.ownsRow.lt h g hg).2
theorem Owns.but {w w' : World} {base g : Nat} {v : Value} {bs : List UInt8} (h : Owns w base v bs) (hb : But g w w') (hg : g < base) : Owns w' base v bs :=
  h.keep fun k hk => hb.block k (World.ownsRow.lt h k hk).2 (by have := (World.ownsRow.lt h k hk).1; omega)
/-- 'make([]byte, m, n)', the world behind it under a name. -/
theorem make_step {w : World} {ops : Array Oper} {rest : List Oper} {o : Oper} {a : Act} {Q : Exit → Act → World → Prop} (hgd : o.guard = none) (l c : Operand) (ho : o.op = .makeSlice 24 l c) (m n : Nat) (hl : a.eval l = .int .i64 (m : Int)) (hc : a.eval c = .int .i64 (n : Int)) (hmn : m ≤ n) (hn : n ≤ 1000000)
    (h : ∀ w', Below w.heap.size w w' → Made w' w.heap.size (List.replicate n 0) → w'.heap.size = w.heap.size + 1 → wpList Tryd.prog ops Q rest (a.put o.dst (.slice (some ⟨w.heap.size, 0, none⟩) m n)) w') : wpList Tryd.prog ops Q (o :: rest) a w := by
  refine wpList_plain hgd fun K hK => ?_
  have hrun := make_bytes m n hmn hn w
  unfold Oper.wp
  simp only [execOp, ho, hl, hc, hrun, Sem.run_bind, Sem.run_pure, Result.andThen_ok]
  exact hK _ _ (h _ ((Below.refl _ _).alloc (Nat.le_refl _) _) (Made.new w _) (by simp))
theorem cutA_some (g o l cap : Nat) (h : ¬ cap = l) : cutA (some ⟨g, o, none⟩) l cap = some ⟨g, o + l, none⟩ := by
  unfold cutA
  rw [if_neg h]
  simp [Addr.add_mid]
theorem Made.cells {w : World} {g : Nat} {bs : List UInt8} (h : Made w g bs) : Cells w g (bs.map cellOf) 5 := h
end Go.Proofs.YtoggkhjaghkpnaaDoor
