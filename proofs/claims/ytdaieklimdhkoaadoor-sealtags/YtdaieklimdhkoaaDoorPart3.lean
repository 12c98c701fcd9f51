/- Part 3 of what the laws of this seat share: WVals, CQuarter, WOrders, CRound, CStir, CEnded, WZeros. -/
import Derived.IntWalk
import Derived.Deep.RegionHeld
import Derived.RegionTactic
import Derived.StillTail
import Derived.BigQuiet
import Derived.Deep.WholeRow
import Derived.Deep.QuietTactic
import Derived.Lib.AppendStr
import Derived.Test.YtdaieklimdhkoaaDoorPart2
namespace Go.Proofs.YtdaieklimdhkoaaDoor
open Go.RowKit
theorem size_u32 : (Tryd.prog.info? 44).map (·.size) = some 1 := by kernel_rfl
theorem u32_info : (Tryd.prog.info? 44).map (fun i => (i.zero, i.size, i.bytes)) = some (some (.int .u32 0), 1, 4) := by kernel_rfl
set_option maxRecDepth 100000 in
/-- 'make([]uint32, n)'. -/
theorem make_words (n : Nat) (hn : n ≤ 1000000) (W : World) :
    (Instr.makeSlice 92 (.int .i64 (n : Int)) (.int .i64 (n : Int))).run Tryd.prog W = .ok (.slice (some ⟨W.heap.size, 0, none⟩) n n) (W.alloc (.cells (wzeros n).toArray 44)) := by
  unfold wzeros
  obtain ⟨i0, hi0, hz0, hz1, hz2⟩ := info_parts u32_info
  have h := run_make (P := Tryd.prog) W 92 44 i0 (.int .u32 0) Tryd.underlying92 hi0 hz0 .i64 .i64 n n (by omega) (by omega) (by rw [hz2]; omega) (by omega)
  rw [h, Int.toNat_natCast, hz1, Nat.mul_one]
  congr 3
  apply Array.ext_getElem?
  intro i
  simp only [madeCells, Value.cells]
  by_cases h : i < n
  · simp [h, Nat.mod_one]
  · simp [h]
section
variable {P : Program} {w : World} {ops : Array Oper} {rest : List Oper} {o o1 o2 : Oper} {a : Act} {Q : Exit → Act → World → Prop}
/-- 'x := f(..)', x an array: a new variable, and the value stored into it. -/
theorem vput_step (hg1 : o1.guard = none) (hg2 : o2.guard = none) (t : TypeId) (x y : Operand) (h1 : o1.op = .alloc t) (h2 : o2.op = .store t x y) (n : Nat) (zs vs : List Value)
    (hx : (a.put o1.dst (.pointer (some ⟨w.heap.size, 0, none⟩))).eval x = .pointer (some ⟨w.heap.size, 0, none⟩)) (hy : (a.put o1.dst (.pointer (some ⟨w.heap.size, 0, none⟩))).eval y = .agg vs.toArray)
    (hz : ∀ w, (zeroValue t).run P w = .ok (.agg zs.toArray) w) (hzl : zs.length = n) (hs : (P.info? t).map (·.size) = some n) (hl : vs.length = n) (h1c : vs.toArray.all (·.oneCell') = true)
    (h : ∀ w', Below w.heap.size w w' → Cells w' w.heap.size vs t → wpList P ops Q rest ((a.put o1.dst (.pointer (some ⟨w.heap.size, 0, none⟩))).put o2.dst undef) w') : wpList P ops Q (o1 :: o2 :: rest) a w := by
  refine alloc_step hg1 t h1 _ hz ?_
  intro w1 hw1
  have hB1 : Below w.heap.size w w1 := by rw [hw1]; exact (Below.refl _ _).alloc (Nat.le_refl _) _
  have hC1 : Cells w1 w.heap.size zs t := by rw [hw1]; exact Cells.new w _ _
  clear hw1
  have hsz : vs.toArray.size = n := by rw [List.size_toArray, hl]
  refine wpList_store_mid hg2 t x y h2 w.heap.size 0 vs.toArray hx hy (by rw [hsz]; exact hC1.there 0 n (by omega)) (by rw [hsz]; exact hs) h1c ?_
  have hC2 := hC1.setCells (cs := vs) (o := 0) (by omega)
  rw [splice_all _ _ (by omega)] at hC2
  exact h _ (below_setCells hB1 (Nat.le_refl _) _ _) hC2
/-- A variable that is an array, as a value. -/
theorem vget_step (hgd : o.guard = none) (t : TypeId) (x : Operand) (ho : o.op = .load t x) (g n : Nat) (vs : List Value) (e : TypeId) (hx : a.eval x = .pointer (some ⟨g, 0, none⟩)) (hC : Cells w g vs t) (hu : P.underlying t = some (.array n e))
    (hs : (P.info? t).map (·.size) = some n) (hl : vs.length = n) (h : wpList P ops Q rest (a.put o.dst (.agg vs.toArray)) w) : wpList P ops Q (o :: rest) a w :=
  wpList_load_row hgd t x ho g hx t vs.toArray (0, 0) _ hC hu rfl (by rw [List.size_toArray, hl]; exact hs) h
/-- An array stored over a variable. -/
theorem vset_step (hgd : o.guard = none) (t : TypeId) (x y : Operand) (ho : o.op = .store t x y) (g n : Nat) (us vs : List Value) (hx : a.eval x = .pointer (some ⟨g, 0, none⟩)) (hy : a.eval y = .agg vs.toArray) (hC : Cells w g us t) (hv : us.length = n)
    (hs : (P.info? t).map (·.size) = some n) (hl : vs.length = n) (h1c : vs.toArray.all (·.oneCell') = true) (h : ∀ w', But g w w' → Cells w' g vs t → w'.heap.size = w.heap.size → wpList P ops Q rest (a.put o.dst undef) w') : wpList P ops Q (o :: rest) a w := by
  have hsz : vs.toArray.size = n := by rw [List.size_toArray, hl]
  refine wpList_store_mid hgd t x y ho g 0 vs.toArray hx hy (by rw [hsz]; exact hC.there 0 n (by omega)) (by rw [hsz]; exact hs) h1c ?_
  have hC2 := hC.setCells (cs := vs) (o := 0) (by omega)
  rw [splice_all _ _ (by omega)] at hC2
  exact h _ ((But.refl g w).setCells _ _) hC2 (heap_setCells _ _ _ _).2.2.2.1
/-- A new variable of a type whose zero value is known. -/
theorem vzero_step (hgd : o.guard = none) (t : TypeId) (ho : o.op = .alloc t) (zs : List Value) (hz : ∀ w, (zeroValue t).run P w = .ok (.agg zs.toArray) w)
    (h : ∀ w', Below w.heap.size w w' → Cells w' w.heap.size zs t → wpList P ops Q rest (a.put o.dst (.pointer (some ⟨w.heap.size, 0, none⟩))) w') : wpList P ops Q (o :: rest) a w := by
  refine alloc_step hgd t ho _ hz ?_
  intro w1 hw1
  exact h w1 (by rw [hw1]; exact (Below.refl _ _).alloc (Nat.le_refl _) _) (by rw [hw1]; exact Cells.new w _ _)
/-- An array that comes as a value, laid into a new variable. -/
theorem vtake_step (hgd : o.guard = none) (t : TypeId) (x : Operand) (ho : o.op = .box t x) (vs : List Value) (hx : a.eval x = .agg vs.toArray)
    (h : ∀ w', Below w.heap.size w w' → Cells w' w.heap.size vs t → wpList P ops Q rest (a.put o.dst (.pointer (some ⟨w.heap.size, 0, none⟩))) w') : wpList P ops Q (o :: rest) a w := by
  refine box_step hgd t x ho _ hx ?_
  intro w1 hw1
  exact h w1 (by rw [hw1]; exact (Below.refl _ _).alloc (Nat.le_refl _) _) (by rw [hw1]; exact Cells.new w _ _)
end
/-- A function whose result is an array in a block of its own. -/
theorem vret {P : Program} {fn : Func} {R : Ending → World → Prop} {a : Act} {w : World} {p : Tmp} {ty e : TypeId} {n : Nat} (hres : fn.results = #[.cell p ty]) (g : Nat) (vs : List Value)
    (hp : a.tmps.getD p undef = .pointer (some ⟨g, 0, none⟩)) (hg : Cells w g vs ty) (hu : P.underlying ty = some (.array n e)) (hi : (P.info? ty).map (·.size) = some n) (hl : vs.length = n)
    (hdf : a.defers = []) (hR : R (.returned (.agg vs.toArray)) w) : bodyPost P fn R .ret a w :=
  ret_block hres g vs ty hp hg hu rfl (by rw [hl]; exact hi) hdf hR
end Go.Proofs.YtdaieklimdhkoaaDoor
namespace Go.Proofs.YtdaieklimdhkoaaDoor
open Go.RowKit
theorem results_tmp4 {fn : Func} {t u v x : Tmp} (h : fn.results = #[.tmp t, .tmp u, .tmp v, .tmp x]) (tmps : Array Value) (P : Program) (w : World) :
    (results fn tmps).run P w = .ok (.tuple #[tmps.getD t undef, tmps.getD u undef, tmps.getD v undef, tmps.getD x undef]) w := by
  simp [results, h]
/-- Four words as a call answers them. -/
def Quad.tuple (q : Quad) : Value := .tuple #[wcell q.a, wcell q.b, wcell q.c, wcell q.d]
set_option maxRecDepth 100000 in
theorem quarter_any (a b c d : BitVec 32) (w : World) :
    Calls Tryd.prog 65 #[wcell a, wcell b, wcell c, wcell d] w fun e w' => e = .returned (quarter a b c d).tuple ∧ w = w' := by
  have HQ : Hid (quarter a b c d = ⟨a + b + rotL32 (b ^^^ (c + rotL32 (d ^^^ (a + b)) 16)) 12, rotL32 (rotL32 (b ^^^ (c + rotL32 (d ^^^ (a + b)) 16)) 12 ^^^ (c + rotL32 (d ^^^ (a + b)) 16 + rotL32 (rotL32 (d ^^^ (a + b)) 16 ^^^ (a + b + rotL32 (b ^^^ (c + rotL32 (d ^^^ (a + b)) 16)) 12)) 8)) 7, c + rotL32 (d ^^^ (a + b)) 16 + rotL32 (rotL32 (d ^^^ (a + b)) 16 ^^^ (a + b + rotL32 (b ^^^ (c + rotL32 (d ^^^ (a + b)) 16)) 12)) 8, rotL32 (rotL32 (d ^^^ (a + b)) 16 ^^^ (a + b + rotL32 (b ^^^ (c + rotL32 (d ^^^ (a + b)) 16)) 12)) 8⟩) := rfl
  go_enter Tryd.func65, Tryd.ntmps65
  go_wp2_with fail
  rw [add32, xor32]
  refine (left_any _ _ _).mono ?_
  rintro e w1 ⟨rfl, rfl⟩
  generalize a + b = a1 at *
  generalize rotL32 (d ^^^ a1) 16 = d1 at *
  go_wp2_with fail
  rw [add32, xor32]
  refine (left_any _ _ _).mono ?_
  rintro e w1 ⟨rfl, rfl⟩
  generalize c + d1 = c1 at *
  generalize rotL32 (b ^^^ c1) 12 = b1 at *
  go_wp2_with fail
  rw [add32, xor32]
  refine (left_any _ _ _).mono ?_
  rintro e w1 ⟨rfl, rfl⟩
  generalize a1 + b1 = a2 at *
  generalize rotL32 (d1 ^^^ a2) 8 = d2 at *
  go_wp2_with fail
  rw [add32, xor32]
  refine (left_any _ _ _).mono ?_
  rintro e w1 ⟨rfl, rfl⟩
  generalize c1 + d2 = c2 at *
  generalize rotL32 (b1 ^^^ c2) 7 = b2 at *
  go_wp2
  try simp only [Exit.inBlock, Exit.then]
  refine bodyPost_ret (results_tmp4 rfl _ _ _) rfl ?_
  exact ⟨by rw [HQ.out]; rfl, rfl⟩
set_option maxRecDepth 100000 in
theorem streamPut_any (x : BitVec 32) (w : World) :
    Calls Tryd.prog 41 #[wcell x] w fun e w' => e = .returned (.slice (some ⟨w.heap.size, 0, none⟩) 4 4) ∧ Below w.heap.size w w' ∧ Made w' w.heap.size (putL x.toNat 4) := by
  have hx := x.isLt
  have HC := Lib.hid (putLittle_in x.toNat 4 w (by omega) (by omega))
  go_enter Tryd.func41, Tryd.ntmps41
  go_wp2_with fail
  refine HC.out.mono ?_
  rintro e w1 ⟨rfl, hB1, hM1⟩
  clear HC
  go_wp2
  go_ret
  exact ⟨rfl, hB1, hM1⟩
set_option maxRecDepth 100000 in
theorem streamLittle_any (A : Option Addr) (c : Nat) (bs : List UInt8) (w : World) (hl : bs.length = 4) (hr : Row w w.heap.size A bs) :
    Calls Tryd.prog 42 #[.slice A 4 c] w fun e w' => e = .returned (wcell (word4L bs)) ∧ w = w' := by
  have HC := Lib.hid (little_few A c 4 bs w hl hr (by omega))
  have hb := bigN_lt bs.reverse
  rw [List.length_reverse, hl] at hb
  have HW : Hid (word4L bs = BitVec.ofNat 32 (bigN bs.reverse)) := rfl
  generalize bigN bs.reverse = n at *
  go_enter Tryd.func42, Tryd.ntmps42
  go_wp2_with fail
  refine HC.out.mono ?_
  rintro e w1 ⟨rfl, rfl⟩
  clear HC
  go_wp2
  go_ret
  exact ⟨by rw [HW.out]; exact ret_int (by rw [BitVec.toNat_ofNat]; omega), rfl⟩
end Go.Proofs.YtdaieklimdhkoaaDoor
namespace Go.Proofs.YtdaieklimdhkoaaDoor
open Go.RowKit
section
variable {P : Program} {ops : Array Oper} {Q : Exit → Act → World → Prop} {md : Region.Mode} {S : World → Prop} {c : Nat}
/-- Whatever order is picked from here on; until operation c has come up, S holds behind each. -/
def wpAnyU (P : Program) (md : Region.Mode) (ops : Array Oper) (Q : Exit → Act → World → Prop) (S : World → Prop) (c : Nat) : Nat → Array Bool → Act → World → Prop
  | 0, listed, a, w => Region.ready md ops listed = [] ∧ Q .normal a w
  | fuel + 1, listed, a, w =>
    (Region.ready md ops listed = [] → Q .normal a w) ∧
    ∀ i ∈ Region.ready md ops listed, wpOp P ops Q i (fun a' w' => (i = c → wpAny P md ops Q fuel (listed.setIfInBounds i true) a' w') ∧ (i ≠ c → S w' ∧ wpAnyU P md ops Q S c fuel (listed.setIfInBounds i true) a' w')) a w
theorem wpAny_of_until : ∀ (fuel : Nat) (listed : Array Bool) (a : Act) (w : World), wpAnyU P md ops Q S c fuel listed a w → wpAny P md ops Q fuel listed a w
  | 0, _, _, _, h => h
  | fuel + 1, _, _, _, h => ⟨h.1, fun i hi => wpOp_mono (fun a' w' h' => by
      by_cases e : i = c
      · exact h'.1 e
      · exact wpAny_of_until fuel _ a' w' (h'.2 e).2) (h.2 i hi)⟩
/-- Operation c waits for operation i. -/
def waitsFor (md : Region.Mode) (ops : Array Oper) (c i : Nat) : Bool := match ops[c]? with
  | some oc => oc.after.any fun e => Region.binds md e && e.on == i
  | none => false
theorem not_ready {i : Nat} {listed : Array Bool} (hw : waitsFor md ops c i = true) (hr : i ∈ Region.ready md ops listed) : c ∉ Region.ready md ops listed := by
  intro hc
  obtain ⟨_, oc, hoc, hall⟩ := mem_ready.1 hc
  have h0 := (mem_ready.1 hr).1
  simp only [waitsFor, hoc] at hw
  obtain ⟨e, he, hb⟩ := Array.any_eq_true'.1 hw
  simp only [Bool.and_eq_true, beq_iff_eq] at hb
  have h1 := hall e he hb.1
  rw [hb.2] at h1
  rcases Nat.lt_or_ge i listed.size with h' | h'
  · simp [h'] at h0 h1; rw [h0] at h1; cases h1
  · simp [Array.getElem?_eq_none h'] at h1
theorem wpAnyU_first {i : Nat} {oi : Oper} {v : Value} (hi : ops[i]? = some oi) (hic : i ≠ c) (hwt : waitsFor md ops c i = true) (hsel : ∀ (j : Nat) (o : Oper) cs b, ops[j]? = some o → o.op ≠ .select cs b)
    (hQ : ∀ c a w, Q (.panic c) (a.put oi.dst v) w → Q (.panic c) a w) :
    ∀ (fuel : Nat) (listed : Array Bool) (a : Act) (w : World),
      (∀ j oj, ops[j]? = some oj → j ≠ i → listed.getD j true = false → (∀ e ∈ oj.after, Region.binds md e = true → e.on ≠ i) → oi.apart ops oj = true) →
      i ∈ Region.ready md ops listed → YieldsIf P ops S oi v a → S w →
      wpAnyU P md ops Q S c fuel (listed.setIfInBounds i true) (a.put oi.dst v) w → wpAnyU P md ops Q S c (fuel + 1) listed a w := by
  intro fuel
  induction fuel with
  | zero =>
    intro listed a w _ hr hy hS H
    refine ⟨fun h => (by rw [h] at hr; cases hr), fun j hj => ?_⟩
    by_cases hji : j = i
    · subst hji; exact hy.wpOp hi hS ⟨fun e => absurd e hic, fun _ => ⟨hS, H⟩⟩
    · have := ready_mono hj hji
      rw [H.1] at this
      cases this
  | succ fuel ih =>
    intro listed a w hfree hr hy hS H
    refine ⟨fun h => (by rw [h] at hr; cases hr), fun j hj => ?_⟩
    by_cases hji : j = i
    · subst hji; exact hy.wpOp hi hS ⟨fun e => absurd e hic, fun _ => ⟨hS, H⟩⟩
    · have hjc : j ≠ c := fun e => not_ready hwt hr (e ▸ hj)
      have h1 := wpOp_mono (fun a' w' h' => h'.2 hjc) (H.2 j (ready_mono hj hji))
      obtain ⟨hjun, oj, hoj, hall⟩ := mem_ready.1 hj
      have hnot : ∀ e ∈ oj.after, Region.binds md e = true → e.on ≠ i := fun e he hb heq => by
        have h1 := hall e he hb
        have h0 := (mem_ready.1 hr).1
        rw [heq] at h1
        rcases Nat.lt_or_ge i listed.size with h' | h'
        · simp [h'] at h0 h1; rw [h0] at h1; cases h1
        · simp [Array.getElem?_eq_none h'] at h1
      have h2 := wpOp_putIf hoj (hfree j oj hoj hji hjun hnot) (fun cs b => hsel i oi cs b hi) (fun cs b => hsel j oj cs b hoj) hQ hy h1
      have hfree' : ∀ k ok, ops[k]? = some ok → k ≠ i → (listed.setIfInBounds j true).getD k true = false →
          (∀ e ∈ ok.after, Region.binds md e = true → e.on ≠ i) → oi.apart ops ok = true := fun k ok hk hki hun hno => by
        refine hfree k ok hk hki ?_ hno
        by_cases hjk : j = k
        · subst hjk; exact hjun
        · rw [getD_set_ne true hjk] at hun; exact hun
      refine wpOp_mono (fun a' w' h3 => ⟨fun e => absurd e hjc, fun _ => ⟨h3.2.1, ih (listed.setIfInBounds j true) a' w' hfree' (ready_mono hr (Ne.symm hji)) h3.1 h3.2.1 ?_⟩⟩) h2
      rw [Array.setIfInBounds_comm _ _ hji]
      exact h3.2.2
/-- Take number i first: c waits for it. -/
theorem wpAnyU_take {i : Nat} {oi : Oper} {v : Value} {fuel : Nat} {listed : Array Bool} {a : Act} {w : World} (hi : ops[i]? = some oi) (hic : i ≠ c) (hwt : waitsFor md ops c i = true)
    (hs : Region.noSelect ops = true) (hf : Region.free md ops listed i = true) (hr : (Region.ready md ops listed).contains i = true)
    (hQ : ∀ c a w, Q (.panic c) (a.put oi.dst v) w → Q (.panic c) a w) (hy : YieldsIf P ops S oi v a) (hS : S w)
    (h : wpAnyU P md ops Q S c fuel (listed.setIfInBounds i true) (a.put oi.dst v) w) : wpAnyU P md ops Q S c (fuel + 1) listed a w :=
  wpAnyU_first hi hic hwt (Region.noSelect_spec hs) hQ fuel listed a w (Region.free_spec hi hf) (by simpa using hr) hy hS h
/-- c comes up, and nothing else can. -/
theorem wpAnyU_end {o : Oper} {fuel : Nat} {listed : Array Bool} {a : Act} {w : World} (hr : Region.ready md ops listed = [c]) (ho : ops[c]? = some o)
    (h : ∀ K' : Act → World → Prop, Shut (∀ a w, wpAny P md ops Q fuel (listed.setIfInBounds c true) a w → K' a w) → if Region.wanted o (yielded ops a.tmps) = true then Oper.wp P o a w K' Q else K' (a.put o.dst undef) w) : wpAnyU P md ops Q S c (fuel + 1) listed a w := by
  refine ⟨fun h0 => (by rw [hr] at h0; cases h0), fun i hi => ?_⟩
  rw [hr] at hi
  obtain rfl : i = c := by simpa using hi
  refine wpOp_step ho fun K' hK => h K' fun a' w' h' => hK a' w' ⟨fun _ => h', fun e => absurd rfl e⟩
/-- One operation can come up. -/
theorem wpAny_one {i : Nat} {o : Oper} {fuel : Nat} {listed : Array Bool} {a : Act} {w : World} (hr : Region.ready md ops listed = [i]) (ho : ops[i]? = some o)
    (h : ∀ K' : Act → World → Prop, Shut (∀ a w, wpAny P md ops Q fuel (listed.setIfInBounds i true) a w → K' a w) → if Region.wanted o (yielded ops a.tmps) = true then Oper.wp P o a w K' Q else K' (a.put o.dst undef) w) : wpAny P md ops Q (fuel + 1) listed a w :=
  wpAny_ready hr (by simp) (AllReady.cons ho h AllReady.nil)
/-- From here on the rest comes in the text's order. -/
theorem wpAny_rest {l : List Oper} {fuel : Nat} {listed : Array Bool} {a : Act} {w : World} (n : Nat) (hf : fuel = (l.drop n).length) (hB : Region.seqB md l.toArray (l.drop n).length n listed = true) (h : wpList P l.toArray Q (l.drop n) a w) : wpAny P md l.toArray Q fuel listed a w := by
  subst hf
  exact wpAny_of_seq (l.drop n) n listed a w (fun j => by simp [List.getElem?_drop]) hB h
/-- One operation can come up: it stores an integer into one cell. -/
theorem wpAny_store {i : Nat} {o : Oper} {fuel : Nat} {listed : Array Bool} {a : Act} {w : World} (hr : Region.ready md ops listed = [i]) (ho : ops[i]? = some o) (hgd : o.guard = none) (t : TypeId) (x y : Operand) (hop : o.op = .store t x y) (g j : Nat) (ik : IntKind) (z : Int)
    (hx : a.eval x = .pointer (some ⟨g, j, none⟩)) (hy : a.eval y = .int ik z) (hs : (P.info? t).map (·.size) = some 1) (ht : w.there g j 1)
    (h : ∀ w', w' = w.setCell ⟨g, j, none⟩ (.int ik z) → wpAny P md ops Q fuel (listed.setIfInBounds i true) (a.put o.dst undef) w') : wpAny P md ops Q (fuel + 1) listed a w := by
  refine wpAny_one hr ho (fun K hK => ?_)
  obtain ⟨i0, hi0, hs0⟩ := Option.map_eq_some_iff.1 hs
  have hst := run_storeCells_cells (P := P) g j [.int ik z] 0 w (fun i hi => by simpa using (ht i hi).1) (fun i hi => by simpa using (ht i hi).2) (by intro v hv; cases List.mem_singleton.1 hv; rfl)
  have hrun : (Instr.storeAt t (.pointer (some ⟨g, j, none⟩)) (.int ik z)).run P w = .ok () (w.setCell ⟨g, j, none⟩ (.int ik z)) := by
    simp only [Instr.storeAt, Instr.sureAddr, Sem.run_bind, Sem.run_pure, Result.andThen_ok]
    simp [storeVar, sizeOf, typeInfo, hi0, hs0, Value.cells, hst, World.setCells]
  rw [if_pos (by simp [Region.wanted, hgd])]
  unfold Oper.wp
  simp only [execOp, hop, hx, hy, hrun, Sem.run_bind, Sem.run_pure, Result.andThen_ok]
  exact hK.out _ _ (h _ rfl)
end
end Go.Proofs.YtdaieklimdhkoaaDoor
namespace Go.Proofs.YtdaieklimdhkoaaDoor
open Go.RowKit
theorem zero_state : ∀ w, (zeroValue 56).run Tryd.prog w = .ok (.agg (wzeros 16).toArray) w := (zero_of_info (P := Tryd.prog) (t := 56) (v := .agg (wzeros 16).toArray) (n := 16) (by kernel_rfl)).1
theorem size_state : (Tryd.prog.info? 56).map (·.size) = some 16 := by kernel_rfl
theorem quarter_same (a b c d : BitVec 32) (w : World) :
    Calls Tryd.prog 65 #[wcell a, wcell b, wcell c, wcell d] w fun e w' => e = .returned (quarter a b c d).tuple ∧ w' = w :=
  (quarter_any a b c d w).mono fun _ _ ⟨h1, h2⟩ => ⟨h1, h2.symm⟩
set_option maxRecDepth 100000 in
set_option maxHeartbeats 1000000 in
theorem streamRound_any (s : List (BitVec 32)) (m : Nat) (hm : m ≤ 1) (w : World) (hs : s.length = 16) :
    Calls Tryd.prog 63 #[.agg (s.map wcell).toArray, .int .i64 (m : Int)] w fun e w' => e = .returned (.agg ((chRound s m).map wcell).toArray) ∧ Below w.heap.size w w' := by
  have HS := Lib.hid hs
  clear hs
  go_enter Tryd.func63, Tryd.ntmps63
  go_wp2_with (first
    | (refine vtake_step rfl 56 _ rfl (s.map wcell) rfl ?_
       intro w1 hB1 hC1)
    | (refine vzero_step rfl 56 rfl (wzeros 16) zero_state ?_
       intro w2 hb2 hZ2
       have hB2 := below_then hB1 hb2
       have hC2 := hC1.on hb2
       have hg1 := hB1.size
       have hg2 := hC1.lt
       clear hB1 hC1 hb2))
  generalize hgz : w1.heap.size = gz at *
  clear hgz
  go_loopw [10] (fun i wr => ∃ k : Nat, k ≤ 4 ∧ i = .int .i64 k ∧ Below w.heap.size w wr ∧ Cells wr w.heap.size ((slantTo s m k).map wcell) 56 ∧ Cells wr gz (wzeros 16) 56) (fun i _ => 4 - (intOf i).toNat)
  case atStart => exact ⟨0, Nat.zero_le _, rfl, hB2, hC2, hZ2⟩
  case round =>
    clear hB2 hC2 hZ2
    obtain ⟨k, hk, rfl, hB, hC, hZ⟩ := hrel
    by_cases hlt : k < 4
    · have HSL : Hid ((slantTo s m k).length = 16) := by show _ = _; rw [slantTo_length, HS.out]
      have HN : Hid (slantTo s m (k + 1) = qset (slantTo s m k) k (4 + (k + m) % 4) (8 + (k + 2 * m) % 4) (12 + (k + 3 * m) % 4)) := rfl
      generalize slantTo s m k = s1 at *
      have l0 : k < 16 := by omega
      have e1 : (4 : Int) + ((k : Int) + (m : Int)) % 4 = ((4 + (k + m) % 4 : Nat) : Int) := by omega
      have e2 : (8 : Int) + ((k : Int) + 2 * (m : Int)) % 4 = ((8 + (k + 2 * m) % 4 : Nat) : Int) := by omega
      have e3 : (12 : Int) + ((k : Int) + 3 * (m : Int)) % 4 = ((12 + (k + 3 * m) % 4 : Nat) : Int) := by omega
      have l1 : 4 + (k + m) % 4 < 16 := by omega
      have l2 : 8 + (k + 2 * m) % 4 < 16 := by omega
      have l3 : 12 + (k + 3 * m) % 4 < 16 := by omega
      have E1 := Lib.hid e1
      have E2 := Lib.hid e2
      have E3 := Lib.hid e3
      clear e1 e2 e3
      go_wp2_with fail
      rw [E1.out, E2.out, E3.out]
      clear E1 E2 E3
      generalize 4 + (k + m) % 4 = i1 at *
      generalize 8 + (k + 2 * m) % 4 = i2 at *
      generalize 12 + (k + 3 * m) % 4 = i3 at *
      have c0 := hC.drew.get (list_at s1 k (by rw [HSL.out]; exact l0))
      have c1 := hC.drew.get (list_at s1 i1 (by rw [HSL.out]; exact l1))
      have c2 := hC.drew.get (list_at s1 i2 (by rw [HSL.out]; exact l2))
      have c3 := hC.drew.get (list_at s1 i3 (by rw [HSL.out]; exact l3))
      have HN2 : Hid (slantTo s m (k + 1) = qput s1 (quarter (s1.getD k 0) (s1.getD i1 0) (s1.getD i2 0) (s1.getD i3 0)) k i1 i2 i3) := HN.out
      clear HN
      generalize s1.getD k 0 = x0 at *
      generalize s1.getD i1 0 = x1 at *
      generalize s1.getD i2 0 = x2 at *
      generalize s1.getD i3 0 = x3 at *
      generalize hq : quarter x0 x1 x2 x3 = q at *
      have HQ : Hid (∀ W, Calls Tryd.prog 65 #[wcell x0, wcell x1, wcell x2, wcell x3] W fun e w' => e = .returned (.tuple #[wcell q.a, wcell q.b, wcell q.c, wcell q.d]) ∧ w' = W) := by
        intro W
        subst hq
        exact quarter_same x0 x1 x2 x3 W
      clear hq
      have j0 : (0 : Int) ≤ (k : Int) := by omega
      have j1 : (0 : Int) ≤ (i1 : Int) := by omega
      have j2 : (0 : Int) ≤ (i2 : Int) := by omega
      have j3 : (0 : Int) ≤ (i3 : Int) := by omega
      have k0 : (k : Int) < 16 := by omega
      have k1 : (i1 : Int) < 16 := by omega
      have k2 : (i2 : Int) < 16 := by omega
      have k3 : (i3 : Int) < 16 := by omega
      refine wp_region_any (by kernel_rfl) ?_
      show wpAny _ _ _ _ _ _ _ wr.drew
      simp only [List.size_toArray, List.length_cons, List.length_nil, Nat.reduceAdd, Array.replicate_succ, Array.replicate_zero, List.push_toArray, List.nil_append, List.cons_append]
      refine wpAny_take (i := 0) (oi := ⟨some 32, _, _, _, _, _⟩) (v := ?_) rfl (by kernel_rfl) (by kernel_rfl) (by kernel_rfl) (fun _ _ _ h => h) (Or.inl ⟨by rfl, ?_⟩) ?_
      rotate_left
      · (intro w; go_simp; try with_reducible rfl)
      simp only [Act.put, List.setIfInBounds_toArray, List.set_cons_zero, List.set_cons_succ]
      refine wpAny_take (i := 1) (oi := ⟨some 33, _, _, _, _, _⟩) (v := ?_) rfl (by kernel_rfl) (by kernel_rfl) (by kernel_rfl) (fun _ _ _ h => h) (Or.inl ⟨by rfl, ?_⟩) ?_
      rotate_left
      · (intro w; go_simp; try with_reducible rfl)
      simp only [Act.put, List.setIfInBounds_toArray, List.set_cons_zero, List.set_cons_succ]
      refine wpAny_take (i := 2) (oi := ⟨some 34, _, _, _, _, _⟩) (v := ?_) rfl (by kernel_rfl) (by kernel_rfl) (by kernel_rfl) (fun _ _ _ h => h) (Or.inl ⟨by rfl, ?_⟩) ?_
      rotate_left
      · (intro w; go_simp; try with_reducible rfl)
      simp only [Act.put, List.setIfInBounds_toArray, List.set_cons_zero, List.set_cons_succ]
      refine wpAny_take (i := 3) (oi := ⟨some 35, _, _, _, _, _⟩) (v := ?_) rfl (by kernel_rfl) (by kernel_rfl) (by kernel_rfl) (fun _ _ _ h => h) (Or.inl ⟨by rfl, ?_⟩) ?_
      rotate_left
      · (intro w; go_simp; try with_reducible rfl)
      simp only [Act.put, List.setIfInBounds_toArray, List.set_cons_zero, List.set_cons_succ]
      refine wpAny_take (i := 4) (oi := ⟨some 36, _, _, _, _, _⟩) (v := ?_) rfl (by kernel_rfl) (by kernel_rfl) (by kernel_rfl) (fun _ _ _ h => h) (Or.inl ⟨by rfl, ?_⟩) ?_
      rotate_left
      · (intro w; go_simp; try with_reducible rfl)
      simp only [Act.put, List.setIfInBounds_toArray, List.set_cons_zero, List.set_cons_succ]
      refine wpAny_take (i := 5) (oi := ⟨some 37, _, _, _, _, _⟩) (v := ?_) rfl (by kernel_rfl) (by kernel_rfl) (by kernel_rfl) (fun _ _ _ h => h) (Or.inl ⟨by rfl, ?_⟩) ?_
      rotate_left
      · (intro w; go_simp; try with_reducible rfl)
      simp only [Act.put, List.setIfInBounds_toArray, List.set_cons_zero, List.set_cons_succ]
      refine wpAny_take (i := 7) (oi := ⟨some 39, _, _, _, _, _⟩) (v := ?_) rfl (by kernel_rfl) (by kernel_rfl) (by kernel_rfl) (fun _ _ _ h => h) (Or.inl ⟨by rfl, ?_⟩) ?_
      rotate_left
      · (intro w; go_simp; try with_reducible rfl)
      simp only [Act.put, List.setIfInBounds_toArray, List.set_cons_zero, List.set_cons_succ]
      refine wpAny_take (i := 8) (oi := ⟨some 40, _, _, _, _, _⟩) (v := ?_) rfl (by kernel_rfl) (by kernel_rfl) (by kernel_rfl) (fun _ _ _ h => h) (Or.inl ⟨by rfl, ?_⟩) ?_
      rotate_left
      · (intro w; go_simp; try with_reducible rfl)
      simp only [Act.put, List.setIfInBounds_toArray, List.set_cons_zero, List.set_cons_succ]
      refine wpAny_take (i := 10) (oi := ⟨some 42, _, _, _, _, _⟩) (v := ?_) rfl (by kernel_rfl) (by kernel_rfl) (by kernel_rfl) (fun _ _ _ h => h) (Or.inl ⟨by rfl, ?_⟩) ?_
      rotate_left
      · (intro w; go_simp; try with_reducible rfl)
      simp only [Act.put, List.setIfInBounds_toArray, List.set_cons_zero, List.set_cons_succ]
      refine wpAny_take (i := 11) (oi := ⟨some 43, _, _, _, _, _⟩) (v := ?_) rfl (by kernel_rfl) (by kernel_rfl) (by kernel_rfl) (fun _ _ _ h => h) (Or.inl ⟨by rfl, ?_⟩) ?_
      rotate_left
      · (intro w; go_simp; try with_reducible rfl)
      simp only [Act.put, List.setIfInBounds_toArray, List.set_cons_zero, List.set_cons_succ]
      refine wpAny_take (i := 13) (oi := ⟨some 45, _, _, _, _, _⟩) (v := ?_) rfl (by kernel_rfl) (by kernel_rfl) (by kernel_rfl) (fun _ _ _ h => h) (Or.inl ⟨by rfl, ?_⟩) ?_
      rotate_left
      · (intro w; go_simp; try with_reducible rfl)
      simp only [Act.put, List.setIfInBounds_toArray, List.set_cons_zero, List.set_cons_succ]
      refine wpAny_take (i := 14) (oi := ⟨some 46, _, _, _, _, _⟩) (v := ?_) rfl (by kernel_rfl) (by kernel_rfl) (by kernel_rfl) (fun _ _ _ h => h) (Or.inl ⟨by rfl, ?_⟩) ?_
      rotate_left
      · (intro w; go_simp; try with_reducible rfl)
      simp only [Act.put, List.setIfInBounds_toArray, List.set_cons_zero, List.set_cons_succ]
      refine wpAny_of_until (S := fun w' => w'.cell? ⟨w.heap.size, k, none⟩ = some (wcell x0) ∧ w'.cell? ⟨w.heap.size, i1, none⟩ = some (wcell x1) ∧ w'.cell? ⟨w.heap.size, i2, none⟩ = some (wcell x2) ∧ w'.cell? ⟨w.heap.size, i3, none⟩ = some (wcell x3)) (c := 16) _ _ _ _ ?_
      refine wpAnyU_take (i := 6) (oi := ⟨some 38, _, _, _, _, _⟩) (v := ?_) rfl (by decide) (by kernel_rfl) (by kernel_rfl) (by kernel_rfl) (by kernel_rfl) (fun _ _ _ h => h) (Or.inl ⟨by rfl, ?_⟩) ⟨c0, c1, c2, c3⟩ ?_
      rotate_left
      · (intro w hSw; obtain ⟨q0, q1, q2, q3⟩ := hSw; go_simp; try with_reducible rfl)
      simp only [Act.put, List.setIfInBounds_toArray, List.set_cons_zero, List.set_cons_succ]
      refine wpAnyU_take (i := 9) (oi := ⟨some 41, _, _, _, _, _⟩) (v := ?_) rfl (by decide) (by kernel_rfl) (by kernel_rfl) (by kernel_rfl) (by kernel_rfl) (fun _ _ _ h => h) (Or.inl ⟨by rfl, ?_⟩) ⟨c0, c1, c2, c3⟩ ?_
      rotate_left
      · (intro w hSw; obtain ⟨q0, q1, q2, q3⟩ := hSw; go_simp; try with_reducible rfl)
      simp only [Act.put, List.setIfInBounds_toArray, List.set_cons_zero, List.set_cons_succ]
      refine wpAnyU_take (i := 12) (oi := ⟨some 44, _, _, _, _, _⟩) (v := ?_) rfl (by decide) (by kernel_rfl) (by kernel_rfl) (by kernel_rfl) (by kernel_rfl) (fun _ _ _ h => h) (Or.inl ⟨by rfl, ?_⟩) ⟨c0, c1, c2, c3⟩ ?_
      rotate_left
      · (intro w hSw; obtain ⟨q0, q1, q2, q3⟩ := hSw; go_simp; try with_reducible rfl)
      simp only [Act.put, List.setIfInBounds_toArray, List.set_cons_zero, List.set_cons_succ]
      refine wpAnyU_take (i := 15) (oi := ⟨some 47, _, _, _, _, _⟩) (v := ?_) rfl (by decide) (by kernel_rfl) (by kernel_rfl) (by kernel_rfl) (by kernel_rfl) (fun _ _ _ h => h) (Or.inl ⟨by rfl, ?_⟩) ⟨c0, c1, c2, c3⟩ ?_
      rotate_left
      · (intro w hSw; obtain ⟨q0, q1, q2, q3⟩ := hSw; go_simp; try with_reducible rfl)
      simp only [Act.put, List.setIfInBounds_toArray, List.set_cons_zero, List.set_cons_succ]
      refine wpAnyU_end (by kernel_rfl) rfl (fun K hK => ?_)
      go_simp
      go_wp2_with (first
        | (go_at_call 65
           refine (HQ.out _).mono ?_
           rintro e w5 ⟨rfl, rfl⟩))
      refine hK.out _ _ ?_
      clear hK K
      refine wpAny_take (i := 17) (oi := ⟨some 31, _, _, _, _, _⟩) (v := ?_) rfl (by kernel_rfl) (by kernel_rfl) (by kernel_rfl) (fun _ _ _ h => h) (Or.inl ⟨by rfl, ?_⟩) ?_
      rotate_left
      · (intro w; go_simp; try with_reducible rfl)
      simp only [Act.put, List.setIfInBounds_toArray, List.set_cons_zero, List.set_cons_succ]
      refine wpAny_take (i := 18) (oi := ⟨some 49, _, _, _, _, _⟩) (v := ?_) rfl (by kernel_rfl) (by kernel_rfl) (by kernel_rfl) (fun _ _ _ h => h) (Or.inl ⟨by rfl, ?_⟩) ?_
      rotate_left
      · (intro w; go_simp; try with_reducible rfl)
      simp only [Act.put, List.setIfInBounds_toArray, List.set_cons_zero, List.set_cons_succ]
      refine wpAny_take (i := 19) (oi := ⟨some 50, _, _, _, _, _⟩) (v := ?_) rfl (by kernel_rfl) (by kernel_rfl) (by kernel_rfl) (fun _ _ _ h => h) (Or.inl ⟨by rfl, ?_⟩) ?_
      rotate_left
      · (intro w; go_simp; try with_reducible rfl)
      simp only [Act.put, List.setIfInBounds_toArray, List.set_cons_zero, List.set_cons_succ]
      refine wpAny_take (i := 20) (oi := ⟨some 51, _, _, _, _, _⟩) (v := ?_) rfl (by kernel_rfl) (by kernel_rfl) (by kernel_rfl) (fun _ _ _ h => h) (Or.inl ⟨by rfl, ?_⟩) ?_
      rotate_left
      · (intro w; go_simp; try with_reducible rfl)
      simp only [Act.put, List.setIfInBounds_toArray, List.set_cons_zero, List.set_cons_succ]
      refine wpAny_take (i := 21) (oi := ⟨some 52, _, _, _, _, _⟩) (v := ?_) rfl (by kernel_rfl) (by kernel_rfl) (by kernel_rfl) (fun _ _ _ h => h) (Or.inl ⟨by rfl, ?_⟩) ?_
      rotate_left
      · (intro w; go_simp; try with_reducible rfl)
      simp only [Act.put, List.setIfInBounds_toArray, List.set_cons_zero, List.set_cons_succ]
      refine wpAny_take (i := 22) (oi := ⟨some 53, _, _, _, _, _⟩) (v := ?_) rfl (by kernel_rfl) (by kernel_rfl) (by kernel_rfl) (fun _ _ _ h => h) (Or.inl ⟨by rfl, ?_⟩) ?_
      rotate_left
      · (intro w; go_simp; try with_reducible rfl)
      simp only [Act.put, List.setIfInBounds_toArray, List.set_cons_zero, List.set_cons_succ]
      have hB0 : Below w.heap.size w wr.drew := hB.drew
      have hZ0 : Cells wr.drew gz (wzeros 16) 56 := hZ
      have hC0 : Cells wr.drew w.heap.size (s1.map wcell) 56 := hC
      generalize wr.drew = v0 at *
      clear hB hZ hC c0 c1 c2 c3 HQ
      refine wpAny_store (i := 23) (by kernel_rfl) rfl rfl 44 _ _ rfl w.heap.size k .u32 _ rfl rfl size_u32 (hC0.there k 1 (by have := HSL.out; simp only [List.length_map]; omega)) ?_
      intro v1 hw
      have hB1 : Below w.heap.size w v1 := by rw [hw]; exact hB0.setCell (p := ⟨w.heap.size, k, none⟩) (Nat.le_refl _) _
      have hZ1 : Cells v1 gz (wzeros 16) 56 := by rw [hw]; exact hZ0.other (Nat.ne_of_gt hg2) _
      have hC1 : Cells v1 w.heap.size (((s1).set k q.a).map wcell) 56 := by rw [hw, ← wset_map]; exact hC0.set _ _
      clear hw hB0 hZ0 hC0
      simp only [Act.put, List.setIfInBounds_toArray, List.set_cons_zero, List.set_cons_succ]
      refine wpAny_take (i := 24) (oi := ⟨some 54, _, _, _, _, _⟩) (v := ?_) rfl (by kernel_rfl) (by kernel_rfl) (by kernel_rfl) (fun _ _ _ h => h) (Or.inl ⟨by rfl, ?_⟩) ?_
      rotate_left
      · (intro w; go_simp; try with_reducible rfl)
      simp only [Act.put, List.setIfInBounds_toArray, List.set_cons_zero, List.set_cons_succ]
      refine wpAny_store (i := 25) (by kernel_rfl) rfl rfl 44 _ _ rfl w.heap.size i1 .u32 _ rfl rfl size_u32 (hC1.there i1 1 (by have := HSL.out; simp only [List.length_map, List.length_set]; omega)) ?_
      intro v2 hw
      have hB2 : Below w.heap.size w v2 := by rw [hw]; exact hB1.setCell (p := ⟨w.heap.size, i1, none⟩) (Nat.le_refl _) _
      have hZ2 : Cells v2 gz (wzeros 16) 56 := by rw [hw]; exact hZ1.other (Nat.ne_of_gt hg2) _
      have hC2 : Cells v2 w.heap.size ((((s1).set k q.a).set i1 q.b).map wcell) 56 := by rw [hw, ← wset_map]; exact hC1.set _ _
      clear hw hB1 hZ1 hC1
      simp only [Act.put, List.setIfInBounds_toArray, List.set_cons_zero, List.set_cons_succ]
      refine wpAny_take (i := 26) (oi := ⟨some 55, _, _, _, _, _⟩) (v := ?_) rfl (by kernel_rfl) (by kernel_rfl) (by kernel_rfl) (fun _ _ _ h => h) (Or.inl ⟨by rfl, ?_⟩) ?_
      rotate_left
      · (intro w; go_simp; try with_reducible rfl)
      simp only [Act.put, List.setIfInBounds_toArray, List.set_cons_zero, List.set_cons_succ]
      refine wpAny_store (i := 27) (by kernel_rfl) rfl rfl 44 _ _ rfl w.heap.size i2 .u32 _ rfl rfl size_u32 (hC2.there i2 1 (by have := HSL.out; simp only [List.length_map, List.length_set]; omega)) ?_
      intro v3 hw
      have hB3 : Below w.heap.size w v3 := by rw [hw]; exact hB2.setCell (p := ⟨w.heap.size, i2, none⟩) (Nat.le_refl _) _
      have hZ3 : Cells v3 gz (wzeros 16) 56 := by rw [hw]; exact hZ2.other (Nat.ne_of_gt hg2) _
      have hC3 : Cells v3 w.heap.size (((((s1).set k q.a).set i1 q.b).set i2 q.c).map wcell) 56 := by rw [hw, ← wset_map]; exact hC2.set _ _
      clear hw hB2 hZ2 hC2
      simp only [Act.put, List.setIfInBounds_toArray, List.set_cons_zero, List.set_cons_succ]
      refine wpAny_take (i := 28) (oi := ⟨some 56, _, _, _, _, _⟩) (v := ?_) rfl (by kernel_rfl) (by kernel_rfl) (by kernel_rfl) (fun _ _ _ h => h) (Or.inl ⟨by rfl, ?_⟩) ?_
      rotate_left
      · (intro w; go_simp; try with_reducible rfl)
      simp only [Act.put, List.setIfInBounds_toArray, List.set_cons_zero, List.set_cons_succ]
      refine wpAny_store (i := 29) (by kernel_rfl) rfl rfl 44 _ _ rfl w.heap.size i3 .u32 _ rfl rfl size_u32 (hC3.there i3 1 (by have := HSL.out; simp only [List.length_map, List.length_set]; omega)) ?_
      intro v4 hw
      have hB4 : Below w.heap.size w v4 := by rw [hw]; exact hB3.setCell (p := ⟨w.heap.size, i3, none⟩) (Nat.le_refl _) _
      have hZ4 : Cells v4 gz (wzeros 16) 56 := by rw [hw]; exact hZ3.other (Nat.ne_of_gt hg2) _
      have hC4 : Cells v4 w.heap.size ((((((s1).set k q.a).set i1 q.b).set i2 q.c).set i3 q.d).map wcell) 56 := by rw [hw, ← wset_map]; exact hC3.set _ _
      clear hw hB3 hZ3 hC3
      simp only [Act.put, List.setIfInBounds_toArray, List.set_cons_zero, List.set_cons_succ]
      refine wpAny_done (by kernel_rfl) ?_ _
      go_wp2
      go_roundw
      case rel => exact ⟨k + 1, by omega, by go_num, hB4, by rw [HN2.out]; exact hC4, hZ4⟩
      case measure => simp [intOf]; omega
    · obtain rfl : k = 4 := by omega
      have HR : Hid (slantTo s m 4 = chRound s m) := rfl
      have HRL : Hid ((chRound s m).length = 16) := by show _ = _; rw [chRound_length, HS.out]
      rw [HR.out] at hC
      obtain ⟨r, hr⟩ : ∃ r, r = chRound s m := ⟨_, rfl⟩
      rw [← hr] at hC HRL
      have HE := Lib.hid hr
      clear HR hr
      go_wp2_with (first
        | (refine vget_step rfl 56 _ rfl w.heap.size 16 (r.map wcell) 44 rfl hC Tryd.underlying56 size_state (by rw [List.length_map, HRL.out]) ?_)
        | (refine vset_step rfl 56 _ _ rfl gz 16 (wzeros 16) (r.map wcell) rfl rfl hZ rfl size_state (by rw [List.length_map, HRL.out]) (wcells_one r) ?_
           intro w7 hb7 hC7 _))
      refine vret Tryd.results63 gz (r.map wcell) rfl hC7 Tryd.underlying56 size_state (by rw [List.length_map, HRL.out]) rfl ⟨by rw [HE.out], hB.trans (hb7.below (by omega) hB.size)⟩
end Go.Proofs.YtdaieklimdhkoaaDoor
namespace Go.Proofs.YtdaieklimdhkoaaDoor
open Go.RowKit
set_option maxRecDepth 100000 in
set_option maxHeartbeats 1000000 in
theorem stir_over (s r : List (BitVec 32)) (w : World) (HS : Hid (s.length = 16)) (HE : Hid (r = chStir s 10)) :
    Calls Tryd.prog 56 #[.agg (s.map wcell).toArray] w fun e w' => e = .returned (.agg (r.map wcell).toArray) ∧ Below w.heap.size w w' := by
  go_enter Tryd.func56, Tryd.ntmps56
  go_wp2_with (first
    | (refine vtake_step rfl 56 _ rfl (s.map wcell) rfl ?_
       intro w1 hB1 hC1)
    | (refine vzero_step rfl 56 rfl (wzeros 16) zero_state ?_
       intro w2 hb2 hZ2
       have hB2 := below_then hB1 hb2
       have hC2 := hC1.on hb2
       have hg2 := hC1.lt
       clear hB1 hC1 hb2))
  generalize hgz : w1.heap.size = gz at *
  clear hgz
  refine wp_scope_once 0 (fun a' w' => ∃ (k : Nat) (u4 u5 u6 u7 u8 u9 u10 u11 : Value), k ≤ 10 ∧ Below w.heap.size w w' ∧ Cells w' w.heap.size ((chStir s k).map wcell) 56 ∧ Cells w' gz (wzeros 16) 56 ∧
      a' = { tmps := #[.agg (s.map wcell).toArray, .pointer (some ⟨w.heap.size, 0, none⟩), .pointer (some ⟨gz, 0, none⟩), .int .i64 (k : Int), u4, u5, u6, u7, u8, u9, u10, u11, undef], defers := [] })
    (fun a' _ => 10 - (intOf (a'.tmps.getD 3 undef)).toNat) rfl ?_ ?_
  · intro hp
    go_wp2
    go_step3
    rename_i K hK
    exact hK _ _ (hp.out _ _ ⟨0, _, _, _, _, _, _, _, _, Nat.zero_le _, hB2, hC2, hZ2, rfl⟩)
  · clear hB2 hC2 hZ2
    rintro a' w' ⟨k, u4, u5, u6, u7, u8, u9, u10, u11, hk, hB, hC, hZ, rfl⟩
    have HL : Hid ((chStir s k).length = 16) := by show _ = _; rw [chStir_length, HS.out]
    by_cases hlt : k < 10
    · have HN : Hid (chStir s (k + 1) = chRound (chRound (chStir s k) 0) 1) := rfl
      generalize chStir s k = x at *
      obtain ⟨y, HY, HL2, CY⟩ : ∃ y, Hid (y = chRound x 0) ∧ Hid (y.length = 16) ∧ Hid (∀ W, Calls Tryd.prog 63 #[.agg (x.map wcell).toArray, .int .i64 0] W fun e w' => e = .returned (.agg (y.map wcell).toArray) ∧ Below W.heap.size W w') :=
        ⟨_, rfl, (chRound_length x 0).trans HL.out, fun W => streamRound_any x 0 (by omega) W HL.out⟩
      obtain ⟨z, HZ, HL3, CZ⟩ : ∃ z, Hid (z = chRound y 1) ∧ Hid (z.length = 16) ∧ Hid (∀ W, Calls Tryd.prog 63 #[.agg (y.map wcell).toArray, .int .i64 1] W fun e w' => e = .returned (.agg (z.map wcell).toArray) ∧ Below W.heap.size W w') :=
        ⟨_, rfl, (chRound_length y 1).trans HL2.out, fun W => streamRound_any y 1 (by omega) W HL2.out⟩
      have HM : Hid (∀ j, j = k + 1 → chStir s j = z) := by intro j hj; rw [hj, HN.out, HZ.out, HY.out]
      clear HN HY HZ HE HS
      go_wp2_with (first
        | (refine vget_step rfl 56 _ rfl w.heap.size 16 (x.map wcell) 44 rfl hC Tryd.underlying56 size_state (by rw [List.length_map, HL.out]) ?_))
      refine (CY.out w').mono ?_
      rintro e w3 ⟨rfl, hb3⟩
      have hB3 := below_then hB hb3
      have hC3 := hC.on hb3
      have hZ3 := hZ.on hb3
      clear hB hC hZ hb3
      clear CY
      go_wp2_with (first
        | (refine vset_step rfl 56 _ _ rfl w.heap.size 16 (x.map wcell) (y.map wcell) rfl rfl hC3 (by rw [List.length_map, HL.out]) size_state (by rw [List.length_map, HL2.out]) (wcells_one y) ?_
           intro w4 hb4 hC4 _
           have hB4 := hB3.trans (hb4.below (Nat.le_refl _) hB3.size)
           have hZ4 := hZ3.but hb4 (Nat.ne_of_gt hg2)
           clear hB3 hC3 hZ3 hb4)
        | (refine vget_step rfl 56 _ rfl w.heap.size 16 (y.map wcell) 44 rfl hC4 Tryd.underlying56 size_state (by rw [List.length_map, HL2.out]) ?_))
      refine (CZ.out w4).mono ?_
      rintro e w5 ⟨rfl, hb5⟩
      have hB5 := below_then hB4 hb5
      have hC5 := hC4.on hb5
      have hZ5 := hZ4.on hb5
      clear hB4 hC4 hZ4 hb5
      clear CZ
      go_wp2_with (first
        | (refine vset_step rfl 56 _ _ rfl w.heap.size 16 (y.map wcell) (z.map wcell) rfl rfl hC5 (by rw [List.length_map, HL2.out]) size_state (by rw [List.length_map, HL3.out]) (wcells_one z) ?_
           intro w6 hb6 hC6 _
           have hB6 := hB5.trans (hb6.below (Nat.le_refl _) hB5.size)
           have hZ6 := hZ5.but hb6 (Nat.ne_of_gt hg2)
           clear hB5 hC5 hZ5 hb6))
      go_step3
      have e2 : (k : Int) + 1 = ((k + 1 : Nat) : Int) := by omega
      rw [e2]
      refine ⟨rfl, ⟨k + 1, _, _, _, _, _, _, _, _, hlt, hB6, by rw [HM.out _ rfl]; exact hC6, hZ6, rfl⟩, by simp [intOf]; omega⟩
    · obtain rfl : k = 10 := by omega
      rw [← HE.out] at hC HL
      clear HE HS
      go_wp2_with (first
        | (refine vget_step rfl 56 _ rfl w.heap.size 16 (r.map wcell) 44 rfl hC Tryd.underlying56 size_state (by rw [List.length_map, HL.out]) ?_)
        | (refine vset_step rfl 56 _ _ rfl gz 16 (wzeros 16) (r.map wcell) rfl rfl hZ rfl size_state (by rw [List.length_map, HL.out]) (wcells_one r) ?_
           intro w7 hb7 hC7 _))
      simp only [Exit.jump]
      refine vret Tryd.results56 gz (r.map wcell) rfl hC7 Tryd.underlying56 size_state (by rw [List.length_map, HL.out]) rfl ⟨rfl, hB.trans (hb7.below (by omega) hB.size)⟩
theorem streamStir_any (s : List (BitVec 32)) (w : World) (hs : s.length = 16) :
    Calls Tryd.prog 56 #[.agg (s.map wcell).toArray] w fun e w' => e = .returned (.agg ((chStir s 10).map wcell).toArray) ∧ Below w.heap.size w w' := stir_over s _ w hs rfl
end Go.Proofs.YtdaieklimdhkoaaDoor
namespace Go.Proofs.YtdaieklimdhkoaaDoor
open Go.RowKit
theorem zero_b64 : ∀ w, (zeroValue 78).run Tryd.prog w = .ok (.agg (List.replicate 64 (cellOf 0)).toArray) w := (zero_of_info (P := Tryd.prog) (t := 78) (v := .agg (List.replicate 64 (cellOf 0)).toArray) (n := 64) (by kernel_rfl)).1
theorem size_b64 : (Tryd.prog.info? 78).map (·.size) = some 64 := by kernel_rfl
/-- Bytes with so many noughts behind them, as cells. (Named, so that a walk leaves them whole.) -/
def filledTo (F : List UInt8) (n : Nat) : List Value := (F ++ List.replicate n 0).map cellOf
theorem filledTo_length (F : List UInt8) (n : Nat) : (filledTo F n).length = F.length + n := by simp [filledTo]
theorem filledTo_zero (F : List UInt8) : filledTo F 0 = F.map cellOf := by simp [filledTo]
theorem filledTo_none (n : Nat) : filledTo [] n = List.replicate n (cellOf 0) := by simp [filledTo]
theorem filledTo_put (F us : List UInt8) (n : Nat) : splice (filledTo F n) F.length (us.map cellOf) = filledTo (F ++ us) (n - us.length) := by
  unfold splice filledTo
  rw [List.length_map, List.map_append, List.take_left' (by simp), Nat.add_comm, ← List.drop_drop, List.drop_drop, Nat.add_comm us.length, ← List.drop_drop, List.drop_left' (by simp)]
  simp
theorem filledTo_put' (F us : List UInt8) (n o m l : Nat) (ho : F.length = o) (hu : us.length = m) (hl : n - m = l) : splice (filledTo F n) o (us.map cellOf) = filledTo (F ++ us) l := by
  subst ho hu hl
  exact filledTo_put F us n
set_option maxRecDepth 100000 in
set_option maxHeartbeats 1000000 in
theorem ended_over (s x : List (BitVec 32)) (E : Nat → List UInt8) (w : World) (HS : Hid (s.length = 16)) (HX : Hid (x.length = 16)) (HE0 : Hid (E 0 = [])) (HE : Hid (∀ k, E (k + 1) = E k ++ putL (x.getD k 0 + s.getD k 0).toNat 4)) (HEL : Hid (∀ k, (E k).length = 4 * k))
    (CX : Hid (∀ W, Calls Tryd.prog 56 #[.agg (s.map wcell).toArray] W fun e w' => e = .returned (.agg (x.map wcell).toArray) ∧ Below W.heap.size W w')) :
    Calls Tryd.prog 39 #[.agg (s.map wcell).toArray] w fun e w' => e = .returned (hashVal (E 16)) ∧ Below w.heap.size w w' := by
  go_enter Tryd.func39, Tryd.ntmps39
  go_wp2_with (first
    | (refine vtake_step rfl 56 _ rfl (s.map wcell) rfl ?_
       intro w1 hB1 hC1)
    | (refine vzero_step rfl 78 rfl (List.replicate 64 (cellOf 0)) zero_b64 ?_
       intro w2 hb2 hZ2
       have hB2 := below_then hB1 hb2
       have hC2 := hC1.on hb2
       have hg1 := hC1.lt
       clear hB1 hC1 hb2)
    | (refine vget_step rfl 56 _ rfl w.heap.size 16 (s.map wcell) 44 rfl hC2 Tryd.underlying56 size_state (by rw [List.length_map, HS.out]) ?_))
  refine (CX.out w2).mono ?_
  rintro e w3 ⟨rfl, hb3⟩
  have hB3 := below_then hB2 hb3
  have hC3 := hC2.on hb3
  have hZ3 := hZ2.on hb3
  have hg2 := hZ2.lt
  have hg3 := hb3.size
  clear hB2 hC2 hZ2 hb3 CX
  generalize hgr : w1.heap.size = gr at *
  clear hgr
  go_wp2_with (first
    | (refine vput_step rfl rfl 56 _ _ rfl rfl 16 (wzeros 16) (x.map wcell) rfl rfl zero_state rfl size_state (by rw [List.length_map, HX.out]) (wcells_one x) ?_
       intro w4 hb4 hX4
       have hB4 := below_then hB3 hb4
       have hC4 := hC3.on hb4
       have hZ4 := hZ3.on hb4
       have hg4 := hZ3.lt
       clear hB3 hC3 hZ3 hb4)
    | (refine vzero_step rfl 78 rfl (List.replicate 64 (cellOf 0)) zero_b64 ?_
       intro w5 hb5 hF5
       have hB5 := below_then hB4 hb5
       have hC5 := hC4.on hb5
       have hZ5 := hZ4.on hb5
       have hX5 := hX4.on hb5
       have hg5 := hX4.lt
       clear hB4 hC4 hZ4 hX4 hb5)
    | (refine vget_step rfl 56 _ rfl w3.heap.size 16 (x.map wcell) 44 rfl hX5 Tryd.underlying56 size_state (by rw [List.length_map, HX.out]) ?_
       clear hX5))
  generalize hgx : w3.heap.size = gx at *
  generalize hgf : w4.heap.size = gf at *
  clear hgx hgf
  go_loopw [10] (fun i wr => ∃ k : Nat, k ≤ 16 ∧ i = .int .i64 k ∧ Below w.heap.size w wr ∧ Cells wr w.heap.size (s.map wcell) 56 ∧ Cells wr gr (List.replicate 64 (cellOf 0)) 78 ∧ Cells wr gf (filledTo (E k) (64 - 4 * k)) 78) (fun i _ => 16 - (intOf i).toNat)
  case atStart => exact ⟨0, Nat.zero_le _, rfl, hB5, hC5, hZ5, by rw [HE0.out, filledTo_none]; exact hF5⟩
  case round =>
    clear hB5 hC5 hZ5 hF5
    obtain ⟨k, hk, rfl, hB, hC, hZ, hF⟩ := hrel
    have HL := Lib.hid (HEL.out k)
    by_cases hlt : k < 16
    · have HN := Lib.hid (HE.out k)
      have hix : ∀ W : World, (Instr.index 56 (.agg (x.map wcell).toArray) (.int .i64 (k : Int))).run Tryd.prog W = .ok (wcell (x.getD k 0)) W := fun W =>
        run_index_int (P := Tryd.prog) (t := 56) (x.map wcell) k (wcell (x.getD k 0)) W Tryd.underlying56 Tryd.underlying44 size_u32 hlt (list_at x k (by rw [HX.out]; exact hlt))
      have c0 := hC.get (list_at s k (by rw [HS.out]; exact hlt))
      generalize x.getD k 0 = xk at *
      generalize s.getD k 0 = sk at *
      have i1 : (0 : Int) ≤ (k : Int) := by omega
      have i2 : (k : Int) < 16 := by omega
      go_wp2_with fail
      have i3 : IntKind.i64.wrap (4 * (k : Int)) = 4 * (k : Int) := IntWalk.i64_in _ (by omega)
      have i4 : (0 : Int) ≤ 4 * (k : Int) := by omega
      have i5 : 4 * (k : Int) ≤ 64 := by omega
      have i6 : (4 * (k : Int)).toNat = 4 * k := by omega
      have i7 : ¬ 64 = 4 * k := by omega
      have i8 : 4 * k ≤ 64 := by omega
      refine wp_region_any (by kernel_rfl) ?_
      show wpAny _ _ _ _ _ _ _ wr.drew
      simp only [List.size_toArray, List.length_cons, List.length_nil, Nat.reduceAdd, Array.replicate_succ, Array.replicate_zero, List.push_toArray, List.nil_append, List.cons_append]
      refine wpAny_take (i := 0) (oi := ⟨some 14, _, _, _, _, _⟩) (v := ?_) rfl (by kernel_rfl) (by kernel_rfl) (by kernel_rfl) (fun _ _ _ h => h) (Or.inl ⟨by rfl, ?_⟩) ?_
      rotate_left
      · (intro w; go_simp; try with_reducible rfl)
      simp only [Act.put, List.setIfInBounds_toArray, List.set_cons_zero, List.set_cons_succ]
      refine wpAny_take (i := 1) (oi := ⟨some 15, _, _, _, _, _⟩) (v := ?_) rfl (by kernel_rfl) (by kernel_rfl) (by kernel_rfl) (fun _ _ _ h => h) (Or.inl ⟨by rfl, ?_⟩) ?_
      rotate_left
      · (intro w; go_simp; try with_reducible rfl)
      simp only [Act.put, List.setIfInBounds_toArray, List.set_cons_zero, List.set_cons_succ]
      refine wpAny_take (i := 2) (oi := ⟨some 16, _, _, _, _, _⟩) (v := ?_) rfl (by kernel_rfl) (by kernel_rfl) (by kernel_rfl) (fun _ _ _ h => h) (Or.inl ⟨by rfl, ?_⟩) ?_
      rotate_left
      · (intro w; go_simp; try with_reducible rfl)
      simp only [Act.put, List.setIfInBounds_toArray, List.set_cons_zero, List.set_cons_succ]
      refine wpAny_take (i := 3) (oi := ⟨some 17, _, _, _, _, _⟩) (v := ?_) rfl (by kernel_rfl) (by kernel_rfl) (by kernel_rfl) (fun _ _ _ h => h) (Or.inl ⟨by rfl, ?_⟩) ?_
      rotate_left
      · (intro w; go_simp; try with_reducible rfl)
      simp only [Act.put, List.setIfInBounds_toArray, List.set_cons_zero, List.set_cons_succ]
      refine wpAny_take (i := 4) (oi := ⟨some 18, _, _, _, _, _⟩) (v := ?_) rfl (by kernel_rfl) (by kernel_rfl) (by kernel_rfl) (fun _ _ _ h => h) (Or.inl ⟨by rfl, ?_⟩) ?_
      rotate_left
      · (intro w; go_simp; try with_reducible rfl)
      simp only [Act.put, List.setIfInBounds_toArray, List.set_cons_zero, List.set_cons_succ]
      refine wpAny_take (i := 5) (oi := ⟨some 19, _, _, _, _, _⟩) (v := ?_) rfl (by kernel_rfl) (by kernel_rfl) (by kernel_rfl) (fun _ _ _ h => h) (Or.inl ⟨by rfl, ?_⟩) ?_
      rotate_left
      · (intro w; go_simp; try with_reducible rfl)
      simp only [Act.put, List.setIfInBounds_toArray, List.set_cons_zero, List.set_cons_succ]
      refine wpAny_rest 6 rfl (by kernel_rfl) ?_
      simp only [List.drop_succ_cons, List.drop_zero]
      have hB6 : Below w.heap.size w wr.drew := hB.drew
      have hC6 : Cells wr.drew w.heap.size (s.map wcell) 56 := hC
      have hZ6 : Cells wr.drew gr (List.replicate 64 (cellOf 0)) 78 := hZ
      have hF6 : Cells wr.drew gf (filledTo (E k) (64 - 4 * k)) 78 := hF
      have d0 : wr.drew.cell? ⟨w.heap.size, k, none⟩ = some (wcell sk) := c0
      clear hB hC hZ hF c0 hix i3
      generalize wr.drew = w6 at *
      go_wp2_with fail
      rw [add32]
      refine (streamPut_any _ _).mono ?_
      rintro e w7 ⟨rfl, hb7, hM7⟩
      have hB7 := below_then hB6 hb7
      have hC7 := hC6.on hb7
      have hZ7 := hZ6.on hb7
      have hF7 := hF6.on hb7
      have HUL := Lib.hid (putL_length (xk + sk).toNat 4)
      clear hB6 hC6 hZ6 hF6 hb7 d0
      generalize putL (xk + sk).toNat 4 = us at *
      generalize w6.heap.size = g6 at *
      go_wp2_with (first
        | (refine copy_row rfl (.tmp 16) (.tmp 22) rfl gf (4 * k) (64 - 4 * k) (64 - 4 * k) 4 4 w7.heap.size 4 (some ⟨g6, 0, none⟩) us rfl rfl HUL.out (by omega) (hM7.row hM7.lt) (hF7.there (4 * k) 4 (by rw [filledTo_length, HL.out]; omega)) ?_
           intro w8 hw8
           have hus : us.take (64 - 4 * k) = us := List.take_of_length_le (by rw [HUL.out]; omega)
           rw [hus] at hw8
           have hb8 : But gf w7 w8 := by rw [hw8]; exact (But.refl gf w7).setCells _ _
           have hF8 : Cells w8 gf (filledTo (E (k + 1)) (64 - 4 * (k + 1))) 78 := by
             have h := hF7.setCells (cs := us.map cellOf) (o := 4 * k) (by rw [filledTo_length, HL.out, List.length_map, HUL.out]; omega)
             rw [filledTo_put' _ _ _ _ 4 (64 - 4 * (k + 1)) HL.out HUL.out (by omega), ← HN.out, ← hw8] at h
             exact h
           clear hw8 hus))
      go_roundw
      case rel => exact ⟨k + 1, by omega, by go_num, hB7.trans (hb8.below (by omega) hB7.size), hC7.but hb8 (by omega), hZ7.but hb8 (by omega), hF8⟩
      case measure => simp [intOf]; omega
    · obtain rfl : k = 16 := by omega
      rw [show 64 - 4 * 16 = 0 from rfl, filledTo_zero] at hF
      have HL2 : Hid ((E 16).length = 64) := HL.out
      go_wp2_with (first
        | (refine get_step rfl 78 _ rfl gf 64 (E 16) 5 rfl hF Tryd.underlying78 size_b64 HL2.out ?_)
        | (refine set_step rfl 78 _ _ rfl gr 64 (List.replicate 64 (cellOf 0)) (E 16) rfl rfl hZ (by rw [List.length_replicate]) size_b64 HL2.out ?_
           intro w9 hb9 hC9 _))
      refine ret_hash Tryd.results39 gr (E 16) rfl hC9 Tryd.underlying78 size_b64 HL2.out rfl ⟨rfl, hB.trans (hb9.below (by omega) hB.size)⟩
theorem streamEnded_any (s : List (BitVec 32)) (w : World) (hs : s.length = 16) :
    Calls Tryd.prog 39 #[.agg (s.map wcell).toArray] w fun e w' => e = .returned (hashVal (chEnded s)) ∧ Below w.heap.size w w' :=
  ended_over s (chStir s 10) (endedTo s (chStir s 10)) w hs ((chStir_length s 10).trans hs) rfl (fun _ => rfl) (endedTo_length _ _) (fun W => streamStir_any s W hs)
end Go.Proofs.YtdaieklimdhkoaaDoor
namespace Go.Proofs.YtdaieklimdhkoaaDoor
open Go.RowKit
theorem zeroCells_u8 (n : Nat) : Builtin.zeroCells (Value.int .u8 0).cells n = (List.replicate n (cellOf 0)).toArray := by
  apply Array.ext_getElem?
  intro i
  simp only [Builtin.zeroCells, Value.cells]
  by_cases h : i < n
  · simp [h, Nat.mod_one]
  · simp [h]
theorem str_size (bs : List UInt8) : (str bs).size = bs.length := by simp [str, ByteArray.size]
theorem strCells_str (bs : List UInt8) : Lib.strCells (str bs) = bs.map cellOf := by simp [Lib.strCells, str]
theorem run_append_zeros (w : World) (ty : TypeId) (A : Option Addr) (l c n : Nat) (hn : l + n ≤ 1000000) :
    (Builtin.append_ #[24, 3] ty #[.slice A l c, .int .i64 (n : Int)]).run Tryd.prog w = (Builtin.append_ #[24, 9] ty #[.slice A l c, .string (str (List.replicate n 0))]).run Tryd.prog w := by
  obtain ⟨i0, hi0, hz0, hz1, hz2⟩ := info_parts u8_info
  have hs : (str (List.replicate n 0)).size = n := by rw [str_size, List.length_replicate]
  have hf : ∀ w, (Builtin.firstCells 1 n (.string (str (List.replicate n 0)))).run Tryd.prog w = .ok (List.replicate n (cellOf 0)).toArray w := fun w => by
    have h := Lib.run_firstCells_string (P := Tryd.prog) w 1 (str (List.replicate n 0))
    rw [hs, strCells_str, List.map_replicate] at h
    exact h
  have hwr : IntKind.i64.wrap (n : Int) = (n : Int) := IntWalk.i64_in _ (by omega)
  have h1 : ¬ (n : Int) < 0 := by omega
  have h2 : ¬ (281474976710656 : Int) < (n : Int) := by omega
  have hzc := zeroCells_u8
  have ha : ∀ (n : Int) w, (asInt (.int .i64 n)).run Tryd.prog w = .ok n w := fun n w => by simp [asInt, asIntOf]
  have hw0 : IntKind.i64.wrap 0 = 0 := by decide
  by_cases h0 : n = 0
  · subst h0
    rw [List.replicate_zero] at hs hf
    have hf' : ∀ w, (Builtin.firstCells 1 0 (.string (str []))).run Tryd.prog w = .ok #[] w := hf
    by_cases hroom : l ≤ c
    · simp [Builtin.append_, run_underlying Tryd.underlying24, run_underlying Tryd.underlying3, run_underlying Tryd.underlying9, sizeOf, typeInfo, zeroValue, hi0, hz0, hz1, hz2, Builtin.lenOf, hs, hf', ha, hroom, hw0, hzc]
    · have h63 : ¬ (9223372036854775807 < (l : Int)) := by omega
      have h48 : ¬ (281474976710656 < Builtin.nextslicecap l c) := by
        have := growslice_fits (need := l) (old := c) (bytes := 1) (by omega) (by omega)
        omega
      simp [Builtin.append_, run_underlying Tryd.underlying24, run_underlying Tryd.underlying3, run_underlying Tryd.underlying9, sizeOf, typeInfo, zeroValue, hi0, hz0, hz1, hz2, Builtin.lenOf, hs, hf', ha, hroom, hw0, hzc, h63, h48]
  · by_cases hroom : l + n ≤ c
    · simp [Builtin.append_, run_underlying Tryd.underlying24, run_underlying Tryd.underlying3, run_underlying Tryd.underlying9, sizeOf, typeInfo, zeroValue, hi0, hz0, hz1, hz2, Builtin.lenOf, hs, hwr, h1, h2, hf, ha, hroom, h0, hzc]
    · have h63 : ¬ (9223372036854775807 < (l : Int) + (n : Int)) := by omega
      have h48 : ¬ (281474976710656 < Builtin.nextslicecap (l + n) c) := by
        have := growslice_fits (need := l + n) (old := c) (bytes := 1) (by omega) (by omega)
        omega
      simp [Builtin.append_, run_underlying Tryd.underlying24, run_underlying Tryd.underlying3, run_underlying Tryd.underlying9, sizeOf, typeInfo, zeroValue, hi0, hz0, hz1, hz2, Builtin.lenOf, hs, hwr, h1, h2, hf, ha, hroom, h0, hzc, h63, h48]
theorem Owns.form2 {w : World} {base : Nat} {v : Value} {bs : List UInt8} (h : Owns w base v bs) : ∃ A c, v = .slice A bs.length c ∧ bs.length ≤ c ∧ c ≤ maxLen ∧ (A = none → c = 0) ∧ Row w w.heap.size A bs := by
  obtain ⟨A, c, hv, hc, hA, hR⟩ := h.form
  refine ⟨A, c, hv, hc, ?_, hA, hR⟩
  rcases h.2 with ⟨h0, _⟩ | ⟨g, cap, cur, h0, _, _, _, hcm, _⟩
  · rw [hv] at h0; injection h0 with _ _ e; rw [e]; exact Nat.zero_le _
  · rw [hv] at h0; injection h0 with _ _ e; rw [e]; exact hcm
/-- 'append(out, make([]byte, n)...)'. -/
theorem append_zeros {w : World} {ops : Array Oper} {rest : List Oper} {o : Oper} {a : Act} {Q : Exit → Act → World → Prop} (hgd : o.guard = none) (s x : Operand)
    (ho : o.op = .call { callee := .builtin .append, args := #[s, x], argTypes := #[24, 3] }) (base n : Nat)
    (v : Value) (bs : List UInt8) (hs : a.eval s = v) (hown : Owns w base v bs) (hx : a.eval x = .int .i64 (n : Int))
    (hlen : bs.length + n ≤ 1000000) (hbase : base ≤ w.heap.size)
    (h : ∀ v' w', Owns w' base v' (bs ++ List.replicate n 0) → Below base w w' → wpList Tryd.prog ops Q rest (a.put o.dst v') w') : wpList Tryd.prog ops Q (o :: rest) a w := by
  obtain ⟨i0, hi0, hz0, hz1, hz2⟩ := info_parts u8_info
  have hsz : (str (List.replicate n 0)).size = n := by rw [str_size, List.length_replicate]
  refine wpList_plain hgd fun K hK => ?_
  obtain ⟨v', w', hr, h2, h3, _⟩ := Lib.run_append_own_string (P := Tryd.prog) w base 24 9 o.type 5 i0 Tryd.underlying24 Tryd.underlying9 hi0 hz0 hz1 hz2 v bs.length (bs.map cellOf) hown (str (List.replicate n 0)) (by rw [hsz]; simp only [maxLen]; omega) (by rw [hsz]; omega) hbase
  obtain ⟨A, c, rfl, _, _, _⟩ := hown.form
  rw [← run_append_zeros w o.type A bs.length c n hlen] at hr
  unfold Oper.wp execOp
  simp only [ho, resolve, invoke, builtin, Sem.run_bind, Sem.run_pure, Result.andThen_ok, List.map_toArray, List.map_cons, List.map_nil, hs, hx, hr]
  refine hK _ _ (h v' w' ?_ ((Below.refl _ _).grown h3 hbase (fun k hk => hown.far k hk)))
  rw [strCells_str, hsz, ← List.map_append] at h2
  unfold Owns
  rw [List.length_append, List.length_replicate]
  exact h2
end Go.Proofs.YtdaieklimdhkoaaDoor
