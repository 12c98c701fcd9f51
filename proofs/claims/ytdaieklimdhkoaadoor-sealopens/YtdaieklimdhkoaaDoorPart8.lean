/- Part 8 of what the laws of this seat share: WLoose, OCoder, OHold, OWrite. -/
import Derived.Test.YtdaieklimdhkoaaDoorPart7
namespace Go.Proofs.YtdaieklimdhkoaaDoor
open Go.RowKit
section
variable {P : Program} {ops : Array Oper} {Q : Exit → Act → World → Prop} {md : Region.Mode}
/-- Whatever order the operations of L come up in, it comes to one of these ends (what is listed, how many are left). -/
def looseB (md : Region.Mode) (ops : Array Oper) (L : List Nat) (fins : List (Array Bool × Nat)) : Nat → Array Bool → Bool
  | 0, listed => fins.contains (listed, 0)
  | k + 1, listed => fins.contains (listed, k + 1) || (!(Region.ready md ops listed).isEmpty && (Region.ready md ops listed).all fun i => L.contains i && looseB md ops L fins k (listed.setIfInBounds i true))
theorem wpAny_loose {L : List Nat} {fins : List (Array Bool × Nat)} (I : Array Bool → Act → World → Prop)
    (hstep : ∀ i ∈ L, ∀ listed a w, I listed a w → i ∈ Region.ready md ops listed → wpOp P ops Q i (I (listed.setIfInBounds i true)) a w)
    (hend : ∀ f ∈ fins, ∀ a w, I f.1 a w → wpAny P md ops Q f.2 f.1 a w) :
    ∀ (k : Nat) (listed : Array Bool) (a : Act) (w : World), looseB md ops L fins k listed = true → I listed a w → wpAny P md ops Q k listed a w
  | 0, listed, a, w, hB, hI => hend (listed, 0) (by simpa [looseB] using hB) a w hI
  | k + 1, listed, a, w, hB, hI => by
    rw [looseB, Bool.or_eq_true] at hB
    rcases hB with hB | hB
    · exact hend (listed, k + 1) (by simpa using hB) a w hI
    rw [Bool.and_eq_true, List.all_eq_true] at hB
    refine ⟨fun h0 => ?_, fun i hi => ?_⟩
    · rw [h0] at hB
      simp at hB
    · have h := hB.2 i hi
      rw [Bool.and_eq_true] at h
      exact wpOp_mono (fun a' w' h' => wpAny_loose I hstep hend k _ a' w' h.2 h') (hstep i (by simpa using h.1) listed a w hI hi)
/-- What a loose operation finds: only new memory, the frame as it was but for the loose ones' slots, and what those yield that it waits for. -/
structure LooseAt (w0 : World) (a0 : Act) (slots : List (Nat × Nat)) (prop : Nat → Value → World → Prop) (listed : Array Bool) (a : Act) (w : World) : Prop where
  below : Below w0.heap.size w0 w
  size : a.tmps.size = a0.tmps.size
  defers : a.defers = a0.defers
  same : ∀ s, (∀ p ∈ slots, p.2 ≠ s) → a.tmps.getD s undef = a0.tmps.getD s undef
  fact : ∀ p ∈ slots, listed.getD p.1 false = true → prop p.1 (a.tmps.getD p.2 undef) w
theorem ready_has {i j : Nat} {listed : Array Bool} (hr : i ∈ Region.ready md ops listed) (hw : waitsFor md ops i j = true) : listed.getD j false = true := by
  obtain ⟨_, o, ho, hall⟩ := mem_ready.1 hr
  simp only [waitsFor, ho] at hw
  obtain ⟨e, he, hb⟩ := Array.any_eq_true'.1 hw
  simp only [Bool.and_eq_true, beq_iff_eq] at hb
  have h1 := hall e he hb.1
  rwa [hb.2] at h1
theorem put_getD_ne (a : Act) (s t : Nat) (v : Value) (h : s ≠ t) : (a.put (some s) v).tmps.getD t undef = a.tmps.getD t undef := by
  simp only [Act.put, Array.getD_eq_getD_getElem?]
  rw [Array.getElem?_setIfInBounds_ne h]
theorem put_getD_eq (a : Act) (s : Nat) (v : Value) (h : s < a.tmps.size) : (a.put (some s) v).tmps.getD s undef = v := by
  simp [Act.put, h]
theorem loose_put {w0 : World} {a0 : Act} {slots : List (Nat × Nat)} {prop : Nat → Value → World → Prop} (hinj : (slots.map (·.2)).Nodup) (hinj1 : (slots.map (·.1)).Nodup) (N : Nat) (hN : a0.tmps.size = N) (hlt : ∀ p ∈ slots, p.2 < N)
    (hst : ∀ i v w w', prop i v w → Below w.heap.size w w' → prop i v w') {i s : Nat} (hi : (i, s) ∈ slots) {listed : Array Bool} {a : Act} {w w' : World} {v : Value} (h : LooseAt w0 a0 slots prop listed a w) (hb : Below w.heap.size w w') (hv : prop i v w') :
    LooseAt w0 a0 slots prop (listed.setIfInBounds i true) (a.put (some s) v) w' := by
  refine ⟨h.below.trans (hb.mono h.below.size), ?_, ?_, fun t ht => ?_, fun p hp hl => ?_⟩
  · rw [← h.size]; simp [Act.put]
  · rw [← h.defers]; rfl
  · rw [put_getD_ne _ _ _ _ (ht _ hi)]
    exact h.same t ht
  · by_cases e : p.1 = i
    · have e2 : p = (i, s) := by
        have : ∀ (l : List (Nat × Nat)), (l.map (·.1)).Nodup → p ∈ l → (i, s) ∈ l → p = (i, s) := by
          intro l hl h1 h2
          induction l with
          | nil => cases h1
          | cons q l ih =>
            rw [List.map_cons, List.nodup_cons] at hl
            rcases List.mem_cons.1 h1 with rfl | h1
            · rcases List.mem_cons.1 h2 with h2 | h2
              · exact h2.symm
              · exact absurd (List.mem_map.2 ⟨(i, s), h2, e.symm⟩) hl.1
            · rcases List.mem_cons.1 h2 with h2 | h2
              · rw [← h2] at hl
                exact absurd (List.mem_map.2 ⟨p, h1, e⟩) hl.1
              · exact ih hl.2 h1 h2
        exact this slots hinj1 hp hi
      subst e2
      rw [put_getD_eq _ _ _ (by rw [h.size, hN]; exact hlt _ hi)]
      exact hv
    · have hne : s ≠ p.2 := by
        intro e3
        have : ∀ (l : List (Nat × Nat)), (l.map (·.2)).Nodup → p ∈ l → (i, s) ∈ l → p = (i, s) := by
          intro l hl h1 h2
          induction l with
          | nil => cases h1
          | cons q l ih =>
            rw [List.map_cons, List.nodup_cons] at hl
            rcases List.mem_cons.1 h1 with rfl | h1
            · rcases List.mem_cons.1 h2 with h2 | h2
              · exact h2.symm
              · exact absurd (List.mem_map.2 ⟨(i, s), h2, e3⟩) hl.1
            · rcases List.mem_cons.1 h2 with h2 | h2
              · rw [← h2] at hl
                exact absurd (List.mem_map.2 ⟨p, h1, e3.symm⟩) hl.1
              · exact ih hl.2 h1 h2
        exact e (by rw [this slots hinj hp hi])
      rw [put_getD_ne _ _ _ _ hne]
      refine hst _ _ _ _ (h.fact p hp ?_) hb
      rwa [getD_set_ne false (fun e4 => e e4.symm)] at hl
/-- One loose operation. -/
theorem loose_step {w0 : World} {a0 : Act} {slots : List (Nat × Nat)} {prop : Nat → Value → World → Prop} (hinj : (slots.map (·.2)).Nodup) (hinj1 : (slots.map (·.1)).Nodup) (N : Nat) (hN : a0.tmps.size = N) (hlt : ∀ p ∈ slots, p.2 < N)
    (hst : ∀ i v w w', prop i v w → Below w.heap.size w w' → prop i v w')
    {i s : Nat} (hi : (i, s) ∈ slots) {o : Oper} (ho : ops[i]? = some o) (hd : o.dst = some s)
    (hop : ∀ a w K, Below w0.heap.size w0 w → a.tmps.size = a0.tmps.size → a.defers = a0.defers → (∀ s, (∀ p ∈ slots, p.2 ≠ s) → a.tmps.getD s undef = a0.tmps.getD s undef) →
      (∀ p ∈ slots, waitsFor md ops i p.1 = true → prop p.1 (a.tmps.getD p.2 undef) w) → (∀ v w', Below w.heap.size w w' → prop i v w' → K (a.put o.dst v) w') →
      if Region.wanted o (yielded ops a.tmps) = true then Oper.wp P o a w K Q else K (a.put o.dst undef) w)
    (listed : Array Bool) (a : Act) (w : World) (h : LooseAt w0 a0 slots prop listed a w) (hr : i ∈ Region.ready md ops listed) :
    wpOp P ops Q i (LooseAt w0 a0 slots prop (listed.setIfInBounds i true)) a w := by
  refine wpOp_step ho fun K hK => ?_
  refine hop a w K h.below h.size h.defers h.same (fun p hp hwt => h.fact p hp (ready_has hr hwt)) fun v w' hb hv => hK _ _ ?_
  rw [hd]
  exact loose_put hinj hinj1 N hN hlt hst hi h hb hv
/-- The block that a value leads to. -/
def blk : Value → Nat | .pointer (some p) => p.block | .slice (some p) _ _ => p.block | _ => 0
/-- Besides: what the operations of 'fresh' make lies in blocks apart. -/
structure LooseAp (w0 : World) (a0 : Act) (slots : List (Nat × Nat)) (prop : Nat → Value → World → Prop) (fresh : List Nat) (listed : Array Bool) (a : Act) (w : World) : Prop where
  base : LooseAt w0 a0 slots prop listed a w
  apart : ∀ p ∈ slots, ∀ q ∈ slots, p.1 ∈ fresh → q.1 ∈ fresh → p.1 ≠ q.1 → listed.getD p.1 false = true → listed.getD q.1 false = true → blk (a.tmps.getD p.2 undef) ≠ blk (a.tmps.getD q.2 undef)
theorem slot_eq {slots : List (Nat × Nat)} {p q : Nat × Nat} : (slots.map (·.1)).Nodup → p ∈ slots → q ∈ slots → p.1 = q.1 → p = q := by
  intro hl h1 h2 e
  induction slots with
  | nil => cases h1
  | cons r l ih =>
    rw [List.map_cons, List.nodup_cons] at hl
    rcases List.mem_cons.1 h1 with rfl | h1
    · rcases List.mem_cons.1 h2 with h2 | h2
      · exact h2.symm
      · exact absurd (List.mem_map.2 ⟨q, h2, e.symm⟩) hl.1
    · rcases List.mem_cons.1 h2 with h2 | h2
      · rw [← h2] at hl
        exact absurd (List.mem_map.2 ⟨p, h1, e⟩) hl.1
      · exact ih hl.2 h1 h2
theorem loose_step_ap {w0 : World} {a0 : Act} {slots : List (Nat × Nat)} {prop : Nat → Value → World → Prop} {fresh : List Nat} (hinj : (slots.map (·.2)).Nodup) (hinj1 : (slots.map (·.1)).Nodup) (N : Nat) (hN : a0.tmps.size = N) (hlt : ∀ p ∈ slots, p.2 < N)
    (hst : ∀ i v w w', prop i v w → Below w.heap.size w w' → prop i v w') (hfr : ∀ i ∈ fresh, ∀ v w, prop i v w → blk v < w.heap.size)
    {i s : Nat} (hi : (i, s) ∈ slots) {o : Oper} (ho : ops[i]? = some o) (hd : o.dst = some s)
    (hop : ∀ a w K, Below w0.heap.size w0 w → a.tmps.size = a0.tmps.size → a.defers = a0.defers → (∀ s, (∀ p ∈ slots, p.2 ≠ s) → a.tmps.getD s undef = a0.tmps.getD s undef) →
      (∀ p ∈ slots, waitsFor md ops i p.1 = true → prop p.1 (a.tmps.getD p.2 undef) w) → (∀ v w', Below w.heap.size w w' → prop i v w' → (i ∈ fresh → w.heap.size ≤ blk v) → K (a.put o.dst v) w') →
      if Region.wanted o (yielded ops a.tmps) = true then Oper.wp P o a w K Q else K (a.put o.dst undef) w)
    (listed : Array Bool) (a : Act) (w : World) (h : LooseAp w0 a0 slots prop fresh listed a w) (hr : i ∈ Region.ready md ops listed) :
    wpOp P ops Q i (LooseAp w0 a0 slots prop fresh (listed.setIfInBounds i true)) a w := by
  refine wpOp_step ho fun K hK => ?_
  refine hop a w K h.base.below h.base.size h.base.defers h.base.same (fun p hp hwt => h.base.fact p hp (ready_has hr hwt)) fun v w' hb hv hf => hK _ _ ?_
  rw [hd]
  refine ⟨loose_put hinj hinj1 N hN hlt hst hi h.base hb hv, ?_⟩
  have hsz : s < a.tmps.size := by rw [h.base.size, hN]; exact hlt _ hi
  have hold : ∀ p ∈ slots, p.1 ≠ i → (a.put (some s) v).tmps.getD p.2 undef = a.tmps.getD p.2 undef := fun p hp hne => by
    refine put_getD_ne _ _ _ _ fun e => hne ?_
    have : ∀ (l : List (Nat × Nat)), (l.map (·.2)).Nodup → p ∈ l → (i, s) ∈ l → p = (i, s) := by
      intro l hl h1 h2
      induction l with
      | nil => cases h1
      | cons q l ih =>
        rw [List.map_cons, List.nodup_cons] at hl
        rcases List.mem_cons.1 h1 with rfl | h1
        · rcases List.mem_cons.1 h2 with h2 | h2
          · exact h2.symm
          · exact absurd (List.mem_map.2 ⟨(i, s), h2, e⟩) hl.1
        · rcases List.mem_cons.1 h2 with h2 | h2
          · rw [← h2] at hl
            exact absurd (List.mem_map.2 ⟨p, h1, e.symm⟩) hl.1
          · exact ih hl.2 h1 h2
    rw [this slots hinj hp hi]
  have hlist : ∀ j, j ≠ i → (listed.setIfInBounds i true).getD j false = true → listed.getD j false = true := fun j hj hl => by
    rwa [getD_set_ne false (fun e4 => hj e4.symm)] at hl
  intro p hp q hq hpf hqf hpq hlp hlq
  by_cases ep : p.1 = i
  · have hp2 := slot_eq hinj1 hp hi ep
    subst hp2
    have hqi : q.1 ≠ i := fun e => hpq (ep.trans e.symm)
    rw [put_getD_eq _ _ _ hsz, hold q hq hqi]
    have h1 := hf hpf
    have h2 := hfr q.1 hqf _ _ (h.base.fact q hq (hlist _ hqi hlq))
    omega
  · by_cases eq : q.1 = i
    · have hq2 := slot_eq hinj1 hq hi eq
      subst hq2
      rw [put_getD_eq _ _ _ hsz, hold p hp ep]
      have h1 := hf hqf
      have h2 := hfr p.1 hpf _ _ (h.base.fact p hp (hlist _ ep hlp))
      omega
    · rw [hold p hp ep, hold q hq eq]
      exact h.apart p hp q hq hpf hqf hpq (hlist _ ep hlp) (hlist _ eq hlq)
/-- The same until operation c has come up. -/
theorem wpAnyU_loose {L : List Nat} {fins : List (Array Bool × Nat)} {S : World → Prop} {c : Nat} (I : Array Bool → Act → World → Prop) (hS : ∀ l a w, I l a w → S w) (hc : L.contains c = false)
    (hstep : ∀ i ∈ L, ∀ listed a w, I listed a w → i ∈ Region.ready md ops listed → wpOp P ops Q i (I (listed.setIfInBounds i true)) a w)
    (hend : ∀ f ∈ fins, ∀ a w, I f.1 a w → wpAnyU P md ops Q S c f.2 f.1 a w) :
    ∀ (k : Nat) (listed : Array Bool) (a : Act) (w : World), looseB md ops L fins k listed = true → I listed a w → wpAnyU P md ops Q S c k listed a w
  | 0, listed, a, w, hB, hI => hend (listed, 0) (by simpa [looseB] using hB) a w hI
  | k + 1, listed, a, w, hB, hI => by
    rw [looseB, Bool.or_eq_true] at hB
    rcases hB with hB | hB
    · exact hend (listed, k + 1) (by simpa using hB) a w hI
    rw [Bool.and_eq_true, List.all_eq_true] at hB
    refine ⟨fun h0 => ?_, fun i hi => ?_⟩
    · rw [h0] at hB
      simp at hB
    · have h := hB.2 i hi
      rw [Bool.and_eq_true] at h
      refine wpOp_mono (fun a' w' h' => ⟨fun e => ?_, fun _ => ⟨hS _ _ _ h', wpAnyU_loose I hS hc hstep hend k _ a' w' h.2 h'⟩⟩) (hstep i (by simpa using h.1) listed a w hI hi)
      rw [e, hc] at h
      exact absurd h.1 (by simp)
/-- One operation can come up, and it isn't c. -/
theorem wpAnyU_one {i c : Nat} {o : Oper} {fuel : Nat} {listed : Array Bool} {a : Act} {w : World} {S : World → Prop} (hr : Region.ready md ops listed = [i]) (hic : i ≠ c) (ho : ops[i]? = some o)
    (h : ∀ K' : Act → World → Prop, Shut (∀ a w, S w → wpAnyU P md ops Q S c fuel (listed.setIfInBounds i true) a w → K' a w) → if Region.wanted o (yielded ops a.tmps) = true then Oper.wp P o a w K' Q else K' (a.put o.dst undef) w) : wpAnyU P md ops Q S c (fuel + 1) listed a w := by
  refine ⟨fun h0 => (by rw [hr] at h0; cases h0), fun j hj => ?_⟩
  rw [hr] at hj
  obtain rfl : j = i := by simpa using hj
  refine wpOp_step ho fun K' hK => h K' fun a' w' hS h' => hK a' w' ⟨fun e => absurd e hic, fun _ => ⟨hS, h'⟩⟩
/-- A whole array stored. -/
theorem store_op {w : World} {o : Oper} {a : Act} {K : Act → World → Prop} (hgd : o.guard = none) (t : TypeId) (x y : Operand) (ho : o.op = .store t x y) (b off : Nat) (cs : Array Value) (hx : a.eval x = .pointer (some ⟨b, off, none⟩)) (hy : a.eval y = .agg cs) (ht : w.there b off cs.size) (hi : (P.info? t).map (·.size) = some cs.size) (h1 : cs.all (·.oneCell') = true)
    (h : K (a.put o.dst undef) (w.setCells b off cs.toList)) : if Region.wanted o (yielded ops a.tmps) = true then Oper.wp P o a w K Q else K (a.put o.dst undef) w := by
  rw [if_pos (by simp [Region.wanted, hgd])]
  exact wp_store_mid t x y ho b off cs hx hy ht hi h1 h
/-- A range in a block that stood. -/
theorem range_on {w w' : World} {b off : Nat} {cs : List Value} (h : w.rangeAt b off cs) (hlt : b < w.heap.size) (hb : Below w.heap.size w w') : w'.rangeAt b off cs := by
  intro j v hj
  rw [World.cell?_of_block (w := w) (hb.block b hlt)]
  exact h j v hj
/-- A call of a Go function. -/
theorem call_op {w : World} {o : Oper} {a : Act} {K : Act → World → Prop} (hgd : o.guard = none) (f : FuncId) (args : List Operand) (tys : Array TypeId) (ho : o.op = .call { callee := .value (.func f), args := args.toArray, argTypes := tys }) (vs : List Value) (hv : args.map a.eval = vs) (hcf : ∀ args w, (callFunc f args).run P w = .ok (.enter f args) w)
    {R : Ending → World → Prop} (hc : Calls P f vs.toArray w R) (h : ∀ e w', R e w' → ∃ v, e = .returned v ∧ K (a.put o.dst v) w') : if Region.wanted o (yielded ops a.tmps) = true then Oper.wp P o a w K Q else K (a.put o.dst undef) w := by
  rw [if_pos (by simp [Region.wanted, hgd])]
  unfold Oper.wp
  simp [execOp, ho, resolve, invoke, Act.eval, Deferred.ofValue, hv, hcf, Oper.upon]
  refine hc.mono fun e w' hR => ?_
  obtain ⟨v, rfl, hk⟩ := h e w' hR
  exact hk
theorem enters {f : FuncId} {fn : Func} (hf : P.funcs[f]? = some fn) (hn : (fn.name == "runtime.NumGoroutine") = false) (hb : fn.body.isNone = false) (args : Array Value) (w : World) : (callFunc f args).run P w = .ok (.enter f args) w := by
  have hn' : fn.name ≠ "runtime.NumGoroutine" := by simpa using hn
  have hb' : fn.body ≠ none := by intro e; rw [e] at hb; cases hb
  simp [callFunc, hf, hn', hb']
/-- An operation that only yields. -/
theorem quiet_op {w : World} {o : Oper} {a : Act} {K : Act → World → Prop} (hgd : o.guard = none) (v : Value) (hr : (execOp a.eval o).run P w = .ok (.value v) w) (h : K (a.put o.dst v) w) : if Region.wanted o (yielded ops a.tmps) = true then Oper.wp P o a w K Q else K (a.put o.dst undef) w := by
  rw [if_pos (by simp [Region.wanted, hgd])]
  unfold Oper.wp
  rw [hr]
  exact h
theorem move_op {w : World} {o : Oper} {a : Act} {K : Act → World → Prop} (hgd : o.guard = none) (x : Operand) (ho : o.op = .move x) (v : Value) (hx : a.eval x = v) (h : K (a.put o.dst v) w) : if Region.wanted o (yielded ops a.tmps) = true then Oper.wp P o a w K Q else K (a.put o.dst undef) w := by
  refine quiet_op hgd v ?_ h
  simp [execOp, ho, hx]
theorem extract_op {w : World} {o : Oper} {a : Act} {K : Act → World → Prop} (hgd : o.guard = none) (x : Operand) (i : Nat) (ho : o.op = .extract x i) (vs : Array Value) (hx : a.eval x = .tuple vs) (v : Value) (hv : vs[i]? = some v) (h : K (a.put o.dst v) w) : if Region.wanted o (yielded ops a.tmps) = true then Oper.wp P o a w K Q else K (a.put o.dst undef) w := by
  refine quiet_op hgd v ?_ h
  simp [execOp, ho, hx, Instr.extract, hv]
/-- A whole array loaded. -/
theorem load_op {w : World} {o : Oper} {a : Act} {K : Act → World → Prop} (hgd : o.guard = none) (t : TypeId) (x : Operand) (ho : o.op = .load t x) (b off : Nat) (hx : a.eval x = .pointer (some ⟨b, off, none⟩)) (cs : List Value) (d : TypeDesc) (hc : w.rangeAt b off cs)
    (hu : P.underlying t = some d) (hd : d.isRow = true) (hi : (P.info? t).map (·.size) = some cs.length) (h : K (a.put o.dst (.agg cs.toArray)) w) : if Region.wanted o (yielded ops a.tmps) = true then Oper.wp P o a w K Q else K (a.put o.dst undef) w := by
  rw [if_pos (by simp [Region.wanted, hgd])]
  exact wp_load_mid t x ho b off hx cs d hc hu hd hi h
/-- A new variable. -/
theorem alloc_op {w : World} {o : Oper} {a : Act} {K : Act → World → Prop} (hgd : o.guard = none) (t : TypeId) (ho : o.op = .alloc t) (zs : List Value) (hz : ∀ w, (zeroValue t).run P w = .ok (.agg zs.toArray) w)
    (h : ∀ w', Below w.heap.size w w' → Cells w' w.heap.size zs t → K (a.put o.dst (.pointer (some ⟨w.heap.size, 0, none⟩))) w') : if Region.wanted o (yielded ops a.tmps) = true then Oper.wp P o a w K Q else K (a.put o.dst undef) w := by
  rw [if_pos (by simp [Region.wanted, hgd])]
  unfold Oper.wp
  simp only [execOp, ho, Instr.alloc, hz, newVar, Value.cells, Sem.run_bind, Sem.run_pure, Result.andThen_ok, go_sem]
  exact h _ ((Below.refl _ _).alloc (Nat.le_refl _) _) (Cells.new w _ _)
/-- A literal of a slice. -/
theorem lit_op {w : World} {o : Oper} {a : Act} {K : Act → World → Prop} (hgd : o.guard = none) (t : TypeId) (n : Nat) (parts : List (Nat × Operand)) (ho : o.op = .buildSlice t n parts.toArray) (ps : List (Nat × Value)) (hp : (parts.map fun (i, x) => (i, a.eval x)) = ps) (e : TypeId) (vs : List Value)
    (hr : ∀ w, (Instr.buildSlice t n ps.toArray).run P w = .ok (.slice (some ⟨w.heap.size, 0, none⟩) n n) (w.alloc (.cells vs.toArray e)))
    (h : ∀ w', Below w.heap.size w w' → Cells w' w.heap.size vs e → K (a.put o.dst (.slice (some ⟨w.heap.size, 0, none⟩) n n)) w') : if Region.wanted o (yielded ops a.tmps) = true then Oper.wp P o a w K Q else K (a.put o.dst undef) w := by
  rw [if_pos (by simp [Region.wanted, hgd])]
  unfold Oper.wp
  simp only [execOp, ho, List.map_toArray, hp, hr, Sem.run_bind, Sem.run_pure, Result.andThen_ok]
  exact h _ ((Below.refl _ _).alloc (Nat.le_refl _) _) (Cells.new w _ _)
end
set_option maxRecDepth 100000 in
theorem loose_frame32 (a : Act) (hs : a.tmps.size = 32) (hd : a.defers = []) : ∃ u : Nat → Value, a = ⟨(u 0 :: u 1 :: u 2 :: u 3 :: u 4 :: u 5 :: u 6 :: u 7 :: u 8 :: u 9 :: u 10 :: u 11 :: u 12 :: u 13 :: u 14 :: u 15 :: u 16 :: u 17 :: u 18 :: u 19 :: u 20 :: u 21 :: u 22 :: u 23 :: u 24 :: u 25 :: u 26 :: u 27 :: u 28 :: u 29 :: u 30 :: u 31 :: []).toArray, []⟩ := by
  obtain ⟨u, h⟩ := frame_of 32 a hs hd
  exact ⟨u, h⟩
set_option maxRecDepth 100000 in
theorem loose_frame36 (a : Act) (hs : a.tmps.size = 36) (hd : a.defers = []) : ∃ u : Nat → Value, a = ⟨(u 0 :: u 1 :: u 2 :: u 3 :: u 4 :: u 5 :: u 6 :: u 7 :: u 8 :: u 9 :: u 10 :: u 11 :: u 12 :: u 13 :: u 14 :: u 15 :: u 16 :: u 17 :: u 18 :: u 19 :: u 20 :: u 21 :: u 22 :: u 23 :: u 24 :: u 25 :: u 26 :: u 27 :: u 28 :: u 29 :: u 30 :: u 31 :: u 32 :: u 33 :: u 34 :: u 35 :: []).toArray, []⟩ := by
  obtain ⟨u, h⟩ := frame_of 36 a hs hd
  exact ⟨u, h⟩
set_option maxRecDepth 100000 in
theorem loose_frame44 (a : Act) (hs : a.tmps.size = 44) (hd : a.defers = []) : ∃ u : Nat → Value, a = ⟨(u 0 :: u 1 :: u 2 :: u 3 :: u 4 :: u 5 :: u 6 :: u 7 :: u 8 :: u 9 :: u 10 :: u 11 :: u 12 :: u 13 :: u 14 :: u 15 :: u 16 :: u 17 :: u 18 :: u 19 :: u 20 :: u 21 :: u 22 :: u 23 :: u 24 :: u 25 :: u 26 :: u 27 :: u 28 :: u 29 :: u 30 :: u 31 :: u 32 :: u 33 :: u 34 :: u 35 :: u 36 :: u 37 :: u 38 :: u 39 :: u 40 :: u 41 :: u 42 :: u 43 :: []).toArray, []⟩ := by
  obtain ⟨u, h⟩ := frame_of 44 a hs hd
  exact ⟨u, h⟩
set_option maxRecDepth 100000 in
theorem loose_frame63 (a : Act) (hs : a.tmps.size = 63) (hd : a.defers = []) : ∃ u : Nat → Value, a = ⟨(u 0 :: u 1 :: u 2 :: u 3 :: u 4 :: u 5 :: u 6 :: u 7 :: u 8 :: u 9 :: u 10 :: u 11 :: u 12 :: u 13 :: u 14 :: u 15 :: u 16 :: u 17 :: u 18 :: u 19 :: u 20 :: u 21 :: u 22 :: u 23 :: u 24 :: u 25 :: u 26 :: u 27 :: u 28 :: u 29 :: u 30 :: u 31 :: u 32 :: u 33 :: u 34 :: u 35 :: u 36 :: u 37 :: u 38 :: u 39 :: u 40 :: u 41 :: u 42 :: u 43 :: u 44 :: u 45 :: u 46 :: u 47 :: u 48 :: u 49 :: u 50 :: u 51 :: u 52 :: u 53 :: u 54 :: u 55 :: u 56 :: u 57 :: u 58 :: u 59 :: u 60 :: u 61 :: u 62 :: []).toArray, []⟩ := by
  obtain ⟨u, h⟩ := frame_of 63 a hs hd
  exact ⟨u, h⟩
set_option maxRecDepth 100000 in
theorem loose_frame65 (a : Act) (hs : a.tmps.size = 65) (hd : a.defers = []) : ∃ u : Nat → Value, a = ⟨(u 0 :: u 1 :: u 2 :: u 3 :: u 4 :: u 5 :: u 6 :: u 7 :: u 8 :: u 9 :: u 10 :: u 11 :: u 12 :: u 13 :: u 14 :: u 15 :: u 16 :: u 17 :: u 18 :: u 19 :: u 20 :: u 21 :: u 22 :: u 23 :: u 24 :: u 25 :: u 26 :: u 27 :: u 28 :: u 29 :: u 30 :: u 31 :: u 32 :: u 33 :: u 34 :: u 35 :: u 36 :: u 37 :: u 38 :: u 39 :: u 40 :: u 41 :: u 42 :: u 43 :: u 44 :: u 45 :: u 46 :: u 47 :: u 48 :: u 49 :: u 50 :: u 51 :: u 52 :: u 53 :: u 54 :: u 55 :: u 56 :: u 57 :: u 58 :: u 59 :: u 60 :: u 61 :: u 62 :: u 63 :: u 64 :: []).toArray, []⟩ := by
  obtain ⟨u, h⟩ := frame_of 65 a hs hd
  exact ⟨u, h⟩
end Go.Proofs.YtdaieklimdhkoaaDoor
namespace Go.Proofs.YtdaieklimdhkoaaDoor
open Go.RowKit
/-- A coder's cells. -/
def coderCells (r t : List Nat) (rest : List UInt8) (h : Nat) : List Value := r.map ncell ++ t.map ncell ++ rest.map cellOf ++ [.int .i64 (h : Int)]
/-- The coder in block g. -/
def CoderIs (w : World) (g : Nat) (r t : List Nat) (rest : List UInt8) (h : Nat) : Prop := r.length = 5 ∧ t.length = 5 ∧ rest.length = 16 ∧ Cells w g (coderCells r t rest h) 67
section
variable {w w' : World} {g : Nat} {r t : List Nat} {rest : List UInt8} {h : Nat}
theorem coderCells_length (hr : r.length = 5) (ht : t.length = 5) (hs : rest.length = 16) : (coderCells r t rest h).length = 27 := by simp [coderCells, hr, ht, hs]
theorem coder_held (hr : r.length = 5) (ht : t.length = 5) (hs : rest.length = 16) : (coderCells r t rest h)[26]? = some (.int .i64 (h : Int)) := by
  rw [coderCells, List.getElem?_append_right (by simp [hr, ht, hs])]
  simp [hr, ht, hs]
theorem coder_setHeld (hr : r.length = 5) (ht : t.length = 5) (hs : rest.length = 16) (k : Nat) : (coderCells r t rest h).set 26 (.int .i64 (k : Int)) = coderCells r t rest k := by
  rw [coderCells, List.set_append_right _ _ (by simp [hr, ht, hs])]
  simp [hr, ht, hs, coderCells]
theorem coder_r (hr : r.length = 5) : ((coderCells r t rest h).drop 0).take 5 = r.map ncell := by
  rw [List.drop_zero, coderCells, List.append_assoc, List.append_assoc, List.take_left' (by simp [hr])]
theorem coder_t (hr : r.length = 5) (ht : t.length = 5) : ((coderCells r t rest h).drop 5).take 5 = t.map ncell := by
  rw [coderCells, List.append_assoc, List.append_assoc, List.drop_left' (by simp [hr]), List.take_left' (by simp [ht])]
theorem coder_putT (hr : r.length = 5) (ht : t.length = 5) (u : List Nat) (hu : u.length = 5) : splice (coderCells r t rest h) 5 (u.map ncell) = coderCells r u rest h := by
  have e := splice_mid (r.map ncell) (t.map ncell) (rest.map cellOf ++ [.int .i64 (h : Int)]) (u.map ncell) 0 (by simp [ht, hu])
  rw [List.length_map, hr, Nat.add_zero] at e
  rw [coderCells, List.append_assoc, e, coderCells]
  simp [ht, hu]
theorem coder_putRest (hr : r.length = 5) (ht : t.length = 5) (us : List UInt8) (k : Nat) (hs : rest.length = 16) (hl : k + us.length ≤ 16) : splice (coderCells r t rest h) (10 + k) (us.map cellOf) = coderCells r t (restPut rest us k) h := by
  have e := splice_mid (r.map ncell ++ t.map ncell) (rest.map cellOf) [.int .i64 (h : Int)] (us.map cellOf) k (by simp; omega)
  rw [show (r.map ncell ++ t.map ncell).length = 10 by simp [hr, ht]] at e
  unfold coderCells restPut
  rw [e]
  simp [List.map_take, List.map_drop]
theorem CoderIs.held (c : CoderIs w g r t rest h) : w.cell? ⟨g, 26, none⟩ = some (.int .i64 (h : Int)) := c.2.2.2.get (coder_held c.1 c.2.1 c.2.2.1)
theorem CoderIs.row (c : CoderIs w g r t rest h) : Row w w.heap.size (some ⟨g, 10, none⟩) rest := by
  refine .inr ⟨g, 10, rfl, c.2.2.2.lt, fun j u hu => c.2.2.2.get ?_⟩
  have hj : j < rest.length := by
    rcases Nat.lt_or_ge j rest.length with hlt | hge
    · exact hlt
    · rw [List.getElem?_eq_none hge] at hu; cases hu
  rw [coderCells, List.append_assoc, List.getElem?_append_right (by simp [c.1, c.2.1])]
  simp [c.1, c.2.1]
  rw [List.getElem?_append_left (by simpa using hj), List.getElem?_map, hu]
  rfl
theorem CoderIs.on (c : CoderIs w g r t rest h) (hb : Below w.heap.size w w') : CoderIs w' g r t rest h := ⟨c.1, c.2.1, c.2.2.1, c.2.2.2.on hb⟩
theorem CoderIs.but (c : CoderIs w g r t rest h) {b : Nat} (hb : But b w w') (hg : g ≠ b) : CoderIs w' g r t rest h := ⟨c.1, c.2.1, c.2.2.1, c.2.2.2.but hb hg⟩
end
/-- The block that the held bytes make: the 1 behind them, noughts behind it. -/
def blockOf (rest : List UInt8) (h : Nat) : List UInt8 := rest.take h ++ [1] ++ List.replicate (16 - h) 0
theorem blockOf_length (rest : List UInt8) (h : Nat) (hr : rest.length = 16) (hh : h ≤ 16) : (blockOf rest h).length = 17 := by
  simp [blockOf, hr]; omega
theorem block_put (rest : List UInt8) (h : Nat) (hr : rest.length = 16) (hh : h ≤ 16) : (splice (List.replicate 17 (cellOf 0)) 0 ((rest.take h).map cellOf)).set h (cellOf 1) = (blockOf rest h).map cellOf := by
  have hl : ((rest.take h).map cellOf).length = h := by rw [List.length_map, List.length_take]; omega
  rw [splice, List.take_zero, List.nil_append, hl, Nat.zero_add, List.drop_replicate, List.set_append_right _ _ (by rw [hl]; exact Nat.le_refl _), hl, Nat.sub_self, show 17 - h = (16 - h) + 1 by omega, List.replicate_succ, blockOf]
  simp
/-- What the operations of work's last region yield. -/
def workYields (t n p r q : List Nat) (b : List UInt8) (i : Nat) (v : Value) (_ : World) : Prop := match i with
  | 4 => v = numVal t
  | 5 => v = hashVal b
  | 6 => v = numVal n
  | 7 => v = numVal p
  | 11 => v = numVal r
  | 12 => v = numVal q
  | _ => True
set_option maxRecDepth 100000 in
set_option maxHeartbeats 2000000 in
theorem work_over (g h : Nat) (r t n p q : List Nat) (rest b : List UInt8) (w : World) (hC : CoderIs w g r t rest h) (hh : h ≤ 16) (HB : Hid (b = blockOf rest h)) (HPL : Hid (q.length = 5))
    (CR : Hid (∀ W, Calls Tryd.prog 26 #[hashVal b] W fun e w' => e = .returned (numVal n) ∧ Below W.heap.size W w'))
    (CP : Hid (∀ W, Calls Tryd.prog 46 #[numVal t, numVal n] W fun e w' => e = .returned (numVal p) ∧ Below W.heap.size W w'))
    (CT : Hid (∀ W, Calls Tryd.prog 58 #[numVal p, numVal r] W fun e w' => e = .returned (numVal q) ∧ Below W.heap.size W w')) :
    Calls Tryd.prog 44 #[.pointer (some ⟨g, 0, none⟩)] w fun e w' => e = .returned (.tuple #[]) ∧ But g w w' ∧ CoderIs w' g r q rest 0 := by
  have hg := hC.2.2.2.lt
  have HRL := Lib.hid hC.2.2.1
  go_enter Tryd.func44, Tryd.ntmps44
  go_wp2_with (first
    | (refine zero_step rfl 64 rfl 17 zero_row17 ?_
       intro w1 hb1 hZ1 hz
       have hC1 := hC.on hb1
       have hB1 : But g w w1 := But.of_below hb1
       have hs1 := hb1.size
       clear hz))
  generalize hgb : w.heap.size = gb at *
  refine wp_region_tail 9 (by kernel_rfl) (by kernel_rfl) ?_
  intro w2 hw2
  have hB2 : But g w w2 := by rw [hw2]; exact hB1.drew
  have hC2 : CoderIs w2 g r t rest h := by rw [hw2]; exact hC1
  have hZ2 : Cells w2 gb (List.replicate 17 (cellOf 0)) 64 := by rw [hw2]; exact hZ1
  clear hw2 hB1 hC1 hZ1 hb1 hC
  have d2 := hC2.held
  have i1 : (h : Int) ≤ 16 := by omega
  have i2 : (0 : Int) ≤ (h : Int) := by omega
  simp only [List.take_succ_cons, List.take_zero, List.drop_succ_cons, List.drop_zero]
  repeat still_step
  refine wpStill_nil ?_
  have hT2 := hZ2.there 0 h (by rw [List.length_replicate]; omega)
  have HTL : Hid ((rest.take h).length = h) := by show _ = _; rw [List.length_take, HRL.out]; omega
  have hR2 := hC2.row.take h
  go_wp2_with (first
    | (refine copy_row rfl (.tmp 3) (.tmp 11) rfl gb 0 17 17 h 16 w2.heap.size h (some ⟨g, 10, none⟩) (rest.take h) rfl rfl HTL.out (by omega) hR2 hT2 ?_
       intro w3 hw3
       have hus : (rest.take h).take 17 = rest.take h := List.take_of_length_le (by rw [HTL.out]; omega)
       rw [hus] at hw3
       have hb3 : But gb w2 w3 := by rw [hw3]; exact (But.refl gb w2).setCells _ _
       have hZ3 : Cells w3 gb (splice (List.replicate 17 (cellOf 0)) 0 ((rest.take h).map cellOf)) 64 := by
         rw [hw3]; exact hZ2.setCells (by rw [List.length_map, HTL.out, List.length_replicate]; omega)
       have hB3 := hB2.new (by omega) hb3
       have hC3 := hC2.but hb3 (by omega)
       have d3 := hC3.held
       have hT3 := hZ3.there h 1 (by rw [splice_length _ _ _ (by rw [List.length_map, HTL.out, List.length_replicate]; omega), List.length_replicate]; omega)
       clear hw3 hus hb3 hB2 hC2 hZ2 d2 hT2 hR2)
    | (refine store_step rfl 5 _ _ rfl gb h .u8 _ rfl rfl size_u8 hT3 ?_
       intro w4 hw4
       have hb4 : But gb w3 w4 := by rw [hw4]; exact (But.refl gb w3).setCell _ _
       have hZ4 : Cells w4 gb (b.map cellOf) 64 := by
         rw [hw4, HB.out, ← block_put rest h HRL.out hh]; exact hZ3.set h _
       have hB4 := hB3.new (by omega) hb4
       have hC4 := hC3.but hb4 (by omega)
       clear hw4 hb4 hB3 hC3 hZ3 d3 hT3))
  have HBL : Hid (b.length = 17) := by show _ = _; rw [HB.out]; exact blockOf_length rest h HRL.out hh
  refine wp_region_any (by kernel_rfl) ?_
  show wpAny _ _ _ _ _ _ _ w4.drew
  simp only [List.size_toArray, List.length_cons, List.length_nil, Nat.reduceAdd, Array.replicate_succ, Array.replicate_zero, List.push_toArray, List.nil_append, List.cons_append]
  have hB5 : But g w w4.drew := hB4.drew
  have hC5 : CoderIs w4.drew g r t rest h := hC4
  have hZ5 : Cells w4.drew gb (b.map cellOf) 64 := hZ4
  clear hB4 hC4 hZ4
  generalize w4.drew = w5 at *
  refine wpAny_take (i := 0) (oi := ⟨some 18, _, _, _, _, _⟩) (v := ?_) rfl (by kernel_rfl) (by kernel_rfl) (by kernel_rfl) (fun _ _ _ h => h) (Or.inl ⟨by rfl, ?_⟩) ?_
  rotate_left
  · (intro w; go_simp; try with_reducible rfl)
  simp only [Act.put, List.setIfInBounds_toArray, List.set_cons_zero, List.set_cons_succ]
  refine wpAny_take (i := 1) (oi := ⟨some 19, _, _, _, _, _⟩) (v := ?_) rfl (by kernel_rfl) (by kernel_rfl) (by kernel_rfl) (fun _ _ _ h => h) (Or.inl ⟨by rfl, ?_⟩) ?_
  rotate_left
  · (intro w; go_simp; try with_reducible rfl)
  simp only [Act.put, List.setIfInBounds_toArray, List.set_cons_zero, List.set_cons_succ]
  refine wpAny_take (i := 2) (oi := ⟨some 20, _, _, _, _, _⟩) (v := ?_) rfl (by kernel_rfl) (by kernel_rfl) (by kernel_rfl) (fun _ _ _ h => h) (Or.inl ⟨by rfl, ?_⟩) ?_
  rotate_left
  · (intro w; go_simp; try with_reducible rfl)
  simp only [Act.put, List.setIfInBounds_toArray, List.set_cons_zero, List.set_cons_succ]
  refine wpAny_take (i := 3) (oi := ⟨some 21, _, _, _, _, _⟩) (v := ?_) rfl (by kernel_rfl) (by kernel_rfl) (by kernel_rfl) (fun _ _ _ h => h) (Or.inl ⟨by rfl, ?_⟩) ?_
  rotate_left
  · (intro w; go_simp; try with_reducible rfl)
  simp only [Act.put, List.setIfInBounds_toArray, List.set_cons_zero, List.set_cons_succ]
  refine wpAny_take (i := 8) (oi := ⟨some 26, _, _, _, _, _⟩) (v := ?_) rfl (by kernel_rfl) (by kernel_rfl) (by kernel_rfl) (fun _ _ _ h => h) (Or.inl ⟨by rfl, ?_⟩) ?_
  rotate_left
  · (intro w; go_simp; try with_reducible rfl)
  simp only [Act.put, List.setIfInBounds_toArray, List.set_cons_zero, List.set_cons_succ]
  refine wpAny_take (i := 9) (oi := ⟨some 27, _, _, _, _, _⟩) (v := ?_) rfl (by kernel_rfl) (by kernel_rfl) (by kernel_rfl) (fun _ _ _ h => h) (Or.inl ⟨by rfl, ?_⟩) ?_
  rotate_left
  · (intro w; go_simp; try with_reducible rfl)
  simp only [Act.put, List.setIfInBounds_toArray, List.set_cons_zero, List.set_cons_succ]
  refine wpAny_take (i := 10) (oi := ⟨some 28, _, _, _, _, _⟩) (v := ?_) rfl (by kernel_rfl) (by kernel_rfl) (by kernel_rfl) (fun _ _ _ h => h) (Or.inl ⟨by rfl, ?_⟩) ?_
  rotate_left
  · (intro w; go_simp; try with_reducible rfl)
  simp only [Act.put, List.setIfInBounds_toArray, List.set_cons_zero, List.set_cons_succ]
  have hr5 := hC5.2.2.2.range 0 5
  have ht5 := hC5.2.2.2.range 5 5
  have hb5 := hZ5.range 0 17
  rw [coder_r hC5.1] at hr5
  rw [coder_t hC5.1 hC5.2.1] at ht5
  rw [List.drop_zero, List.take_of_length_le (by rw [List.length_map, HBL.out]; omega)] at hb5
  have hgw : g < w5.heap.size := hC5.2.2.2.lt
  have hgbw : gb < w5.heap.size := hZ5.lt
  refine wpAny_loose (L := [4, 5, 6, 7, 11, 12]) (fins := [(#[true, true, true, true, true, true, true, true, true, true, true, true, true, false, false, false], 3)]) (LooseAt w5 _ [(4, 22), (5, 23), (6, 24), (7, 25), (11, 29), (12, 30)] (workYields t n p r q b)) ?_ ?_ 9 _ _ _ (by kernel_rfl) ⟨Below.refl _ _, rfl, rfl, fun _ _ => rfl, ?_⟩
  · intro i hi
    simp only [List.mem_cons, List.not_mem_nil, or_false] at hi
    rcases hi with rfl | rfl | rfl | rfl | rfl | rfl
    · refine loose_step (by decide) (by decide) 36 rfl (by decide) (fun _ _ _ _ h _ => h) (i := 4) (s := 22) (by decide) rfl rfl ?_
      intro a w6 K hb hs hd hsame hfact hK
      exact load_op rfl 61 (.tmp 21) rfl g 5 (hsame 21 (by decide)) (t.map ncell) _ (range_on ht5 hgw hb) Tryd.underlying61 rfl (by rw [List.length_map, hC5.2.1]; exact size_num) (hK _ _ (Below.refl _ _) rfl)
    · refine loose_step (by decide) (by decide) 36 rfl (by decide) (fun _ _ _ _ h _ => h) (i := 5) (s := 23) (by decide) rfl rfl ?_
      intro a w6 K hb hs hd hsame hfact hK
      exact load_op rfl 64 (.tmp 2) rfl gb 0 (hsame 2 (by decide)) (b.map cellOf) _ (range_on hb5 hgbw hb) Tryd.underlying64 rfl (by rw [List.length_map, HBL.out]; exact size_row17) (hK _ _ (Below.refl _ _) rfl)
    · refine loose_step (by decide) (by decide) 36 rfl (by decide) (fun _ _ _ _ h _ => h) (i := 6) (s := 24) (by decide) rfl rfl ?_
      intro a w6 K hb hs hd hsame hfact hK
      refine call_op rfl 26 [.tmp 23] _ rfl [hashVal b] ?_ (enters Tryd.func26 (by kernel_rfl) (by kernel_rfl)) (CR.out w6) ?_
      · simp only [List.map_cons, List.map_nil]
        rw [show a.eval (.tmp 23) = hashVal b from hfact (5, 23) (by decide) (by kernel_rfl)]
      · rintro e w7 ⟨rfl, hb7⟩
        exact ⟨_, rfl, hK _ _ hb7 rfl⟩
    · refine loose_step (by decide) (by decide) 36 rfl (by decide) (fun _ _ _ _ h _ => h) (i := 7) (s := 25) (by decide) rfl rfl ?_
      intro a w6 K hb hs hd hsame hfact hK
      refine call_op rfl 46 [.tmp 22, .tmp 24] _ rfl [numVal t, numVal n] ?_ (enters Tryd.func46 (by kernel_rfl) (by kernel_rfl)) (CP.out w6) ?_
      · simp only [List.map_cons, List.map_nil]
        rw [show a.eval (.tmp 22) = numVal t from hfact (4, 22) (by decide) (by kernel_rfl), show a.eval (.tmp 24) = numVal n from hfact (6, 24) (by decide) (by kernel_rfl)]
      · rintro e w7 ⟨rfl, hb7⟩
        exact ⟨_, rfl, hK _ _ hb7 rfl⟩
    · refine loose_step (by decide) (by decide) 36 rfl (by decide) (fun _ _ _ _ h _ => h) (i := 11) (s := 29) (by decide) rfl rfl ?_
      intro a w6 K hb hs hd hsame hfact hK
      exact load_op rfl 61 (.tmp 28) rfl g 0 (hsame 28 (by decide)) (r.map ncell) _ (range_on hr5 hgw hb) Tryd.underlying61 rfl (by rw [List.length_map, hC5.1]; exact size_num) (hK _ _ (Below.refl _ _) rfl)
    · refine loose_step (by decide) (by decide) 36 rfl (by decide) (fun _ _ _ _ h _ => h) (i := 12) (s := 30) (by decide) rfl rfl ?_
      intro a w6 K hb hs hd hsame hfact hK
      refine call_op rfl 58 [.tmp 25, .tmp 29] _ rfl [numVal p, numVal r] ?_ (enters Tryd.func58 (by kernel_rfl) (by kernel_rfl)) (CT.out w6) ?_
      · simp only [List.map_cons, List.map_nil]
        rw [show a.eval (.tmp 25) = numVal p from hfact (7, 25) (by decide) (by kernel_rfl), show a.eval (.tmp 29) = numVal r from hfact (11, 29) (by decide) (by kernel_rfl)]
      · rintro e w7 ⟨rfl, hb7⟩
        exact ⟨_, rfl, hK _ _ hb7 rfl⟩
  · intro f hf a w6 hA
    obtain rfl := List.mem_singleton.1 hf
    have hb6 := hA.below
    have hB6 := hB5.trans (But.of_below hb6)
    have hC6 := hC5.on hb6
    have s0 := hA.same 0 (by decide)
    have s18 := hA.same 18 (by decide)
    have s30 : a.tmps.getD 30 undef = numVal q := hA.fact (12, 30) (by decide) (by kernel_rfl)
    obtain ⟨u, rfl⟩ := loose_frame36 a hA.size hA.defers
    change u 0 = .pointer (some ⟨g, 0, none⟩) at s0
    change u 18 = .pointer (some ⟨g, 0, none⟩) at s18
    change u 30 = _ at s30
    rw [s0, s18, s30]
    clear hA hb6 hB5 hC5 hZ5 hr5 ht5 hb5 s0 s18 s30 CR CP CT
    refine wpAny_rest 13 rfl (by kernel_rfl) ?_
    simp only [List.drop_succ_cons, List.drop_zero]
    have hT6 := hC6.2.2.2.there 5 5 (by rw [coderCells_length hC6.1 hC6.2.1 hC6.2.2.1]; omega)
    have hq1 : (q.map ncell).toArray.size = 5 := by rw [List.size_toArray, List.length_map, HPL.out]
    have HQ := Lib.hid hq1
    clear hq1
    go_wp2_with (first
      | (refine wpList_store_mid rfl 61 _ _ rfl g 5 (q.map ncell).toArray rfl rfl (by rw [HQ.out]; exact hT6) (by rw [HQ.out]; exact size_num) (ncells_one q) ?_
         have hb7 := (But.refl g w6).setCells 5 (q.map ncell)
         have hC7 : CoderIs (w6.setCells g 5 (q.map ncell)) g r q rest h := by
           refine ⟨hC6.1, HPL.out, hC6.2.2.1, ?_⟩
           rw [← coder_putT hC6.1 hC6.2.1 q HPL.out]
           exact hC6.2.2.2.setCells (by rw [coderCells_length hC6.1 hC6.2.1 hC6.2.2.1, List.length_map, HPL.out]; omega)
         have hB7 := hB6.trans hb7
         change wpList _ _ _ _ _ (w6.setCells g 5 (q.map ncell))
         generalize w6.setCells g 5 (q.map ncell) = w7 at *
         have d7 := hC7.held
         have f7 := hC7.2.2.2.frozen 26
         clear hb7 hC6 hB6 hT6))
    go_end0
    refine ⟨rfl, hB7.setCell _ _, hC7.1, hC7.2.1, hC7.2.2.1, ?_⟩
    have h := hC7.2.2.2.set 26 (.int .i64 ((0 : Nat) : Int))
    rw [coder_setHeld hC7.1 hC7.2.1 hC7.2.2.1] at h
    exact h
  · intro p hp hl
    simp only [List.mem_cons, List.not_mem_nil, or_false] at hp
    rcases hp with rfl | rfl | rfl | rfl | rfl | rfl
    all_goals cases hl
theorem work_any (g h : Nat) (r t : List Nat) (rest : List UInt8) (w : World) (hC : CoderIs w g r t rest h) (hh : h ≤ 16) :
    Calls Tryd.prog 44 #[.pointer (some ⟨g, 0, none⟩)] w fun e w' => e = .returned (.tuple #[]) ∧ But g w w' ∧ CoderIs w' g r (timesN (plusN t (limbsOf (lev (blockOf rest h)))) r) rest 0 :=
  work_over g h r t (limbsOf (lev (blockOf rest h))) (plusN t (limbsOf (lev (blockOf rest h)))) _ rest (blockOf rest h) w hC hh rfl (timesN_length _ _) (fun W => read_any _ W (blockOf_length rest h hC.2.2.1 hh)) (fun W => plus_any _ _ W hC.2.1 (limbsOf_length _)) (fun W => times_any _ _ W ((plusN_length _ _).trans hC.2.1) hC.1)
end Go.Proofs.YtdaieklimdhkoaaDoor
namespace Go.Proofs.YtdaieklimdhkoaaDoor
open Go.RowKit
theorem lev_zeros (n : Nat) : lev (List.replicate n 0) = 0 := by
  unfold lev
  rw [List.map_replicate]
  exact dval_zeros n
theorem polyH_append (R : Nat) (bs us : List UInt8) : ∀ n, 16 * n ≤ bs.length → polyH R (bs ++ us) n = polyH R bs n
  | 0, _ => rfl
  | n + 1, h => by
    rw [polyH, polyH, polyH_append R bs us n (by omega), List.drop_append_of_le_length (by omega), List.take_append_of_le_length (by rw [List.length_drop]; omega)]
/-- A total and the waiting bytes are those of the bytes bs. -/
def Took (R : Nat) (bs : List UInt8) (t : List Nat) (rest : List UInt8) : Prop := Fine t ∧ lval t % polyP = polyH R bs (bs.length / 16) ∧ rest.take (bs.length % 16) = bs.drop (16 * (bs.length / 16))
theorem took_none (R : Nat) (rest : List UInt8) : Took R [] [0, 0, 0, 0, 0] rest := ⟨fine_zero, rfl, rfl⟩
/-- The total behind a block. -/
def nextN (R : Nat) (t : List Nat) (blk : List UInt8) : List Nat := timesN (plusN t (limbsOf (lev blk))) (limbsOf R)
theorem next_val (R x : Nat) (t : List Nat) (ht : Fine t) (blk : List UInt8) (hR : R < 1361129467683753853853498429727072845824) (hb : lev blk = x) (hx : x < 1361129467683753853853498429727072845824) : Fine (nextN R t blk) ∧ lval (nextN R t blk) % polyP = (lval t % polyP + x) * R % polyP := by
  obtain ⟨h1, h2⟩ := plusN_val t (limbsOf (lev blk)) ht.1 (limbsOf_length _) _ _ ht.below (limbsOf_below _) (by omega)
  obtain ⟨h3, h4⟩ := timesN_val (plusN t (limbsOf (lev blk))) (limbsOf R) ((plusN_length _ _).trans ht.1) (limbsOf_length _) (fun y hy => by have := h2 y hy; omega) (limbsOf_below _)
  refine ⟨h3, ?_⟩
  unfold nextN
  rw [h4, h1, lval_limbsOf R hR, hb, lval_limbsOf x hx, Nat.mul_mod, Nat.mul_mod (lval t % polyP + x), Nat.mod_add_mod]
theorem lev_block (l : List UInt8) (n : Nat) (hl : l.length ≤ 16) : lev (l ++ [1] ++ List.replicate n 0) = lev (l ++ [1]) ∧ lev (l ++ [1]) < 1361129467683753853853498429727072845824 := by
  refine ⟨by rw [lev_append, lev_zeros, Nat.mul_zero, Nat.add_zero], ?_⟩
  have h := lev_lt l
  have h2 : 256 ^ l.length ≤ 256 ^ 16 := pow256_le hl
  rw [lev_append, show lev [1] = 1 from rfl]
  omega
theorem took_less {R : Nat} {bs us : List UInt8} {t : List Nat} {rest : List UInt8} (h : Took R bs t rest) (hr : rest.length = 16) (hl : bs.length % 16 + us.length < 16) : Took R (bs ++ us) t (restPut rest us (bs.length % 16)) := by
  have e1 : (bs ++ us).length / 16 = bs.length / 16 := by rw [List.length_append]; omega
  have e2 : (bs ++ us).length % 16 = bs.length % 16 + us.length := by rw [List.length_append]; omega
  refine ⟨h.1, ?_, ?_⟩
  · rw [e1, polyH_append _ _ _ _ (by omega)]; exact h.2.1
  · rw [e1, e2, restPut_take _ _ _ (by omega), h.2.2, List.drop_append_of_le_length (by omega)]
theorem took_full {R : Nat} {bs us : List UInt8} {t : List Nat} {rest : List UInt8} (h : Took R bs t rest) (hR : R < 1361129467683753853853498429727072845824) (hr : rest.length = 16) (hl : bs.length % 16 + us.length = 16) (rest' : List UInt8) : Took R (bs ++ us) (nextN R t (restPut rest us (bs.length % 16) ++ [1])) rest' := by
  have e1 : (bs ++ us).length / 16 = bs.length / 16 + 1 := by rw [List.length_append]; omega
  have e2 : (bs ++ us).length % 16 = 0 := by rw [List.length_append]; omega
  have e3 : restPut rest us (bs.length % 16) = ((bs ++ us).drop (16 * (bs.length / 16))).take 16 := by
    have := restPut_take rest us (bs.length % 16) (by omega)
    rw [List.take_of_length_le (by rw [restPut_length _ _ _ (by omega)]; omega), h.2.2] at this
    rw [this, List.drop_append_of_le_length (by omega), List.take_of_length_le]
    rw [List.length_append, List.length_drop]; omega
  obtain ⟨h1, h2⟩ := next_val R _ t h.1 (restPut rest us (bs.length % 16) ++ [1]) hR rfl (lev_block _ 0 (by rw [restPut_length _ _ _ (by omega)]; omega)).2
  refine ⟨h1, ?_, ?_⟩
  · rw [h2, e1, polyH, polyH_append _ _ _ _ (by omega), ← h.2.1, e3]
  · rw [e2, List.take_zero, List.drop_eq_nil_of_le (by rw [List.length_append]; omega)]
/-- The last block, if there is one. -/
theorem took_end {R : Nat} {bs : List UInt8} {t : List Nat} {rest : List UInt8} (h : Took R bs t rest) (hR : R < 1361129467683753853853498429727072845824) (hm : 0 < bs.length % 16) : Fine (nextN R t (rest.take (bs.length % 16) ++ [1] ++ List.replicate (16 - bs.length % 16) 0)) ∧ lval (nextN R t (rest.take (bs.length % 16) ++ [1] ++ List.replicate (16 - bs.length % 16) 0)) % polyP = polyH R bs ((bs.length + 15) / 16) := by
  have hb := lev_block (rest.take (bs.length % 16)) (16 - bs.length % 16) (by rw [List.length_take]; omega)
  obtain ⟨h1, h2⟩ := next_val R _ t h.1 (rest.take (bs.length % 16) ++ [1] ++ List.replicate (16 - bs.length % 16) 0) hR hb.1 hb.2
  refine ⟨h1, ?_⟩
  rw [h2, show (bs.length + 15) / 16 = bs.length / 16 + 1 by omega, polyH, h.2.1, h.2.2, List.take_of_length_le (by rw [List.length_drop]; omega)]
theorem took_even {R : Nat} {bs : List UInt8} {t : List Nat} {rest : List UInt8} (h : Took R bs t rest) (hm : bs.length % 16 = 0) : Fine t ∧ lval t % polyP = polyH R bs ((bs.length + 15) / 16) := by
  refine ⟨h.1, ?_⟩
  rw [h.2.1, show (bs.length + 15) / 16 = bs.length / 16 by omega]
theorem putL_mod (x : Nat) : putL (x % 1361129467683753853853498429727072845824) 16 = putL x 16 := by
  unfold putL
  refine List.map_congr_left fun i hi => ?_
  have hi2 : i < 16 := List.mem_range.1 hi
  apply UInt8.toNat_inj.1
  rw [byteAt, byteAt, UInt8.toNat_ofNat', UInt8.toNat_ofNat']
  exact digit_same _ _ 16 i hi2 (Nat.mod_mod_of_dvd x ⟨4, rfl⟩)
/-- The code out of the total. -/
theorem ended_val (key bs : List UInt8) (t : List Nat) (s : List UInt8) (hk : key.length = 32) (hs : s = key.drop 16 ++ [0]) (ht : Fine t) (hv : lval t % polyP = polyH (polyR key) bs ((bs.length + 15) / 16)) :
    (plusN (leastN t) (limbsOf (lev s))).length = 5 ∧ Below5 67108864 (carN (plusN (leastN t) (limbsOf (lev s)))) ∧ putL (lval (carN (plusN (leastN t) (limbsOf (lev s))))) 16 = polySum key bs := by
  obtain ⟨h1, h2⟩ := leastN_val t ht
  have hl : (leastN t).length = 5 := (leastN_length t).trans ht.1
  obtain ⟨h3, h4⟩ := plusN_val (leastN t) (limbsOf (lev s)) hl (limbsOf_length _) _ _ h2 (limbsOf_below _) (by omega)
  have h5 : (plusN (leastN t) (limbsOf (lev s))).length = 5 := (plusN_length _ _).trans hl
  have hb : Below5 9223372036854775808 (plusN (leastN t) (limbsOf (lev s))) := fun y hy => by have := h4 y hy; omega
  refine ⟨h5, (carN_val _ h5 hb).2, ?_⟩
  have e : lev s = polyS key := by rw [hs, lev_append]; rfl
  have h6 := lev_lt (key.drop 16)
  rw [List.length_drop, hk] at h6
  have h7 : polyS key < 1361129467683753853853498429727072845824 := by show lev (key.drop 16) < _; omega
  rw [(overN_eq _ h5 hb).2, putL_mod, h3, h1, hv, e, lval_limbsOf _ h7]
  rfl
theorem polyR_lt (key : List UInt8) (hk : key.length = 32) : polyR key < 1361129467683753853853498429727072845824 := by
  have h := lev_lt (polyClamp (key.take 16))
  rw [polyClamp_length, List.length_take, hk, show min 16 32 = 16 from rfl] at h
  show lev _ < _
  omega
theorem polyR_row (key : List UInt8) : lev (polyClamp (key.take 16) ++ [0]) = polyR key := by rw [lev_append]; rfl
end Go.Proofs.YtdaieklimdhkoaaDoor
namespace Go.Proofs.YtdaieklimdhkoaaDoor
open Go.RowKit
/-- The coder in block g has taken these bytes. -/
def CoderOf (w : World) (g R : Nat) (bs : List UInt8) : Prop := ∃ t rest, CoderIs w g (limbsOf R) t rest (bs.length % 16) ∧ Took R bs t rest
theorem CoderOf.on {w w' : World} {g R : Nat} {bs : List UInt8} (c : CoderOf w g R bs) (hb : Below w.heap.size w w') : CoderOf w' g R bs := by
  obtain ⟨t, rest, h1, h2⟩ := c
  exact ⟨t, rest, h1.on hb, h2⟩
theorem CoderOf.but {w w' : World} {g R b : Nat} {bs : List UInt8} (c : CoderOf w g R bs) (hb : But b w w') (hg : g ≠ b) : CoderOf w' g R bs := by
  obtain ⟨t, rest, h1, h2⟩ := c
  exact ⟨t, rest, h1.but hb hg, h2⟩
theorem blockOf_full (rest : List UInt8) (h : rest.length = 16) : blockOf rest 16 = rest ++ [1] := by
  rw [blockOf, List.take_of_length_le (by omega)]; simp
theorem ccopied {wr w3 : World} {g hd n : Nat} {r t : List Nat} {rest : List UInt8} (us : List UInt8) (hI : CoderIs wr g r t rest n) (hl : hd + us.length ≤ 16) (hw3 : w3 = wr.setCells g (10 + hd) (us.map cellOf)) : But g wr w3 ∧ CoderIs w3 g r t (restPut rest us hd) n := by
  subst hw3
  refine ⟨(But.refl g wr).setCells _ _, hI.1, hI.2.1, by rw [restPut_length _ _ _ (by rw [hI.2.2.1]; omega)]; exact hI.2.2.1, ?_⟩
  have h := hI.2.2.2.setCells (cs := us.map cellOf) (o := 10 + hd) (by rw [coderCells_length hI.1 hI.2.1 hI.2.2.1, List.length_map]; omega)
  rw [coder_putRest hI.1 hI.2.1 _ _ hI.2.2.1 hl] at h
  exact h
theorem cheld {w w3 : World} {g n m : Nat} {r t : List Nat} {rest : List UInt8} (hI : CoderIs w g r t rest n) (hw3 : w3 = w.setCell ⟨g, 26, none⟩ (.int .i64 (m : Int))) : But g w w3 ∧ CoderIs w3 g r t rest m := by
  subst hw3
  refine ⟨(But.refl g w).setCell _ _, hI.1, hI.2.1, hI.2.2.1, ?_⟩
  have h := hI.2.2.2.set 26 (.int .i64 (m : Int))
  rw [coder_setHeld hI.1 hI.2.1 hI.2.2.1] at h
  exact h
theorem size_int : (Tryd.prog.info? 3).map (·.size) = some 1 := by kernel_rfl
set_option maxRecDepth 100000 in
set_option maxHeartbeats 2000000 in
theorem cwrite_any (g R : Nat) (bs us : List UInt8) (A : Option Addr) (n c : Nat) (w : World) (hR : R < 1361129467683753853853498429727072845824) (hH : CoderOf w g R bs) (hl : us.length = n) (hr : Row w w.heap.size A us) (hA : us ≠ [] → ∀ p, A = some p → p.block ≠ g) (hc : n ≤ c) (hc2 : c ≤ maxLen) :
    Calls Tryd.prog 28 #[.pointer (some ⟨g, 0, none⟩), .slice A n c] w fun e w' => e = .returned (.tuple #[]) ∧ But g w w' ∧ CoderOf w' g R (bs ++ us) := by
  obtain ⟨t, rest, hI, hh⟩ := hH
  have HL := Lib.hid hl
  clear hl
  unfold maxLen at hc2
  go_enter Tryd.func28, Tryd.ntmps28
  go_wp2_with fail
  go_loopw [1] (fun b wr => ∃ (k : Nat) (A' : Option Addr) (c' : Nat) (t' : List Nat) (rest' : List UInt8), k ≤ n ∧ b = .slice A' (n - k) c' ∧ n - k ≤ c' ∧ c' ≤ 9223372036854775807 ∧ But g w wr ∧ Row wr wr.heap.size A' (us.drop k) ∧ (us.drop k ≠ [] → ∀ p, A' = some p → p.block ≠ g) ∧ CoderIs wr g (limbsOf R) t' rest' ((bs.length + k) % 16) ∧ Took R (bs ++ us.take k) t' rest') (fun b _ => lenOf b)
  case atStart => exact ⟨0, A, c, t, rest, Nat.zero_le _, rfl, by omega, by omega, But.refl _ _, by simpa using hr, hA, hI, by simpa using hh⟩
  case round =>
    clear hh hI hr hA
    obtain ⟨k, A', c', t', rest', hk, rfl, hc', hc3, hB, hRw, hA', hI, hh⟩ := hrel
    have HX : Hid ((us.drop k).length = n - k) := by show _ = _; rw [List.length_drop, HL.out]
    have h64 := hI.2.2.1
    have HD := Lib.hid (show (bs ++ us.take k).length % 16 = (bs.length + k) % 16 by rw [List.length_append, List.length_take, HL.out, Nat.min_eq_left hk])
    have hlt64 := Nat.mod_lt (bs.length + k) (show 16 > 0 by omega)
    have HR : Hid (n - k ≤ n ∧ k + (n - k) = n) := ⟨by omega, by omega⟩
    generalize hdd : (bs.length + k) % 16 = hd at *
    generalize hrr : n - k = r at *
    replace hdd := Lib.hid hdd
    replace hrr := Lib.hid hrr
    have d0 := hI.held
    have hle : hd ≤ 16 := by omega
    have hleI : (hd : Int) ≤ 16 := by omega
    have hne : ¬ 16 = hd := by omega
    by_cases h0 : 0 < r
    · obtain ⟨m, hm1, hm2, HM, hmf⟩ : ∃ m, m ≤ r ∧ hd + m ≤ 16 ∧ Hid (min r (16 - hd) = m) ∧ (hd + m = 16 ∨ (hd + m < 16 ∧ m = r)) := by
        by_cases hfull : 16 ≤ hd + r
        · exact ⟨16 - hd, by omega, by omega, by show _ = _; omega, by omega⟩
        · exact ⟨r, by omega, by omega, by show _ = _; omega, by omega⟩
      have HU : Hid (((us.drop k).take m).length = m) := by show _ = _; rw [List.length_take, HX.out]; omega
      have HW : Hid ((us.drop k).take (16 - hd) = (us.drop k).take m) := by
        show _ = _
        have hm := HM.out
        rcases Nat.le_total r (16 - hd) with h | h
        · rw [List.take_of_length_le (by rw [HX.out]; exact h), List.take_of_length_le (by rw [HX.out]; omega)]
        · rw [show m = 16 - hd by omega]
      have hm0 : 0 < m := by omega
      go_wp2_with fail
      refine wp_region_tail 9 (by kernel_rfl) (by kernel_rfl) ?_
      intro w2 hw2
      have hB2 : But g w w2 := by rw [hw2]; exact hB.drew
      have hI2 : CoderIs w2 g (limbsOf R) t' rest' hd := by rw [hw2]; exact hI
      have hR2 : Row w2 w2.heap.size A' (us.drop k) := by rw [hw2]; exact hRw
      have d2 := hI2.held
      clear hw2 hB hI hRw d0
      simp only [List.take_succ_cons, List.take_zero, List.drop_succ_cons, List.drop_zero]
      repeat still_step
      refine wpStill_nil ?_
      have hTT := hI2.2.2.2.there (10 + hd) m (by rw [coderCells_length hI2.1 hI2.2.1 hI2.2.2.1]; omega)
      have i1 : (0 : Int) ≤ (m : Int) := by omega
      go_wp2_with (first
        | (refine copy_row rfl (.tmp 15) (.tmp 16) rfl g (10 + hd) (16 - hd) (16 - hd) r c' w2.heap.size m A' (us.drop k) rfl rfl HX.out HM.out hR2 hTT ?_
           intro w3 hw3
           rw [HW.out] at hw3
           obtain ⟨hb3, hI3⟩ := ccopied _ hI2 (by rw [HU.out]; omega) hw3
           have hB3 := hB2.trans hb3
           have hR3 := hR2.but hb3 hA'
           have d3 := hI3.held
           have hT3 := hI3.2.2.2.there 26 1 (by rw [coderCells_length hI3.1 hI3.2.1 hI3.2.2.1]; omega)
           clear hw3 hB2 hI2 hR2 d2 hTT hb3)
        | (refine cut_from rfl (.tmp 18) (.tmp 19) rfl A' r c' m rfl rfl hm1 ?_)
        | (rw [show (hd : Int) + (m : Int) = ((hd + m : Nat) : Int) from (Int.natCast_add hd m).symm]
           refine store_step rfl 3 _ _ rfl g 26 .i64 _ rfl rfl size_int hT3 ?_
           intro w4 hw4
           obtain ⟨hb4, hI4⟩ := cheld hI3 hw4
           have hB4 := hB3.trans hb4
           have hR4 := hR3.but hb4 hA'
           have d4 := hI4.held
           clear hw4 hB3 hI3 hR3 d3 hT3 hb4))
      · rename_i he K0 hK0
        have hfull : hd + m = 16 := by simp at he; omega
        clear he
        rw [hfull] at hI4
        refine (work_any g 16 (limbsOf R) t' _ w4 hI4 (Nat.le_refl _)).mono ?_
        rintro e w5 ⟨rfl, hb5, hI5⟩
        rw [blockOf_full _ hI4.2.2.1] at hI5
        have hB5 := hB4.trans hb5
        have hR5 := hR4.but hb5 hA'
        clear hB4 hR4 hI4 d4 hb5
        go_wp2_with fail
        go_roundw
        case rel =>
          have hdv := hdd.out
          refine ⟨k + m, cutA A' m c', c' - m, nextN R t' (restPut rest' ((us.drop k).take m) hd ++ [1]), restPut rest' ((us.drop k).take m) hd, by have := HR.out; omega, ?_, ?_, by omega, hB5, ?_, ?_, ?_, ?_⟩
          · rw [show r - m = n - (k + m) by have := hrr.out; omega]
          · have := hrr.out; omega
          · have h := hR5.cut m c' (by rw [HX.out]; exact hc')
            rw [List.drop_drop] at h
            exact h
          · intro hne p hp
            obtain ⟨q, hq, e⟩ := cutA_block hp
            rw [e]
            refine hA' (fun e0 => hne ?_) q hq
            rw [← List.drop_drop, e0, List.drop_nil]
          · rw [show (bs.length + (k + m)) % 16 = 0 by omega]
            exact hI5
          · have h := took_full hh hR h64 (us := (us.drop k).take m) (by rw [HD.out, HU.out]; omega) (restPut rest' ((us.drop k).take m) hd)
            rw [HD.out, List.append_assoc, ← List.take_add] at h
            exact h
        case measure => simp [lenOf]; omega
      · rename_i he
        have hless : hd + m < 16 := by
          rcases hmf with h | h
          · simp at he; omega
          · exact h.1
        have hmr : m = r := by omega
        clear he
        go_roundw
        case rel =>
          have hdv := hdd.out
          refine ⟨k + m, cutA A' m c', c' - m, t', restPut rest' ((us.drop k).take m) hd, by have := HR.out; omega, ?_, ?_, by omega, hB4, ?_, ?_, ?_, ?_⟩
          · rw [show r - m = n - (k + m) by have := hrr.out; omega]
          · have := hrr.out; omega
          · have h := hR4.cut m c' (by rw [HX.out]; exact hc')
            rw [List.drop_drop] at h
            exact h
          · intro hne p hp
            obtain ⟨q, hq, e⟩ := cutA_block hp
            rw [e]
            refine hA' (fun e0 => hne ?_) q hq
            rw [← List.drop_drop, e0, List.drop_nil]
          · rw [show (bs.length + (k + m)) % 16 = hd + m by omega]
            exact hI4
          · have h := took_less hh h64 (us := (us.drop k).take m) (by rw [HD.out, HU.out]; omega)
            rw [HD.out, List.append_assoc, ← List.take_add] at h
            exact h
        case measure => simp [lenOf]; omega
    · go_wp2_with fail
      go_end0
      refine ⟨rfl, hB, t', rest', ?_, ?_⟩
      · rw [List.length_append, HL.out]
        have e1 := HR.out
        have e2 := hdd.out
        rw [show (bs.length + n) % 16 = hd by rw [← e2, show k = n by omega]]
        exact hI
      · rw [List.take_of_length_le (by have := HL.out; have := HR.out; omega)] at hh
        exact hh
end Go.Proofs.YtdaieklimdhkoaaDoor
