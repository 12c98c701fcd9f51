/- Regions that draw their order, some of whose operations call or make memory: what each of these yields stands whatever comes up beside it, so all orders come to one end. No program is named here. -/
import Derived.Test.YtiadgningbogmaaDoorWOrders
import Derived.Test.YtiadgningbogmaaDoorWLoops
namespace Go.Proofs.YtiadgningbogmaaDoor
open Go.RowKit
section
variable {P : Program} {ops : Array Oper} {Q : Exit → Act → World → Prop} {md : Region.Mode}
/-- Whatever order the operations of L come up in, it comes to one of these ends (what is listed, how many are left). -/
def looseB (md : Region.Mode) (ops : Array Oper) (L : List Nat) (fins : List (Array Bool × Nat)) : Nat → Array Bool → Bool
  | 0, listed => fins.contains (listed, 0)
  | k + 1, listed => fins.contains (listed, k + 1) || (!(Region.ready md ops listed).isEmpty && (Region.ready md ops listed).all fun i => L.contains i && looseB md ops L fins k (listed.setIfInBounds i true))
theorem wpAny_loose {L : List Nat} {fins : List (Array Bool × Nat)} (I : Array Bool → Act → World → Prop)
    (hstep : ∀ i ∈ L, ∀ listed a w, I listed a w → i ∈ Region.ready md ops listed → wpOp P ops Q i (I (listed.setIfInBounds i true)) a w)
    (hend : ∀ f ∈ fins, ∀ a w, I f.1 a w → wpAny P md ops Q f.2 f.1 a w) :
    ∀ (k : Nat) (listed : Array Bool) (a : Act) (w : World), looseB md ops L fins k listed = true → I listed a w → wpAny P md ops Q k listed a w
  | 0, listed, a, w, hB, hI => hend (listed, 0) (by simpa [looseB] using hB) a w hI
  | k + 1, listed, a, w, hB, hI => by
    rw [looseB, Bool.or_eq_true] at hB
    rcases hB with hB | hB
    · exact hend (listed, k + 1) (by simpa using hB) a w hI
    rw [Bool.and_eq_true, List.all_eq_true] at hB
    refine ⟨fun h0 => ?_, fun i hi => ?_⟩
    · rw [h0] at hB
      simp at hB
    · have h := hB.2 i hi
      rw [Bool.and_eq_true] at h
      exact wpOp_mono (fun a' w' h' => wpAny_loose I hstep hend k _ a' w' h.2 h') (hstep i (by simpa using h.1) listed a w hI hi)
/-- What a loose operation finds: only new memory, the frame as it was but for the loose ones' slots, and what those yield that it waits for. -/
structure LooseAt (w0 : World) (a0 : Act) (slots : List (Nat × Nat)) (prop : Nat → Value → World → Prop) (listed : Array Bool) (a : Act) (w : World) : Prop where
  below : Below w0.heap.size w0 w
  size : a.tmps.size = a0.tmps.size
  defers : a.defers = a0.defers
  same : ∀ s, (∀ p ∈ slots, p.2 ≠ s) → a.tmps.getD s undef = a0.tmps.getD s undef
  fact : ∀ p ∈ slots, listed.getD p.1 false = true → prop p.1 (a.tmps.getD p.2 undef) w
theorem ready_has {i j : Nat} {listed : Array Bool} (hr : i ∈ Region.ready md ops listed) (hw : waitsFor md ops i j = true) : listed.getD j false = true := by
  obtain ⟨_, o, ho, hall⟩ := mem_ready.1 hr
  simp only [waitsFor, ho] at hw
  obtain ⟨e, he, hb⟩ := Array.any_eq_true'.1 hw
  simp only [Bool.and_eq_true, beq_iff_eq] at hb
  have h1 := hall e he hb.1
  rwa [hb.2] at h1
theorem put_getD_ne (a : Act) (s t : Nat) (v : Value) (h : s ≠ t) : (a.put (some s) v).tmps.getD t undef = a.tmps.getD t undef := by
  simp only [Act.put, Array.getD_eq_getD_getElem?]
  rw [Array.getElem?_setIfInBounds_ne h]
theorem put_getD_eq (a : Act) (s : Nat) (v : Value) (h : s < a.tmps.size) : (a.put (some s) v).tmps.getD s undef = v := by
  simp [Act.put, h]
theorem loose_put {w0 : World} {a0 : Act} {slots : List (Nat × Nat)} {prop : Nat → Value → World → Prop} (hinj : (slots.map (·.2)).Nodup) (hinj1 : (slots.map (·.1)).Nodup) (N : Nat) (hN : a0.tmps.size = N) (hlt : ∀ p ∈ slots, p.2 < N)
    (hst : ∀ i v w w', prop i v w → Below w.heap.size w w' → prop i v w') {i s : Nat} (hi : (i, s) ∈ slots) {listed : Array Bool} {a : Act} {w w' : World} {v : Value} (h : LooseAt w0 a0 slots prop listed a w) (hb : Below w.heap.size w w') (hv : prop i v w') :
    LooseAt w0 a0 slots prop (listed.setIfInBounds i true) (a.put (some s) v) w' := by
  refine ⟨h.below.trans (hb.mono h.below.size), ?_, ?_, fun t ht => ?_, fun p hp hl => ?_⟩
  · rw [← h.size]; simp [Act.put]
  · rw [← h.defers]; rfl
  · rw [put_getD_ne _ _ _ _ (ht _ hi)]
    exact h.same t ht
  · by_cases e : p.1 = i
    · have e2 : p = (i, s) := by
        have : ∀ (l : List (Nat × Nat)), (l.map (·.1)).Nodup → p ∈ l → (i, s) ∈ l → p = (i, s) := by
          intro l hl h1 h2
          induction l with
          | nil => cases h1
          | cons q l ih =>
            rw [List.map_cons, List.nodup_cons] at hl
            rcases List.mem_cons.1 h1 with rfl | h1
            · rcases List.mem_cons.1 h2 with h2 | h2
              · exact h2.symm
              · exact absurd (List.mem_map.2 ⟨(i, s), h2, e.symm⟩) hl.1
            · rcases List.mem_cons.1 h2 with h2 | h2
              · rw [← h2] at hl
                exact absurd (List.mem_map.2 ⟨p, h1, e⟩) hl.1
              · exact ih hl.2 h1 h2
        exact this slots hinj1 hp hi
      subst e2
      rw [put_getD_eq _ _ _ (by rw [h.size, hN]; exact hlt _ hi)]
      exact hv
    · have hne : s ≠ p.2 := by
        intro e3
        have : ∀ (l : List (Nat × Nat)), (l.map (·.2)).Nodup → p ∈ l → (i, s) ∈ l → p = (i, s) := by
          intro l hl h1 h2
          induction l with
          | nil => cases h1
          | cons q l ih =>
            rw [List.map_cons, List.nodup_cons] at hl
            rcases List.mem_cons.1 h1 with rfl | h1
            · rcases List.mem_cons.1 h2 with h2 | h2
              · exact h2.symm
              · exact absurd (List.mem_map.2 ⟨(i, s), h2, e3⟩) hl.1
            · rcases List.mem_cons.1 h2 with h2 | h2
              · rw [← h2] at hl
                exact absurd (List.mem_map.2 ⟨p, h1, e3.symm⟩) hl.1
              · exact ih hl.2 h1 h2
        exact e (by rw [this slots hinj hp hi])
      rw [put_getD_ne _ _ _ _ hne]
      refine hst _ _ _ _ (h.fact p hp ?_) hb
      rwa [getD_set_ne false (fun e4 => e e4.symm)] at hl
/-- One loose operation. -/
theorem loose_step {w0 : World} {a0 : Act} {slots : List (Nat × Nat)} {prop : Nat → Value → World → Prop} (hinj : (slots.map (·.2)).Nodup) (hinj1 : (slots.map (·.1)).Nodup) (N : Nat) (hN : a0.tmps.size = N) (hlt : ∀ p ∈ slots, p.2 < N)
    (hst : ∀ i v w w', prop i v w → Below w.heap.size w w' → prop i v w')
    {i s : Nat} (hi : (i, s) ∈ slots) {o : Oper} (ho : ops[i]? = some o) (hd : o.dst = some s)
    (hop : ∀ a w K, Below w0.heap.size w0 w → a.tmps.size = a0.tmps.size → a.defers = a0.defers → (∀ s, (∀ p ∈ slots, p.2 ≠ s) → a.tmps.getD s undef = a0.tmps.getD s undef) →
      (∀ p ∈ slots, waitsFor md ops i p.1 = true → prop p.1 (a.tmps.getD p.2 undef) w) → (∀ v w', Below w.heap.size w w' → prop i v w' → K (a.put o.dst v) w') →
      if Region.wanted o (yielded ops a.tmps) = true then Oper.wp P o a w K Q else K (a.put o.dst undef) w)
    (listed : Array Bool) (a : Act) (w : World) (h : LooseAt w0 a0 slots prop listed a w) (hr : i ∈ Region.ready md ops listed) :
    wpOp P ops Q i (LooseAt w0 a0 slots prop (listed.setIfInBounds i true)) a w := by
  refine wpOp_step ho fun K hK => ?_
  refine hop a w K h.below h.size h.defers h.same (fun p hp hwt => h.fact p hp (ready_has hr hwt)) fun v w' hb hv => hK _ _ ?_
  rw [hd]
  exact loose_put hinj hinj1 N hN hlt hst hi h hb hv
/-- The block that a value leads to. -/
def blk : Value → Nat | .pointer (some p) => p.block | .slice (some p) _ _ => p.block | _ => 0
/-- Besides: what the operations of 'fresh' make lies in blocks apart. -/
structure LooseAp (w0 : World) (a0 : Act) (slots : List (Nat × Nat)) (prop : Nat → Value → World → Prop) (fresh : List Nat) (listed : Array Bool) (a : Act) (w : World) : Prop where
  base : LooseAt w0 a0 slots prop listed a w
  apart : ∀ p ∈ slots, ∀ q ∈ slots, p.1 ∈ fresh → q.1 ∈ fresh → p.1 ≠ q.1 → listed.getD p.1 false = true → listed.getD q.1 false = true → blk (a.tmps.getD p.2 undef) ≠ blk (a.tmps.getD q.2 undef)
theorem slot_eq {slots : List (Nat × Nat)} {p q : Nat × Nat} : (slots.map (·.1)).Nodup → p ∈ slots → q ∈ slots → p.1 = q.1 → p = q := by
  intro hl h1 h2 e
  induction slots with
  | nil => cases h1
  | cons r l ih =>
    rw [List.map_cons, List.nodup_cons] at hl
    rcases List.mem_cons.1 h1 with rfl | h1
    · rcases List.mem_cons.1 h2 with h2 | h2
      · exact h2.symm
      · exact absurd (List.mem_map.2 ⟨q, h2, e.symm⟩) hl.1
    · rcases List.mem_cons.1 h2 with h2 | h2
      · rw [← h2] at hl
        exact absurd (List.mem_map.2 ⟨p, h1, e⟩) hl.1
      · exact ih hl.2 h1 h2
theorem loose_step_ap {w0 : World} {a0 : Act} {slots : List (Nat × Nat)} {prop : Nat → Value → World → Prop} {fresh : List Nat} (hinj : (slots.map (·.2)).Nodup) (hinj1 : (slots.map (·.1)).Nodup) (N : Nat) (hN : a0.tmps.size = N) (hlt : ∀ p ∈ slots, p.2 < N)
    (hst : ∀ i v w w', prop i v w → Below w.heap.size w w' → prop i v w') (hfr : ∀ i ∈ fresh, ∀ v w, prop i v w → blk v < w.heap.size)
    {i s : Nat} (hi : (i, s) ∈ slots) {o : Oper} (ho : ops[i]? = some o) (hd : o.dst = some s)
    (hop : ∀ a w K, Below w0.heap.size w0 w → a.tmps.size = a0.tmps.size → a.defers = a0.defers → (∀ s, (∀ p ∈ slots, p.2 ≠ s) → a.tmps.getD s undef = a0.tmps.getD s undef) →
      (∀ p ∈ slots, waitsFor md ops i p.1 = true → prop p.1 (a.tmps.getD p.2 undef) w) → (∀ v w', Below w.heap.size w w' → prop i v w' → (i ∈ fresh → w.heap.size ≤ blk v) → K (a.put o.dst v) w') →
      if Region.wanted o (yielded ops a.tmps) = true then Oper.wp P o a w K Q else K (a.put o.dst undef) w)
    (listed : Array Bool) (a : Act) (w : World) (h : LooseAp w0 a0 slots prop fresh listed a w) (hr : i ∈ Region.ready md ops listed) :
    wpOp P ops Q i (LooseAp w0 a0 slots prop fresh (listed.setIfInBounds i true)) a w := by
  refine wpOp_step ho fun K hK => ?_
  refine hop a w K h.base.below h.base.size h.base.defers h.base.same (fun p hp hwt => h.base.fact p hp (ready_has hr hwt)) fun v w' hb hv hf => hK _ _ ?_
  rw [hd]
  refine ⟨loose_put hinj hinj1 N hN hlt hst hi h.base hb hv, ?_⟩
  have hsz : s < a.tmps.size := by rw [h.base.size, hN]; exact hlt _ hi
  have hold : ∀ p ∈ slots, p.1 ≠ i → (a.put (some s) v).tmps.getD p.2 undef = a.tmps.getD p.2 undef := fun p hp hne => by
    refine put_getD_ne _ _ _ _ fun e => hne ?_
    have : ∀ (l : List (Nat × Nat)), (l.map (·.2)).Nodup → p ∈ l → (i, s) ∈ l → p = (i, s) := by
      intro l hl h1 h2
      induction l with
      | nil => cases h1
      | cons q l ih =>
        rw [List.map_cons, List.nodup_cons] at hl
        rcases List.mem_cons.1 h1 with rfl | h1
        · rcases List.mem_cons.1 h2 with h2 | h2
          · exact h2.symm
          · exact absurd (List.mem_map.2 ⟨(i, s), h2, e⟩) hl.1
        · rcases List.mem_cons.1 h2 with h2 | h2
          · rw [← h2] at hl
            exact absurd (List.mem_map.2 ⟨p, h1, e.symm⟩) hl.1
          · exact ih hl.2 h1 h2
    rw [this slots hinj hp hi]
  have hlist : ∀ j, j ≠ i → (listed.setIfInBounds i true).getD j false = true → listed.getD j false = true := fun j hj hl => by
    rwa [getD_set_ne false (fun e4 => hj e4.symm)] at hl
  intro p hp q hq hpf hqf hpq hlp hlq
  by_cases ep : p.1 = i
  · have hp2 := slot_eq hinj1 hp hi ep
    subst hp2
    have hqi : q.1 ≠ i := fun e => hpq (ep.trans e.symm)
    rw [put_getD_eq _ _ _ hsz, hold q hq hqi]
    have h1 := hf hpf
    have h2 := hfr q.1 hqf _ _ (h.base.fact q hq (hlist _ hqi hlq))
    omega
  · by_cases eq : q.1 = i
    · have hq2 := slot_eq hinj1 hq hi eq
      subst hq2
      rw [put_getD_eq _ _ _ hsz, hold p hp ep]
      have h1 := hf hqf
      have h2 := hfr p.1 hpf _ _ (h.base.fact p hp (hlist _ ep hlp))
      omega
    · rw [hold p hp ep, hold q hq eq]
      exact h.apart p hp q hq hpf hqf hpq (hlist _ ep hlp) (hlist _ eq hlq)
/-- The same until operation c has come up. -/
theorem wpAnyU_loose {L : List Nat} {fins : List (Array Bool × Nat)} {S : World → Prop} {c : Nat} (I : Array Bool → Act → World → Prop) (hS : ∀ l a w, I l a w → S w) (hc : L.contains c = false)
    (hstep : ∀ i ∈ L, ∀ listed a w, I listed a w → i ∈ Region.ready md ops listed → wpOp P ops Q i (I (listed.setIfInBounds i true)) a w)
    (hend : ∀ f ∈ fins, ∀ a w, I f.1 a w → wpAnyU P md ops Q S c f.2 f.1 a w) :
    ∀ (k : Nat) (listed : Array Bool) (a : Act) (w : World), looseB md ops L fins k listed = true → I listed a w → wpAnyU P md ops Q S c k listed a w
  | 0, listed, a, w, hB, hI => hend (listed, 0) (by simpa [looseB] using hB) a w hI
  | k + 1, listed, a, w, hB, hI => by
    rw [looseB, Bool.or_eq_true] at hB
    rcases hB with hB | hB
    · exact hend (listed, k + 1) (by simpa using hB) a w hI
    rw [Bool.and_eq_true, List.all_eq_true] at hB
    refine ⟨fun h0 => ?_, fun i hi => ?_⟩
    · rw [h0] at hB
      simp at hB
    · have h := hB.2 i hi
      rw [Bool.and_eq_true] at h
      refine wpOp_mono (fun a' w' h' => ⟨fun e => ?_, fun _ => ⟨hS _ _ _ h', wpAnyU_loose I hS hc hstep hend k _ a' w' h.2 h'⟩⟩) (hstep i (by simpa using h.1) listed a w hI hi)
      rw [e, hc] at h
      exact absurd h.1 (by simp)
/-- One operation can come up, and it isn't c. -/
theorem wpAnyU_one {i c : Nat} {o : Oper} {fuel : Nat} {listed : Array Bool} {a : Act} {w : World} {S : World → Prop} (hr : Region.ready md ops listed = [i]) (hic : i ≠ c) (ho : ops[i]? = some o)
    (h : ∀ K' : Act → World → Prop, Shut (∀ a w, S w → wpAnyU P md ops Q S c fuel (listed.setIfInBounds i true) a w → K' a w) → if Region.wanted o (yielded ops a.tmps) = true then Oper.wp P o a w K' Q else K' (a.put o.dst undef) w) : wpAnyU P md ops Q S c (fuel + 1) listed a w := by
  refine ⟨fun h0 => (by rw [hr] at h0; cases h0), fun j hj => ?_⟩
  rw [hr] at hj
  obtain rfl : j = i := by simpa using hj
  refine wpOp_step ho fun K' hK => h K' fun a' w' hS h' => hK a' w' ⟨fun e => absurd e hic, fun _ => ⟨hS, h'⟩⟩
/-- A whole array stored. -/
theorem store_op {w : World} {o : Oper} {a : Act} {K : Act → World → Prop} (hgd : o.guard = none) (t : TypeId) (x y : Operand) (ho : o.op = .store t x y) (b off : Nat) (cs : Array Value) (hx : a.eval x = .pointer (some ⟨b, off, none⟩)) (hy : a.eval y = .agg cs) (ht : w.there b off cs.size) (hi : (P.info? t).map (·.size) = some cs.size) (h1 : cs.all (·.oneCell') = true)
    (h : K (a.put o.dst undef) (w.setCells b off cs.toList)) : if Region.wanted o (yielded ops a.tmps) = true then Oper.wp P o a w K Q else K (a.put o.dst undef) w := by
  rw [if_pos (by simp [Region.wanted, hgd])]
  exact wp_store_mid t x y ho b off cs hx hy ht hi h1 h
/-- A range in a block that stood. -/
theorem range_on {w w' : World} {b off : Nat} {cs : List Value} (h : w.rangeAt b off cs) (hlt : b < w.heap.size) (hb : Below w.heap.size w w') : w'.rangeAt b off cs := by
  intro j v hj
  rw [World.cell?_of_block (w := w) (hb.block b hlt)]
  exact h j v hj
/-- A call of a Go function. -/
theorem call_op {w : World} {o : Oper} {a : Act} {K : Act → World → Prop} (hgd : o.guard = none) (f : FuncId) (args : List Operand) (tys : Array TypeId) (ho : o.op = .call { callee := .value (.func f), args := args.toArray, argTypes := tys }) (vs : List Value) (hv : args.map a.eval = vs) (hcf : ∀ args w, (callFunc f args).run P w = .ok (.enter f args) w)
    {R : Ending → World → Prop} (hc : Calls P f vs.toArray w R) (h : ∀ e w', R e w' → ∃ v, e = .returned v ∧ K (a.put o.dst v) w') : if Region.wanted o (yielded ops a.tmps) = true then Oper.wp P o a w K Q else K (a.put o.dst undef) w := by
  rw [if_pos (by simp [Region.wanted, hgd])]
  unfold Oper.wp
  simp [execOp, ho, resolve, invoke, Act.eval, Deferred.ofValue, hv, hcf, Oper.upon]
  refine hc.mono fun e w' hR => ?_
  obtain ⟨v, rfl, hk⟩ := h e w' hR
  exact hk
theorem enters {f : FuncId} {fn : Func} (hf : P.funcs[f]? = some fn) (hn : (fn.name == "runtime.NumGoroutine") = false) (hb : fn.body.isNone = false) (args : Array Value) (w : World) : (callFunc f args).run P w = .ok (.enter f args) w := by
  have hn' : fn.name ≠ "runtime.NumGoroutine" := by simpa using hn
  have hb' : fn.body ≠ none := by intro e; rw [e] at hb; cases hb
  simp [callFunc, hf, hn', hb']
/-- An operation that only yields. -/
theorem quiet_op {w : World} {o : Oper} {a : Act} {K : Act → World → Prop} (hgd : o.guard = none) (v : Value) (hr : (execOp a.eval o).run P w = .ok (.value v) w) (h : K (a.put o.dst v) w) : if Region.wanted o (yielded ops a.tmps) = true then Oper.wp P o a w K Q else K (a.put o.dst undef) w := by
  rw [if_pos (by simp [Region.wanted, hgd])]
  unfold Oper.wp
  rw [hr]
  exact h
theorem move_op {w : World} {o : Oper} {a : Act} {K : Act → World → Prop} (hgd : o.guard = none) (x : Operand) (ho : o.op = .move x) (v : Value) (hx : a.eval x = v) (h : K (a.put o.dst v) w) : if Region.wanted o (yielded ops a.tmps) = true then Oper.wp P o a w K Q else K (a.put o.dst undef) w := by
  refine quiet_op hgd v ?_ h
  simp [execOp, ho, hx]
theorem extract_op {w : World} {o : Oper} {a : Act} {K : Act → World → Prop} (hgd : o.guard = none) (x : Operand) (i : Nat) (ho : o.op = .extract x i) (vs : Array Value) (hx : a.eval x = .tuple vs) (v : Value) (hv : vs[i]? = some v) (h : K (a.put o.dst v) w) : if Region.wanted o (yielded ops a.tmps) = true then Oper.wp P o a w K Q else K (a.put o.dst undef) w := by
  refine quiet_op hgd v ?_ h
  simp [execOp, ho, hx, Instr.extract, hv]
/-- A whole array loaded. -/
theorem load_op {w : World} {o : Oper} {a : Act} {K : Act → World → Prop} (hgd : o.guard = none) (t : TypeId) (x : Operand) (ho : o.op = .load t x) (b off : Nat) (hx : a.eval x = .pointer (some ⟨b, off, none⟩)) (cs : List Value) (d : TypeDesc) (hc : w.rangeAt b off cs)
    (hu : P.underlying t = some d) (hd : d.isRow = true) (hi : (P.info? t).map (·.size) = some cs.length) (h : K (a.put o.dst (.agg cs.toArray)) w) : if Region.wanted o (yielded ops a.tmps) = true then Oper.wp P o a w K Q else K (a.put o.dst undef) w := by
  rw [if_pos (by simp [Region.wanted, hgd])]
  exact wp_load_mid t x ho b off hx cs d hc hu hd hi h
/-- A new variable. -/
theorem alloc_op {w : World} {o : Oper} {a : Act} {K : Act → World → Prop} (hgd : o.guard = none) (t : TypeId) (ho : o.op = .alloc t) (zs : List Value) (hz : ∀ w, (zeroValue t).run P w = .ok (.agg zs.toArray) w)
    (h : ∀ w', Below w.heap.size w w' → Cells w' w.heap.size zs t → K (a.put o.dst (.pointer (some ⟨w.heap.size, 0, none⟩))) w') : if Region.wanted o (yielded ops a.tmps) = true then Oper.wp P o a w K Q else K (a.put o.dst undef) w := by
  rw [if_pos (by simp [Region.wanted, hgd])]
  unfold Oper.wp
  simp only [execOp, ho, Instr.alloc, hz, newVar, Value.cells, Sem.run_bind, Sem.run_pure, Result.andThen_ok, go_sem]
  exact h _ ((Below.refl _ _).alloc (Nat.le_refl _) _) (Cells.new w _ _)
/-- A literal of a slice. -/
theorem lit_op {w : World} {o : Oper} {a : Act} {K : Act → World → Prop} (hgd : o.guard = none) (t : TypeId) (n : Nat) (parts : List (Nat × Operand)) (ho : o.op = .buildSlice t n parts.toArray) (ps : List (Nat × Value)) (hp : (parts.map fun (i, x) => (i, a.eval x)) = ps) (e : TypeId) (vs : List Value)
    (hr : ∀ w, (Instr.buildSlice t n ps.toArray).run P w = .ok (.slice (some ⟨w.heap.size, 0, none⟩) n n) (w.alloc (.cells vs.toArray e)))
    (h : ∀ w', Below w.heap.size w w' → Cells w' w.heap.size vs e → K (a.put o.dst (.slice (some ⟨w.heap.size, 0, none⟩) n n)) w') : if Region.wanted o (yielded ops a.tmps) = true then Oper.wp P o a w K Q else K (a.put o.dst undef) w := by
  rw [if_pos (by simp [Region.wanted, hgd])]
  unfold Oper.wp
  simp only [execOp, ho, List.map_toArray, hp, hr, Sem.run_bind, Sem.run_pure, Result.andThen_ok]
  exact h _ ((Below.refl _ _).alloc (Nat.le_refl _) _) (Cells.new w _ _)
end
set_option maxRecDepth 100000 in
theorem loose_frame32 (a : Act) (hs : a.tmps.size = 32) (hd : a.defers = []) : ∃ u : Nat → Value, a = ⟨(u 0 :: u 1 :: u 2 :: u 3 :: u 4 :: u 5 :: u 6 :: u 7 :: u 8 :: u 9 :: u 10 :: u 11 :: u 12 :: u 13 :: u 14 :: u 15 :: u 16 :: u 17 :: u 18 :: u 19 :: u 20 :: u 21 :: u 22 :: u 23 :: u 24 :: u 25 :: u 26 :: u 27 :: u 28 :: u 29 :: u 30 :: u 31 :: []).toArray, []⟩ := by
  obtain ⟨u, h⟩ := frame_of 32 a hs hd
  exact ⟨u, h⟩
set_option maxRecDepth 100000 in
theorem loose_frame36 (a : Act) (hs : a.tmps.size = 36) (hd : a.defers = []) : ∃ u : Nat → Value, a = ⟨(u 0 :: u 1 :: u 2 :: u 3 :: u 4 :: u 5 :: u 6 :: u 7 :: u 8 :: u 9 :: u 10 :: u 11 :: u 12 :: u 13 :: u 14 :: u 15 :: u 16 :: u 17 :: u 18 :: u 19 :: u 20 :: u 21 :: u 22 :: u 23 :: u 24 :: u 25 :: u 26 :: u 27 :: u 28 :: u 29 :: u 30 :: u 31 :: u 32 :: u 33 :: u 34 :: u 35 :: []).toArray, []⟩ := by
  obtain ⟨u, h⟩ := frame_of 36 a hs hd
  exact ⟨u, h⟩
set_option maxRecDepth 100000 in
theorem loose_frame44 (a : Act) (hs : a.tmps.size = 44) (hd : a.defers = []) : ∃ u : Nat → Value, a = ⟨(u 0 :: u 1 :: u 2 :: u 3 :: u 4 :: u 5 :: u 6 :: u 7 :: u 8 :: u 9 :: u 10 :: u 11 :: u 12 :: u 13 :: u 14 :: u 15 :: u 16 :: u 17 :: u 18 :: u 19 :: u 20 :: u 21 :: u 22 :: u 23 :: u 24 :: u 25 :: u 26 :: u 27 :: u 28 :: u 29 :: u 30 :: u 31 :: u 32 :: u 33 :: u 34 :: u 35 :: u 36 :: u 37 :: u 38 :: u 39 :: u 40 :: u 41 :: u 42 :: u 43 :: []).toArray, []⟩ := by
  obtain ⟨u, h⟩ := frame_of 44 a hs hd
  exact ⟨u, h⟩
set_option maxRecDepth 100000 in
theorem loose_frame63 (a : Act) (hs : a.tmps.size = 63) (hd : a.defers = []) : ∃ u : Nat → Value, a = ⟨(u 0 :: u 1 :: u 2 :: u 3 :: u 4 :: u 5 :: u 6 :: u 7 :: u 8 :: u 9 :: u 10 :: u 11 :: u 12 :: u 13 :: u 14 :: u 15 :: u 16 :: u 17 :: u 18 :: u 19 :: u 20 :: u 21 :: u 22 :: u 23 :: u 24 :: u 25 :: u 26 :: u 27 :: u 28 :: u 29 :: u 30 :: u 31 :: u 32 :: u 33 :: u 34 :: u 35 :: u 36 :: u 37 :: u 38 :: u 39 :: u 40 :: u 41 :: u 42 :: u 43 :: u 44 :: u 45 :: u 46 :: u 47 :: u 48 :: u 49 :: u 50 :: u 51 :: u 52 :: u 53 :: u 54 :: u 55 :: u 56 :: u 57 :: u 58 :: u 59 :: u 60 :: u 61 :: u 62 :: []).toArray, []⟩ := by
  obtain ⟨u, h⟩ := frame_of 63 a hs hd
  exact ⟨u, h⟩
set_option maxRecDepth 100000 in
theorem loose_frame65 (a : Act) (hs : a.tmps.size = 65) (hd : a.defers = []) : ∃ u : Nat → Value, a = ⟨(u 0 :: u 1 :: u 2 :: u 3 :: u 4 :: u 5 :: u 6 :: u 7 :: u 8 :: u 9 :: u 10 :: u 11 :: u 12 :: u 13 :: u 14 :: u 15 :: u 16 :: u 17 :: u 18 :: u 19 :: u 20 :: u 21 :: u 22 :: u 23 :: u 24 :: u 25 :: u 26 :: u 27 :: u 28 :: u 29 :: u 30 :: u 31 :: u 32 :: u 33 :: u 34 :: u 35 :: u 36 :: u 37 :: u 38 :: u 39 :: u 40 :: u 41 :: u 42 :: u 43 :: u 44 :: u 45 :: u 46 :: u 47 :: u 48 :: u 49 :: u 50 :: u 51 :: u 52 :: u 53 :: u 54 :: u 55 :: u 56 :: u 57 :: u 58 :: u 59 :: u 60 :: u 61 :: u 62 :: u 63 :: u 64 :: []).toArray, []⟩ := by
  obtain ⟨u, h⟩ := frame_of 65 a hs hd
  exact ⟨u, h⟩
end Go.Proofs.YtiadgningbogmaaDoor
