/- Part 5 of what the laws of this seat share: WFlat, FProduct, FProd2, FElem, FPow, FEq, WTab, FRoot, FRead. -/
import Derived.IntWalk
import Derived.Stop.BytesEq
import Derived.Test.YticgkabamelddaaDoorPart4
namespace Go.Proofs.YticgkabamelddaaDoor
open Go.RowKit
section
variable {P : Program} {ops : Array Oper} {Q : Exit → Act → World → Prop} {md : Region.Mode} {L : List Nat}
/-- Operation j writes slot s. -/
def dstIs (ops : Array Oper) (j s : Nat) : Bool := match ops[j]? with
  | some o => o.dst == some s
  | none => false
/-- Operation i waits for earlier operations of L alone; all others wait, by way of L's, for all of L, or for one that isn't of L. -/
def flatB (md : Region.Mode) (ops : Array Oper) (L : List Nat) : Bool :=
  (L.all fun l => match ops[l]? with
    | some o => o.after.all fun e => !Region.binds md e || (L.contains e.on && Nat.blt e.on l)
    | none => false) &&
  ((List.range ops.size).all fun t => L.contains t || ((List.range t).any fun m => !L.contains m && waitsFor md ops t m) || L.all fun l => waitsFor md ops t l || L.any fun m => Nat.blt l m && waitsFor md ops m l)
/-- What holds of the listed ones. -/
structure Down (md : Region.Mode) (ops : Array Oper) (L : List Nat) (listed : Array Bool) : Prop where
  size : listed.size = ops.size
  only : ∀ j, listed.getD j false = true → j ∈ L
  down : ∀ i j, listed.getD i false = true → waitsFor md ops i j = true → listed.getD j false = true
theorem waits_of {i : Nat} {o : Oper} {e : Edge} (ho : ops[i]? = some o) (he : e ∈ o.after) (hb : Region.binds md e = true) : waitsFor md ops i e.on = true := by
  simp only [waitsFor, ho]
  exact Array.any_eq_true'.2 ⟨e, he, by simp [hb]⟩
theorem flat_ready {listed : Array Bool} (hB : flatB md ops L = true) : ∀ l, l ∈ L → listed.size = ops.size → listed.getD l false = false → ∃ i, i ∈ Region.ready md ops listed := by
  intro l
  induction l using Nat.strongRecOn with
  | _ l ih =>
    intro hl hsz hun
    rw [flatB, Bool.and_eq_true, List.all_eq_true] at hB
    have h1 := hB.1 l hl
    cases ho : ops[l]? with
    | none => rw [ho] at h1; cases h1
    | some o =>
      simp only [ho] at h1
      rw [Array.all_eq_true'] at h1
      by_cases hall : ∀ e ∈ o.after, Region.binds md e = true → listed.getD e.on false = true
      · refine ⟨l, mem_ready.2 ⟨?_, o, ho, hall⟩⟩
        have hlt : l < listed.size := by rw [hsz]; exact (Array.getElem?_eq_some_iff.1 ho).1
        simp [hlt] at hun ⊢
        exact hun
      · have : ∃ e ∈ o.after, Region.binds md e = true ∧ listed.getD e.on false = false := by
          refine Classical.byContradiction fun hc => hall fun e he hb => ?_
          cases hv : listed.getD e.on false with
          | true => rfl
          | false => exact absurd ⟨e, he, hb, hv⟩ hc
        obtain ⟨e, he, hb, hv⟩ := this
        have h2 := h1 e he
        rw [hb] at h2
        simp only [Bool.not_true, Bool.false_or, Bool.and_eq_true, List.contains_iff_mem] at h2
        exact ih e.on (by have := h2.2; simpa [Nat.blt_eq] using this) h2.1 hsz hv
theorem flat_in {listed : Array Bool} (hB : flatB md ops L = true) (hD : Down md ops L listed) {i : Nat} (hi : i ∈ Region.ready md ops listed) (hiL : i ∉ L) : ∀ n l, ops.size - l ≤ n → l ∈ L → listed.getD l false = true := by
  have hsz : i < ops.size := by
    obtain ⟨_, o, ho, _⟩ := mem_ready.1 hi
    exact (Array.getElem?_eq_some_iff.1 ho).1
  rw [flatB, Bool.and_eq_true, List.all_eq_true, List.all_eq_true] at hB
  have h2 := hB.2 i (List.mem_range.2 hsz)
  rw [Bool.or_eq_true, Bool.or_eq_true, List.contains_iff_mem, or_iff_right hiL, List.all_eq_true] at h2
  replace h2 := h2.resolve_left fun h => by
    obtain ⟨m, hm, h⟩ := List.any_eq_true.1 h
    rw [Bool.and_eq_true] at h
    have h4 := hD.only m (ready_has hi h.2)
    rw [List.contains_iff_mem.2 h4] at h
    exact absurd h.1 (by decide)
  intro n
  induction n with
  | zero =>
    intro l hn hl
    have h1 := hB.1 l hl
    rw [Array.getElem?_eq_none (by omega)] at h1
    cases h1
  | succ n ih =>
    intro l hn hl
    have h3 := h2 l hl
    rw [Bool.or_eq_true, List.any_eq_true] at h3
    rcases h3 with h3 | ⟨m, hm, h3⟩
    · exact ready_has hi h3
    · rw [Bool.and_eq_true] at h3
      have hlt : l < m := by simpa [Nat.blt_eq] using h3.1
      have hm1 := hB.1 m hm
      have hms : m < ops.size := by
        rcases Nat.lt_or_ge m ops.size with h | h
        · exact h
        · rw [Array.getElem?_eq_none h] at hm1; cases hm1
      exact hD.down m l (ih m (by omega) hm) h3.2
/-- All of L have come up. -/
def fullOf (n : Nat) (L : List Nat) : Array Bool := ((List.range n).map fun i => L.contains i).toArray
theorem flat_full {listed : Array Bool} (hD : Down md ops L listed) (hall : ∀ l ∈ L, listed.getD l false = true) : listed = fullOf ops.size L := by
  apply Array.ext
  · rw [hD.size, fullOf]; simp
  · intro i h1 h2
    have e : listed[i] = listed.getD i false := by simp [h1]
    rw [e]
    simp only [fullOf, List.getElem_toArray, List.getElem_map, List.getElem_range]
    by_cases hi : i ∈ L
    · rw [hall i hi]; simp [hi]
    · cases hv : listed.getD i false with
      | true => exact absurd (hD.only i hv) hi
      | false => simp [hi]
theorem Down.more {listed : Array Bool} (hD : Down md ops L listed) {i : Nat} (hi : i ∈ Region.ready md ops listed) (hiL : i ∈ L) : Down md ops L (listed.setIfInBounds i true) := by
  refine ⟨by rw [Array.size_setIfInBounds, hD.size], fun j hj => ?_, fun k j hk hw => ?_⟩
  · by_cases e : i = j
    · exact e ▸ hiL
    · rw [getD_set_ne false e] at hj
      exact hD.only j hj
  · by_cases e : i = k
    · subst e
      exact getD_set_true (ready_has hi hw)
    · rw [getD_set_ne false e] at hk
      exact getD_set_true (hD.down k j hk hw)
theorem count_more {listed : Array Bool} {i : Nat} (hi : i ∈ Region.ready md ops listed) (hsz : listed.size = ops.size) : (listed.setIfInBounds i true).toList.countP id = listed.toList.countP id + 1 := by
  obtain ⟨h0, o, ho, _⟩ := mem_ready.1 hi
  have hlt : i < listed.size := by rw [hsz]; exact (Array.getElem?_eq_some_iff.1 ho).1
  have hv : listed[i] = false := by simpa [hlt] using h0
  rw [Array.toList_setIfInBounds, List.countP_set (by simpa using hlt)]
  simp [hv]
theorem wpAny_flat (hB : flatB md ops L = true) (I : Array Bool → Act → World → Prop)
    (hstep : ∀ i ∈ L, ∀ listed a w, I listed a w → i ∈ Region.ready md ops listed → wpOp P ops Q i (I (listed.setIfInBounds i true)) a w) (rem : Nat) (hrem : rem + (fullOf ops.size L).toList.countP id = ops.size)
    (hend : ∀ a w, I (fullOf ops.size L) a w → wpAny P md ops Q rem (fullOf ops.size L) a w) :
    ∀ (k : Nat) (listed : Array Bool) (a : Act) (w : World), Down md ops L listed → k + listed.toList.countP id = ops.size → I listed a w → wpAny P md ops Q k listed a w := by
  intro k
  induction k with
  | zero =>
    intro listed a w hD hk hI
    by_cases hall : ∀ l ∈ L, listed.getD l false = true
    · have e := flat_full hD hall
      subst e
      have : rem = 0 := by omega
      subst this
      exact hend a w hI
    · have : ∃ l ∈ L, listed.getD l false = false := by
        refine Classical.byContradiction fun hc => hall fun l hl => ?_
        cases hv : listed.getD l false with
        | true => rfl
        | false => exact absurd ⟨l, hl, hv⟩ hc
      obtain ⟨l, hl, hun⟩ := this
      obtain ⟨i, hi⟩ := flat_ready hB l hl hD.size hun
      have h1 := count_more hi hD.size
      have h2 := List.countP_le_length (p := id) (l := (listed.setIfInBounds i true).toList)
      rw [Array.length_toList, Array.size_setIfInBounds, hD.size] at h2
      omega
  | succ k ih =>
    intro listed a w hD hk hI
    by_cases hall : ∀ l ∈ L, listed.getD l false = true
    · have e := flat_full hD hall
      subst e
      have : rem = k + 1 := by omega
      subst this
      exact hend a w hI
    · have : ∃ l ∈ L, listed.getD l false = false := by
        refine Classical.byContradiction fun hc => hall fun l hl => ?_
        cases hv : listed.getD l false with
        | true => rfl
        | false => exact absurd ⟨l, hl, hv⟩ hc
      obtain ⟨l, hl, hun⟩ := this
      refine ⟨fun h0 => ?_, fun i hi => ?_⟩
      · obtain ⟨i, hi⟩ := flat_ready hB l hl hD.size hun
        rw [h0] at hi; cases hi
      · have hiL : i ∈ L := by
          refine Classical.byContradiction fun hn => ?_
          have := flat_in hB hD hi hn (ops.size - l) l (Nat.le_refl _) hl
          rw [this] at hun; cases hun
        have h1 := count_more hi hD.size
        exact wpOp_mono (fun a' w' h' => ih _ a' w' (hD.more hi hiL) (by omega) h') (hstep i hiL listed a w hI hi)
/-- Only new memory; each slot that no unlisted one of L writes is as it will be. -/
structure FlatG (ops : Array Oper) (L : List Nat) (w0 : World) (ds : List Deferred) (n : Nat) (pr : Nat → Value → World → Prop) (listed : Array Bool) (a : Act) (w : World) : Prop where
  below : Below w0.heap.size w0 w
  size : a.tmps.size = n
  defers : a.defers = ds
  fact : ∀ s, (∀ j ∈ L, dstIs ops j s = true → listed.getD j false = true) → pr s (a.tmps.getD s undef) w
/-- Slot s stands when operation i may come up. -/
def okB (md : Region.Mode) (ops : Array Oper) (L : List Nat) (i s : Nat) : Bool := L.all fun j => !dstIs ops j s || waitsFor md ops i j
/-- What is asked of each operation: that it yields what is asked of its slot. -/
structure StepG (P : Program) (md : Region.Mode) (ops : Array Oper) (Q : Exit → Act → World → Prop) (L : List Nat) (w0 : World) (n : Nat) (pr : Nat → Value → World → Prop) (i : Nat) : Prop where
  step : ∃ o s, ops[i]? = some o ∧ o.dst = some s ∧ o.guard = none ∧ Nat.blt s n = true ∧ (L.all fun j => j == i || !dstIs ops j s) = true ∧
    ∀ a w K, Below w0.heap.size w0 w → (∀ t, okB md ops L i t = true → pr t (a.tmps.getD t undef) w) → (∀ v w', Below w.heap.size w w' → pr s v w' → K (a.put o.dst v) w') → Oper.wp P o a w K Q
theorem flat_step {w0 : World} {ds : List Deferred} {n : Nat} {pr : Nat → Value → World → Prop} (hm : ∀ s v w w', pr s v w → Below w.heap.size w w' → pr s v w') {i : Nat} (h : StepG P md ops Q L w0 n pr i) (listed : Array Bool) (a : Act) (w : World) (hI : FlatG ops L w0 ds n pr listed a w) (hr : i ∈ Region.ready md ops listed) :
    wpOp P ops Q i (FlatG ops L w0 ds n pr (listed.setIfInBounds i true)) a w := by
  obtain ⟨o, s, ho, hd, hg, hs, hone, hstep⟩ := h.step
  rw [List.all_eq_true] at hone
  have hs' : s < n := by simpa [Nat.blt_eq] using hs
  refine wpOp_step ho fun K hK => ?_
  rw [if_pos (by simp [Region.wanted, hg])]
  refine hstep a w K hI.below (fun t ht => hI.fact t fun j hj hjs => ?_) fun v w' hb hv => hK _ _ ?_
  · rw [okB, List.all_eq_true] at ht
    have h1 := ht j hj
    rw [hjs] at h1
    exact ready_has hr (by simpa using h1)
  · rw [hd]
    refine ⟨hI.below.trans (hb.mono hI.below.size), ?_, ?_, fun t ht => ?_⟩
    · rw [← hI.size]; simp [Act.put]
    · rw [← hI.defers]; rfl
    · by_cases e : s = t
      · subst e
        rw [put_getD_eq _ _ _ (by rw [hI.size]; exact hs')]
        exact hv
      · rw [put_getD_ne _ _ _ _ e]
        refine hm _ _ _ _ (hI.fact t fun j hj hjt => ?_) hb
        have h1 := ht j hj hjt
        by_cases ej : j = i
        · subst ej
          simp only [dstIs, ho, hd] at hjt
          exact absurd (by simpa using hjt) e
        · rwa [getD_set_ne false (fun e4 => ej e4.symm)] at h1
theorem wpAny_flatG (hB : flatB md ops L = true) (w0 : World) (a0 : Act) (n : Nat) (pr : Nat → Value → World → Prop) (hm : ∀ s v w w', pr s v w → Below w.heap.size w w' → pr s v w') (keep : List Nat) (hkeep : ((List.range n).all fun s => keep.contains s || L.any fun j => dstIs ops j s && Nat.blt j ops.size) = true)
    (hk : ∀ s ∈ keep, pr s (a0.tmps.getD s undef) w0) (hbig : ∀ s, n ≤ s → pr s undef w0) (hsz : a0.tmps.size = n) (hstep : ∀ i ∈ L, StepG P md ops Q L w0 n pr i) (rem : Nat) (hrem : rem + (fullOf ops.size L).toList.countP id = ops.size)
    (hend : ∀ a w, Below w0.heap.size w0 w → a.tmps.size = n → a.defers = a0.defers → (∀ s, pr s (a.tmps.getD s undef) w) → wpAny P md ops Q rem (fullOf ops.size L) a w) : wpAny P md ops Q ops.size (Array.replicate ops.size false) a0 w0 := by
  rw [List.all_eq_true] at hkeep
  have hno : ∀ j, (Array.replicate ops.size false).getD j false = false := fun j => by
    by_cases h : j < ops.size <;> simp [h]
  have h0 : (Array.replicate ops.size false).toList.countP id = 0 := by simp [List.countP_replicate]
  refine wpAny_flat hB (FlatG ops L w0 a0.defers n pr) (fun i hi => flat_step hm (hstep i hi)) rem hrem (fun a w hI => ?_) ops.size _ a0 w0 ⟨by simp, fun j hj => ?_, fun i j hi => ?_⟩ (by omega) ⟨Below.refl _ _, hsz, rfl, fun s hs => ?_⟩
  · refine hend a w hI.below hI.size hI.defers fun s => hI.fact s fun j hj hjs => ?_
    have hlt : j < ops.size := by
      unfold dstIs at hjs
      rcases Nat.lt_or_ge j ops.size with h | h
      · exact h
      · rw [Array.getElem?_eq_none h] at hjs; cases hjs
    simp [fullOf, hlt, hj]
  · rw [hno] at hj; cases hj
  · rw [hno] at hi; cases hi
  · rcases Nat.lt_or_ge s n with h | h
    · have h1 := hkeep s (List.mem_range.2 h)
      rw [Bool.or_eq_true, List.contains_iff_mem, List.any_eq_true] at h1
      rcases h1 with h1 | ⟨j, hj, h1⟩
      · exact hk s h1
      · rw [Bool.and_eq_true] at h1
        have := hs j hj h1.1
        rw [hno] at this; cases this
    · have e : a0.tmps.getD s undef = undef := by simp [Array.getElem?_eq_none (show a0.tmps.size ≤ s by omega)]
      rw [e]
      exact hbig s h
/-- What is asked of each operation: that it yields what stands in its slot at the end. -/
structure StepOk (P : Program) (md : Region.Mode) (ops : Array Oper) (Q : Exit → Act → World → Prop) (L : List Nat) (w0 : World) (vs : List Value) (i : Nat) : Prop where
  step : ∃ o s, ops[i]? = some o ∧ o.dst = some s ∧ o.guard = none ∧ Nat.blt s vs.length = true ∧ (L.all fun j => j == i || !dstIs ops j s) = true ∧
    ∀ a w K, Below w0.heap.size w0 w → (∀ t, okB md ops L i t = true → a.tmps.getD t undef = vs.getD t undef) → (∀ w', Below w.heap.size w w' → K (a.put o.dst (vs.getD s undef)) w') → Oper.wp P o a w K Q
theorem frame_is {a : Act} {vs : List Value} {ds : List Deferred} (hs : a.tmps.size = vs.length) (hd : a.defers = ds) (hall : ∀ s, a.tmps.getD s undef = vs.getD s undef) : a = ⟨vs.toArray, ds⟩ := by
  obtain ⟨t, d⟩ := a
  have e1 : t = vs.toArray := by
    apply Array.ext
    · rw [List.size_toArray]; exact hs
    · intro i h1 h2
      have := hall i
      have h3 : i < vs.length := by simpa using h2
      simpa [h1, h3] using this
  have e2 : d = ds := hd
  rw [e1, e2]
theorem wpAny_flatAt (hB : flatB md ops L = true) (w0 : World) (a0 : Act) (vs : List Value) (keep : List Nat) (hkeep : ((List.range vs.length).all fun s => keep.contains s || L.any fun j => dstIs ops j s && Nat.blt j ops.size) = true)
    (hk : ∀ s ∈ keep, a0.tmps.getD s undef = vs.getD s undef) (hsz : a0.tmps.size = vs.length) (hstep : ∀ i ∈ L, StepOk P md ops Q L w0 vs i) (rem : Nat) (hrem : rem + (fullOf ops.size L).toList.countP id = ops.size)
    (hend : ∀ w, Below w0.heap.size w0 w → wpAny P md ops Q rem (fullOf ops.size L) ⟨vs.toArray, a0.defers⟩ w) : wpAny P md ops Q ops.size (Array.replicate ops.size false) a0 w0 := by
  refine wpAny_flatG hB w0 a0 vs.length (fun s v _ => v = vs.getD s undef) (fun _ _ _ _ h _ => h) keep hkeep hk (fun s h => by simp [h]) hsz (fun i hi => ?_) rem hrem fun a w hb hs hd hall => ?_
  · obtain ⟨o, s, ho, hd, hg, hs, hone, hstep⟩ := (hstep i hi).step
    exact ⟨o, s, ho, hd, hg, hs, hone, fun a w K hb hv hK => hstep a w K hb hv fun w' hb' => hK _ _ hb' rfl⟩
  · rw [frame_is hs hd hall]
    exact hend w hb
/-- The same where operation c makes a new variable, whose address slot sc holds. -/
theorem wpAny_flatNew (hB : flatB md ops L = true) (w0 : World) (a0 : Act) (vs : List Value) (keep : List Nat) (hkeep : ((List.range vs.length).all fun s => keep.contains s || L.any fun j => dstIs ops j s && Nat.blt j ops.size) = true) (c sc : Nat) (t : TypeId) (zs : List Value) (oc : Oper) (hoc : ops[c]? = some oc) (hdc : oc.dst = some sc) (hgc : oc.guard = none) (hop : oc.op = .alloc t) (hz : ∀ w, (zeroValue t).run P w = .ok (.agg zs.toArray) w)
    (hsc : Nat.blt sc vs.length = true) (hone : (L.all fun j => j == c || !dstIs ops j sc) = true) (huse : (L.all fun j => j == c || !okB md ops L j sc) = true) (hkc : keep.contains sc = false)
    (hk : ∀ s ∈ keep, a0.tmps.getD s undef = vs.getD s undef) (hsz : a0.tmps.size = vs.length) (hstep : ∀ i ∈ L, i = c ∨ StepOk P md ops Q L w0 vs i) (rem : Nat) (hrem : rem + (fullOf ops.size L).toList.countP id = ops.size)
    (hend : ∀ w g, Below w0.heap.size w0 w → w0.heap.size ≤ g → Cells w g zs t → wpAny P md ops Q rem (fullOf ops.size L) ⟨(vs.set sc (.pointer (some ⟨g, 0, none⟩))).toArray, a0.defers⟩ w) : wpAny P md ops Q ops.size (Array.replicate ops.size false) a0 w0 := by
  have hsc' : sc < vs.length := by simpa [Nat.blt_eq] using hsc
  refine wpAny_flatG hB w0 a0 vs.length (fun s v w => if s = sc then ∃ g, w0.heap.size ≤ g ∧ v = .pointer (some ⟨g, 0, none⟩) ∧ Cells w g zs t else v = vs.getD s undef) (fun s v w w' h hb => ?_) keep hkeep (fun s hs => ?_) (fun s h => ?_) hsz (fun i hi => ?_) rem hrem fun a w hb hs hd hall => ?_
  · by_cases e : s = sc
    · rw [if_pos e] at h ⊢
      obtain ⟨g, h1, h2, h3⟩ := h
      exact ⟨g, h1, h2, h3.below hb h3.lt⟩
    · rw [if_neg e] at h ⊢
      exact h
  · rw [if_neg (fun e => by rw [← e, List.contains_iff_mem.2 hs] at hkc; cases hkc)]
    exact hk s hs
  · rw [if_neg (by omega)]
    simp [h]
  · by_cases e : i = c
    · subst e
      refine ⟨oc, sc, hoc, hdc, hgc, hsc, hone, fun a w K hb _ hK => ?_⟩
      unfold Oper.wp
      simp only [execOp, hop, Instr.alloc, hz, newVar, Value.cells, Sem.run_bind, Sem.run_pure, Result.andThen_ok, go_sem]
      refine hK _ _ ((Below.refl _ _).alloc (Nat.le_refl _) _) ?_
      rw [if_pos rfl]
      exact ⟨_, hb.size, rfl, Cells.new w _ _⟩
    · obtain ⟨o, s, ho, hd, hg, hs, hone', hstep⟩ := ((hstep i hi).resolve_left e).step
      have hne : s ≠ sc := fun e2 => by
        rw [List.all_eq_true] at hone
        have := hone i hi
        simp [e, dstIs, ho, hd, e2] at this
      refine ⟨o, s, ho, hd, hg, hs, hone', fun a w K hb hv hK => hstep a w K hb (fun t' ht => ?_) fun w' hb' => hK _ _ hb' (by rw [if_neg hne])⟩
      have h1 := hv t' ht
      rwa [if_neg (fun e2 => by
        rw [List.all_eq_true] at huse
        have := huse i hi
        rw [e2] at ht
        simp [e, ht] at this)] at h1
  · have h1 := hall sc
    rw [if_pos rfl] at h1
    obtain ⟨g, h2, h3, h4⟩ := h1
    rw [frame_is (vs := vs.set sc (.pointer (some ⟨g, 0, none⟩))) (by rw [List.length_set]; exact hs) hd fun s => ?_]
    · exact hend w g hb h2 h4
    · by_cases e : s = sc
      · rw [e, h3]; simp [hsc']
      · have h5 := hall s
        rw [if_neg e] at h5
        rw [h5, List.getD_eq_getElem?_getD, List.getD_eq_getElem?_getD, List.getElem?_set_ne (fun e2 => e e2.symm)]
theorem cons_eq {α : Type} {x y : α} {l m : List α} (h : x = y) (hl : l = m) : x :: l = y :: m := by rw [h, hl]
theorem all_nil {p : Nat → Prop} : ∀ i ∈ ([] : List Nat), p i := fun _ h => by cases h
theorem all_cons {p : Nat → Prop} {i : Nat} {l : List Nat} (h : p i) (hl : ∀ j ∈ l, p j) : ∀ j ∈ i :: l, p j := fun j hj => by
  rcases List.mem_cons.1 hj with rfl | hj
  · exact h
  · exact hl j hj
/-- An operation that only yields. -/
theorem flat_pure {o : Oper} {a : Act} {w : World} {K : Act → World → Prop} (v : Value) (hr : (execOp a.eval o).run P w = .ok (.value v) w) (h : K (a.put o.dst v) w) : Oper.wp P o a w K Q := by
  unfold Oper.wp
  rw [hr]
  exact h
/-- An operation that only yields, told by its operands. -/
theorem stepPure {w0 : World} {vs : List Value} {i : Nat} (o : Oper) (s : Nat) (ho : ops[i]? = some o) (hd : o.dst = some s) (hg : o.guard = none) (hs : Nat.blt s vs.length = true) (hone : (L.all fun j => j == i || !dstIs ops j s) = true)
    (hr : ∀ a w, Below w0.heap.size w0 w → (∀ t, okB md ops L i t = true → a.tmps.getD t undef = vs.getD t undef) → (execOp (Act.eval a) o).run P w = .ok (.value (vs.getD s undef)) w) : StepOk P md ops Q L w0 vs i :=
  ⟨o, s, ho, hd, hg, hs, hone, fun a w _K hb hv hK => flat_pure _ (hr a w hb hv) (hK w (Below.refl _ _))⟩
/-- A call of a Go function that makes new memory alone. -/
theorem stepCall {w0 : World} {vs : List Value} {i : Nat} (o : Oper) (s : Nat) (ho : ops[i]? = some o) (hd : o.dst = some s) (hg : o.guard = none) (hs : Nat.blt s vs.length = true) (hone : (L.all fun j => j == i || !dstIs ops j s) = true)
    (f : FuncId) (args : List Operand) (tys : Array TypeId) (hop : o.op = .call { callee := .value (.func f), args := args.toArray, argTypes := tys }) (us : List Value) (hu : ∀ a : Act, (∀ t, okB md ops L i t = true → a.tmps.getD t undef = vs.getD t undef) → args.map a.eval = us)
    (hcf : ∀ args w, (callFunc f args).run P w = .ok (.enter f args) w) (hc : ∀ w, Below w0.heap.size w0 w → Calls P f us.toArray w fun e w' => e = .returned (vs.getD s undef) ∧ Below w.heap.size w w') : StepOk P md ops Q L w0 vs i := by
  refine ⟨o, s, ho, hd, hg, hs, hone, fun a w K hb hv hK => ?_⟩
  unfold Oper.wp
  simp [execOp, hop, resolve, invoke, Act.eval, Deferred.ofValue, hu a hv, hcf, Oper.upon]
  refine (hc w hb).mono fun e w' hR => ?_
  obtain ⟨rfl, hb'⟩ := hR
  exact hK w' hb'
theorem exec_move (ρ : Operand → Value) (o : Oper) (x : Operand) (h : o.op = .move x ∨ o.op = .assign x) (v : Value) (hx : ρ x = v) (w : World) : (execOp ρ o).run P w = .ok (.value v) w := by
  rcases h with h | h <;> simp [execOp, h, hx]
theorem exec_not (ρ : Operand → Value) (o : Oper) (t : TypeId) (x : Operand) (h : o.op = .unOp .not t x) (b : Bool) (hx : ρ x = .bool b) (w : World) : (execOp ρ o).run P w = .ok (.value (.bool (!b))) w := by
  simp [execOp, h, hx, Op.unary]
theorem exec_index (ρ : Operand → Value) (o : Oper) (t : TypeId) (x y : Operand) (h : o.op = .indexAddr t x y) (vx vy v : Value) (hx : ρ x = vx) (hy : ρ y = vy) (w : World) (hr : (Instr.indexAt t vx vy).run P w = .ok v w) : (execOp ρ o).run P w = .ok (.value v) w := by
  simp [execOp, h, hx, hy, hr, Result.andThen]
theorem exec_load (ρ : Operand → Value) (o : Oper) (t : TypeId) (x : Operand) (h : o.op = .load t x) (vx v : Value) (hx : ρ x = vx) (w : World) (hr : (Instr.loadAt t vx).run P w = .ok v w) : (execOp ρ o).run P w = .ok (.value v) w := by
  simp [execOp, h, hx, hr, Result.andThen]
theorem exec_bin (ρ : Operand → Value) (o : Oper) (b : BinOp) (t t2 : TypeId) (x y : Operand) (h : o.op = .binOp b t x y t2) (vx vy v : Value) (hx : ρ x = vx) (hy : ρ y = vy) (w : World) (hg : (eqGuard b t x y vx vy).run P w = .ok () w) (hr : (binOp b t vx vy).run P w = .ok v w) : (execOp ρ o).run P w = .ok (.value v) w := by
  simp [execOp, h, hx, hy, hg, hr, Result.andThen]
theorem exec_build (ρ : Operand → Value) (o : Oper) (t : TypeId) (parts : List (Nat × Operand)) (h : o.op = .build t parts.toArray) (ps : List (Nat × Value)) (hp : (parts.map fun (i, x) => (i, ρ x)) = ps) (v : Value) (w : World) (hr : (Instr.build t ps.toArray).run P w = .ok v w) : (execOp ρ o).run P w = .ok (.value v) w := by
  simp only [execOp, h, List.map_toArray, hp, hr, Sem.run_bind, Sem.run_pure, Result.andThen]
end
end Go.Proofs.YticgkabamelddaaDoor
namespace Go.Proofs.YticgkabamelddaaDoor
open Go.RowKit
/-- What stands in product's slots when all has come up but the store. -/
def prodVs (A B R : Value) (ga gb gr : Nat) (x y c : Nat → Nat) (Z : Nat → Nat → Value) : List Value :=
  A :: B :: .pointer (some ⟨ga, 0, none⟩) :: .pointer (some ⟨gb, 0, none⟩) :: .pointer (some ⟨gr, 0, none⟩) :: ncell (c 1) :: ncell (c 2) :: ncell (c 3) :: ncell (c 4) :: .pointer (some ⟨gb, 1, none⟩) :: ncell (y 1) :: ncell (c 1) :: .pointer (some ⟨gb, 2, none⟩) :: ncell (y 2) :: ncell (c 2) :: .pointer (some ⟨gb, 3, none⟩) :: ncell (y 3) :: ncell (c 3) :: .pointer (some ⟨gb, 4, none⟩) :: ncell (y 4) :: ncell (c 4) :: Z 0 0 :: .pointer (some ⟨ga, 0, none⟩) :: ncell (x 0) :: .pointer (some ⟨gb, 0, none⟩) :: ncell (y 0) :: Z 0 1 :: .pointer (some ⟨ga, 1, none⟩) :: ncell (x 1) :: ncell (c 4) :: Z 0 2 :: .pointer (some ⟨ga, 2, none⟩) :: ncell (x 2) :: ncell (c 3) :: Z 0 3 :: .pointer (some ⟨ga, 3, none⟩) :: ncell (x 3) :: ncell (c 2) :: Z 0 4 :: .pointer (some ⟨ga, 4, none⟩) :: ncell (x 4) :: ncell (c 1) :: Z 0 5 :: Z 1 0 :: .pointer (some ⟨ga, 0, none⟩) :: ncell (x 0) :: .pointer (some ⟨gb, 1, none⟩) :: ncell (y 1) :: Z 1 1 :: .pointer (some ⟨ga, 1, none⟩) :: ncell (x 1) :: .pointer (some ⟨gb, 0, none⟩) :: ncell (y 0) :: Z 1 2 :: .pointer (some ⟨ga, 2, none⟩) :: ncell (x 2) :: ncell (c 4) :: Z 1 3 :: .pointer (some ⟨ga, 3, none⟩) :: ncell (x 3) :: ncell (c 3) :: Z 1 4 :: .pointer (some ⟨ga, 4, none⟩) :: ncell (x 4) :: ncell (c 2) :: Z 1 5 :: Z 2 0 :: .pointer (some ⟨ga, 0, none⟩) :: ncell (x 0) :: .pointer (some ⟨gb, 2, none⟩) :: ncell (y 2) :: Z 2 1 :: .pointer (some ⟨ga, 1, none⟩) :: ncell (x 1) :: .pointer (some ⟨gb, 1, none⟩) :: ncell (y 1) :: Z 2 2 :: .pointer (some ⟨ga, 2, none⟩) :: ncell (x 2) :: .pointer (some ⟨gb, 0, none⟩) :: ncell (y 0) :: Z 2 3 :: .pointer (some ⟨ga, 3, none⟩) :: ncell (x 3) :: ncell (c 4) :: Z 2 4 :: .pointer (some ⟨ga, 4, none⟩) :: ncell (x 4) :: ncell (c 3) :: Z 2 5 :: Z 3 0 :: .pointer (some ⟨ga, 0, none⟩) :: ncell (x 0) :: .pointer (some ⟨gb, 3, none⟩) :: ncell (y 3) :: Z 3 1 :: .pointer (some ⟨ga, 1, none⟩) :: ncell (x 1) :: .pointer (some ⟨gb, 2, none⟩) :: ncell (y 2) :: Z 3 2 :: .pointer (some ⟨ga, 2, none⟩) :: ncell (x 2) :: .pointer (some ⟨gb, 1, none⟩) :: ncell (y 1) :: Z 3 3 :: .pointer (some ⟨ga, 3, none⟩) :: ncell (x 3) :: .pointer (some ⟨gb, 0, none⟩) :: ncell (y 0) :: Z 3 4 :: .pointer (some ⟨ga, 4, none⟩) :: ncell (x 4) :: ncell (c 4) :: Z 3 5 :: Z 4 0 :: .pointer (some ⟨ga, 0, none⟩) :: ncell (x 0) :: .pointer (some ⟨gb, 4, none⟩) :: ncell (y 4) :: Z 4 1 :: .pointer (some ⟨ga, 1, none⟩) :: ncell (x 1) :: .pointer (some ⟨gb, 3, none⟩) :: ncell (y 3) :: Z 4 2 :: .pointer (some ⟨ga, 2, none⟩) :: ncell (x 2) :: .pointer (some ⟨gb, 2, none⟩) :: ncell (y 2) :: Z 4 3 :: .pointer (some ⟨ga, 3, none⟩) :: ncell (x 3) :: .pointer (some ⟨gb, 1, none⟩) :: ncell (y 1) :: Z 4 4 :: .pointer (some ⟨ga, 4, none⟩) :: ncell (x 4) :: .pointer (some ⟨gb, 0, none⟩) :: ncell (y 0) :: Z 4 5 :: R :: []
/-- The same ahead of the sums. -/
def prodVs1 (A B _R : Value) (ga gb gr : Nat) (_x y c : Nat → Nat) (_Z : Nat → Nat → Value) : List Value :=
  A :: B :: .pointer (some ⟨ga, 0, none⟩) :: .pointer (some ⟨gb, 0, none⟩) :: .pointer (some ⟨gr, 0, none⟩) :: ncell (c 1) :: ncell (c 2) :: ncell (c 3) :: ncell (c 4) :: .pointer (some ⟨gb, 1, none⟩) :: ncell (y 1) :: ncell (c 1) :: .pointer (some ⟨gb, 2, none⟩) :: ncell (y 2) :: ncell (c 2) :: .pointer (some ⟨gb, 3, none⟩) :: ncell (y 3) :: ncell (c 3) :: .pointer (some ⟨gb, 4, none⟩) :: ncell (y 4) :: ncell (c 4) :: undef :: undef :: undef :: undef :: undef :: undef :: undef :: undef :: undef :: undef :: undef :: undef :: undef :: undef :: undef :: undef :: undef :: undef :: undef :: undef :: undef :: undef :: undef :: undef :: undef :: undef :: undef :: undef :: undef :: undef :: undef :: undef :: undef :: undef :: undef :: undef :: undef :: undef :: undef :: undef :: undef :: undef :: undef :: undef :: undef :: undef :: undef :: undef :: undef :: undef :: undef :: undef :: undef :: undef :: undef :: undef :: undef :: undef :: undef :: undef :: undef :: undef :: undef :: undef :: undef :: undef :: undef :: undef :: undef :: undef :: undef :: undef :: undef :: undef :: undef :: undef :: undef :: undef :: undef :: undef :: undef :: undef :: undef :: undef :: undef :: undef :: undef :: undef :: undef :: undef :: undef :: undef :: undef :: undef :: undef :: undef :: undef :: undef :: undef :: undef :: undef :: undef :: undef :: undef :: undef :: undef :: undef :: undef :: undef :: undef :: undef :: undef :: undef :: undef :: undef :: undef :: undef :: undef :: undef :: undef :: undef :: []
theorem load_cell {w : World} {g j v : Nat} (h : w.cell? ⟨g, j, none⟩ = some (ncell v)) : (Instr.loadAt 40 (.pointer (some ⟨g, j, none⟩))).run Tryd.prog w = .ok (ncell v) w := by
  go_simp
theorem mul19_run (v u : Nat) (h : IntKind.u64.wrap (19 * (v : Int)) = (u : Int)) (w : World) : (binOp .mul 40 (.int .u64 19) (ncell v)).run Tryd.prog w = .ok (ncell u) w := by
  rw [ncell, ncell, ← h]
  kernel_rfl
end Go.Proofs.YticgkabamelddaaDoor
namespace Go.Proofs.YticgkabamelddaaDoor
open Go.RowKit
/-- The part j of product's sum i. -/
def prodM (y : Nat → Nat) (i j : Nat) : Nat := if j ≤ i then y (i - j) else 19 * y (5 + i - j)
def prodS (x y : Nat → Nat) (i : Nat) : Nat → Nat
  | 0 => 0
  | j + 1 => prodS x y i j + x j * prodM y i j
theorem prodM_le {y : Nat → Nat} (hy : ∀ k, y k < 2251799813685248) (i j : Nat) : prodM y i j ≤ 42784196460019693 := by
  have h1 := hy (i - j)
  have h2 := hy (5 + i - j)
  unfold prodM
  split <;> omega
theorem prod_part {x y : Nat → Nat} (hx : ∀ k, x k < 2251799813685248) (hy : ∀ k, y k < 2251799813685248) (i j : Nat) : x j * prodM y i j ≤ 2251799813685247 * 42784196460019693 := Nat.mul_le_mul (by have := hx j; omega) (prodM_le hy i j)
theorem prodS_le {x y : Nat → Nat} (hx : ∀ k, x k < 2251799813685248) (hy : ∀ k, y k < 2251799813685248) (i : Nat) : ∀ j, prodS x y i j ≤ j * (2251799813685247 * 42784196460019693)
  | 0 => Nat.zero_le _
  | j + 1 => by
    have h1 := prodS_le hx hy i j
    have h2 := prod_part hx hy i j
    rw [prodS, Nat.add_mul j 1]
    omega
theorem prodS_last {x y : Nat → Nat} (hx : ∀ k, x k < 2251799813685248) (hy : ∀ k, y k < 2251799813685248) : prodS x y 4 5 < 162259276829213363391578010288128 := by
  have h : ∀ k l, x k * y l ≤ 2251799813685247 * 2251799813685247 := fun k l => Nat.mul_le_mul (by have := hx k; omega) (by have := hy l; omega)
  have e : prodS x y 4 5 = 0 + x 0 * y 4 + x 1 * y 3 + x 2 * y 2 + x 3 * y 1 + x 4 * y 0 := rfl
  rw [e]
  have h0 := h 0 4
  have h1 := h 1 3
  have h2 := h 2 2
  have h3 := h 3 1
  have h4 := h 4 0
  omega
theorem prod_ring (m x0 x1 x2 x3 x4 y0 y1 y2 y3 y4 : Int) : (x0 + m * (x1 + m * (x2 + m * (x3 + m * x4)))) * (y0 + m * (y1 + m * (y2 + m * (y3 + m * y4)))) =
    (x0 * y0 + x1 * (19 * y4) + x2 * (19 * y3) + x3 * (19 * y2) + x4 * (19 * y1)) + m * ((x0 * y1 + x1 * y0 + x2 * (19 * y4) + x3 * (19 * y3) + x4 * (19 * y2)) + m * ((x0 * y2 + x1 * y1 + x2 * y0 + x3 * (19 * y4) + x4 * (19 * y3)) + m * ((x0 * y3 + x1 * y2 + x2 * y1 + x3 * y0 + x4 * (19 * y4)) + m * (x0 * y4 + x1 * y3 + x2 * y2 + x3 * y1 + x4 * y0)))) +
    (m * m * m * m * m - 19) * ((x1 * y4 + x2 * y3 + x3 * y2 + x4 * y1) + m * ((x2 * y4 + x3 * y3 + x4 * y2) + m * ((x3 * y4 + x4 * y3) + m * (x4 * y4)))) := by grind
theorem narrow_val (v0 v1 v2 v3 v4 : Nat) : val5 (v0 % 2251799813685248 + 19 * (v4 / 2251799813685248)) (v1 % 2251799813685248 + v0 / 2251799813685248) (v2 % 2251799813685248 + v1 / 2251799813685248) (v3 % 2251799813685248 + v2 / 2251799813685248) (v4 % 2251799813685248 + v3 / 2251799813685248) + pp * (v4 / 2251799813685248) = val5 v0 v1 v2 v3 v4 := by
  simp only [val5, pp]; omega
theorem prod_val (x y : Nat → Nat) : val5 (prodS x y 0 5) (prodS x y 1 5) (prodS x y 2 5) (prodS x y 3 5) (prodS x y 4 5) % pp = val5 (x 0) (x 1) (x 2) (x 3) (x 4) * val5 (y 0) (y 1) (y 2) (y 3) (y 4) % pp := by
  have e0 : prodS x y 0 5 = 0 + x 0 * y 0 + x 1 * (19 * y 4) + x 2 * (19 * y 3) + x 3 * (19 * y 2) + x 4 * (19 * y 1) := rfl
  have e1 : prodS x y 1 5 = 0 + x 0 * y 1 + x 1 * y 0 + x 2 * (19 * y 4) + x 3 * (19 * y 3) + x 4 * (19 * y 2) := rfl
  have e2 : prodS x y 2 5 = 0 + x 0 * y 2 + x 1 * y 1 + x 2 * y 0 + x 3 * (19 * y 4) + x 4 * (19 * y 3) := rfl
  have e3 : prodS x y 3 5 = 0 + x 0 * y 3 + x 1 * y 2 + x 2 * y 1 + x 3 * y 0 + x 4 * (19 * y 4) := rfl
  have e4 : prodS x y 4 5 = 0 + x 0 * y 4 + x 1 * y 3 + x 2 * y 2 + x 3 * y 1 + x 4 * y 0 := rfl
  rw [NP.cg, e0, e1, e2, e3, e4]
  generalize x 0 = x0
  generalize x 1 = x1
  generalize x 2 = x2
  generalize x 3 = x3
  generalize x 4 = x4
  generalize y 0 = y0
  generalize y 1 = y1
  generalize y 2 = y2
  generalize y 3 = y3
  generalize y 4 = y4
  have h := prod_ring 2251799813685248 x0 x1 x2 x3 x4 y0 y1 y2 y3 y4
  refine ⟨-((x1 * y4 + x2 * y3 + x3 * y2 + x4 * y1) + 2251799813685248 * ((x2 * y4 + x3 * y3 + x4 * y2) + 2251799813685248 * ((x3 * y4 + x4 * y3) + 2251799813685248 * (x4 * y4)))), ?_⟩
  simp only [val5, Int.natCast_mul, Int.natCast_add, Int.natCast_zero, Int.zero_add]
  rw [show ((2251799813685248 : Nat) : Int) = 2251799813685248 from rfl, show ((19 : Nat) : Int) = 19 from rfl, h]
  generalize ((x1 : Int) * y4 + x2 * y3 + x3 * y2 + x4 * y1) + 2251799813685248 * ((x2 * y4 + x3 * y3 + x4 * y2) + 2251799813685248 * ((x3 * y4 + x4 * y3) + 2251799813685248 * (x4 * y4))) = W
  rw [show (2251799813685248 : Int) * 2251799813685248 * 2251799813685248 * 2251799813685248 * 2251799813685248 - 19 = 57896044618658097711785492504343953926634992332820282019728792003956564819949 from by decide, show ((pp : Nat) : Int) = 57896044618658097711785492504343953926634992332820282019728792003956564819949 from rfl]
  omega
/-- What product's limbs are. -/
structure ProdIs (x y : Nat → Nat) (a b c d e : Nat) : Prop where
  low : a < 2305843009213693952 ∧ b < 2305843009213693952 ∧ c < 2305843009213693952 ∧ d < 2305843009213693952 ∧ e < 1152921504606846976
  val : val5 a b c d e % pp = val5 (x 0) (x 1) (x 2) (x 3) (x 4) * val5 (y 0) (y 1) (y 2) (y 3) (y 4) % pp
end Go.Proofs.YticgkabamelddaaDoor
namespace Go.Proofs.YticgkabamelddaaDoor
open Go.RowKit
/-- A number's limb. -/
def lx (n k : Nat) : Nat := (limb5 n).getD k 0
theorem lx_lt (n k : Nat) : lx n k < 2251799813685248 := by
  match k with
  | 0 => exact Nat.mod_lt _ (by decide)
  | 1 => exact Nat.mod_lt _ (by decide)
  | 2 => exact Nat.mod_lt _ (by decide)
  | 3 => exact Nat.mod_lt _ (by decide)
  | 4 => exact Nat.mod_lt _ (by decide)
  | k + 5 => show 0 < _; decide
theorem limb5_lx (n : Nat) : limb5 n = [lx n 0, lx n 1, lx n 2, lx n 3, lx n 4] := rfl
theorem val5_lx (n : Nat) (h : n < pp) : val5 (lx n 0) (lx n 1) (lx n 2) (lx n 3) (lx n 4) = n := val5_limbs n (by simp only [pp] at h; omega)
end Go.Proofs.YticgkabamelddaaDoor
namespace Go.Proofs.YticgkabamelddaaDoor
open Go.RowKit
/-- n squared so many times. -/
def sqN (n : Nat) : Nat → Nat
  | 0 => n
  | k + 1 => sqN n k * sqN n k % pp
theorem sqN_lt {n : Nat} (h : n < pp) : ∀ k, sqN n k < pp
  | 0 => h
  | k + 1 => Nat.mod_lt _ (by decide)
theorem sqN_pow {n : Nat} (h : n < pp) : ∀ k, sqN n k = n ^ 2 ^ k % pp
  | 0 => by rw [sqN, Nat.pow_zero, Nat.pow_one, Nat.mod_eq_of_lt h]
  | k + 1 => by rw [sqN, sqN_pow h k, ← Nat.mul_mod, Nat.pow_succ 2, Nat.pow_mul, Nat.pow_two]
def thenVs (a b s r : List Nat) (t : Nat) (ga gb gz : Nat) : List Value :=
  (numVal a) :: (.int .i64 (t : Int)) :: (numVal b) :: (.pointer (some ⟨ga, 0, none⟩)) :: undef :: (.pointer (some ⟨gb, 0, none⟩)) :: (.pointer (some ⟨gz, 0, none⟩)) :: (numVal a) :: (.int .i64 (t : Int)) :: (numVal s) :: (numVal b) :: (numVal r) :: []
/-- A power modulo p. -/
def pwN (n e : Nat) : Nat := n ^ e % pp
theorem pwN_lt (n e : Nat) : pwN n e < pp := Nat.mod_lt _ (by decide)
theorem pwN_one {n : Nat} (h : n < pp) : pwN n 1 = n := by rw [pwN, Nat.pow_one, Nat.mod_eq_of_lt h]
theorem pwN_sq (n a t : Nat) : pwN n a ^ 2 ^ t % pp = pwN n (a * 2 ^ t) := by rw [pwN, pwN, ← Nat.pow_mod, ← Nat.pow_mul]
theorem pwN_mul (n a b : Nat) : pwN n a * pwN n b % pp = pwN n (a + b) := by rw [pwN, pwN, pwN, ← Nat.mul_mod, ← Nat.pow_add]
def onesVs (a hundred fifty big r : List Nat) (ga gz g3 g4 g5 g6 g7 g8 g9 g10 : Nat) (u : Nat → List Nat) : List Value :=
  (numVal a) :: (.pointer (some ⟨ga, 0, none⟩)) :: (.pointer (some ⟨gz, 0, none⟩)) :: (.pointer (some ⟨g3, 0, none⟩)) :: (.pointer (some ⟨g4, 0, none⟩)) :: (.pointer (some ⟨g5, 0, none⟩)) :: (.pointer (some ⟨g6, 0, none⟩)) :: (.pointer (some ⟨g7, 0, none⟩)) :: (.pointer (some ⟨g8, 0, none⟩)) :: (.pointer (some ⟨g9, 0, none⟩)) :: (.pointer (some ⟨g10, 0, none⟩)) :: (numVal (u 11)) :: (numVal (u 12)) :: (numVal (u 13)) :: (numVal (u 14)) :: (numVal (u 15)) :: (numVal (u 16)) :: (numVal (u 17)) :: (numVal (u 18)) :: (numVal (u 19)) :: (numVal (u 20)) :: (numVal (u 21)) :: (numVal (u 22)) :: (numVal (u 23)) :: (numVal (u 24)) :: (numVal (u 25)) :: (numVal (u 26)) :: (numVal (u 27)) :: (numVal (u 28)) :: (numVal (u 29)) :: (numVal (u 30)) :: (numVal (u 31)) :: (numVal (u 32)) :: (numVal (u 33)) :: (numVal (u 34)) :: (numVal hundred) :: (numVal hundred) :: (numVal big) :: (numVal fifty) :: (numVal r) :: []
def invVs1 (a e2 e8 e10 e11 : List Nat) (ga gz : Nat) : List Value :=
  (numVal a) :: (.pointer (some ⟨ga, 0, none⟩)) :: (.pointer (some ⟨gz, 0, none⟩)) :: (undef) :: (numVal a) :: (numVal e8) :: (numVal a) :: (numVal e2) :: (numVal e10) :: (numVal a) :: (numVal e11) :: undef :: undef :: undef :: undef :: undef :: []
def invVs2 (a e2 e8 e10 e11 o s r : List Nat) (ga gz gn : Nat) : List Value :=
  (numVal a) :: (.pointer (some ⟨ga, 0, none⟩)) :: (.pointer (some ⟨gz, 0, none⟩)) :: (.pointer (some ⟨gn, 0, none⟩)) :: (numVal a) :: (numVal e8) :: (numVal a) :: (numVal e2) :: (numVal e10) :: (numVal a) :: (numVal e11) :: (numVal a) :: (numVal o) :: (numVal s) :: (numVal e11) :: (numVal r) :: []
end Go.Proofs.YticgkabamelddaaDoor
namespace Go.Proofs.YticgkabamelddaaDoor
open Go.RowKit
theorem all_range_nat : ∀ (xs ys : List Nat), xs.length = ys.length → ((List.range xs.length).all fun i => xs.getD i 0 == ys.getD i 0) = (xs == ys)
  | [], [], _ => rfl
  | x :: xs, y :: ys, h => by
    have ih := all_range_nat xs ys (by simpa using h)
    rw [List.length_cons, List.range_succ_eq_map, List.all_cons, List.all_map]
    simp only [List.getD_cons_zero, Function.comp_def, List.getD_cons_succ, ih]
    simp [List.cons_beq_cons]
  | [], _ :: _, h => by simp at h
  | _ :: _, [], h => by simp at h
/-- An integer as a cell holds it. -/
abbrev kcell (k : IntKind) (v : Nat) : Value := .int k (v : Int)
/-- Two arrays of integers of one kind. -/
theorem run_equalIn_nats {P : Program} (w : World) (k : IntKind) (d : Nat) (t e : TypeId) (n : Nat) (ht : P.underlying t = some (.array n e)) (he : P.underlying e = some (.int k)) (hsz : ∀ w, (sizeOf e).run P w = .ok 1 w)
    (xs ys : List Nat) (hx : xs.length = n) (hy : ys.length = n) :
    (Op.equalIn (d + 2) t (.agg (xs.map (kcell k)).toArray) (.agg (ys.map (kcell k)).toArray)).run P w = .ok (xs == ys) w := by
  rw [← all_range_nat xs ys (hx.trans hy.symm), hx, List.range_eq_range', Op.equalIn]
  simp only [Sem.run_bind, run_underlying ht, Result.andThen_ok, hsz, Std.Legacy.Range.forIn_eq_forIn_range', Std.Legacy.Range.size, Nat.sub_zero, Nat.add_sub_cancel, Nat.div_one]
  have hl : ∀ i ∈ List.range' 0 n 1, i < n := fun i hi => by simpa using (List.mem_range'_1.1 hi).2
  generalize List.range' 0 n 1 = l at hl ⊢
  induction l with
  | nil => simp
  | cons i l ih =>
    have hi : i < n := hl i (by simp)
    have px : (part e (xs.map (kcell k)).toArray (i * 1)).run P w = .ok (Value.int k ((xs.getD i 0 : Nat) : Int)) w := by
      simp [part, isAgg, run_underlying he, List.getD, List.getElem?_eq_getElem (show i < xs.length by omega)]
    have py : (part e (ys.map (kcell k)).toArray (i * 1)).run P w = .ok (Value.int k ((ys.getD i 0 : Nat) : Int)) w := by
      simp [part, isAgg, run_underlying he, List.getD, List.getElem?_eq_getElem (show i < ys.length by omega)]
    have pe : (Op.equalIn (d + 1) e (Value.int k ((xs.getD i 0 : Nat) : Int)) (Value.int k ((ys.getD i 0 : Nat) : Int))).run P w = .ok (xs.getD i 0 == ys.getD i 0) w := by
      rw [run_equalIn_int w d e k k _ _ he]
      congr 1
      rw [Bool.eq_iff_iff]
      simp
      omega
    simp only [List.forIn_cons, Sem.run_bind, px, py, pe, Result.andThen_ok, List.all_cons]
    cases hb : (xs.getD i 0 == ys.getD i 0)
    · simp
    · simp only [Bool.not_true, Bool.false_eq_true, if_false, Sem.run_pure, Result.andThen_ok, Bool.true_and]
      exact ih fun j hj => hl j (by simp [hj])
theorem run_eql_nats {P : Program} (w : World) (k : IntKind) (t e : TypeId) (n : Nat) (ht : P.underlying t = some (.array n e)) (he : P.underlying e = some (.int k)) (hsz : ∀ w, (sizeOf e).run P w = .ok 1 w)
    (xs ys : List Nat) (hx : xs.length = n) (hy : ys.length = n) :
    (binOp .eql t (.agg (xs.map (kcell k)).toArray) (.agg (ys.map (kcell k)).toArray)).run P w = .ok (.bool (xs == ys)) w := by
  rw [run_eql_struct, run_equalIn_nats w k 9998 t e n ht he hsz xs ys hx hy]
  rfl
theorem sizeOf_u64 (w : World) : (sizeOf 40).run Tryd.prog w = .ok 1 w := by
  obtain ⟨i0, hi0, hs0⟩ := Option.map_eq_some_iff.1 size_u64
  simp [sizeOf, typeInfo, hi0, hs0]
theorem limb5_inj {n m : Nat} (hn : n < pp) (hm : m < pp) : (limb5 n == limb5 m) = decide (n = m) := by
  rw [Bool.eq_iff_iff, beq_iff_eq, decide_eq_true_eq]
  refine ⟨fun h => ?_, fun h => by rw [h]⟩
  rw [← val5_lx n hn, ← val5_lx m hm]
  simp only [lx, h]
end Go.Proofs.YticgkabamelddaaDoor
namespace Go.Proofs.YticgkabamelddaaDoor
open Go.RowKit
/-- A package variable's block is just these cells. -/
def Tab (w : World) (g : Nat) (vs : List Value) : Prop := ∃ t f, w.heap[g]? = some (.cells vs.toArray t f)
theorem Tab.lt {w : World} {g : Nat} {vs : List Value} (h : Tab w g vs) : g < w.heap.size := by obtain ⟨t, f, h⟩ := h; exact heap_lt h
theorem Tab.below {w w' : World} {B g : Nat} {vs : List Value} (h : Tab w g vs) (hb : Below B w w') (hg : g < B) : Tab w' g vs := by obtain ⟨t, f, h⟩ := h; exact ⟨t, f, (hb.block g hg).trans h⟩
theorem Tab.on {w w' : World} {g : Nat} {vs : List Value} (h : Tab w g vs) (hb : Below w.heap.size w w') : Tab w' g vs := h.below hb h.lt
theorem Tab.but {w w' : World} {b g : Nat} {vs : List Value} (h : Tab w g vs) (hb : But b w w') (hg : g ≠ b) : Tab w' g vs := by
  have hl := h.lt
  obtain ⟨t, f, h⟩ := h
  exact ⟨t, f, (hb.block g hl hg).trans h⟩
theorem Tab.drew {w : World} {g : Nat} {vs : List Value} (h : Tab w g vs) : Tab w.drew g vs := h
theorem Tab.of_var {P : Program} {W : World} {name : String} {g : Nat} {cs : List Value} (hg : P.globalNamed name = some g) (hv : W.var? P name = some cs.toArray) : Tab W g cs := by
  unfold World.var? at hv
  rw [hg, Option.bind_some] at hv
  cases h : W.heap[g]? with
  | none => rw [h] at hv; cases hv
  | some o =>
    rw [h] at hv
    cases o with
    | cells c t f =>
      obtain rfl : c = cs.toArray := by simpa using hv
      exact ⟨t, f, h⟩
    | _ => cases hv
section
variable {P : Program} {w : World} {ops : Array Oper} {rest : List Oper} {o : Oper} {a : Act} {Q : Exit → Act → World → Prop}
/-- Such a variable as a value. -/
theorem tget_step (hgd : o.guard = none) (t : TypeId) (x : Operand) (ho : o.op = .load t x) (g n : Nat) (vs : List Value) {d : TypeDesc} (hx : a.eval x = .pointer (some ⟨g, 0, none⟩)) (hC : Tab w g vs) (hu : P.underlying t = some d)
    (hd : (match d with | .struct _ | .array _ _ => true | _ => false) = true) (hs : (P.info? t).map (·.size) = some n) (hl : vs.length = n) (h : wpList P ops Q rest (a.put o.dst (.agg vs.toArray)) w) : wpList P ops Q (o :: rest) a w := by
  obtain ⟨t', f, hC⟩ := hC
  exact wpList_load_row hgd t x ho g hx t' vs.toArray f _ hC hu hd (by rw [List.size_toArray, hl]; exact hs) h
end
end Go.Proofs.YticgkabamelddaaDoor
namespace Go.Proofs.YticgkabamelddaaDoor
open Go.RowKit
/-- A function whose results are a struct or an array in a block of its own, and a plain value. -/
theorem sret2 {P : Program} {fn : Func} {R : Ending → World → Prop} {a : Act} {w : World} {p u : Tmp} {ty : TypeId} {d : TypeDesc} {n : Nat} (hres : fn.results = #[.cell p ty, .tmp u]) (g : Nat) (vs : List Value) (v : Value)
    (hp : a.tmps.getD p undef = .pointer (some ⟨g, 0, none⟩)) (hv : a.tmps.getD u undef = v) (hg : Cells w g vs ty) (hu : P.underlying ty = some d) (hd : (match d with | .struct _ | .array _ _ => true | _ => false) = true) (hi : (P.info? ty).map (·.size) = some n) (hl : vs.length = n)
    (hdf : a.defers = []) (hR : R (.returned (.tuple #[.agg vs.toArray, v])) w) : bodyPost P fn R .ret a w := by
  have hp' : a.tmps[p]?.getD undef = .pointer (some ⟨g, 0, none⟩) := by simpa using hp
  have hv' : a.tmps[u]?.getD undef = v := by simpa using hv
  have hrun : (results fn a.tmps).run P w = .ok (.tuple #[.agg vs.toArray, v]) w := by
    simp [results, hres, hp', hv', asAddr, run_loadVar_row w g ty ty vs.toArray (0, 0) _ hg hu hd (by rw [List.size_toArray, hl]; exact hi)]
  exact bodyPost_ret hrun hdf hR
def rootVs1 (a o s q r0 _r1 _p0 _p1 _ng _pk _z _u : List Nat) (ga gz _gn : Nat) (_b1 _b2 _od : Bool) : List Value :=
  (numVal a) :: (.pointer (some ⟨ga, 0, none⟩)) :: (.pointer (some ⟨gz, 0, none⟩)) :: (.bool false) :: (undef) :: (numVal a) :: (numVal o) :: (numVal s) :: (numVal a) :: (numVal q) :: (numVal r0) :: undef :: undef :: undef :: undef :: undef :: undef :: undef :: undef :: undef :: undef :: undef :: undef :: undef :: undef :: undef :: undef :: undef :: undef :: undef :: undef :: undef :: undef :: []

def rootVs2 (a o s q r0 _r1 p0 _p1 _ng _pk _z _u : List Nat) (ga gz gn : Nat) (b1 _b2 _od : Bool) : List Value :=
  (numVal a) :: (.pointer (some ⟨ga, 0, none⟩)) :: (.pointer (some ⟨gz, 0, none⟩)) :: (.bool false) :: (.pointer (some ⟨gn, 0, none⟩)) :: (numVal a) :: (numVal o) :: (numVal s) :: (numVal a) :: (numVal q) :: (numVal r0) :: (numVal r0) :: (numVal p0) :: (numVal a) :: (.bool b1) :: (.bool (!b1)) :: undef :: undef :: undef :: undef :: undef :: undef :: undef :: undef :: undef :: undef :: undef :: undef :: undef :: undef :: undef :: undef :: undef :: []

def rootVs4a (a o s q r0 _r1 p0 p1 _ng _pk _z _u : List Nat) (ga gz gn : Nat) (_b1 b2 _od : Bool) : List Value :=
  (numVal a) :: (.pointer (some ⟨ga, 0, none⟩)) :: (.pointer (some ⟨gz, 0, none⟩)) :: (.bool false) :: (.pointer (some ⟨gn, 0, none⟩)) :: (numVal a) :: (numVal o) :: (numVal s) :: (numVal a) :: (numVal q) :: (numVal r0) :: (numVal r0) :: (numVal p0) :: (numVal a) :: (.bool true) :: (.bool (!true)) :: undef :: undef :: undef :: undef :: (numVal r0) :: (numVal p1) :: (numVal a) :: (.bool b2) :: (.bool (!b2)) :: undef :: undef :: undef :: undef :: undef :: undef :: undef :: undef :: []

def rootVs6a (a o s q r0 _r1 p0 p1 ng pk z _u : List Nat) (ga gz gn : Nat) (_b1 _b2 od : Bool) : List Value :=
  (numVal a) :: (.pointer (some ⟨ga, 0, none⟩)) :: (.pointer (some ⟨gz, 0, none⟩)) :: (.bool false) :: (.pointer (some ⟨gn, 0, none⟩)) :: (numVal a) :: (numVal o) :: (numVal s) :: (numVal a) :: (numVal q) :: (numVal r0) :: (numVal r0) :: (numVal p0) :: (numVal a) :: (.bool true) :: (.bool (!true)) :: undef :: undef :: undef :: undef :: (numVal r0) :: (numVal p1) :: (numVal a) :: (.bool true) :: (.bool (!true)) :: undef :: (numVal r0) :: (.bool od) :: (numVal z) :: (numVal r0) :: (numVal ng) :: (numVal r0) :: (numVal pk) :: []

def rootVs4b (a o s q r0 r1 p0 p1 _ng _pk _z u : List Nat) (ga gz gn : Nat) (_b1 b2 _od : Bool) : List Value :=
  (numVal a) :: (.pointer (some ⟨ga, 0, none⟩)) :: (.pointer (some ⟨gz, 0, none⟩)) :: (.bool false) :: (.pointer (some ⟨gn, 0, none⟩)) :: (numVal a) :: (numVal o) :: (numVal s) :: (numVal a) :: (numVal q) :: (numVal r0) :: (numVal r0) :: (numVal p0) :: (numVal a) :: (.bool false) :: (.bool (!false)) :: (numVal r0) :: (numVal u) :: (numVal u) :: (numVal r1) :: (numVal r1) :: (numVal p1) :: (numVal a) :: (.bool b2) :: (.bool (!b2)) :: undef :: undef :: undef :: undef :: undef :: undef :: undef :: undef :: []

def rootVs6b (a o s q r0 r1 p0 p1 ng pk z u : List Nat) (ga gz gn : Nat) (_b1 _b2 od : Bool) : List Value :=
  (numVal a) :: (.pointer (some ⟨ga, 0, none⟩)) :: (.pointer (some ⟨gz, 0, none⟩)) :: (.bool false) :: (.pointer (some ⟨gn, 0, none⟩)) :: (numVal a) :: (numVal o) :: (numVal s) :: (numVal a) :: (numVal q) :: (numVal r0) :: (numVal r0) :: (numVal p0) :: (numVal a) :: (.bool false) :: (.bool (!false)) :: (numVal r0) :: (numVal u) :: (numVal u) :: (numVal r1) :: (numVal r1) :: (numVal p1) :: (numVal a) :: (.bool true) :: (.bool (!true)) :: undef :: (numVal r1) :: (.bool od) :: (numVal z) :: (numVal r1) :: (numVal ng) :: (numVal r1) :: (numVal pk) :: []
/-- The root of less 1 that the program holds. -/
def ttN : Nat := 19681161376707505956807079304988542015446066515923890162744021073123829784752
/-- What a root would be. -/
def rtN (n : Nat) : Nat := if pwN n 7237005577332262213973186563042994240829374041602535252466099000494570602494 * pwN n 7237005577332262213973186563042994240829374041602535252466099000494570602494 % pp = n then pwN n 7237005577332262213973186563042994240829374041602535252466099000494570602494 else pwN n 7237005577332262213973186563042994240829374041602535252466099000494570602494 * ttN % pp
def isSN (n : Nat) : Bool := decide (rtN n * rtN n % pp = n)
/-- The even one of a number and what is 0 less it. -/
def evenN (r : Nat) : Nat := if r % 2 = 1 then (pp - r) % pp else r
theorem rtN_lt (n : Nat) : rtN n < pp := by
  rw [rtN]
  split
  · exact pwN_lt _ _
  · exact Nat.mod_lt _ (by decide)
end Go.Proofs.YticgkabamelddaaDoor
namespace Go.Proofs.YticgkabamelddaaDoor
open Go.RowKit
theorem size_k32 : (Tryd.prog.info? 25).map (·.size) = some 32 := by kernel_rfl
theorem zero_k32 : ∀ w, (zeroValue 25).run Tryd.prog w = .ok (.agg (List.replicate 32 (cellOf 0)).toArray) w := (zero_of_info (P := Tryd.prog) (t := 25) (v := .agg (List.replicate 32 (cellOf 0)).toArray) (n := 32) (by kernel_rfl)).1
/-- Two words' bits side by side. -/
theorem win_or (a b s Q : Nat) (hQ : Q = 2 ^ s) (hs : s ≤ 64) (ha : a < Q) : bits .or .u64 (a : Int) (IntKind.u64.wrap ((b : Int) * (Q : Int))) = ((a + b * Q % 18446744073709551616 : Nat) : Int) := by
  have hq : Q ≤ 18446744073709551616 := by rw [hQ]; exact Nat.le_trans (Nat.pow_le_pow_right (by decide) hs) (by decide)
  have e : IntKind.u64.wrap ((b : Int) * (Q : Int)) = ((b * Q % 18446744073709551616 : Nat) : Int) := by rw [IntKind.wrap_u64, ← Int.natCast_mul]; omega
  have hd : Q ∣ 18446744073709551616 := by rw [hQ, show 18446744073709551616 = 2 ^ 64 from rfl]; exact Nat.pow_dvd_pow 2 hs
  have hm : b * Q % 18446744073709551616 % 2 ^ s = 0 := by rw [← hQ, Nat.mod_mod_of_dvd _ hd, Nat.mul_mod_left]
  rw [e, u64_or_nat _ _ (by omega) (Nat.mod_lt _ (by decide)), Nat.or_comm, nat_join s _ _ hm (by rw [← hQ]; exact ha), Nat.add_comm]
theorem win_and (a b s Q : Nat) (hQ : Q = 2 ^ s) (hs : s ≤ 64) (ha : a < Q) (h : a + b * Q % 18446744073709551616 < 18446744073709551616) : bits .and .u64 (bits .or .u64 (a : Int) (IntKind.u64.wrap ((b : Int) * (Q : Int)))) 2251799813685247 = (((a + b * Q % 18446744073709551616) % 2251799813685248 : Nat) : Int) := by
  rw [win_or a b s Q hQ hs ha, and51 _ h]
/-- A limb out of two words. -/
def winW (a b p q : Nat) : Nat := (a / p + b * q % 18446744073709551616) % 2251799813685248
/-- The limbs of four words. -/
def winL (x : List Nat) (k : Nat) : Nat := [winW (x.getD 0 0) (x.getD 1 0) 1 18446744073709551616, winW (x.getD 0 0) (x.getD 1 0) 2251799813685248 8192, winW (x.getD 1 0) (x.getD 2 0) 274877906944 67108864, winW (x.getD 2 0) (x.getD 3 0) 33554432 549755813888, winW (x.getD 3 0) (x.getD 4 0) 4096 4503599627370496].getD k 0
end Go.Proofs.YticgkabamelddaaDoor
