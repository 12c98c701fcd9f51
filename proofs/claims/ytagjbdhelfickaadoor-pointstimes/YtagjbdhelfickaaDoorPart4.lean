/- Part 4 of what the laws of this seat share: WFlat. -/
import Derived.Test.YtagjbdhelfickaaDoorPart3
namespace Go.Proofs.YtagjbdhelfickaaDoor
open Go.RowKit
section
variable {P : Program} {ops : Array Oper} {Q : Exit → Act → World → Prop} {md : Region.Mode} {L : List Nat}
/-- Operation j writes slot s. -/
def dstIs (ops : Array Oper) (j s : Nat) : Bool := match ops[j]? with
  | some o => o.dst == some s
  | none => false
/-- Operation i waits for earlier operations of L alone; all others wait, by way of L's, for all of L, or for one that isn't of L. -/
def flatB (md : Region.Mode) (ops : Array Oper) (L : List Nat) : Bool :=
  (L.all fun l => match ops[l]? with
    | some o => o.after.all fun e => !Region.binds md e || (L.contains e.on && Nat.blt e.on l)
    | none => false) &&
  ((List.range ops.size).all fun t => L.contains t || ((List.range t).any fun m => !L.contains m && waitsFor md ops t m) || L.all fun l => waitsFor md ops t l || L.any fun m => Nat.blt l m && waitsFor md ops m l)
/-- What holds of the listed ones. -/
structure Down (md : Region.Mode) (ops : Array Oper) (L : List Nat) (listed : Array Bool) : Prop where
  size : listed.size = ops.size
  only : ∀ j, listed.getD j false = true → j ∈ L
  down : ∀ i j, listed.getD i false = true → waitsFor md ops i j = true → listed.getD j false = true
theorem flat_ready {listed : Array Bool} (hB : flatB md ops L = true) : ∀ l, l ∈ L → listed.size = ops.size → listed.getD l false = false → ∃ i, i ∈ Region.ready md ops listed := by
  intro l
  induction l using Nat.strongRecOn with
  | _ l ih =>
    intro hl hsz hun
    rw [flatB, Bool.and_eq_true, List.all_eq_true] at hB
    have h1 := hB.1 l hl
    cases ho : ops[l]? with
    | none => rw [ho] at h1; cases h1
    | some o =>
      simp only [ho] at h1
      rw [Array.all_eq_true'] at h1
      by_cases hall : ∀ e ∈ o.after, Region.binds md e = true → listed.getD e.on false = true
      · refine ⟨l, mem_ready.2 ⟨?_, o, ho, hall⟩⟩
        have hlt : l < listed.size := by rw [hsz]; exact (Array.getElem?_eq_some_iff.1 ho).1
        simp [hlt] at hun ⊢
        exact hun
      · have : ∃ e ∈ o.after, Region.binds md e = true ∧ listed.getD e.on false = false := by
          refine Classical.byContradiction fun hc => hall fun e he hb => ?_
          cases hv : listed.getD e.on false with
          | true => rfl
          | false => exact absurd ⟨e, he, hb, hv⟩ hc
        obtain ⟨e, he, hb, hv⟩ := this
        have h2 := h1 e he
        rw [hb] at h2
        simp only [Bool.not_true, Bool.false_or, Bool.and_eq_true, List.contains_iff_mem] at h2
        exact ih e.on (by have := h2.2; simpa [Nat.blt_eq] using this) h2.1 hsz hv
theorem flat_in {listed : Array Bool} (hB : flatB md ops L = true) (hD : Down md ops L listed) {i : Nat} (hi : i ∈ Region.ready md ops listed) (hiL : i ∉ L) : ∀ n l, ops.size - l ≤ n → l ∈ L → listed.getD l false = true := by
  have hsz : i < ops.size := by
    obtain ⟨_, o, ho, _⟩ := mem_ready.1 hi
    exact (Array.getElem?_eq_some_iff.1 ho).1
  rw [flatB, Bool.and_eq_true, List.all_eq_true, List.all_eq_true] at hB
  have h2 := hB.2 i (List.mem_range.2 hsz)
  rw [Bool.or_eq_true, Bool.or_eq_true, List.contains_iff_mem, or_iff_right hiL, List.all_eq_true] at h2
  replace h2 := h2.resolve_left fun h => by
    obtain ⟨m, hm, h⟩ := List.any_eq_true.1 h
    rw [Bool.and_eq_true] at h
    have h4 := hD.only m (ready_has hi h.2)
    rw [List.contains_iff_mem.2 h4] at h
    exact absurd h.1 (by decide)
  intro n
  induction n with
  | zero =>
    intro l hn hl
    have h1 := hB.1 l hl
    rw [Array.getElem?_eq_none (by omega)] at h1
    cases h1
  | succ n ih =>
    intro l hn hl
    have h3 := h2 l hl
    rw [Bool.or_eq_true, List.any_eq_true] at h3
    rcases h3 with h3 | ⟨m, hm, h3⟩
    · exact ready_has hi h3
    · rw [Bool.and_eq_true] at h3
      have hlt : l < m := by simpa [Nat.blt_eq] using h3.1
      have hm1 := hB.1 m hm
      have hms : m < ops.size := by
        rcases Nat.lt_or_ge m ops.size with h | h
        · exact h
        · rw [Array.getElem?_eq_none h] at hm1; cases hm1
      exact hD.down m l (ih m (by omega) hm) h3.2
/-- All of L have come up. -/
def fullOf (n : Nat) (L : List Nat) : Array Bool := ((List.range n).map fun i => L.contains i).toArray
theorem flat_full {listed : Array Bool} (hD : Down md ops L listed) (hall : ∀ l ∈ L, listed.getD l false = true) : listed = fullOf ops.size L := by
  apply Array.ext
  · rw [hD.size, fullOf]; simp
  · intro i h1 h2
    have e : listed[i] = listed.getD i false := by simp [h1]
    rw [e]
    simp only [fullOf, List.getElem_toArray, List.getElem_map, List.getElem_range]
    by_cases hi : i ∈ L
    · rw [hall i hi]; simp [hi]
    · cases hv : listed.getD i false with
      | true => exact absurd (hD.only i hv) hi
      | false => simp [hi]
theorem Down.more {listed : Array Bool} (hD : Down md ops L listed) {i : Nat} (hi : i ∈ Region.ready md ops listed) (hiL : i ∈ L) : Down md ops L (listed.setIfInBounds i true) := by
  refine ⟨by rw [Array.size_setIfInBounds, hD.size], fun j hj => ?_, fun k j hk hw => ?_⟩
  · by_cases e : i = j
    · exact e ▸ hiL
    · rw [getD_set_ne false e] at hj
      exact hD.only j hj
  · by_cases e : i = k
    · subst e
      exact getD_set_true (ready_has hi hw)
    · rw [getD_set_ne false e] at hk
      exact getD_set_true (hD.down k j hk hw)
theorem count_more {listed : Array Bool} {i : Nat} (hi : i ∈ Region.ready md ops listed) (hsz : listed.size = ops.size) : (listed.setIfInBounds i true).toList.countP id = listed.toList.countP id + 1 := by
  obtain ⟨h0, o, ho, _⟩ := mem_ready.1 hi
  have hlt : i < listed.size := by rw [hsz]; exact (Array.getElem?_eq_some_iff.1 ho).1
  have hv : listed[i] = false := by simpa [hlt] using h0
  rw [Array.toList_setIfInBounds, List.countP_set (by simpa using hlt)]
  simp [hv]
theorem wpAny_flat (hB : flatB md ops L = true) (I : Array Bool → Act → World → Prop)
    (hstep : ∀ i ∈ L, ∀ listed a w, I listed a w → i ∈ Region.ready md ops listed → wpOp P ops Q i (I (listed.setIfInBounds i true)) a w) (rem : Nat) (hrem : rem + (fullOf ops.size L).toList.countP id = ops.size)
    (hend : ∀ a w, I (fullOf ops.size L) a w → wpAny P md ops Q rem (fullOf ops.size L) a w) :
    ∀ (k : Nat) (listed : Array Bool) (a : Act) (w : World), Down md ops L listed → k + listed.toList.countP id = ops.size → I listed a w → wpAny P md ops Q k listed a w := by
  intro k
  induction k with
  | zero =>
    intro listed a w hD hk hI
    by_cases hall : ∀ l ∈ L, listed.getD l false = true
    · have e := flat_full hD hall
      subst e
      have : rem = 0 := by omega
      subst this
      exact hend a w hI
    · have : ∃ l ∈ L, listed.getD l false = false := by
        refine Classical.byContradiction fun hc => hall fun l hl => ?_
        cases hv : listed.getD l false with
        | true => rfl
        | false => exact absurd ⟨l, hl, hv⟩ hc
      obtain ⟨l, hl, hun⟩ := this
      obtain ⟨i, hi⟩ := flat_ready hB l hl hD.size hun
      have h1 := count_more hi hD.size
      have h2 := List.countP_le_length (p := id) (l := (listed.setIfInBounds i true).toList)
      rw [Array.length_toList, Array.size_setIfInBounds, hD.size] at h2
      omega
  | succ k ih =>
    intro listed a w hD hk hI
    by_cases hall : ∀ l ∈ L, listed.getD l false = true
    · have e := flat_full hD hall
      subst e
      have : rem = k + 1 := by omega
      subst this
      exact hend a w hI
    · have : ∃ l ∈ L, listed.getD l false = false := by
        refine Classical.byContradiction fun hc => hall fun l hl => ?_
        cases hv : listed.getD l false with
        | true => rfl
        | false => exact absurd ⟨l, hl, hv⟩ hc
      obtain ⟨l, hl, hun⟩ := this
      refine ⟨fun h0 => ?_, fun i hi => ?_⟩
      · obtain ⟨i, hi⟩ := flat_ready hB l hl hD.size hun
        rw [h0] at hi; cases hi
      · have hiL : i ∈ L := by
          refine Classical.byContradiction fun hn => ?_
          have := flat_in hB hD hi hn (ops.size - l) l (Nat.le_refl _) hl
          rw [this] at hun; cases hun
        have h1 := count_more hi hD.size
        exact wpOp_mono (fun a' w' h' => ih _ a' w' (hD.more hi hiL) (by omega) h') (hstep i hiL listed a w hI hi)
/-- Only new memory; each slot that no unlisted one of L writes is as it will be. -/
structure FlatG (ops : Array Oper) (L : List Nat) (w0 : World) (ds : List Deferred) (n : Nat) (pr : Nat → Value → World → Prop) (listed : Array Bool) (a : Act) (w : World) : Prop where
  below : Below w0.heap.size w0 w
  size : a.tmps.size = n
  defers : a.defers = ds
  fact : ∀ s, (∀ j ∈ L, dstIs ops j s = true → listed.getD j false = true) → pr s (a.tmps.getD s undef) w
/-- Slot s stands when operation i may come up. -/
def okB (md : Region.Mode) (ops : Array Oper) (L : List Nat) (i s : Nat) : Bool := L.all fun j => !dstIs ops j s || waitsFor md ops i j
/-- What is asked of each operation: that it yields what is asked of its slot. -/
structure StepG (P : Program) (md : Region.Mode) (ops : Array Oper) (Q : Exit → Act → World → Prop) (L : List Nat) (w0 : World) (n : Nat) (pr : Nat → Value → World → Prop) (i : Nat) : Prop where
  step : ∃ o s, ops[i]? = some o ∧ o.dst = some s ∧ o.guard = none ∧ Nat.blt s n = true ∧ (L.all fun j => j == i || !dstIs ops j s) = true ∧
    ∀ a w K, Below w0.heap.size w0 w → (∀ t, okB md ops L i t = true → pr t (a.tmps.getD t undef) w) → (∀ v w', Below w.heap.size w w' → pr s v w' → K (a.put o.dst v) w') → Oper.wp P o a w K Q
theorem flat_step {w0 : World} {ds : List Deferred} {n : Nat} {pr : Nat → Value → World → Prop} (hm : ∀ s v w w', pr s v w → Below w.heap.size w w' → pr s v w') {i : Nat} (h : StepG P md ops Q L w0 n pr i) (listed : Array Bool) (a : Act) (w : World) (hI : FlatG ops L w0 ds n pr listed a w) (hr : i ∈ Region.ready md ops listed) :
    wpOp P ops Q i (FlatG ops L w0 ds n pr (listed.setIfInBounds i true)) a w := by
  obtain ⟨o, s, ho, hd, hg, hs, hone, hstep⟩ := h.step
  rw [List.all_eq_true] at hone
  have hs' : s < n := by simpa [Nat.blt_eq] using hs
  refine wpOp_step ho fun K hK => ?_
  rw [if_pos (by simp [Region.wanted, hg])]
  refine hstep a w K hI.below (fun t ht => hI.fact t fun j hj hjs => ?_) fun v w' hb hv => hK _ _ ?_
  · rw [okB, List.all_eq_true] at ht
    have h1 := ht j hj
    rw [hjs] at h1
    exact ready_has hr (by simpa using h1)
  · rw [hd]
    refine ⟨hI.below.trans (hb.mono hI.below.size), ?_, ?_, fun t ht => ?_⟩
    · rw [← hI.size]; simp [Act.put]
    · rw [← hI.defers]; rfl
    · by_cases e : s = t
      · subst e
        rw [put_getD_eq _ _ _ (by rw [hI.size]; exact hs')]
        exact hv
      · rw [put_getD_ne _ _ _ _ e]
        refine hm _ _ _ _ (hI.fact t fun j hj hjt => ?_) hb
        have h1 := ht j hj hjt
        by_cases ej : j = i
        · subst ej
          simp only [dstIs, ho, hd] at hjt
          exact absurd (by simpa using hjt) e
        · rwa [getD_set_ne false (fun e4 => ej e4.symm)] at h1
theorem wpAny_flatG (hB : flatB md ops L = true) (w0 : World) (a0 : Act) (n : Nat) (pr : Nat → Value → World → Prop) (hm : ∀ s v w w', pr s v w → Below w.heap.size w w' → pr s v w') (keep : List Nat) (hkeep : ((List.range n).all fun s => keep.contains s || L.any fun j => dstIs ops j s && Nat.blt j ops.size) = true)
    (hk : ∀ s ∈ keep, pr s (a0.tmps.getD s undef) w0) (hbig : ∀ s, n ≤ s → pr s undef w0) (hsz : a0.tmps.size = n) (hstep : ∀ i ∈ L, StepG P md ops Q L w0 n pr i) (rem : Nat) (hrem : rem + (fullOf ops.size L).toList.countP id = ops.size)
    (hend : ∀ a w, Below w0.heap.size w0 w → a.tmps.size = n → a.defers = a0.defers → (∀ s, pr s (a.tmps.getD s undef) w) → wpAny P md ops Q rem (fullOf ops.size L) a w) : wpAny P md ops Q ops.size (Array.replicate ops.size false) a0 w0 := by
  rw [List.all_eq_true] at hkeep
  have hno : ∀ j, (Array.replicate ops.size false).getD j false = false := fun j => by
    by_cases h : j < ops.size <;> simp [h]
  have h0 : (Array.replicate ops.size false).toList.countP id = 0 := by simp [List.countP_replicate]
  refine wpAny_flat hB (FlatG ops L w0 a0.defers n pr) (fun i hi => flat_step hm (hstep i hi)) rem hrem (fun a w hI => ?_) ops.size _ a0 w0 ⟨by simp, fun j hj => ?_, fun i j hi => ?_⟩ (by omega) ⟨Below.refl _ _, hsz, rfl, fun s hs => ?_⟩
  · refine hend a w hI.below hI.size hI.defers fun s => hI.fact s fun j hj hjs => ?_
    have hlt : j < ops.size := by
      unfold dstIs at hjs
      rcases Nat.lt_or_ge j ops.size with h | h
      · exact h
      · rw [Array.getElem?_eq_none h] at hjs; cases hjs
    simp [fullOf, hlt, hj]
  · rw [hno] at hj; cases hj
  · rw [hno] at hi; cases hi
  · rcases Nat.lt_or_ge s n with h | h
    · have h1 := hkeep s (List.mem_range.2 h)
      rw [Bool.or_eq_true, List.contains_iff_mem, List.any_eq_true] at h1
      rcases h1 with h1 | ⟨j, hj, h1⟩
      · exact hk s h1
      · rw [Bool.and_eq_true] at h1
        have := hs j hj h1.1
        rw [hno] at this; cases this
    · have e : a0.tmps.getD s undef = undef := by simp [Array.getElem?_eq_none (show a0.tmps.size ≤ s by omega)]
      rw [e]
      exact hbig s h
/-- What is asked of each operation: that it yields what stands in its slot at the end. -/
structure StepOk (P : Program) (md : Region.Mode) (ops : Array Oper) (Q : Exit → Act → World → Prop) (L : List Nat) (w0 : World) (vs : List Value) (i : Nat) : Prop where
  step : ∃ o s, ops[i]? = some o ∧ o.dst = some s ∧ o.guard = none ∧ Nat.blt s vs.length = true ∧ (L.all fun j => j == i || !dstIs ops j s) = true ∧
    ∀ a w K, Below w0.heap.size w0 w → (∀ t, okB md ops L i t = true → a.tmps.getD t undef = vs.getD t undef) → (∀ w', Below w.heap.size w w' → K (a.put o.dst (vs.getD s undef)) w') → Oper.wp P o a w K Q
theorem frame_is {a : Act} {vs : List Value} {ds : List Deferred} (hs : a.tmps.size = vs.length) (hd : a.defers = ds) (hall : ∀ s, a.tmps.getD s undef = vs.getD s undef) : a = ⟨vs.toArray, ds⟩ := by
  obtain ⟨t, d⟩ := a
  have e1 : t = vs.toArray := by
    apply Array.ext
    · rw [List.size_toArray]; exact hs
    · intro i h1 h2
      have := hall i
      have h3 : i < vs.length := by simpa using h2
      simpa [h1, h3] using this
  have e2 : d = ds := hd
  rw [e1, e2]
theorem wpAny_flatAt (hB : flatB md ops L = true) (w0 : World) (a0 : Act) (vs : List Value) (keep : List Nat) (hkeep : ((List.range vs.length).all fun s => keep.contains s || L.any fun j => dstIs ops j s && Nat.blt j ops.size) = true)
    (hk : ∀ s ∈ keep, a0.tmps.getD s undef = vs.getD s undef) (hsz : a0.tmps.size = vs.length) (hstep : ∀ i ∈ L, StepOk P md ops Q L w0 vs i) (rem : Nat) (hrem : rem + (fullOf ops.size L).toList.countP id = ops.size)
    (hend : ∀ w, Below w0.heap.size w0 w → wpAny P md ops Q rem (fullOf ops.size L) ⟨vs.toArray, a0.defers⟩ w) : wpAny P md ops Q ops.size (Array.replicate ops.size false) a0 w0 := by
  refine wpAny_flatG hB w0 a0 vs.length (fun s v _ => v = vs.getD s undef) (fun _ _ _ _ h _ => h) keep hkeep hk (fun s h => by simp [h]) hsz (fun i hi => ?_) rem hrem fun a w hb hs hd hall => ?_
  · obtain ⟨o, s, ho, hd, hg, hs, hone, hstep⟩ := (hstep i hi).step
    exact ⟨o, s, ho, hd, hg, hs, hone, fun a w K hb hv hK => hstep a w K hb hv fun w' hb' => hK _ _ hb' rfl⟩
  · rw [frame_is hs hd hall]
    exact hend w hb
/-- The same where operation c makes a new variable, whose address slot sc holds. -/
theorem wpAny_flatNew (hB : flatB md ops L = true) (w0 : World) (a0 : Act) (vs : List Value) (keep : List Nat) (hkeep : ((List.range vs.length).all fun s => keep.contains s || L.any fun j => dstIs ops j s && Nat.blt j ops.size) = true) (c sc : Nat) (t : TypeId) (zs : List Value) (oc : Oper) (hoc : ops[c]? = some oc) (hdc : oc.dst = some sc) (hgc : oc.guard = none) (hop : oc.op = .alloc t) (hz : ∀ w, (zeroValue t).run P w = .ok (.agg zs.toArray) w)
    (hsc : Nat.blt sc vs.length = true) (hone : (L.all fun j => j == c || !dstIs ops j sc) = true) (huse : (L.all fun j => j == c || !okB md ops L j sc) = true) (hkc : keep.contains sc = false)
    (hk : ∀ s ∈ keep, a0.tmps.getD s undef = vs.getD s undef) (hsz : a0.tmps.size = vs.length) (hstep : ∀ i ∈ L, i = c ∨ StepOk P md ops Q L w0 vs i) (rem : Nat) (hrem : rem + (fullOf ops.size L).toList.countP id = ops.size)
    (hend : ∀ w g, Below w0.heap.size w0 w → w0.heap.size ≤ g → Cells w g zs t → wpAny P md ops Q rem (fullOf ops.size L) ⟨(vs.set sc (.pointer (some ⟨g, 0, none⟩))).toArray, a0.defers⟩ w) : wpAny P md ops Q ops.size (Array.replicate ops.size false) a0 w0 := by
  have hsc' : sc < vs.length := by simpa [Nat.blt_eq] using hsc
  refine wpAny_flatG hB w0 a0 vs.length (fun s v w => if s = sc then ∃ g, w0.heap.size ≤ g ∧ v = .pointer (some ⟨g, 0, none⟩) ∧ Cells w g zs t else v = vs.getD s undef) (fun s v w w' h hb => ?_) keep hkeep (fun s hs => ?_) (fun s h => ?_) hsz (fun i hi => ?_) rem hrem fun a w hb hs hd hall => ?_
  · by_cases e : s = sc
    · rw [if_pos e] at h ⊢
      obtain ⟨g, h1, h2, h3⟩ := h
      exact ⟨g, h1, h2, h3.below hb h3.lt⟩
    · rw [if_neg e] at h ⊢
      exact h
  · rw [if_neg (fun e => by rw [← e, List.contains_iff_mem.2 hs] at hkc; cases hkc)]
    exact hk s hs
  · rw [if_neg (by omega)]
    simp [h]
  · by_cases e : i = c
    · subst e
      refine ⟨oc, sc, hoc, hdc, hgc, hsc, hone, fun a w K hb _ hK => ?_⟩
      unfold Oper.wp
      simp only [execOp, hop, Instr.alloc, hz, newVar, Value.cells, Sem.run_bind, Sem.run_pure, Result.andThen_ok, go_sem]
      refine hK _ _ ((Below.refl _ _).alloc (Nat.le_refl _) _) ?_
      rw [if_pos rfl]
      exact ⟨_, hb.size, rfl, Cells.new w _ _⟩
    · obtain ⟨o, s, ho, hd, hg, hs, hone', hstep⟩ := ((hstep i hi).resolve_left e).step
      have hne : s ≠ sc := fun e2 => by
        rw [List.all_eq_true] at hone
        have := hone i hi
        simp [e, dstIs, ho, hd, e2] at this
      refine ⟨o, s, ho, hd, hg, hs, hone', fun a w K hb hv hK => hstep a w K hb (fun t' ht => ?_) fun w' hb' => hK _ _ hb' (by rw [if_neg hne])⟩
      have h1 := hv t' ht
      rwa [if_neg (fun e2 => by
        rw [List.all_eq_true] at huse
        have := huse i hi
        rw [e2] at ht
        simp [e, ht] at this)] at h1
  · have h1 := hall sc
    rw [if_pos rfl] at h1
    obtain ⟨g, h2, h3, h4⟩ := h1
    rw [frame_is (vs := vs.set sc (.pointer (some ⟨g, 0, none⟩))) (by rw [List.length_set]; exact hs) hd fun s => ?_]
    · exact hend w g hb h2 h4
    · by_cases e : s = sc
      · rw [e, h3]; simp [hsc']
      · have h5 := hall s
        rw [if_neg e] at h5
        rw [h5, List.getD_eq_getElem?_getD, List.getD_eq_getElem?_getD, List.getElem?_set_ne (fun e2 => e e2.symm)]
theorem cons_eq {α : Type} {x y : α} {l m : List α} (h : x = y) (hl : l = m) : x :: l = y :: m := by rw [h, hl]
theorem all_nil {p : Nat → Prop} : ∀ i ∈ ([] : List Nat), p i := fun _ h => by cases h
theorem all_cons {p : Nat → Prop} {i : Nat} {l : List Nat} (h : p i) (hl : ∀ j ∈ l, p j) : ∀ j ∈ i :: l, p j := fun j hj => by
  rcases List.mem_cons.1 hj with rfl | hj
  · exact h
  · exact hl j hj
/-- An operation that only yields. -/
theorem flat_pure {o : Oper} {a : Act} {w : World} {K : Act → World → Prop} (v : Value) (hr : (execOp a.eval o).run P w = .ok (.value v) w) (h : K (a.put o.dst v) w) : Oper.wp P o a w K Q := by
  unfold Oper.wp
  rw [hr]
  exact h
/-- An operation that only yields, told by its operands. -/
theorem stepPure {w0 : World} {vs : List Value} {i : Nat} (o : Oper) (s : Nat) (ho : ops[i]? = some o) (hd : o.dst = some s) (hg : o.guard = none) (hs : Nat.blt s vs.length = true) (hone : (L.all fun j => j == i || !dstIs ops j s) = true)
    (hr : ∀ a w, Below w0.heap.size w0 w → (∀ t, okB md ops L i t = true → a.tmps.getD t undef = vs.getD t undef) → (execOp (Act.eval a) o).run P w = .ok (.value (vs.getD s undef)) w) : StepOk P md ops Q L w0 vs i :=
  ⟨o, s, ho, hd, hg, hs, hone, fun a w _K hb hv hK => flat_pure _ (hr a w hb hv) (hK w (Below.refl _ _))⟩
/-- A call of a Go function that makes new memory alone. -/
theorem stepCall {w0 : World} {vs : List Value} {i : Nat} (o : Oper) (s : Nat) (ho : ops[i]? = some o) (hd : o.dst = some s) (hg : o.guard = none) (hs : Nat.blt s vs.length = true) (hone : (L.all fun j => j == i || !dstIs ops j s) = true)
    (f : FuncId) (args : List Operand) (tys : Array TypeId) (hop : o.op = .call { callee := .value (.func f), args := args.toArray, argTypes := tys }) (us : List Value) (hu : ∀ a : Act, (∀ t, okB md ops L i t = true → a.tmps.getD t undef = vs.getD t undef) → args.map a.eval = us)
    (hcf : ∀ args w, (callFunc f args).run P w = .ok (.enter f args) w) (hc : ∀ w, Below w0.heap.size w0 w → Calls P f us.toArray w fun e w' => e = .returned (vs.getD s undef) ∧ Below w.heap.size w w') : StepOk P md ops Q L w0 vs i := by
  refine ⟨o, s, ho, hd, hg, hs, hone, fun a w K hb hv hK => ?_⟩
  unfold Oper.wp
  simp [execOp, hop, resolve, invoke, Act.eval, Deferred.ofValue, hu a hv, hcf, Oper.upon]
  refine (hc w hb).mono fun e w' hR => ?_
  obtain ⟨rfl, hb'⟩ := hR
  exact hK w' hb'
theorem exec_move (ρ : Operand → Value) (o : Oper) (x : Operand) (h : o.op = .move x ∨ o.op = .assign x) (v : Value) (hx : ρ x = v) (w : World) : (execOp ρ o).run P w = .ok (.value v) w := by
  rcases h with h | h <;> simp [execOp, h, hx]
theorem exec_not (ρ : Operand → Value) (o : Oper) (t : TypeId) (x : Operand) (h : o.op = .unOp .not t x) (b : Bool) (hx : ρ x = .bool b) (w : World) : (execOp ρ o).run P w = .ok (.value (.bool (!b))) w := by
  simp [execOp, h, hx, Op.unary]
theorem exec_index (ρ : Operand → Value) (o : Oper) (t : TypeId) (x y : Operand) (h : o.op = .indexAddr t x y) (vx vy v : Value) (hx : ρ x = vx) (hy : ρ y = vy) (w : World) (hr : (Instr.indexAt t vx vy).run P w = .ok v w) : (execOp ρ o).run P w = .ok (.value v) w := by
  simp [execOp, h, hx, hy, hr, Result.andThen]
theorem exec_load (ρ : Operand → Value) (o : Oper) (t : TypeId) (x : Operand) (h : o.op = .load t x) (vx v : Value) (hx : ρ x = vx) (w : World) (hr : (Instr.loadAt t vx).run P w = .ok v w) : (execOp ρ o).run P w = .ok (.value v) w := by
  simp [execOp, h, hx, hr, Result.andThen]
theorem exec_bin (ρ : Operand → Value) (o : Oper) (b : BinOp) (t t2 : TypeId) (x y : Operand) (h : o.op = .binOp b t x y t2) (vx vy v : Value) (hx : ρ x = vx) (hy : ρ y = vy) (w : World) (hg : (eqGuard b t x y vx vy).run P w = .ok () w) (hr : (binOp b t vx vy).run P w = .ok v w) : (execOp ρ o).run P w = .ok (.value v) w := by
  simp [execOp, h, hx, hy, hg, hr, Result.andThen]
theorem exec_build (ρ : Operand → Value) (o : Oper) (t : TypeId) (parts : List (Nat × Operand)) (h : o.op = .build t parts.toArray) (ps : List (Nat × Value)) (hp : (parts.map fun (i, x) => (i, ρ x)) = ps) (v : Value) (w : World) (hr : (Instr.build t ps.toArray).run P w = .ok v w) : (execOp ρ o).run P w = .ok (.value v) w := by
  simp only [execOp, h, List.map_toArray, hp, hr, Sem.run_bind, Sem.run_pure, Result.andThen]
end
end Go.Proofs.YtagjbdhelfickaaDoor
