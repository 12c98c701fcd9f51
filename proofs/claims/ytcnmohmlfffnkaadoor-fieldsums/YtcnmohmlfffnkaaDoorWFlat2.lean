/- Regions whose operations are pure (WFlat), some of which make new variables, and some of which are guarded. No program is named here. -/
import Derived.Test.YtcnmohmlfffnkaaDoorPart6
namespace Go.Proofs.YtcnmohmlfffnkaaDoor
open Go.RowKit
section
variable {P : Program} {ops : Array Oper} {Q : Exit → Act → World → Prop} {md : Region.Mode} {L : List Nat}
/-- Slot s is none of the new variables'. -/
def oldB (news : List (Nat × Nat)) (s : Nat) : Bool := news.all fun p => !Nat.beq p.2 s
theorem oldB_ne {news : List (Nat × Nat)} {s : Nat} (h : oldB news s = true) : ∀ p ∈ news, p.2 ≠ s := fun p hp e => by
  rw [oldB, List.all_eq_true] at h
  have := h p hp
  rw [e, show Nat.beq s s = true from Nat.beq_refl s] at this
  cases this
structure FlatM (ops : Array Oper) (L : List Nat) (w0 : World) (ds : List Deferred) (vs : List Value) (news : List (Nat × Nat)) (t : TypeId) (zs : List Value) (listed : Array Bool) (a : Act) (w : World) : Prop where
  below : Below w0.heap.size w0 w
  size : a.tmps.size = vs.length
  defers : a.defers = ds
  fact : ∀ s, oldB news s = true → (∀ j ∈ L, dstIs ops j s = true → listed.getD j false = true) → a.tmps.getD s undef = vs.getD s undef
  made : ∀ p ∈ news, listed.getD p.1 false = true → ∃ g, w0.heap.size ≤ g ∧ a.tmps.getD p.2 undef = .pointer (some ⟨g, 0, none⟩) ∧ Cells w g zs t
  apart : ∀ p ∈ news, ∀ q ∈ news, p.2 ≠ q.2 → listed.getD p.1 false = true → listed.getD q.1 false = true → a.tmps.getD p.2 undef ≠ a.tmps.getD q.2 undef
/-- What is asked of an operation that makes no variable. -/
structure StepM (P : Program) (md : Region.Mode) (ops : Array Oper) (Q : Exit → Act → World → Prop) (L : List Nat) (w0 : World) (vs : List Value) (news : List (Nat × Nat)) (i : Nat) : Prop where
  step : ∃ o s, ops[i]? = some o ∧ o.dst = some s ∧ Nat.blt s vs.length = true ∧ oldB news s = true ∧ (L.all fun j => j == i || !dstIs ops j s) = true ∧
    ∀ a w K, Below w0.heap.size w0 w → (∀ t, okB md ops L i t = true → oldB news t = true → a.tmps.getD t undef = vs.getD t undef) → (∀ w', Below w.heap.size w w' → K (a.put o.dst (vs.getD s undef)) w') →
      if Region.wanted o (yielded ops a.tmps) = true then Oper.wp P o a w K Q else K (a.put o.dst undef) w
/-- What is asked of one that makes a variable. -/
structure NewM (P : Program) (ops : Array Oper) (L : List Nat) (n : Nat) (t : TypeId) (p : Nat × Nat) : Prop where
  new : ∃ o, ops[p.1]? = some o ∧ o.dst = some p.2 ∧ o.guard = none ∧ o.op = .alloc t ∧ Nat.blt p.2 n = true ∧ (L.all fun j => j == p.1 || !dstIs ops j p.2) = true
theorem flatM_step {w0 : World} {ds : List Deferred} {vs : List Value} {news : List (Nat × Nat)} {t : TypeId} {zs : List Value} (hnL : ∀ p ∈ news, p.1 ∈ L) (hN : ∀ p ∈ news, NewM P ops L vs.length t p) (hz : ∀ w, (zeroValue t).run P w = .ok (.agg zs.toArray) w) {i : Nat} (hi : i ∈ L) (h : (∃ p ∈ news, p.1 = i) ∨ StepM P md ops Q L w0 vs news i)
    (listed : Array Bool) (a : Act) (w : World) (hI : FlatM ops L w0 ds vs news t zs listed a w) (hr : i ∈ Region.ready md ops listed) : wpOp P ops Q i (FlatM ops L w0 ds vs news t zs (listed.setIfInBounds i true)) a w := by
  have hget : ∀ (s u : Nat) (v : Value), s ≠ u → (a.put (some s) v).tmps.getD u undef = a.tmps.getD u undef := fun s u v hne => put_getD_ne _ _ _ _ hne
  have hback : ∀ j, j ≠ i → (listed.setIfInBounds i true).getD j false = true → listed.getD j false = true := fun j hj hl => by
    rwa [getD_set_ne false (fun e => hj e.symm)] at hl
  rcases h with ⟨p, hp, rfl⟩ | h
  · obtain ⟨o, ho, hd, hg, hop, hs, hone⟩ := (hN p hp).new
    rw [List.all_eq_true] at hone
    have hs' : p.2 < vs.length := by simpa [Nat.blt_eq] using hs
    have hb : Below w.heap.size w (w.alloc (.cells zs.toArray t)) := (Below.refl _ _).alloc (Nat.le_refl _) _
    have heq : (a.put (some p.2) (.pointer (some ⟨w.heap.size, 0, none⟩))).tmps.getD p.2 undef = .pointer (some ⟨w.heap.size, 0, none⟩) := put_getD_eq _ _ _ (by rw [hI.size]; exact hs')
    have hone2 : ∀ q ∈ news, q.2 = p.2 → q.1 = p.1 := fun q hq e => by
      obtain ⟨oq, hoq, hdq, _⟩ := (hN q hq).new
      have := hone q.1 (hnL q hq)
      simpa [dstIs, hoq, hdq, e] using this
    suffices hfin : FlatM ops L w0 ds vs news t zs (listed.setIfInBounds p.1 true) (a.put (some p.2) (.pointer (some ⟨w.heap.size, 0, none⟩))) (w.alloc (.cells zs.toArray t)) by
      refine wpOp_step ho fun K hK => ?_
      rw [if_pos (by simp [Region.wanted, hg])]
      have hfin2 := hK _ _ hfin
      rw [← hd] at hfin2
      unfold Oper.wp
      simp only [execOp, hop, Instr.alloc, hz, newVar, Value.cells, Sem.run_bind, Sem.run_pure, Result.andThen_ok, go_sem]
      exact hfin2
    refine ⟨hI.below.trans (hb.mono hI.below.size), ?_, ?_, fun s hold hs2 => ?_, fun q hq hl => ?_, fun q hq q' hq' hne hl hl' => ?_⟩
    · rw [← hI.size]; simp [Act.put]
    · rw [← hI.defers]; rfl
    · have hne := oldB_ne hold p hp
      rw [hget _ _ _ hne]
      refine hI.fact s hold fun j hj hjs => ?_
      have h1 := hs2 j hj hjs
      refine hback j (fun e => ?_) h1
      rw [e] at hjs
      simp only [dstIs, ho, hd] at hjs
      exact hne (by simpa using hjs)
    · by_cases e : q.2 = p.2
      · rw [e, heq]
        exact ⟨_, hI.below.size, rfl, Cells.new w _ _⟩
      · rw [hget _ _ _ (fun e2 => e e2.symm)]
        obtain ⟨g, h1, h2, h3⟩ := hI.made q hq (hback _ (fun e2 => by
          obtain ⟨oq, hoq, hdq, _⟩ := (hN q hq).new
          rw [e2, ho] at hoq
          cases hoq
          rw [hd] at hdq
          exact e (by simpa using hdq.symm)) hl)
        exact ⟨g, h1, h2, h3.below hb h3.lt⟩
    · have key : ∀ r ∈ news, r.2 ≠ p.2 → (listed.setIfInBounds p.1 true).getD r.1 false = true → a.tmps.getD r.2 undef ≠ .pointer (some ⟨w.heap.size, 0, none⟩) := fun r hr2 hne2 hl2 e => by
        obtain ⟨g, h1, h2, h3⟩ := hI.made r hr2 (hback _ (fun e2 => by
          obtain ⟨oq, hoq, hdq, _⟩ := (hN r hr2).new
          rw [e2, ho] at hoq
          cases hoq
          rw [hd] at hdq
          exact hne2 (by simpa using hdq.symm)) hl2)
        rw [h2] at e
        have := h3.lt
        simp at e
        try omega
      have nl : ∀ r ∈ news, r.2 ≠ p.2 → (listed.setIfInBounds p.1 true).getD r.1 false = true → listed.getD r.1 false = true := fun r hr2 hne2 hl2 => hback _ (fun e2 => by
          obtain ⟨oq, hoq, hdq, _⟩ := (hN r hr2).new
          rw [e2, ho] at hoq
          cases hoq
          rw [hd] at hdq
          exact hne2 (by simpa using hdq.symm)) hl2
      by_cases e : q.2 = p.2
      · have e' : q'.2 ≠ p.2 := fun e2 => hne (e.trans e2.symm)
        rw [e, heq, hget _ _ _ (fun e2 => e' e2.symm)]
        exact fun h => key q' hq' e' hl' h.symm
      · by_cases e' : q'.2 = p.2
        · rw [e', heq, hget _ _ _ (fun e2 => e e2.symm)]
          exact key q hq e hl
        · rw [hget _ _ _ (fun e2 => e e2.symm), hget _ _ _ (fun e2 => e' e2.symm)]
          exact hI.apart q hq q' hq' hne (nl q hq e hl) (nl q' hq' e' hl')
  · obtain ⟨o, s, ho, hd, hs, hold, hone, hstep⟩ := h.step
    rw [List.all_eq_true] at hone
    have hs' : s < vs.length := by simpa [Nat.blt_eq] using hs
    have hnew := oldB_ne hold
    have hni : ∀ p ∈ news, p.1 ≠ i := fun p hp e => by
      obtain ⟨oq, hoq, hdq, _⟩ := (hN p hp).new
      rw [e, ho] at hoq
      cases hoq
      rw [hd] at hdq
      exact hnew p hp (by simpa using hdq.symm)
    refine wpOp_step ho fun K hK => ?_
    refine hstep a w K hI.below (fun u hu hou => hI.fact u hou fun j hj hjs => ?_) fun w' hb => hK _ _ ?_
    · rw [okB, List.all_eq_true] at hu
      have h1 := hu j hj
      rw [hjs] at h1
      exact ready_has hr (by simpa using h1)
    · rw [hd]
      refine ⟨hI.below.trans (hb.mono hI.below.size), ?_, ?_, fun u hou hu => ?_, fun q hq hl => ?_, fun q hq q' hq' hne hl hl' => ?_⟩
      · rw [← hI.size]; simp [Act.put]
      · rw [← hI.defers]; rfl
      · by_cases e : s = u
        · subst e
          rw [put_getD_eq _ _ _ (by rw [hI.size]; exact hs')]
        · rw [hget _ _ _ e]
          refine hI.fact u hou fun j hj hju => ?_
          have h1 := hu j hj hju
          refine hback j (fun ej => ?_) h1
          rw [ej] at hju
          simp only [dstIs, ho, hd] at hju
          exact e (by simpa using hju)
      · rw [hget _ _ _ (fun e => hnew q hq e.symm)]
        obtain ⟨g, h1, h2, h3⟩ := hI.made q hq (hback _ (hni q hq) hl)
        exact ⟨g, h1, h2, h3.below hb h3.lt⟩
      · rw [hget _ _ _ (fun e => hnew q hq e.symm), hget _ _ _ (fun e => hnew q' hq' e.symm)]
        exact hI.apart q hq q' hq' hne (hback _ (hni q hq) hl) (hback _ (hni q' hq') hl')
/-- The new variables' addresses laid into a frame. -/
def withNew (g : Nat → Nat) (news : List (Nat × Nat)) (vs : List Value) : List Value := news.foldl (fun l p => l.set p.2 (.pointer (some ⟨g p.2, 0, none⟩))) vs
theorem withNew_length (g : Nat → Nat) : ∀ (news : List (Nat × Nat)) (vs : List Value), (withNew g news vs).length = vs.length
  | [], _ => rfl
  | p :: r, vs => by rw [withNew, List.foldl_cons]; exact (withNew_length g r _).trans List.length_set
theorem withNew_old (g : Nat → Nat) (s : Nat) : ∀ (news : List (Nat × Nat)) (vs : List Value), oldB news s = true → (withNew g news vs).getD s undef = vs.getD s undef
  | [], _, _ => rfl
  | p :: r, vs, h => by
    have hp := oldB_ne h p List.mem_cons_self
    have hr : oldB r s = true := by rw [oldB, List.all_cons, Bool.and_eq_true] at h; exact h.2
    rw [withNew, List.foldl_cons]
    refine (withNew_old g s r _ hr).trans ?_
    rw [List.getD_eq_getElem?_getD, List.getD_eq_getElem?_getD, List.getElem?_set_ne hp]
theorem withNew_new (g : Nat → Nat) (s : Nat) : ∀ (news : List (Nat × Nat)) (vs : List Value), s < vs.length → (∃ p ∈ news, p.2 = s) → (withNew g news vs).getD s undef = .pointer (some ⟨g s, 0, none⟩)
  | [], _, _, h => by obtain ⟨_, h, _⟩ := h; cases h
  | p :: r, vs, hl, h => by
    rw [withNew, List.foldl_cons]
    by_cases hr : ∃ q ∈ r, q.2 = s
    · exact withNew_new g s r _ (by rw [List.length_set]; exact hl) hr
    · have hp : p.2 = s := by
        obtain ⟨q, hq, e⟩ := h
        rcases List.mem_cons.1 hq with rfl | hq
        · exact e
        · exact absurd ⟨q, hq, e⟩ hr
      have ho : oldB r s = true := by
        rw [oldB, List.all_eq_true]
        intro q hq
        cases hb : Nat.beq q.2 s with
        | false => rfl
        | true => exact absurd ⟨q, hq, Nat.eq_of_beq_eq_true hb⟩ hr
      refine (withNew_old g s r _ ho).trans ?_
      rw [hp]
      simp [hl]
theorem wpAny_flatM (hB : flatB md ops L = true) (w0 : World) (a0 : Act) (vs : List Value) (news : List (Nat × Nat)) (t : TypeId) (zs : List Value) (keep : List Nat) (hkeep : ((List.range vs.length).all fun s => keep.contains s || L.any fun j => dstIs ops j s && Nat.blt j ops.size) = true)
    (hnL : (news.all fun p => L.contains p.1) = true) (hN : ∀ p ∈ news, NewM P ops L vs.length t p) (hz : ∀ w, (zeroValue t).run P w = .ok (.agg zs.toArray) w)
    (hk : ∀ s ∈ keep, a0.tmps.getD s undef = vs.getD s undef) (hsz : a0.tmps.size = vs.length) (hstep : ∀ i ∈ L, (∃ p ∈ news, p.1 = i) ∨ StepM P md ops Q L w0 vs news i) (rem : Nat) (hrem : rem + (fullOf ops.size L).toList.countP id = ops.size)
    (hend : ∀ w (g : Nat → Nat), Below w0.heap.size w0 w → (∀ p ∈ news, w0.heap.size ≤ g p.2 ∧ Cells w (g p.2) zs t) → (∀ p ∈ news, ∀ q ∈ news, p.2 ≠ q.2 → g p.2 ≠ g q.2) → wpAny P md ops Q rem (fullOf ops.size L) ⟨(withNew g news vs).toArray, a0.defers⟩ w) : wpAny P md ops Q ops.size (Array.replicate ops.size false) a0 w0 := by
  rw [List.all_eq_true] at hkeep hnL
  have hnL' : ∀ p ∈ news, p.1 ∈ L := fun p hp => by simpa using hnL p hp
  have hno : ∀ j, (Array.replicate ops.size false).getD j false = false := fun j => by
    by_cases h : j < ops.size <;> simp [h]
  have h0 : (Array.replicate ops.size false).toList.countP id = 0 := by simp [List.countP_replicate]
  refine wpAny_flat hB (FlatM ops L w0 a0.defers vs news t zs) (fun i hi => flatM_step hnL' hN hz hi (hstep i hi)) rem hrem (fun a w hI => ?_) ops.size _ a0 w0 ⟨by simp, fun j hj => ?_, fun i j hi => ?_⟩ (by omega) ⟨Below.refl _ _, hsz, rfl, fun s hold hs => ?_, fun p hp hl => ?_, fun p hp q hq _ hl => ?_⟩
  · have hful : ∀ j ∈ L, j < ops.size → (fullOf ops.size L).getD j false = true := fun j hj hlt => by simp [fullOf, hlt, hj]
    have hnew : ∀ p ∈ news, (fullOf ops.size L).getD p.1 false = true := fun p hp => by
      obtain ⟨o, ho, _⟩ := (hN p hp).new
      exact hful _ (hnL' p hp) (Array.getElem?_eq_some_iff.1 ho).1
    have hg : ∃ g : Nat → Nat, ∀ p ∈ news, w0.heap.size ≤ g p.2 ∧ a.tmps.getD p.2 undef = .pointer (some ⟨g p.2, 0, none⟩) ∧ Cells w (g p.2) zs t := by
      refine ⟨fun s => blk (a.tmps.getD s undef), fun p hp => ?_⟩
      obtain ⟨g, h1, h2, h3⟩ := hI.made p hp (hnew p hp)
      have hb : blk (a.tmps.getD p.2 undef) = g := by rw [h2]; rfl
      show w0.heap.size ≤ blk (a.tmps.getD p.2 undef) ∧ a.tmps.getD p.2 undef = .pointer (some ⟨blk (a.tmps.getD p.2 undef), 0, none⟩) ∧ Cells w (blk (a.tmps.getD p.2 undef)) zs t
      rw [hb]
      exact ⟨h1, h2, h3⟩
    obtain ⟨g, hg⟩ := hg
    rw [frame_is (vs := withNew g news vs) (by rw [withNew_length]; exact hI.size) hI.defers fun s => ?_]
    · refine hend w g hI.below (fun p hp => ⟨(hg p hp).1, (hg p hp).2.2⟩) fun p hp q hq hne e => hI.apart p hp q hq hne (hnew p hp) (hnew q hq) ?_
      rw [(hg p hp).2.1, (hg q hq).2.1, e]
    · by_cases ho : oldB news s = true
      · rw [withNew_old g s news vs ho]
        refine hI.fact s ho fun j hj hjs => hful j hj ?_
        unfold dstIs at hjs
        rcases Nat.lt_or_ge j ops.size with h | h
        · exact h
        · rw [Array.getElem?_eq_none h] at hjs; cases hjs
      · have hex : ∃ p ∈ news, p.2 = s := by
          refine Classical.byContradiction fun hc => ho ?_
          rw [oldB, List.all_eq_true]
          intro q hq
          cases hb : Nat.beq q.2 s with
          | false => rfl
          | true => exact absurd ⟨q, hq, Nat.eq_of_beq_eq_true hb⟩ hc
        obtain ⟨p, hp, e⟩ := hex
        obtain ⟨o, _, _, _, _, hlt, _⟩ := (hN p hp).new
        rw [withNew_new g s news vs (by rw [← e]; simpa [Nat.blt_eq] using hlt) ⟨p, hp, e⟩, ← e]
        exact (hg p hp).2.1
  · rw [hno] at hj; cases hj
  · rw [hno] at hi; cases hi
  · rcases Nat.lt_or_ge s vs.length with h | h
    · have h1 := hkeep s (List.mem_range.2 h)
      rw [Bool.or_eq_true, List.contains_iff_mem, List.any_eq_true] at h1
      rcases h1 with h1 | ⟨j, hj, h1⟩
      · exact hk s h1
      · rw [Bool.and_eq_true] at h1
        have := hs j hj h1.1
        rw [hno] at this; cases this
    · simp [Array.getElem?_eq_none (show a0.tmps.size ≤ s by omega), h]
  · rw [hno] at hl; cases hl
  · rw [hno] at hl; cases hl
/-- A guarded operation whose guard is known. -/
theorem wanted_is {o : Oper} {a : Act} {j s : Nat} {b c : Bool} (hg : o.guard = some (j, b)) {oj : Oper} (hj : ops[j]? = some oj) (hd : oj.dst = some s) (hv : a.tmps.getD s undef = .bool c) : Region.wanted o (yielded ops a.tmps) = (c == b) := by
  simp only [Region.wanted, hg]
  unfold yielded
  rw [Array.getD_eq_getD_getElem?] at hv
  cases h : a.tmps[s]? with
  | none => rw [h] at hv; cases hv
  | some v =>
    rw [h] at hv
    obtain rfl : v = .bool c := hv
    simp [hj, hd, h]
/-- An operation, whether it is wanted (told by its guard's slot), and what it then yields. -/
theorem mStep {w0 : World} {vs : List Value} {news : List (Nat × Nat)} {i : Nat} (o : Oper) (s : Nat) (ho : ops[i]? = some o) (hd : o.dst = some s) (hs : Nat.blt s vs.length = true) (hold : oldB news s = true) (hone : (L.all fun j => j == i || !dstIs ops j s) = true)
    (hw : ∀ a : Act, (∀ t, okB md ops L i t = true → oldB news t = true → a.tmps.getD t undef = vs.getD t undef) → Region.wanted o (yielded ops a.tmps) = true)
    (hr : ∀ a w K, Below w0.heap.size w0 w → (∀ t, okB md ops L i t = true → oldB news t = true → a.tmps.getD t undef = vs.getD t undef) → (∀ w', Below w.heap.size w w' → K (a.put o.dst (vs.getD s undef)) w') → Oper.wp P o a w K Q) : StepM P md ops Q L w0 vs news i :=
  ⟨o, s, ho, hd, hs, hold, hone, fun a w K hb hv hK => by rw [if_pos (hw a hv)]; exact hr a w K hb hv hK⟩
/-- One that isn't wanted. -/
theorem mSkip {w0 : World} {vs : List Value} {news : List (Nat × Nat)} {i : Nat} (o : Oper) (s : Nat) (ho : ops[i]? = some o) (hd : o.dst = some s) (hs : Nat.blt s vs.length = true) (hold : oldB news s = true) (hone : (L.all fun j => j == i || !dstIs ops j s) = true)
    (hw : ∀ a : Act, (∀ t, okB md ops L i t = true → oldB news t = true → a.tmps.getD t undef = vs.getD t undef) → Region.wanted o (yielded ops a.tmps) = false) (hu : vs.getD s undef = undef) : StepM P md ops Q L w0 vs news i :=
  ⟨o, s, ho, hd, hs, hold, hone, fun a w K hb hv hK => by rw [if_neg (by rw [hw a hv]; decide)]; have := hK w (Below.refl _ _); rwa [hu] at this⟩
theorem wanted_all {o : Oper} (hg : o.guard = none) (y : Nat → Option Bool) : Region.wanted o y = true := by simp [Region.wanted, hg]
theorem mPure {o : Oper} {a : Act} {w : World} {K : Act → World → Prop} (v : Value) (hr : (execOp a.eval o).run P w = .ok (.value v) w) (h : ∀ w', Below w.heap.size w w' → K (a.put o.dst v) w') : Oper.wp P o a w K Q := flat_pure v hr (h w (Below.refl _ _))
theorem mCall {o : Oper} {a : Act} {w : World} {K : Act → World → Prop} (v : Value) (f : FuncId) (args : List Operand) (tys : Array TypeId) (hop : o.op = .call { callee := .value (.func f), args := args.toArray, argTypes := tys }) (us : List Value) (hu : args.map a.eval = us)
    (hcf : ∀ args w, (callFunc f args).run P w = .ok (.enter f args) w) (hc : Calls P f us.toArray w fun e w' => e = .returned v ∧ Below w.heap.size w w') (h : ∀ w', Below w.heap.size w w' → K (a.put o.dst v) w') : Oper.wp P o a w K Q := by
  unfold Oper.wp
  simp [execOp, hop, resolve, invoke, Act.eval, Deferred.ofValue, hu, hcf, Oper.upon]
  refine hc.mono fun e w' hR => ?_
  obtain ⟨rfl, hb'⟩ := hR
  exact h w' hb'
theorem exec_pick (ρ : Operand → Value) (o : Oper) (c x y : Operand) (h : o.op = .pick c x y) (b : Bool) (hc : ρ c = .bool b) (w : World) : (execOp ρ o).run P w = .ok (.value (if b then ρ x else ρ y)) w := by
  simp [execOp, h, hc, asBool]
end
end Go.Proofs.YtcnmohmlfffnkaaDoor
