/- Part 11 of what the laws of this seat share: WFlat2, HSteps, JPoint, NCurve, NAssoc, NGroup, NEdw, NPoints, NOrder. -/
import Derived.Deep.MidRow
import Derived.Test.YtagjbdhelfickaaDoorPart10
namespace Go.Proofs.YtagjbdhelfickaaDoor
open Go.RowKit
section
variable {P : Program} {ops : Array Oper} {Q : Exit → Act → World → Prop} {md : Region.Mode} {L : List Nat}
/-- Slot s is none of the new variables'. -/
def oldB (news : List (Nat × Nat)) (s : Nat) : Bool := news.all fun p => !Nat.beq p.2 s
theorem oldB_ne {news : List (Nat × Nat)} {s : Nat} (h : oldB news s = true) : ∀ p ∈ news, p.2 ≠ s := fun p hp e => by
  rw [oldB, List.all_eq_true] at h
  have := h p hp
  rw [e, show Nat.beq s s = true from Nat.beq_refl s] at this
  cases this
structure FlatM (ops : Array Oper) (L : List Nat) (w0 : World) (ds : List Deferred) (vs : List Value) (news : List (Nat × Nat)) (t : Nat → TypeId) (zs : Nat → List Value) (listed : Array Bool) (a : Act) (w : World) : Prop where
  below : Below w0.heap.size w0 w
  size : a.tmps.size = vs.length
  defers : a.defers = ds
  fact : ∀ s, oldB news s = true → (∀ j ∈ L, dstIs ops j s = true → listed.getD j false = true) → a.tmps.getD s undef = vs.getD s undef
  made : ∀ p ∈ news, listed.getD p.1 false = true → ∃ g, w0.heap.size ≤ g ∧ a.tmps.getD p.2 undef = .pointer (some ⟨g, 0, none⟩) ∧ Cells w g (zs p.2) (t p.2)
  apart : ∀ p ∈ news, ∀ q ∈ news, p.2 ≠ q.2 → listed.getD p.1 false = true → listed.getD q.1 false = true → a.tmps.getD p.2 undef ≠ a.tmps.getD q.2 undef
/-- What is asked of an operation that makes no variable. -/
structure StepM (P : Program) (md : Region.Mode) (ops : Array Oper) (Q : Exit → Act → World → Prop) (L : List Nat) (w0 : World) (vs : List Value) (news : List (Nat × Nat)) (i : Nat) : Prop where
  step : ∃ o s, ops[i]? = some o ∧ o.dst = some s ∧ Nat.blt s vs.length = true ∧ oldB news s = true ∧ (L.all fun j => j == i || !dstIs ops j s) = true ∧
    ∀ a w K, Below w0.heap.size w0 w → (∀ t, okB md ops L i t = true → oldB news t = true → a.tmps.getD t undef = vs.getD t undef) → (∀ w', Below w.heap.size w w' → K (a.put o.dst (vs.getD s undef)) w') →
      if Region.wanted o (yielded ops a.tmps) = true then Oper.wp P o a w K Q else K (a.put o.dst undef) w
/-- What is asked of one that makes a variable. -/
structure NewM (P : Program) (ops : Array Oper) (L : List Nat) (n : Nat) (t : TypeId) (p : Nat × Nat) : Prop where
  new : ∃ o, ops[p.1]? = some o ∧ o.dst = some p.2 ∧ o.guard = none ∧ o.op = .alloc t ∧ Nat.blt p.2 n = true ∧ (L.all fun j => j == p.1 || !dstIs ops j p.2) = true
theorem flatM_step {w0 : World} {ds : List Deferred} {vs : List Value} {news : List (Nat × Nat)} {t : Nat → TypeId} {zs : Nat → List Value} (hnL : ∀ p ∈ news, p.1 ∈ L) (hN : ∀ p ∈ news, NewM P ops L vs.length (t p.2) p) (hz : ∀ p ∈ news, ∀ w, (zeroValue (t p.2)).run P w = .ok (.agg (zs p.2).toArray) w) {i : Nat} (hi : i ∈ L) (h : (∃ p ∈ news, p.1 = i) ∨ StepM P md ops Q L w0 vs news i)
    (listed : Array Bool) (a : Act) (w : World) (hI : FlatM ops L w0 ds vs news t zs listed a w) (hr : i ∈ Region.ready md ops listed) : wpOp P ops Q i (FlatM ops L w0 ds vs news t zs (listed.setIfInBounds i true)) a w := by
  have hget : ∀ (s u : Nat) (v : Value), s ≠ u → (a.put (some s) v).tmps.getD u undef = a.tmps.getD u undef := fun s u v hne => put_getD_ne _ _ _ _ hne
  have hback : ∀ j, j ≠ i → (listed.setIfInBounds i true).getD j false = true → listed.getD j false = true := fun j hj hl => by
    rwa [getD_set_ne false (fun e => hj e.symm)] at hl
  rcases h with ⟨p, hp, rfl⟩ | h
  · obtain ⟨o, ho, hd, hg, hop, hs, hone⟩ := (hN p hp).new
    rw [List.all_eq_true] at hone
    have hs' : p.2 < vs.length := by simpa [Nat.blt_eq] using hs
    have hb : Below w.heap.size w (w.alloc (.cells (zs p.2).toArray (t p.2))) := (Below.refl _ _).alloc (Nat.le_refl _) _
    have heq : (a.put (some p.2) (.pointer (some ⟨w.heap.size, 0, none⟩))).tmps.getD p.2 undef = .pointer (some ⟨w.heap.size, 0, none⟩) := put_getD_eq _ _ _ (by rw [hI.size]; exact hs')
    have hone2 : ∀ q ∈ news, q.2 = p.2 → q.1 = p.1 := fun q hq e => by
      obtain ⟨oq, hoq, hdq, _⟩ := (hN q hq).new
      have := hone q.1 (hnL q hq)
      simpa [dstIs, hoq, hdq, e] using this
    suffices hfin : FlatM ops L w0 ds vs news t zs (listed.setIfInBounds p.1 true) (a.put (some p.2) (.pointer (some ⟨w.heap.size, 0, none⟩))) (w.alloc (.cells (zs p.2).toArray (t p.2))) by
      refine wpOp_step ho fun K hK => ?_
      rw [if_pos (by simp [Region.wanted, hg])]
      have hfin2 := hK _ _ hfin
      rw [← hd] at hfin2
      unfold Oper.wp
      simp only [execOp, hop, Instr.alloc, hz p hp, newVar, Value.cells, Sem.run_bind, Sem.run_pure, Result.andThen_ok, go_sem]
      exact hfin2
    refine ⟨hI.below.trans (hb.mono hI.below.size), ?_, ?_, fun s hold hs2 => ?_, fun q hq hl => ?_, fun q hq q' hq' hne hl hl' => ?_⟩
    · rw [← hI.size]; simp [Act.put]
    · rw [← hI.defers]; rfl
    · have hne := oldB_ne hold p hp
      rw [hget _ _ _ hne]
      refine hI.fact s hold fun j hj hjs => ?_
      have h1 := hs2 j hj hjs
      refine hback j (fun e => ?_) h1
      rw [e] at hjs
      simp only [dstIs, ho, hd] at hjs
      exact hne (by simpa using hjs)
    · by_cases e : q.2 = p.2
      · rw [e, heq]
        exact ⟨_, hI.below.size, rfl, Cells.new w _ _⟩
      · rw [hget _ _ _ (fun e2 => e e2.symm)]
        obtain ⟨g, h1, h2, h3⟩ := hI.made q hq (hback _ (fun e2 => by
          obtain ⟨oq, hoq, hdq, _⟩ := (hN q hq).new
          rw [e2, ho] at hoq
          cases hoq
          rw [hd] at hdq
          exact e (by simpa using hdq.symm)) hl)
        exact ⟨g, h1, h2, h3.below hb h3.lt⟩
    · have key : ∀ r ∈ news, r.2 ≠ p.2 → (listed.setIfInBounds p.1 true).getD r.1 false = true → a.tmps.getD r.2 undef ≠ .pointer (some ⟨w.heap.size, 0, none⟩) := fun r hr2 hne2 hl2 e => by
        obtain ⟨g, h1, h2, h3⟩ := hI.made r hr2 (hback _ (fun e2 => by
          obtain ⟨oq, hoq, hdq, _⟩ := (hN r hr2).new
          rw [e2, ho] at hoq
          cases hoq
          rw [hd] at hdq
          exact hne2 (by simpa using hdq.symm)) hl2)
        rw [h2] at e
        have := h3.lt
        simp at e
        try omega
      have nl : ∀ r ∈ news, r.2 ≠ p.2 → (listed.setIfInBounds p.1 true).getD r.1 false = true → listed.getD r.1 false = true := fun r hr2 hne2 hl2 => hback _ (fun e2 => by
          obtain ⟨oq, hoq, hdq, _⟩ := (hN r hr2).new
          rw [e2, ho] at hoq
          cases hoq
          rw [hd] at hdq
          exact hne2 (by simpa using hdq.symm)) hl2
      by_cases e : q.2 = p.2
      · have e' : q'.2 ≠ p.2 := fun e2 => hne (e.trans e2.symm)
        rw [e, heq, hget _ _ _ (fun e2 => e' e2.symm)]
        exact fun h => key q' hq' e' hl' h.symm
      · by_cases e' : q'.2 = p.2
        · rw [e', heq, hget _ _ _ (fun e2 => e e2.symm)]
          exact key q hq e hl
        · rw [hget _ _ _ (fun e2 => e e2.symm), hget _ _ _ (fun e2 => e' e2.symm)]
          exact hI.apart q hq q' hq' hne (nl q hq e hl) (nl q' hq' e' hl')
  · obtain ⟨o, s, ho, hd, hs, hold, hone, hstep⟩ := h.step
    rw [List.all_eq_true] at hone
    have hs' : s < vs.length := by simpa [Nat.blt_eq] using hs
    have hnew := oldB_ne hold
    have hni : ∀ p ∈ news, p.1 ≠ i := fun p hp e => by
      obtain ⟨oq, hoq, hdq, _⟩ := (hN p hp).new
      rw [e, ho] at hoq
      cases hoq
      rw [hd] at hdq
      exact hnew p hp (by simpa using hdq.symm)
    refine wpOp_step ho fun K hK => ?_
    refine hstep a w K hI.below (fun u hu hou => hI.fact u hou fun j hj hjs => ?_) fun w' hb => hK _ _ ?_
    · rw [okB, List.all_eq_true] at hu
      have h1 := hu j hj
      rw [hjs] at h1
      exact ready_has hr (by simpa using h1)
    · rw [hd]
      refine ⟨hI.below.trans (hb.mono hI.below.size), ?_, ?_, fun u hou hu => ?_, fun q hq hl => ?_, fun q hq q' hq' hne hl hl' => ?_⟩
      · rw [← hI.size]; simp [Act.put]
      · rw [← hI.defers]; rfl
      · by_cases e : s = u
        · subst e
          rw [put_getD_eq _ _ _ (by rw [hI.size]; exact hs')]
        · rw [hget _ _ _ e]
          refine hI.fact u hou fun j hj hju => ?_
          have h1 := hu j hj hju
          refine hback j (fun ej => ?_) h1
          rw [ej] at hju
          simp only [dstIs, ho, hd] at hju
          exact e (by simpa using hju)
      · rw [hget _ _ _ (fun e => hnew q hq e.symm)]
        obtain ⟨g, h1, h2, h3⟩ := hI.made q hq (hback _ (hni q hq) hl)
        exact ⟨g, h1, h2, h3.below hb h3.lt⟩
      · rw [hget _ _ _ (fun e => hnew q hq e.symm), hget _ _ _ (fun e => hnew q' hq' e.symm)]
        exact hI.apart q hq q' hq' hne (hback _ (hni q hq) hl) (hback _ (hni q' hq') hl')
/-- The new variables' addresses laid into a frame. -/
def withNew (g : Nat → Nat) (news : List (Nat × Nat)) (vs : List Value) : List Value := news.foldl (fun l p => l.set p.2 (.pointer (some ⟨g p.2, 0, none⟩))) vs
theorem withNew_length (g : Nat → Nat) : ∀ (news : List (Nat × Nat)) (vs : List Value), (withNew g news vs).length = vs.length
  | [], _ => rfl
  | p :: r, vs => by rw [withNew, List.foldl_cons]; exact (withNew_length g r _).trans List.length_set
theorem withNew_old (g : Nat → Nat) (s : Nat) : ∀ (news : List (Nat × Nat)) (vs : List Value), oldB news s = true → (withNew g news vs).getD s undef = vs.getD s undef
  | [], _, _ => rfl
  | p :: r, vs, h => by
    have hp := oldB_ne h p List.mem_cons_self
    have hr : oldB r s = true := by rw [oldB, List.all_cons, Bool.and_eq_true] at h; exact h.2
    rw [withNew, List.foldl_cons]
    refine (withNew_old g s r _ hr).trans ?_
    rw [List.getD_eq_getElem?_getD, List.getD_eq_getElem?_getD, List.getElem?_set_ne hp]
theorem withNew_new (g : Nat → Nat) (s : Nat) : ∀ (news : List (Nat × Nat)) (vs : List Value), s < vs.length → (∃ p ∈ news, p.2 = s) → (withNew g news vs).getD s undef = .pointer (some ⟨g s, 0, none⟩)
  | [], _, _, h => by obtain ⟨_, h, _⟩ := h; cases h
  | p :: r, vs, hl, h => by
    rw [withNew, List.foldl_cons]
    by_cases hr : ∃ q ∈ r, q.2 = s
    · exact withNew_new g s r _ (by rw [List.length_set]; exact hl) hr
    · have hp : p.2 = s := by
        obtain ⟨q, hq, e⟩ := h
        rcases List.mem_cons.1 hq with rfl | hq
        · exact e
        · exact absurd ⟨q, hq, e⟩ hr
      have ho : oldB r s = true := by
        rw [oldB, List.all_eq_true]
        intro q hq
        cases hb : Nat.beq q.2 s with
        | false => rfl
        | true => exact absurd ⟨q, hq, Nat.eq_of_beq_eq_true hb⟩ hr
      refine (withNew_old g s r _ ho).trans ?_
      rw [hp]
      simp [hl]
theorem wpAny_flatMM (hB : flatB md ops L = true) (w0 : World) (a0 : Act) (vs : List Value) (news : List (Nat × Nat)) (t : Nat → TypeId) (zs : Nat → List Value) (keep : List Nat) (hkeep : ((List.range vs.length).all fun s => keep.contains s || L.any fun j => dstIs ops j s && Nat.blt j ops.size) = true)
    (hnL : (news.all fun p => L.contains p.1) = true) (hN : ∀ p ∈ news, NewM P ops L vs.length (t p.2) p) (hz : ∀ p ∈ news, ∀ w, (zeroValue (t p.2)).run P w = .ok (.agg (zs p.2).toArray) w)
    (hk : ∀ s ∈ keep, a0.tmps.getD s undef = vs.getD s undef) (hsz : a0.tmps.size = vs.length) (hstep : ∀ i ∈ L, (∃ p ∈ news, p.1 = i) ∨ StepM P md ops Q L w0 vs news i) (rem : Nat) (hrem : rem + (fullOf ops.size L).toList.countP id = ops.size)
    (hend : ∀ w (g : Nat → Nat), Below w0.heap.size w0 w → (∀ p ∈ news, w0.heap.size ≤ g p.2 ∧ Cells w (g p.2) (zs p.2) (t p.2)) → (∀ p ∈ news, ∀ q ∈ news, p.2 ≠ q.2 → g p.2 ≠ g q.2) → wpAny P md ops Q rem (fullOf ops.size L) ⟨(withNew g news vs).toArray, a0.defers⟩ w) : wpAny P md ops Q ops.size (Array.replicate ops.size false) a0 w0 := by
  rw [List.all_eq_true] at hkeep hnL
  have hnL' : ∀ p ∈ news, p.1 ∈ L := fun p hp => by simpa using hnL p hp
  have hno : ∀ j, (Array.replicate ops.size false).getD j false = false := fun j => by
    by_cases h : j < ops.size <;> simp [h]
  have h0 : (Array.replicate ops.size false).toList.countP id = 0 := by simp [List.countP_replicate]
  refine wpAny_flat hB (FlatM ops L w0 a0.defers vs news t zs) (fun i hi => flatM_step hnL' hN hz hi (hstep i hi)) rem hrem (fun a w hI => ?_) ops.size _ a0 w0 ⟨by simp, fun j hj => ?_, fun i j hi => ?_⟩ (by omega) ⟨Below.refl _ _, hsz, rfl, fun s hold hs => ?_, fun p hp hl => ?_, fun p hp q hq _ hl => ?_⟩
  · have hful : ∀ j ∈ L, j < ops.size → (fullOf ops.size L).getD j false = true := fun j hj hlt => by simp [fullOf, hlt, hj]
    have hnew : ∀ p ∈ news, (fullOf ops.size L).getD p.1 false = true := fun p hp => by
      obtain ⟨o, ho, _⟩ := (hN p hp).new
      exact hful _ (hnL' p hp) (Array.getElem?_eq_some_iff.1 ho).1
    have hg : ∃ g : Nat → Nat, ∀ p ∈ news, w0.heap.size ≤ g p.2 ∧ a.tmps.getD p.2 undef = .pointer (some ⟨g p.2, 0, none⟩) ∧ Cells w (g p.2) (zs p.2) (t p.2) := by
      refine ⟨fun s => blk (a.tmps.getD s undef), fun p hp => ?_⟩
      obtain ⟨g, h1, h2, h3⟩ := hI.made p hp (hnew p hp)
      have hb : blk (a.tmps.getD p.2 undef) = g := by rw [h2]; rfl
      show w0.heap.size ≤ blk (a.tmps.getD p.2 undef) ∧ a.tmps.getD p.2 undef = .pointer (some ⟨blk (a.tmps.getD p.2 undef), 0, none⟩) ∧ Cells w (blk (a.tmps.getD p.2 undef)) (zs p.2) (t p.2)
      rw [hb]
      exact ⟨h1, h2, h3⟩
    obtain ⟨g, hg⟩ := hg
    rw [frame_is (vs := withNew g news vs) (by rw [withNew_length]; exact hI.size) hI.defers fun s => ?_]
    · refine hend w g hI.below (fun p hp => ⟨(hg p hp).1, (hg p hp).2.2⟩) fun p hp q hq hne e => hI.apart p hp q hq hne (hnew p hp) (hnew q hq) ?_
      rw [(hg p hp).2.1, (hg q hq).2.1, e]
    · by_cases ho : oldB news s = true
      · rw [withNew_old g s news vs ho]
        refine hI.fact s ho fun j hj hjs => hful j hj ?_
        unfold dstIs at hjs
        rcases Nat.lt_or_ge j ops.size with h | h
        · exact h
        · rw [Array.getElem?_eq_none h] at hjs; cases hjs
      · have hex : ∃ p ∈ news, p.2 = s := by
          refine Classical.byContradiction fun hc => ho ?_
          rw [oldB, List.all_eq_true]
          intro q hq
          cases hb : Nat.beq q.2 s with
          | false => rfl
          | true => exact absurd ⟨q, hq, Nat.eq_of_beq_eq_true hb⟩ hc
        obtain ⟨p, hp, e⟩ := hex
        obtain ⟨o, _, _, _, _, hlt, _⟩ := (hN p hp).new
        rw [withNew_new g s news vs (by rw [← e]; simpa [Nat.blt_eq] using hlt) ⟨p, hp, e⟩, ← e]
        exact (hg p hp).2.1
  · rw [hno] at hj; cases hj
  · rw [hno] at hi; cases hi
  · rcases Nat.lt_or_ge s vs.length with h | h
    · have h1 := hkeep s (List.mem_range.2 h)
      rw [Bool.or_eq_true, List.contains_iff_mem, List.any_eq_true] at h1
      rcases h1 with h1 | ⟨j, hj, h1⟩
      · exact hk s h1
      · rw [Bool.and_eq_true] at h1
        have := hs j hj h1.1
        rw [hno] at this; cases this
    · simp [Array.getElem?_eq_none (show a0.tmps.size ≤ s by omega), h]
  · rw [hno] at hl; cases hl
  · rw [hno] at hl; cases hl
theorem wpAny_flatM (hB : flatB md ops L = true) (w0 : World) (a0 : Act) (vs : List Value) (news : List (Nat × Nat)) (t : TypeId) (zs : List Value) (keep : List Nat) (hkeep : ((List.range vs.length).all fun s => keep.contains s || L.any fun j => dstIs ops j s && Nat.blt j ops.size) = true)
    (hnL : (news.all fun p => L.contains p.1) = true) (hN : ∀ p ∈ news, NewM P ops L vs.length t p) (hz : ∀ w, (zeroValue t).run P w = .ok (.agg zs.toArray) w)
    (hk : ∀ s ∈ keep, a0.tmps.getD s undef = vs.getD s undef) (hsz : a0.tmps.size = vs.length) (hstep : ∀ i ∈ L, (∃ p ∈ news, p.1 = i) ∨ StepM P md ops Q L w0 vs news i) (rem : Nat) (hrem : rem + (fullOf ops.size L).toList.countP id = ops.size)
    (hend : ∀ w (g : Nat → Nat), Below w0.heap.size w0 w → (∀ p ∈ news, w0.heap.size ≤ g p.2 ∧ Cells w (g p.2) zs t) → (∀ p ∈ news, ∀ q ∈ news, p.2 ≠ q.2 → g p.2 ≠ g q.2) → wpAny P md ops Q rem (fullOf ops.size L) ⟨(withNew g news vs).toArray, a0.defers⟩ w) : wpAny P md ops Q ops.size (Array.replicate ops.size false) a0 w0 :=
  wpAny_flatMM hB w0 a0 vs news (fun _ => t) (fun _ => zs) keep hkeep hnL hN (fun _ _ => hz) hk hsz hstep rem hrem hend
/-- A guarded operation whose guard is known. -/
theorem wanted_is {o : Oper} {a : Act} {j s : Nat} {b c : Bool} (hg : o.guard = some (j, b)) {oj : Oper} (hj : ops[j]? = some oj) (hd : oj.dst = some s) (hv : a.tmps.getD s undef = .bool c) : Region.wanted o (yielded ops a.tmps) = (c == b) := by
  simp only [Region.wanted, hg]
  unfold yielded
  rw [Array.getD_eq_getD_getElem?] at hv
  cases h : a.tmps[s]? with
  | none => rw [h] at hv; cases hv
  | some v =>
    rw [h] at hv
    obtain rfl : v = .bool c := hv
    simp [hj, hd, h]
/-- An operation, whether it is wanted (told by its guard's slot), and what it then yields. -/
theorem mStep {w0 : World} {vs : List Value} {news : List (Nat × Nat)} {i : Nat} (o : Oper) (s : Nat) (ho : ops[i]? = some o) (hd : o.dst = some s) (hs : Nat.blt s vs.length = true) (hold : oldB news s = true) (hone : (L.all fun j => j == i || !dstIs ops j s) = true)
    (hw : ∀ a : Act, (∀ t, okB md ops L i t = true → oldB news t = true → a.tmps.getD t undef = vs.getD t undef) → Region.wanted o (yielded ops a.tmps) = true)
    (hr : ∀ a w K, Below w0.heap.size w0 w → (∀ t, okB md ops L i t = true → oldB news t = true → a.tmps.getD t undef = vs.getD t undef) → (∀ w', Below w.heap.size w w' → K (a.put o.dst (vs.getD s undef)) w') → Oper.wp P o a w K Q) : StepM P md ops Q L w0 vs news i :=
  ⟨o, s, ho, hd, hs, hold, hone, fun a w K hb hv hK => by rw [if_pos (hw a hv)]; exact hr a w K hb hv hK⟩
/-- One that isn't wanted. -/
theorem mSkip {w0 : World} {vs : List Value} {news : List (Nat × Nat)} {i : Nat} (o : Oper) (s : Nat) (ho : ops[i]? = some o) (hd : o.dst = some s) (hs : Nat.blt s vs.length = true) (hold : oldB news s = true) (hone : (L.all fun j => j == i || !dstIs ops j s) = true)
    (hw : ∀ a : Act, (∀ t, okB md ops L i t = true → oldB news t = true → a.tmps.getD t undef = vs.getD t undef) → Region.wanted o (yielded ops a.tmps) = false) (hu : vs.getD s undef = undef) : StepM P md ops Q L w0 vs news i :=
  ⟨o, s, ho, hd, hs, hold, hone, fun a w K hb hv hK => by rw [if_neg (by rw [hw a hv]; decide)]; have := hK w (Below.refl _ _); rwa [hu] at this⟩
theorem wanted_all {o : Oper} (hg : o.guard = none) (y : Nat → Option Bool) : Region.wanted o y = true := by simp [Region.wanted, hg]
theorem mPure {o : Oper} {a : Act} {w : World} {K : Act → World → Prop} (v : Value) (hr : (execOp a.eval o).run P w = .ok (.value v) w) (h : ∀ w', Below w.heap.size w w' → K (a.put o.dst v) w') : Oper.wp P o a w K Q := flat_pure v hr (h w (Below.refl _ _))
theorem mCall {o : Oper} {a : Act} {w : World} {K : Act → World → Prop} (v : Value) (f : FuncId) (args : List Operand) (tys : Array TypeId) (hop : o.op = .call { callee := .value (.func f), args := args.toArray, argTypes := tys }) (us : List Value) (hu : args.map a.eval = us)
    (hcf : ∀ args w, (callFunc f args).run P w = .ok (.enter f args) w) (hc : Calls P f us.toArray w fun e w' => e = .returned v ∧ Below w.heap.size w w') (h : ∀ w', Below w.heap.size w w' → K (a.put o.dst v) w') : Oper.wp P o a w K Q := by
  unfold Oper.wp
  simp [execOp, hop, resolve, invoke, Act.eval, Deferred.ofValue, hu, hcf, Oper.upon]
  refine hc.mono fun e w' hR => ?_
  obtain ⟨rfl, hb'⟩ := hR
  exact h w' hb'
theorem exec_pick (ρ : Operand → Value) (o : Oper) (c x y : Operand) (h : o.op = .pick c x y) (b : Bool) (hc : ρ c = .bool b) (w : World) : (execOp ρ o).run P w = .ok (.value (if b then ρ x else ρ y)) w := by
  simp [execOp, h, hc, asBool]
end
end Go.Proofs.YtagjbdhelfickaaDoor
namespace Go.Proofs.YtagjbdhelfickaaDoor
open Go.RowKit
theorem key_run {w : World} {g : Nat} {l : List UInt8} {t' : TypeId} (hC : Cells w g (l.map cellOf) t') (hl : l.length = 32) : (Instr.loadAt 23 (.pointer (some ⟨g, 0, none⟩))).run Tryd.prog w = .ok (hashVal l) w := by
  have h := run_loadVar_row (P := Tryd.prog) w g t' 23 (l.map cellOf).toArray (0, 0) _ hC Tryd.underlying23 rfl (by rw [List.size_toArray, List.length_map, hl]; exact size_k32)
  simp only [Instr.loadAt, Instr.sureAddr, Sem.run_bind, Sem.run_pure, Result.andThen_ok]
  exact h
theorem pick_true {P : Program} (ρ : Operand → Value) (o : Oper) (c x y : Operand) (h : o.op = .pick c x y) (hc : ρ c = .bool true) (v : Value) (hx : ρ x = v) (w : World) : (execOp ρ o).run P w = .ok (.value v) w := by
  rw [exec_pick ρ o c x y h true hc w, if_pos rfl, hx]
theorem pick_false {P : Program} (ρ : Operand → Value) (o : Oper) (c x y : Operand) (h : o.op = .pick c x y) (hc : ρ c = .bool false) (v : Value) (hx : ρ y = v) (w : World) : (execOp ρ o).run P w = .ok (.value v) w := by
  rw [exec_pick ρ o c x y h false hc w, if_neg (by decide), hx]
section
variable {P : Program} {w : World} {ops : Array Oper} {rest : List Oper} {o : Oper} {a : Act} {Q : Exit → Act → World → Prop}
theorem wpList_move (hgd : o.guard = none) {x : Operand} (ho : o.op = .move x ∨ o.op = .assign x) (v : Value) (hx : a.eval x = v) (h : wpList P ops Q rest (a.put o.dst v) w) : wpList P ops Q (o :: rest) a w := by
  refine wpList_plain hgd fun K hK => ?_
  exact flat_pure v (exec_move _ _ _ ho _ hx w) (hK _ _ h)
theorem exec_extract (ρ : Operand → Value) (o : Oper) (x : Operand) (i : Nat) (h : o.op = .extract x i) (vs : Array Value) (hx : ρ x = .tuple vs) (v : Value) (hv : vs[i]? = some v) (w : World) : (execOp ρ o).run P w = .ok (.value v) w := by
  have hr : (Instr.extract (.tuple vs) i).run P w = .ok v w := by simp [Instr.extract, hv]
  simp [execOp, h, hx, hr]
theorem wanted_none {a : Act} {j s : Nat} {b : Bool} (hg : o.guard = some (j, b)) {oj : Oper} (hj : ops[j]? = some oj) (hd : oj.dst = some s) (hv : a.tmps.getD s undef = undef) : Region.wanted o (yielded ops a.tmps) = false := by
  simp only [Region.wanted, hg]
  unfold yielded
  rw [Array.getD_eq_getD_getElem?] at hv
  cases h : a.tmps[s]? with
  | none => simp [hj, hd, h]
  | some v =>
    rw [h] at hv
    obtain rfl : v = undef := hv
    simp [hj, hd, h, undef]
end
theorem num_guard (op : BinOp) (x y : Operand) (a b : List Nat) (w : World) : (eqGuard op 38 x y (numD a) (numD b)).run Tryd.prog w = .ok () w := run_eqGuard_agg w op 38 _ _ _ _ (by kernel_rfl)
theorem key_guard (op : BinOp) (x y : Operand) (a b : List UInt8) (w : World) : (eqGuard op 23 x y (hashVal a) (hashVal b)).run Tryd.prog w = .ok () w := run_eqGuard_agg w op 23 _ _ _ _ (by kernel_rfl)
theorem num_eql (n m : Nat) (hn : n < mm) (hm : m < mm) (w : World) : (binOp .eql 38 (numD (nD n)) (numD (nD m))).run Tryd.prog w = .ok (.bool (decide (n = m))) w := by
  have h := run_eql_nats (P := Tryd.prog) w .u32 38 36 8 Tryd.underlying38 Tryd.underlying36 (fun w => by
    obtain ⟨i0, hi0, hs0⟩ := Option.map_eq_some_iff.1 size_w32
    simp [sizeOf, typeInfo, hi0, hs0]) (nD n) (nD m) rfl rfl
  have e : (nD n == nD m) = decide (n = m) := by
    by_cases h : n = m
    · rw [h, beq_self_eq_true]; simp
    · rw [decide_eq_false h, beq_eq_false_iff_ne]
      intro h2
      exact h (by rw [← pre_nD n hn, ← pre_nD m hm, h2])
  rw [e] at h
  exact h
end Go.Proofs.YtagjbdhelfickaaDoor
namespace Go.Proofs.YtagjbdhelfickaaDoor
open Go.RowKit
theorem list5 {l : List Nat} (h : l.length = 5) : ∃ a b c d e, l = [a, b, c, d, e] := by
  match l, h with
  | [a, b, c, d, e], _ => exact ⟨a, b, c, d, e, rfl⟩
theorem exec_field {P : Program} (ρ : Operand → Value) (o : Oper) (t : TypeId) (x : Operand) (f : Nat) (h : o.op = .fieldAddr t x f) (vx v : Value) (hx : ρ x = vx) (w : World) (hr : (Instr.fieldAt t vx f).run P w = .ok v w) : (execOp ρ o).run P w = .ok (.value v) w := by
  simp [execOp, h, hx, hr]
theorem load_part {w : World} {g : Nat} {p : List Nat} {t' : TypeId} (hC : Cells w g (p.map ncell) t') (o : Nat) (x : List Nat) (hp : (p.drop o).take 5 = x) (hx : x.length = 5) : (Instr.loadAt 29 (.pointer (some ⟨g, o, none⟩))).run Tryd.prog w = .ok (numVal x) w := by
  have hr := hC.range o 5
  rw [← List.map_drop, ← List.map_take, hp] at hr
  exact run_loadAt_mid w g o 29 (x.map ncell) _ hr Tryd.underlying29 rfl (by rw [List.length_map, hx]; exact size_elem)
abbrev kzeros : List Value := List.replicate 32 (cellOf 0)
theorem kcells_one (l : List UInt8) : (l.map cellOf).toArray.all (·.oneCell') = true := all_oneCell_toArray (cells8_one l)
end Go.Proofs.YtagjbdhelfickaaDoor
namespace Go.Proofs.YtagjbdhelfickaaDoor.NP
/-- A prime, a root of less 1, and a number that is no square. -/
structure Edw (P : Nat) (d i : Int) : Prop where
  prime : Pr P
  odd : ¬ (P : Int) ∣ 2
  root : (P : Int) ∣ i * i + 1
  non : ∀ s t : Int, (P : Int) ∣ s * s - d * (t * t) → (P : Int) ∣ t
/-- A point is on the curve. -/
def On (P : Nat) (d x y : Int) : Prop := (P : Int) ∣ y*y - x*x - 1 - d*x*x*y*y
theorem Pr.not_one {P : Nat} (h : Pr P) : ¬ (P : Int) ∣ 1 := fun hd => by
  have h1 := Int.natCast_dvd_natCast.1 (show ((P : Nat) : Int) ∣ ((1 : Nat) : Int) from hd)
  have h2 := Nat.le_of_dvd (by decide) h1
  have := h.1
  omega
theorem Edw.part {P : Nat} {d i : Int} (h : Edw P d i) {x1 y1 x2 y2 e f : Int} (he : e * e = 1) (hf : f * f = 1) (h1 : On P d x1 y1) (h2 : On P d x2 y2) (hk : (P : Int) ∣ e - d*x1*x2*y1*y2) : (P : Int) ∣ x1 * y1 * (i * x2 + f * y2) := by
  obtain ⟨u1, hu1⟩ := h1
  obtain ⟨u2, hu2⟩ := h2
  obtain ⟨v, hv⟩ := hk
  obtain ⟨j, hj⟩ := h.root
  refine h.non (i * x1 + e * f * y1) _ ⟨u1 - d*x1*x1*y1*y1*u2 + v*(e + d*x1*x2*y1*y2) + 2*i*x1*y1*f*v + j*x1*x1 - d*x1*x1*y1*y1*j*x2*x2, ?_⟩
  grind
theorem Edw.apart {P : Nat} {d i : Int} (h : Edw P d i) {x1 y1 x2 y2 e : Int} (he : e * e = 1) (h1 : On P d x1 y1) (h2 : On P d x2 y2) : ¬ (P : Int) ∣ e - d*x1*x2*y1*y2 := fun hk => by
  obtain ⟨a, ha⟩ := h.part (f := 1) he rfl h1 h2 hk
  obtain ⟨b, hb⟩ := h.part (f := -1) he rfl h1 h2 hk
  obtain ⟨v, hv⟩ := hk
  obtain ⟨j, hj⟩ := h.root
  have h3 : (P : Int) ∣ 2 * (i * (d*x1*x2*y1*y2)) := ⟨(a + b) * (d * y2), by grind⟩
  rcases h.prime.int h3 with h4 | h4
  · exact h.odd h4
  · rcases h.prime.int h4 with ⟨c, hc⟩ | ⟨c, hc⟩
    · exact h.prime.not_one ⟨j - c * i, by rw [Int.mul_sub, ← Int.mul_assoc, ← hc, ← hj]; omega⟩
    · have h5 : e = (P : Int) * (v + c) := by rw [Int.mul_add, ← hv, ← hc]; omega
      exact h.prime.not_one ⟨e * (v + c), by rw [Int.mul_left_comm, ← h5, he]⟩
theorem Edw.plus {P : Nat} {d i : Int} (h : Edw P d i) {x1 y1 x2 y2 : Int} (h1 : On P d x1 y1) (h2 : On P d x2 y2) : ¬ (P : Int) ∣ 1 + d*x1*x2*y1*y2 := fun ⟨c, hc⟩ =>
  h.apart (e := -1) rfl h1 h2 ⟨-c, by grind⟩
theorem Edw.less {P : Nat} {d i : Int} (h : Edw P d i) {x1 y1 x2 y2 : Int} (h1 : On P d x1 y1) (h2 : On P d x2 y2) : ¬ (P : Int) ∣ 1 - d*x1*x2*y1*y2 := h.apart (e := 1) rfl h1 h2
/-- The third point is the sum of the two. -/
def Sum (P : Nat) (d x1 y1 x2 y2 x3 y3 : Int) : Prop := (P : Int) ∣ x3 * (1 + d*x1*x2*y1*y2) - (x1*y2 + x2*y1) ∧ (P : Int) ∣ y3 * (1 - d*x1*x2*y1*y2) - (y1*y2 + x1*x2)
theorem cancel {P : Nat} (hP : Pr P) {a b c : Int} (hc : ¬ (P : Int) ∣ c) (h : (P : Int) ∣ a * c - b * c) : (P : Int) ∣ a - b := by
  rw [← Int.sub_mul] at h
  exact (hP.int h).resolve_right hc
theorem Edw.one {P : Nat} {d i : Int} (h : Edw P d i) {x1 y1 x2 y2 x3 y3 x4 y4 : Int} (h1 : On P d x1 y1) (h2 : On P d x2 y2) (h3 : Sum P d x1 y1 x2 y2 x3 y3) (h4 : Sum P d x1 y1 x2 y2 x4 y4) : (P : Int) ∣ x3 - x4 ∧ (P : Int) ∣ y3 - y4 := by
  obtain ⟨⟨a, ha⟩, ⟨b, hb⟩⟩ := h3
  obtain ⟨⟨a', ha'⟩, ⟨b', hb'⟩⟩ := h4
  exact ⟨cancel h.prime (h.plus h1 h2) ⟨a - a', by grind⟩, cancel h.prime (h.less h1 h2) ⟨b - b', by grind⟩⟩
theorem Sum.swap {P : Nat} {d x1 y1 x2 y2 x3 y3 : Int} (h : Sum P d x1 y1 x2 y2 x3 y3) : Sum P d x2 y2 x1 y1 x3 y3 := by
  obtain ⟨⟨a, ha⟩, ⟨b, hb⟩⟩ := h
  exact ⟨⟨a, by grind⟩, ⟨b, by grind⟩⟩
end Go.Proofs.YtagjbdhelfickaaDoor.NP
namespace Go.Proofs.YtagjbdhelfickaaDoor.NP
set_option maxHeartbeats 4000000 in
set_option maxRecDepth 100000 in
theorem assoc_x (d x1 y1 x2 y2 x3 y3 : Int) : ((x1*y2 + x2*y1)*(1 - d*x1*x2*y1*y2)*y3 + (y1*y2 + x1*x2)*(1 + d*x1*x2*y1*y2)*x3) * ((1 + d*x2*x3*y2*y3)*(1 - d*x2*x3*y2*y3) + d*(x2*y3 + x3*y2)*(y2*y3 + x2*x3)*x1*y1) - ((x2*y3 + x3*y2)*(1 - d*x2*x3*y2*y3)*y1 + (y2*y3 + x2*x3)*(1 + d*x2*x3*y2*y3)*x1) * ((1 + d*x1*x2*y1*y2)*(1 - d*x1*x2*y1*y2) + d*(x1*y2 + x2*y1)*(y1*y2 + x1*x2)*x3*y3) = ((-1) * d * y1 * x2 * y2^4 * x3^2 * y3 + (-1) * d * y1 * x2^2 * y2^3 * x3 + (-1) * d * y1 * x2^2 * y2^3 * x3^3 + (-1) * d * y1 * x2^3 * y2^2 * y3 + (1) * d * y1 * x2^3 * y2^2 * y3^3 + (1) * d * y1 * x2^4 * y2 * x3 * y3^2 + (1) * d * x1 * x2 * y2^4 * x3 * y3^2 + (-1) * d * x1 * x2^2 * y2^3 * y3 + (1) * d * x1 * x2^2 * y2^3 * y3^3 + (-1) * d * x1 * x2^3 * y2^2 * x3 + (-1) * d * x1 * x2^3 * y2^2 * x3^3 + (-1) * d * x1 * x2^4 * y2 * x3^2 * y3 + (1) * d^2 * y1 * x2^3 * y2^4 * x3^2 * y3 + (1) * d^2 * y1 * x2^4 * y2^3 * x3 * y3^2 + (-1) * d^2 * x1 * x2^3 * y2^4 * x3 * y3^2 + (-1) * d^2 * x1 * x2^4 * y2^3 * x3^2 * y3) * (y1*y1 - x1*x1 - 1 - d*x1*x1*y1*y1) + ((1) * y1 * y2 * x3 + (-1) * y1 * y2 * x3 * y3^2 + (1) * y1 * y2 * x3^3 + (1) * y1 * x2 * y3 + (-1) * y1 * x2 * y3^3 + (1) * y1 * x2 * x3^2 * y3 + (-1) * y1^3 * y2 * x3 + (1) * y1^3 * y2 * x3 * y3^2 + (-1) * y1^3 * y2 * x3^3 + (-1) * y1^3 * x2 * y3 + (1) * y1^3 * x2 * y3^3 + (-1) * y1^3 * x2 * x3^2 * y3 + (1) * x1 * y2 * y3 + (-1) * x1 * y2 * y3^3 + (1) * x1 * y2 * x3^2 * y3 + (1) * x1 * x2 * x3 + (-1) * x1 * x2 * x3 * y3^2 + (1) * x1 * x2 * x3^3 + (-1) * x1 * y1^2 * y2 * y3 + (1) * x1 * y1^2 * y2 * y3^3 + (-1) * x1 * y1^2 * y2 * x3^2 * y3 + (-1) * x1 * y1^2 * x2 * x3 + (1) * x1 * y1^2 * x2 * x3 * y3^2 + (-1) * x1 * y1^2 * x2 * x3^3 + (1) * x1^2 * y1 * y2 * x3 + (-1) * x1^2 * y1 * y2 * x3 * y3^2 + (1) * x1^2 * y1 * y2 * x3^3 + (1) * x1^2 * y1 * x2 * y3 + (-1) * x1^2 * y1 * x2 * y3^3 + (1) * x1^2 * y1 * x2 * x3^2 * y3 + (1) * x1^3 * y2 * y3 + (-1) * x1^3 * y2 * y3^3 + (1) * x1^3 * y2 * x3^2 * y3 + (1) * x1^3 * x2 * x3 + (-1) * x1^3 * x2 * x3 * y3^2 + (1) * x1^3 * x2 * x3^3 + (1) * d * y1 * y2 * x3^3 * y3^2 + (1) * d * y1 * x2 * x3^2 * y3^3 + (-1) * d * y1 * x2 * y2^2 * x3^2 * y3 + (-1) * d * y1 * x2^2 * y2 * x3 * y3^2 + (-1) * d * y1^3 * y2 * x3^3 * y3^2 + (-1) * d * y1^3 * x2 * x3^2 * y3^3 + (1) * d * y1^3 * x2 * y2^2 * x3^2 * y3 + (1) * d * y1^3 * x2^2 * y2 * x3 * y3^2 + (1) * d * x1 * y2 * x3^2 * y3^3 + (1) * d * x1 * x2 * x3^3 * y3^2 + (1) * d * x1 * x2 * y2^2 * x3 * y3^2 + (1) * d * x1 * x2^2 * y2 * x3^2 * y3 + (-1) * d * x1 * y1^2 * y2 * x3^2 * y3^3 + (-1) * d * x1 * y1^2 * x2 * x3^3 * y3^2 + (-1) * d * x1 * y1^2 * x2 * y2^2 * x3 * y3^2 + (-1) * d * x1 * y1^2 * x2^2 * y2 * x3^2 * y3 + (1) * d * x1^2 * y1 * y2 * x3^3 * y3^2 + (1) * d * x1^2 * y1 * x2 * x3^2 * y3^3 + (-1) * d * x1^2 * y1 * x2 * y2^2 * x3^2 * y3 + (-1) * d * x1^2 * y1 * x2^2 * y2 * x3 * y3^2 + (1) * d * x1^3 * y2 * x3^2 * y3^3 + (1) * d * x1^3 * x2 * x3^3 * y3^2 + (1) * d * x1^3 * x2 * y2^2 * x3 * y3^2 + (1) * d * x1^3 * x2^2 * y2 * x3^2 * y3 + (1) * d^2 * x1 * y1^2 * x2 * y2^2 * x3^3 * y3^2 + (-1) * d^2 * x1 * y1^2 * x2^2 * y2 * x3^2 * y3^3 + (-1) * d^2 * x1^2 * y1 * x2 * y2^2 * x3^2 * y3^3 + (1) * d^2 * x1^2 * y1 * x2^2 * y2 * x3^3 * y3^2) * (y2*y2 - x2*x2 - 1 - d*x2*x2*y2*y2) + ((-1) * y1 * y2 * x3 + (1) * y1 * y2^3 * x3 + (-1) * y1 * x2 * y3 + (1) * y1 * x2 * y2^2 * y3 + (-1) * y1 * x2^2 * y2 * x3 + (-1) * y1 * x2^3 * y3 + (1) * y1^3 * y2 * x3 + (-1) * y1^3 * y2^3 * x3 + (1) * y1^3 * x2 * y3 + (-1) * y1^3 * x2 * y2^2 * y3 + (1) * y1^3 * x2^2 * y2 * x3 + (1) * y1^3 * x2^3 * y3 + (-1) * x1 * y2 * y3 + (1) * x1 * y2^3 * y3 + (-1) * x1 * x2 * x3 + (1) * x1 * x2 * y2^2 * x3 + (-1) * x1 * x2^2 * y2 * y3 + (-1) * x1 * x2^3 * x3 + (1) * x1 * y1^2 * y2 * y3 + (-1) * x1 * y1^2 * y2^3 * y3 + (1) * x1 * y1^2 * x2 * x3 + (-1) * x1 * y1^2 * x2 * y2^2 * x3 + (1) * x1 * y1^2 * x2^2 * y2 * y3 + (1) * x1 * y1^2 * x2^3 * x3 + (-1) * x1^2 * y1 * y2 * x3 + (1) * x1^2 * y1 * y2^3 * x3 + (-1) * x1^2 * y1 * x2 * y3 + (1) * x1^2 * y1 * x2 * y2^2 * y3 + (-1) * x1^2 * y1 * x2^2 * y2 * x3 + (-1) * x1^2 * y1 * x2^3 * y3 + (-1) * x1^3 * y2 * y3 + (1) * x1^3 * y2^3 * y3 + (-1) * x1^3 * x2 * x3 + (1) * x1^3 * x2 * y2^2 * x3 + (-1) * x1^3 * x2^2 * y2 * y3 + (-1) * x1^3 * x2^3 * x3 + (-1) * d * x1 * y1^2 * x2 * y2^2 * x3 + (1) * d * x1 * y1^2 * x2^2 * y2 * y3 + (1) * d * x1^2 * y1 * x2 * y2^2 * y3 + (-1) * d * x1^2 * y1 * x2^2 * y2 * x3) * (y3*y3 - x3*x3 - 1 - d*x3*x3*y3*y3) := by grind
set_option maxHeartbeats 4000000 in
set_option maxRecDepth 100000 in
theorem assoc_y (d x1 y1 x2 y2 x3 y3 : Int) : ((y1*y2 + x1*x2)*(1 + d*x1*x2*y1*y2)*y3 + (x1*y2 + x2*y1)*(1 - d*x1*x2*y1*y2)*x3) * ((1 + d*x2*x3*y2*y3)*(1 - d*x2*x3*y2*y3) - d*(x2*y3 + x3*y2)*(y2*y3 + x2*x3)*x1*y1) - ((y2*y3 + x2*x3)*(1 + d*x2*x3*y2*y3)*y1 + (x2*y3 + x3*y2)*(1 - d*x2*x3*y2*y3)*x1) * ((1 + d*x1*x2*y1*y2)*(1 - d*x1*x2*y1*y2) - d*(x1*y2 + x2*y1)*(y1*y2 + x1*x2)*x3*y3) = ((1) * d * y1 * x2 * y2^4 * x3 * y3^2 + (-1) * d * y1 * x2^2 * y2^3 * y3 + (1) * d * y1 * x2^2 * y2^3 * y3^3 + (-1) * d * y1 * x2^3 * y2^2 * x3 + (-1) * d * y1 * x2^3 * y2^2 * x3^3 + (-1) * d * y1 * x2^4 * y2 * x3^2 * y3 + (-1) * d * x1 * x2 * y2^4 * x3^2 * y3 + (-1) * d * x1 * x2^2 * y2^3 * x3 + (-1) * d * x1 * x2^2 * y2^3 * x3^3 + (-1) * d * x1 * x2^3 * y2^2 * y3 + (1) * d * x1 * x2^3 * y2^2 * y3^3 + (1) * d * x1 * x2^4 * y2 * x3 * y3^2 + (-1) * d^2 * y1 * x2^3 * y2^4 * x3 * y3^2 + (-1) * d^2 * y1 * x2^4 * y2^3 * x3^2 * y3 + (1) * d^2 * x1 * x2^3 * y2^4 * x3^2 * y3 + (1) * d^2 * x1 * x2^4 * y2^3 * x3 * y3^2) * (y1*y1 - x1*x1 - 1 - d*x1*x1*y1*y1) + ((1) * y1 * y2 * y3 + (-1) * y1 * y2 * y3^3 + (1) * y1 * y2 * x3^2 * y3 + (1) * y1 * x2 * x3 + (-1) * y1 * x2 * x3 * y3^2 + (1) * y1 * x2 * x3^3 + (-1) * y1^3 * y2 * y3 + (1) * y1^3 * y2 * y3^3 + (-1) * y1^3 * y2 * x3^2 * y3 + (-1) * y1^3 * x2 * x3 + (1) * y1^3 * x2 * x3 * y3^2 + (-1) * y1^3 * x2 * x3^3 + (1) * x1 * y2 * x3 + (-1) * x1 * y2 * x3 * y3^2 + (1) * x1 * y2 * x3^3 + (1) * x1 * x2 * y3 + (-1) * x1 * x2 * y3^3 + (1) * x1 * x2 * x3^2 * y3 + (-1) * x1 * y1^2 * y2 * x3 + (1) * x1 * y1^2 * y2 * x3 * y3^2 + (-1) * x1 * y1^2 * y2 * x3^3 + (-1) * x1 * y1^2 * x2 * y3 + (1) * x1 * y1^2 * x2 * y3^3 + (-1) * x1 * y1^2 * x2 * x3^2 * y3 + (1) * x1^2 * y1 * y2 * y3 + (-1) * x1^2 * y1 * y2 * y3^3 + (1) * x1^2 * y1 * y2 * x3^2 * y3 + (1) * x1^2 * y1 * x2 * x3 + (-1) * x1^2 * y1 * x2 * x3 * y3^2 + (1) * x1^2 * y1 * x2 * x3^3 + (1) * x1^3 * y2 * x3 + (-1) * x1^3 * y2 * x3 * y3^2 + (1) * x1^3 * y2 * x3^3 + (1) * x1^3 * x2 * y3 + (-1) * x1^3 * x2 * y3^3 + (1) * x1^3 * x2 * x3^2 * y3 + (1) * d * y1 * y2 * x3^2 * y3^3 + (1) * d * y1 * x2 * x3^3 * y3^2 + (1) * d * y1 * x2 * y2^2 * x3 * y3^2 + (1) * d * y1 * x2^2 * y2 * x3^2 * y3 + (-1) * d * y1^3 * y2 * x3^2 * y3^3 + (-1) * d * y1^3 * x2 * x3^3 * y3^2 + (-1) * d * y1^3 * x2 * y2^2 * x3 * y3^2 + (-1) * d * y1^3 * x2^2 * y2 * x3^2 * y3 + (1) * d * x1 * y2 * x3^3 * y3^2 + (1) * d * x1 * x2 * x3^2 * y3^3 + (-1) * d * x1 * x2 * y2^2 * x3^2 * y3 + (-1) * d * x1 * x2^2 * y2 * x3 * y3^2 + (-1) * d * x1 * y1^2 * y2 * x3^3 * y3^2 + (-1) * d * x1 * y1^2 * x2 * x3^2 * y3^3 + (1) * d * x1 * y1^2 * x2 * y2^2 * x3^2 * y3 + (1) * d * x1 * y1^2 * x2^2 * y2 * x3 * y3^2 + (1) * d * x1^2 * y1 * y2 * x3^2 * y3^3 + (1) * d * x1^2 * y1 * x2 * x3^3 * y3^2 + (1) * d * x1^2 * y1 * x2 * y2^2 * x3 * y3^2 + (1) * d * x1^2 * y1 * x2^2 * y2 * x3^2 * y3 + (1) * d * x1^3 * y2 * x3^3 * y3^2 + (1) * d * x1^3 * x2 * x3^2 * y3^3 + (-1) * d * x1^3 * x2 * y2^2 * x3^2 * y3 + (-1) * d * x1^3 * x2^2 * y2 * x3 * y3^2 + (1) * d^2 * x1 * y1^2 * x2 * y2^2 * x3^2 * y3^3 + (-1) * d^2 * x1 * y1^2 * x2^2 * y2 * x3^3 * y3^2 + (-1) * d^2 * x1^2 * y1 * x2 * y2^2 * x3^3 * y3^2 + (1) * d^2 * x1^2 * y1 * x2^2 * y2 * x3^2 * y3^3) * (y2*y2 - x2*x2 - 1 - d*x2*x2*y2*y2) + ((-1) * y1 * y2 * y3 + (1) * y1 * y2^3 * y3 + (-1) * y1 * x2 * x3 + (1) * y1 * x2 * y2^2 * x3 + (-1) * y1 * x2^2 * y2 * y3 + (-1) * y1 * x2^3 * x3 + (1) * y1^3 * y2 * y3 + (-1) * y1^3 * y2^3 * y3 + (1) * y1^3 * x2 * x3 + (-1) * y1^3 * x2 * y2^2 * x3 + (1) * y1^3 * x2^2 * y2 * y3 + (1) * y1^3 * x2^3 * x3 + (-1) * x1 * y2 * x3 + (1) * x1 * y2^3 * x3 + (-1) * x1 * x2 * y3 + (1) * x1 * x2 * y2^2 * y3 + (-1) * x1 * x2^2 * y2 * x3 + (-1) * x1 * x2^3 * y3 + (1) * x1 * y1^2 * y2 * x3 + (-1) * x1 * y1^2 * y2^3 * x3 + (1) * x1 * y1^2 * x2 * y3 + (-1) * x1 * y1^2 * x2 * y2^2 * y3 + (1) * x1 * y1^2 * x2^2 * y2 * x3 + (1) * x1 * y1^2 * x2^3 * y3 + (-1) * x1^2 * y1 * y2 * y3 + (1) * x1^2 * y1 * y2^3 * y3 + (-1) * x1^2 * y1 * x2 * x3 + (1) * x1^2 * y1 * x2 * y2^2 * x3 + (-1) * x1^2 * y1 * x2^2 * y2 * y3 + (-1) * x1^2 * y1 * x2^3 * x3 + (-1) * x1^3 * y2 * x3 + (1) * x1^3 * y2^3 * x3 + (-1) * x1^3 * x2 * y3 + (1) * x1^3 * x2 * y2^2 * y3 + (-1) * x1^3 * x2^2 * y2 * x3 + (-1) * x1^3 * x2^3 * y3 + (-1) * d * x1 * y1^2 * x2 * y2^2 * y3 + (1) * d * x1 * y1^2 * x2^2 * y2 * x3 + (1) * d * x1^2 * y1 * x2 * y2^2 * x3 + (-1) * d * x1^2 * y1 * x2^2 * y2 * y3) * (y3*y3 - x3*x3 - 1 - d*x3*x3*y3*y3) := by grind
set_option maxHeartbeats 4000000 in
set_option maxRecDepth 100000 in
theorem sum_on (d x1 y1 x2 y2 : Int) : (y1*y2 + x1*x2)*(y1*y2 + x1*x2)*((1 + d*x1*x2*y1*y2)*(1 + d*x1*x2*y1*y2)) - (x1*y2 + x2*y1)*(x1*y2 + x2*y1)*((1 - d*x1*x2*y1*y2)*(1 - d*x1*x2*y1*y2)) - (1 + d*x1*x2*y1*y2)*(1 + d*x1*x2*y1*y2)*((1 - d*x1*x2*y1*y2)*(1 - d*x1*x2*y1*y2)) - d*((x1*y2 + x2*y1)*(x1*y2 + x2*y1))*((y1*y2 + x1*x2)*(y1*y2 + x1*x2)) = ((1) * y2^4 + (-4) * x2^2 * y2^2 + (2) * x2^2 * y2^4 + (1) * x2^4 + (-2) * x2^4 * y2^2 + (-2) * d * x2^2 * y2^2 + (-2) * d * x2^4 * y2^4 + (-1) * d * y1^2 * x2^2 * y2^4 + (1) * d * y1^2 * x2^4 * y2^2 + (1) * d * x1^2 * x2^2 * y2^4 + (-1) * d * x1^2 * x2^4 * y2^2 + (-1) * d^2 * x2^4 * y2^4 + (1) * d^2 * y1^2 * x2^4 * y2^4 + (-1) * d^2 * x1^2 * x2^4 * y2^4 + (1) * d^3 * x1^2 * y1^2 * x2^4 * y2^4) * (y1*y1 - x1*x1 - 1 - d*x1*x1*y1*y1) + ((1) + (1) * y2^2 + (-1) * x2^2 + (2) * x2^2 * y2^2 + (-1) * y1^2 * y2^2 + (1) * y1^2 * x2^2 + (-2) * y1^2 * x2^2 * y2^2 + (1) * x1^2 * y2^2 + (-1) * x1^2 * x2^2 + (2) * x1^2 * x2^2 * y2^2 + (1) * d * x2^2 * y2^2 + (-2) * d * y1^2 * x2^2 * y2^2 + (1) * d * y1^4 * x2^2 * y2^2 + (2) * d * x1^2 * x2^2 * y2^2 + (1) * d * x1^4 * x2^2 * y2^2) * (y2*y2 - x2*x2 - 1 - d*x2*x2*y2*y2) := by grind
end Go.Proofs.YtagjbdhelfickaaDoor.NP
namespace Go.Proofs.YtagjbdhelfickaaDoor.NP
theorem sum_letters {P d nx ny dp dm x3 y3 a b w : Int} (hx : x3 * dp - nx = P * a) (hy : y3 * dm - ny = P * b) (hs : ny*ny*(dp*dp) - nx*nx*(dm*dm) - dp*dp*(dm*dm) - d*(nx*nx)*(ny*ny) = P * w) :
    (y3*y3 - x3*x3 - 1 - d*x3*x3*y3*y3) * (dp*dp*(dm*dm)) = P * (w + dp*dp*b*(ny + y3*dm) - dm*dm*a*(nx + x3*dp) - d*(a*(nx + x3*dp)*(y3*dm)*(y3*dm) + nx*nx*b*(ny + y3*dm))) := by
  obtain rfl : nx = x3 * dp - P * a := by omega
  obtain rfl : ny = y3 * dm - P * b := by omega
  grind
theorem Edw.on {P : Nat} {d i : Int} (h : Edw P d i) {x1 y1 x2 y2 x3 y3 : Int} (h1 : On P d x1 y1) (h2 : On P d x2 y2) (h3 : Sum P d x1 y1 x2 y2 x3 y3) : On P d x3 y3 := by
  have hp := h.plus h1 h2
  have hm := h.less h1 h2
  obtain ⟨⟨a, ha⟩, ⟨b, hb⟩⟩ := h3
  have hs := sum_on d x1 y1 x2 y2
  have hw : ∃ w, (y1*y2 + x1*x2)*(y1*y2 + x1*x2)*((1 + d*x1*x2*y1*y2)*(1 + d*x1*x2*y1*y2)) - (x1*y2 + x2*y1)*(x1*y2 + x2*y1)*((1 - d*x1*x2*y1*y2)*(1 - d*x1*x2*y1*y2)) - (1 + d*x1*x2*y1*y2)*(1 + d*x1*x2*y1*y2)*((1 - d*x1*x2*y1*y2)*(1 - d*x1*x2*y1*y2)) - d*((x1*y2 + x2*y1)*(x1*y2 + x2*y1))*((y1*y2 + x1*x2)*(y1*y2 + x1*x2)) = (P : Int) * w := by
    rw [hs]
    exact Int.dvd_add (Int.dvd_mul_of_dvd_right h1) (Int.dvd_mul_of_dvd_right h2)
  obtain ⟨w, hw⟩ := hw
  have h4 := sum_letters ha hb hw
  rcases h.prime.int (show (P : Int) ∣ _ from ⟨_, h4⟩) with h5 | h5
  · exact h5
  · rcases h.prime.int h5 with h6 | h6
    · rcases h.prime.int h6 with h7 | h7 <;> exact absurd h7 hp
    · rcases h.prime.int h6 with h7 | h7 <;> exact absurd h7 hm
/-- A sum of a sum, over one denominator. -/
theorem twice_letters {P d nx ny dp dm x3 y3 x4 y4 x5 a b c : Int} (hx : x4 * dp - nx = P * a) (hy : y4 * dm - ny = P * b) (h5 : x5 * (1 + d*x4*x3*y4*y3) - (x4*y3 + x3*y4) = P * c) :
    x5 * (dp*dm + d*nx*ny*x3*y3) - (nx*dm*y3 + ny*dp*x3) = P * (c*dp*dm - x5*d*x3*y3*(a*(y4*dm) + nx*b) + a*dm*y3 + b*dp*x3) := by
  obtain rfl : nx = x4 * dp - P * a := by omega
  obtain rfl : ny = y4 * dm - P * b := by omega
  grind
theorem twice_letters' {P d nx ny dp dm x3 y3 x4 y4 y5 a b c : Int} (hx : x4 * dp - nx = P * a) (hy : y4 * dm - ny = P * b) (h5 : y5 * (1 - d*x4*x3*y4*y3) - (y4*y3 + x4*x3) = P * c) :
    y5 * (dp*dm - d*nx*ny*x3*y3) - (ny*dp*y3 + nx*dm*x3) = P * (c*dp*dm + y5*d*x3*y3*(a*(y4*dm) + nx*b) + b*dp*y3 + a*dm*x3) := by
  obtain rfl : nx = x4 * dp - P * a := by omega
  obtain rfl : ny = y4 * dm - P * b := by omega
  grind
theorem den_letters {P d nx ny dp dm x3 y3 x4 y4 a b : Int} (hx : x4 * dp - nx = P * a) (hy : y4 * dm - ny = P * b) :
    dp*dm*(1 + d*x4*x3*y4*y3) = (dp*dm + d*nx*ny*x3*y3) + P * (d*x3*y3*(a*(y4*dm) + nx*b)) := by
  obtain rfl : nx = x4 * dp - P * a := by omega
  obtain rfl : ny = y4 * dm - P * b := by omega
  grind
theorem den_letters' {P d nx ny dp dm x3 y3 x4 y4 a b : Int} (hx : x4 * dp - nx = P * a) (hy : y4 * dm - ny = P * b) :
    dp*dm*(1 - d*x4*x3*y4*y3) = (dp*dm - d*nx*ny*x3*y3) - P * (d*x3*y3*(a*(y4*dm) + nx*b)) := by
  obtain rfl : nx = x4 * dp - P * a := by omega
  obtain rfl : ny = y4 * dm - P * b := by omega
  grind
theorem meet_letters {P s t na da nb db u v w : Int} (h1 : s * da - na = P * u) (h2 : t * db - nb = P * v) (h3 : na * db - nb * da = P * w) : (s - t) * (da * db) = P * (u * db - v * da + w) := by
  obtain rfl : na = s * da - P * u := by omega
  obtain rfl : nb = t * db - P * v := by omega
  grind
theorem three {P l c1 e1 c2 e2 c3 e3 : Int} (h : l = c1 * e1 + c2 * e2 + c3 * e3) (h1 : P ∣ e1) (h2 : P ∣ e2) (h3 : P ∣ e3) : ∃ w, l = P * w := by
  rw [h]
  exact Int.dvd_add (Int.dvd_add (Int.dvd_mul_of_dvd_right h1) (Int.dvd_mul_of_dvd_right h2)) (Int.dvd_mul_of_dvd_right h3)
/-- Sums go together: (1 + 2) + 3 is (2 + 3) + 1. -/
theorem Edw.goes {P : Nat} {d i : Int} (h : Edw P d i) {x1 y1 x2 y2 x3 y3 x4 y4 x5 y5 x6 y6 x7 y7 : Int} (h1 : On P d x1 y1) (h2 : On P d x2 y2) (h3 : On P d x3 y3)
    (s4 : Sum P d x1 y1 x2 y2 x4 y4) (s5 : Sum P d x4 y4 x3 y3 x5 y5) (s6 : Sum P d x2 y2 x3 y3 x6 y6) (s7 : Sum P d x6 y6 x1 y1 x7 y7) : (P : Int) ∣ x5 - x7 ∧ (P : Int) ∣ y5 - y7 := by
  have h4 := h.on h1 h2 s4
  have h6 := h.on h2 h3 s6
  have p12 := h.plus h1 h2
  have m12 := h.less h1 h2
  have p23 := h.plus h2 h3
  have m23 := h.less h2 h3
  have p43 := h.plus h4 h3
  have m43 := h.less h4 h3
  have p61 := h.plus h6 h1
  have m61 := h.less h6 h1
  obtain ⟨⟨a, ha⟩, ⟨b, hb⟩⟩ := s4
  obtain ⟨⟨a', ha'⟩, ⟨b', hb'⟩⟩ := s6
  obtain ⟨⟨c, hc⟩, ⟨e, he⟩⟩ := s5
  obtain ⟨⟨c', hc'⟩, ⟨e', he'⟩⟩ := s7
  have two : ∀ {x y z : Int}, ¬ (P : Int) ∣ x → ¬ (P : Int) ∣ y → ¬ (P : Int) ∣ z → ¬ (P : Int) ∣ x * y * z := fun hx hy hz hd => by
    rcases h.prime.int hd with h8 | h8
    · rcases h.prime.int h8 with h9 | h9
      · exact hx h9
      · exact hy h9
    · exact hz h8
  have nz : ∀ {x y z : Int}, ¬ (P : Int) ∣ x → x = y + P * z → ¬ (P : Int) ∣ y := fun hx e hd => hx (e ▸ Int.dvd_add hd ⟨_, rfl⟩)
  have nz' : ∀ {x y z : Int}, ¬ (P : Int) ∣ x → x = y - P * z → ¬ (P : Int) ∣ y := fun hx e hd => hx (e ▸ Int.dvd_sub hd ⟨_, rfl⟩)
  have fin : ∀ {s t x y z : Int}, ¬ (P : Int) ∣ x → ¬ (P : Int) ∣ y → (s - t) * (x * y) = P * z → (P : Int) ∣ s - t := fun hx hy e => by
    rcases h.prime.int (show (P : Int) ∣ _ from ⟨_, e⟩) with h8 | h8
    · exact h8
    · rcases h.prime.int h8 with h9 | h9
      · exact absurd h9 hx
      · exact absurd h9 hy
  obtain ⟨wx, hwx⟩ := three (assoc_x d x1 y1 x2 y2 x3 y3) h1 h2 h3
  obtain ⟨wy, hwy⟩ := three (assoc_y d x1 y1 x2 y2 x3 y3) h1 h2 h3
  exact ⟨fin (nz (two p12 m12 p43) (den_letters ha hb)) (nz (two p23 m23 p61) (den_letters ha' hb')) (meet_letters (twice_letters ha hb hc) (twice_letters ha' hb' hc') hwx),
    fin (nz' (two p12 m12 m43) (den_letters' ha hb)) (nz' (two p23 m23 m61) (den_letters' ha' hb')) (meet_letters (twice_letters' ha hb he) (twice_letters' ha' hb' he') hwy)⟩
end Go.Proofs.YtagjbdhelfickaaDoor.NP
namespace Go.Proofs.YtagjbdhelfickaaDoor.NP
/-- The curve's d, and a root of less 1. -/
def dE : Nat := 37095705934669439343138083508754565189542113879843219016388785533085940283555
def iE : Nat := 19681161376707505956807079304988542015446066515923890162744021073123829784752
theorem euler_not {P k D : Nat} (hP : Pr P) (hk : P = 2 * k + 1) (h2 : ¬ (P : Int) ∣ 2) (hD : (D ^ k + 1) % P = 0) {a b : Nat} (h : a * a % P = D * (b * b) % P) (hb : ¬ P ∣ b) : False := by
  have hb1 := hP.little hb
  rw [show P - 1 = 2 * k by omega] at hb1
  have e1 : a ^ (2 * k) % P = D ^ k * b ^ (2 * k) % P := by
    rw [Nat.pow_mul, Nat.pow_two, Nat.pow_mod, h, ← Nat.pow_mod, Nat.mul_pow, Nat.pow_mul, Nat.pow_two]
  rw [Nat.mul_mod, hb1, Nat.mul_one, Nat.mod_mod] at e1
  by_cases ha : P ∣ a
  · by_cases hk0 : k = 0
    · have := hP.1; omega
    · have h4 : P ∣ a ^ (2 * k) := Nat.dvd_trans ha (dvd_pow_self a (by omega))
      rw [Nat.mod_eq_zero_of_dvd h4] at e1
      rw [Nat.add_mod, ← e1, Nat.zero_add, Nat.mod_mod] at hD
      have := hP.1
      rw [Nat.mod_eq_of_lt (by omega)] at hD
      omega
  · have ha1 := hP.little ha
    rw [show P - 1 = 2 * k by omega, e1] at ha1
    rw [Nat.add_mod, ha1] at hD
    refine h2 ?_
    have := hP.1
    have h5 : P ∣ 1 + 1 := by
      have h6 : (1 + 1 % P) % P = 0 := hD
      rw [Nat.mod_eq_of_lt (show 1 < P by omega)] at h6
      exact Nat.dvd_of_mod_eq_zero h6
    exact Int.natCast_dvd_natCast.2 h5
theorem no_square {P k D : Nat} (hP : Pr P) (hk : P = 2 * k + 1) (h2 : ¬ (P : Int) ∣ 2) (hD : (D ^ k + 1) % P = 0) (s t : Int) (h : (P : Int) ∣ s * s - (D : Int) * (t * t)) : (P : Int) ∣ t := by
  refine Classical.byContradiction fun ht => ?_
  have e : ((s.natAbs * s.natAbs : Nat) : Int) = s * s := Int.natAbs_mul_self
  have e2 : ((t.natAbs * t.natAbs : Nat) : Int) = t * t := Int.natAbs_mul_self
  refine euler_not hP hk h2 hD (a := s.natAbs) (b := t.natAbs) ?_ (fun hb => ht ?_)
  · rw [cg, e, Int.natCast_mul, e2]
    exact h
  · exact Int.natAbs_dvd_natAbs.1 (by simpa using hb)
theorem d_power (k : Nat) (hk : 2 * k + 1 = PP) : (dE ^ k + 1) % PP = 0 := by
  have hl : k < 2 ^ 256 := by simp only [PP] at hk; omega
  have h := pw_eq PP 256 dE k hl
  rw [Nat.add_mod, ← h]
  obtain rfl : k = 28948022309329048855892746252171976963317496166410141009864396001978282409974 := by simp only [PP] at hk; omega
  decide +kernel
theorem odd_P : ¬ ((PP : Nat) : Int) ∣ 2 := by decide +kernel
/-- The curve modulo p. -/
theorem edw : Edw PP dE iE where
  prime := pr_P
  odd := odd_P
  root := by decide +kernel
  non := fun s t h => by
    obtain ⟨k, hk⟩ : ∃ k, 2 * k + 1 = PP := ⟨28948022309329048855892746252171976963317496166410141009864396001978282409974, by decide⟩
    exact no_square pr_P hk.symm odd_P (d_power k hk) s t h
/-- What isn't nought modulo a prime has an inverse. -/
theorem inv_int {P : Nat} (hP : Pr P) (x : Int) (hx : ¬ (P : Int) ∣ x) : ∃ y : Int, (P : Int) ∣ x * y - 1 := by
  have hn : ¬ P ∣ x.natAbs := fun h => hx (Int.natAbs_dvd_natAbs.1 (by simpa using h))
  have h := hP.little hn
  have h2 := hP.1
  obtain ⟨q, hq⟩ : ∃ q, P - 1 = q + 1 := ⟨P - 2, by omega⟩
  rw [hq, Nat.pow_succ] at h
  have h3 := (cg (x.natAbs ^ q * x.natAbs) 1 P).1 (by rw [h, Nat.mod_eq_of_lt (by omega)])
  rw [Int.natCast_mul] at h3
  rcases Int.natAbs_eq x with e | e
  · refine ⟨((x.natAbs ^ q : Nat) : Int), ?_⟩
    rw [← e, Int.mul_comm] at h3
    exact h3
  · refine ⟨-((x.natAbs ^ q : Nat) : Int), ?_⟩
    have e2 : ((x.natAbs : Nat) : Int) = -x := by omega
    rw [e2, Int.mul_neg, Int.mul_comm, ← Int.mul_neg] at h3
    exact h3
/-- A sum is there. -/
theorem Edw.there {P : Nat} {d i : Int} (h : Edw P d i) {x1 y1 x2 y2 : Int} (h1 : On P d x1 y1) (h2 : On P d x2 y2) : ∃ x3 y3, Sum P d x1 y1 x2 y2 x3 y3 := by
  obtain ⟨u, v, hu⟩ := inv_int h.prime _ (h.plus h1 h2)
  obtain ⟨u', v', hu'⟩ := inv_int h.prime _ (h.less h1 h2)
  refine ⟨(x1*y2 + x2*y1) * u, (y1*y2 + x1*x2) * u', ⟨(x1*y2 + x2*y1) * v, ?_⟩, ⟨(y1*y2 + x1*x2) * v', ?_⟩⟩
  · generalize 1 + d*x1*x2*y1*y2 = q at *
    generalize x1*y2 + x2*y1 = r at *
    grind
  · generalize 1 - d*x1*x2*y1*y2 = q at *
    generalize y1*y2 + x1*x2 = r at *
    grind
end Go.Proofs.YtagjbdhelfickaaDoor.NP
namespace Go.Proofs.YtagjbdhelfickaaDoor.NP
/-- A point, its numbers least. -/
structure Pt (P : Nat) (d : Int) where
  x : Int
  y : Int
  on : On P d x y
  xl : x % (P : Int) = x
  yl : y % (P : Int) = y
theorem Pt.same {P : Nat} {d : Int} {p q : Pt P d} (hx : (P : Int) ∣ p.x - q.x) (hy : (P : Int) ∣ p.y - q.y) : p = q := by
  have h1 := Int.emod_emod_of_dvd
  have ex : p.x = q.x := by rw [← p.xl, ← q.xl]; exact Int.emod_eq_emod_iff_emod_sub_eq_zero.2 (Int.emod_eq_zero_of_dvd hx)
  have ey : p.y = q.y := by rw [← p.yl, ← q.yl]; exact Int.emod_eq_emod_iff_emod_sub_eq_zero.2 (Int.emod_eq_zero_of_dvd hy)
  cases p
  cases q
  cases ex
  cases ey
  rfl
theorem Sum.least {P : Nat} {d x1 y1 x2 y2 x3 y3 : Int} (h : Sum P d x1 y1 x2 y2 x3 y3) : Sum P d x1 y1 x2 y2 (x3 % P) (y3 % P) := by
  obtain ⟨⟨a, ha⟩, ⟨b, hb⟩⟩ := h
  have e1 : x3 = x3 % (P : Int) + (P : Int) * (x3 / P) := by rw [Int.add_comm]; exact (Int.mul_ediv_add_emod x3 P).symm
  have e2 : y3 = y3 % (P : Int) + (P : Int) * (y3 / P) := by rw [Int.add_comm]; exact (Int.mul_ediv_add_emod y3 P).symm
  generalize x3 % (P : Int) = x at *
  generalize y3 % (P : Int) = y at *
  generalize x3 / (P : Int) = u at *
  generalize y3 / (P : Int) = v at *
  subst e1
  subst e2
  exact ⟨⟨a - u * (1 + d*x1*x2*y1*y2), by grind⟩, ⟨b - v * (1 - d*x1*x2*y1*y2), by grind⟩⟩
theorem Edw.pt {P : Nat} {d i : Int} (h : Edw P d i) (p q : Pt P d) : ∃ r : Pt P d, Sum P d p.x p.y q.x q.y r.x r.y := by
  obtain ⟨x, y, hs⟩ := h.there p.on q.on
  have hs2 := hs.least
  exact ⟨⟨_, _, h.on p.on q.on hs2, Int.emod_emod _ _, Int.emod_emod _ _⟩, hs2⟩
/-- The sum of two points. -/
noncomputable def Edw.add {P : Nat} {d i : Int} (h : Edw P d i) (p q : Pt P d) : Pt P d := Classical.choose (h.pt p q)
theorem Edw.add_is {P : Nat} {d i : Int} (h : Edw P d i) (p q : Pt P d) : Sum P d p.x p.y q.x q.y (h.add p q).x (h.add p q).y := Classical.choose_spec (h.pt p q)
theorem Edw.add_of {P : Nat} {d i : Int} (h : Edw P d i) {p q r : Pt P d} (hs : Sum P d p.x p.y q.x q.y r.x r.y) : h.add p q = r := by
  obtain ⟨hx, hy⟩ := h.one p.on q.on (h.add_is p q) hs
  exact Pt.same hx hy
theorem Edw.add_comm {P : Nat} {d i : Int} (h : Edw P d i) (p q : Pt P d) : h.add p q = h.add q p := h.add_of (h.add_is q p).swap
theorem Edw.add_assoc {P : Nat} {d i : Int} (h : Edw P d i) (p q r : Pt P d) : h.add (h.add p q) r = h.add p (h.add q r) := by
  rw [h.add_comm p (h.add q r)]
  obtain ⟨hx, hy⟩ := h.goes p.on q.on r.on (h.add_is p q) (h.add_is (h.add p q) r) (h.add_is q r) (h.add_is (h.add q r) p)
  exact Pt.same hx hy
/-- The neutral point. -/
def Edw.zero {P : Nat} {d i : Int} (h : Edw P d i) : Pt P d where
  x := 0
  y := 1
  on := ⟨0, by grind⟩
  xl := Int.zero_emod _
  yl := by
    have := h.prime.1
    exact Int.emod_eq_of_lt (by omega) (by omega)
theorem Edw.zero_add {P : Nat} {d i : Int} (h : Edw P d i) (p : Pt P d) : h.add h.zero p = p := h.add_of ⟨⟨0, by show p.x * (1 + d*0*p.x*1*p.y) - (0*p.y + p.x*1) = _; grind⟩, ⟨0, by show p.y * (1 - d*0*p.x*1*p.y) - (1*p.y + 0*p.x) = _; grind⟩⟩
theorem Edw.add_zero {P : Nat} {d i : Int} (h : Edw P d i) (p : Pt P d) : h.add p h.zero = p := by rw [h.add_comm, h.zero_add]
/-- A point turned round. -/
def Pt.neg {P : Nat} {d : Int} (p : Pt P d) : Pt P d where
  x := (-p.x) % P
  y := p.y
  on := by
    obtain ⟨a, ha⟩ := p.on
    have e : -p.x = (-p.x) % (P : Int) + (P : Int) * ((-p.x) / P) := by rw [Int.add_comm]; exact (Int.mul_ediv_add_emod _ _).symm
    generalize (-p.x) % (P : Int) = x at *
    generalize (-p.x) / (P : Int) = u at *
    have e2 : p.x = -(x + (P : Int) * u) := by omega
    rw [e2] at ha
    exact ⟨a + u*(2*x + (P : Int)*u)*(1 + d*p.y*p.y), by grind⟩
  xl := Int.emod_emod _ _
  yl := p.yl
theorem Edw.neg_add {P : Nat} {d i : Int} (h : Edw P d i) (p : Pt P d) : h.add p.neg p = h.zero := by
  obtain ⟨a, ha⟩ := p.on
  have e : -p.x = (-p.x) % (P : Int) + (P : Int) * ((-p.x) / P) := by rw [Int.add_comm]; exact (Int.mul_ediv_add_emod _ _).symm
  refine h.add_of ⟨?_, ?_⟩
  · show (P : Int) ∣ 0 * (1 + d*((-p.x) % P)*p.x*p.y*p.y) - (((-p.x) % P)*p.y + p.x*p.y)
    generalize (-p.x) % (P : Int) = x at *
    generalize (-p.x) / (P : Int) = u at *
    obtain rfl : x = -p.x - (P : Int) * u := by omega
    exact ⟨u * p.y, by grind⟩
  · show (P : Int) ∣ 1 * (1 - d*((-p.x) % P)*p.x*p.y*p.y) - (p.y*p.y + ((-p.x) % P)*p.x)
    generalize (-p.x) % (P : Int) = x at *
    generalize (-p.x) / (P : Int) = u at *
    obtain rfl : x = -p.x - (P : Int) * u := by omega
    exact ⟨u * p.x * (1 + d*p.y*p.y) - a, by grind⟩
/-- A point so often. -/
noncomputable def Edw.mul {P : Nat} {d i : Int} (h : Edw P d i) (p : Pt P d) : Nat → Pt P d
  | 0 => h.zero
  | n + 1 => h.add (h.mul p n) p
theorem Edw.mul_one {P : Nat} {d i : Int} (h : Edw P d i) (p : Pt P d) : h.mul p 1 = p := h.zero_add p
theorem Edw.mul_add {P : Nat} {d i : Int} (h : Edw P d i) (p : Pt P d) (m : Nat) : ∀ n, h.mul p (m + n) = h.add (h.mul p m) (h.mul p n)
  | 0 => (h.add_zero _).symm
  | n + 1 => by
    show h.add (h.mul p (m + n)) p = h.add (h.mul p m) (h.add (h.mul p n) p)
    rw [h.mul_add p m n, h.add_assoc]
end Go.Proofs.YtagjbdhelfickaaDoor.NP
namespace Go.Proofs.YtagjbdhelfickaaDoor.NP
/-- The order. -/
def LL : Nat := 7237005577332262213973186563042994240857116359379907606001950938285454250989
end Go.Proofs.YtagjbdhelfickaaDoor.NP
