/- Part 13 of what the laws of this seat share: WFlat4. -/
import Derived.Test.YtlhgabhjbnckkaaDoorPart12
namespace Go.Proofs.YtlhgabhjbnckkaaDoor
open Go.RowKit
section
variable {P : Program} {ops : Array Oper} {Q : Exit → Act → World → Prop} {md : Region.Mode} {L : List Nat}
/-- What is asked of a store into a new variable. -/
structure StoreS (P : Program) (md : Region.Mode) (ops : Array Oper) (L : List Nat) (vs : List Value) (news : List (Nat × Nat)) (t : TypeId) (zs : List Value) (p : Nat × Nat) (j : Nat) (l : List Value) : Prop where
  store : ∃ o v, ops[j]? = some o ∧ o.dst = none ∧ o.guard = none ∧ o.op = .store t (.tmp p.2) (.tmp v) ∧ waitsFor md ops j p.1 = true ∧ oldB news v = true ∧ okB md ops L j v = true ∧ vs.getD v undef = .agg l.toArray ∧ (P.info? t).map (·.size) = some l.length ∧ zs.length = l.length ∧ l.toArray.all (·.oneCell') = true
/-- What a new variable's block holds: what it is made with, or what was stored into it. -/
def curS (sv : Nat → Option (Nat × List Value)) (zs : Nat → List Value) (listed : Array Bool) (s : Nat) : List Value := match sv s with
  | some (j, l) => if listed.getD j false = true then l else zs s
  | none => zs s
structure FlatS (sv : Nat → Option (Nat × List Value)) (ops : Array Oper) (L : List Nat) (w0 : World) (ds : List Deferred) (vs : List Value) (news : List (Nat × Nat)) (t : Nat → TypeId) (zs : Nat → List Value) (listed : Array Bool) (a : Act) (w : World) : Prop where
  below : Below w0.heap.size w0 w
  size : a.tmps.size = vs.length
  defers : a.defers = ds
  fact : ∀ s, oldB news s = true → (∀ j ∈ L, dstIs ops j s = true → listed.getD j false = true) → a.tmps.getD s undef = vs.getD s undef
  made : ∀ p ∈ news, listed.getD p.1 false = true → ∃ g, w0.heap.size ≤ g ∧ a.tmps.getD p.2 undef = .pointer (some ⟨g, 0, none⟩) ∧ Cells w g (curS sv zs listed p.2) (t p.2)
  order : ∀ p ∈ news, ∀ j l, sv p.2 = some (j, l) → listed.getD j false = true → listed.getD p.1 false = true
  apart : ∀ p ∈ news, ∀ q ∈ news, p.2 ≠ q.2 → listed.getD p.1 false = true → listed.getD q.1 false = true → a.tmps.getD p.2 undef ≠ a.tmps.getD q.2 undef
theorem flatS_step {w0 : World} {ds : List Deferred} {vs : List Value} {news : List (Nat × Nat)} {t : Nat → TypeId} {zs : Nat → List Value} {sv : Nat → Option (Nat × List Value)} (hnL : ∀ p ∈ news, p.1 ∈ L) (hN : ∀ p ∈ news, NewM P ops L vs.length (t p.2) p) (hz : ∀ p ∈ news, ∀ w, (zeroValue (t p.2)).run P w = .ok (.agg (zs p.2).toArray) w) (hsv : ∀ p ∈ news, ∀ j l, sv p.2 = some (j, l) → StoreS P md ops L vs news (t p.2) (zs p.2) p j l) (huq : ∀ p ∈ news, ∀ q ∈ news, ∀ j l l', sv p.2 = some (j, l) → sv q.2 = some (j, l') → p.2 = q.2) {i : Nat} (hi : i ∈ L) (h : (∃ p ∈ news, p.1 = i) ∨ StepM P md ops Q L w0 vs news i ∨ ∃ p ∈ news, ∃ l, sv p.2 = some (i, l))
    (listed : Array Bool) (a : Act) (w : World) (hI : FlatS sv ops L w0 ds vs news t zs listed a w) (hr : i ∈ Region.ready md ops listed) : wpOp P ops Q i (FlatS sv ops L w0 ds vs news t zs (listed.setIfInBounds i true)) a w := by
  have hget : ∀ (s u : Nat) (v : Value), s ≠ u → (a.put (some s) v).tmps.getD u undef = a.tmps.getD u undef := fun s u v hne => put_getD_ne _ _ _ _ hne
  have hback : ∀ j, j ≠ i → (listed.setIfInBounds i true).getD j false = true → listed.getD j false = true := fun j hj hl => by
    rwa [getD_set_ne false (fun e => hj e.symm)] at hl
  have hilt : i < listed.size := by
    have h0 := (mem_ready.1 hr).1
    rcases Nat.lt_or_ge i listed.size with h | h
    · exact h
    · rw [Array.getD_eq_getD_getElem?, Array.getElem?_eq_none h] at h0; cases h0
  have hun : listed.getD i false = false := by
    have h0 := (mem_ready.1 hr).1
    simp [hilt] at h0 ⊢
    exact h0
  have hset : (listed.setIfInBounds i true).getD i false = true := by simp [hilt]
  have hmono : ∀ j, listed.getD j false = true → (listed.setIfInBounds i true).getD j false = true := fun j hj => by
    by_cases e : j = i
    · rw [e]; exact hset
    · rwa [getD_set_ne false (fun e2 => e e2.symm)]
  have hcur : ∀ s, (∀ j l, sv s = some (j, l) → j ≠ i) → curS sv zs (listed.setIfInBounds i true) s = curS sv zs listed s := fun s hs => by
    unfold curS
    split
    · rename_i j l hj
      rw [getD_set_ne false (fun e2 => hs j l hj e2.symm)]
    · rfl
  rcases h with ⟨p, hp, rfl⟩ | h | ⟨p, hp, l, hsp⟩
  · obtain ⟨o, ho, hd, hg, hop, hs, hone⟩ := (hN p hp).new
    rw [List.all_eq_true] at hone
    have hs' : p.2 < vs.length := by simpa [Nat.blt_eq] using hs
    have hb : Below w.heap.size w (w.alloc (.cells (zs p.2).toArray (t p.2))) := (Below.refl _ _).alloc (Nat.le_refl _) _
    have heq : (a.put (some p.2) (.pointer (some ⟨w.heap.size, 0, none⟩))).tmps.getD p.2 undef = .pointer (some ⟨w.heap.size, 0, none⟩) := put_getD_eq _ _ _ (by rw [hI.size]; exact hs')
    have hone2 : ∀ q ∈ news, q.2 = p.2 → q.1 = p.1 := fun q hq e => by
      obtain ⟨oq, hoq, hdq, _⟩ := (hN q hq).new
      have := hone q.1 (hnL q hq)
      simpa [dstIs, hoq, hdq, e] using this
    suffices hfin : FlatS sv ops L w0 ds vs news t zs (listed.setIfInBounds p.1 true) (a.put (some p.2) (.pointer (some ⟨w.heap.size, 0, none⟩))) (w.alloc (.cells (zs p.2).toArray (t p.2))) by
      refine wpOp_step ho fun K hK => ?_
      rw [if_pos (by simp [Region.wanted, hg])]
      have hfin2 := hK _ _ hfin
      rw [← hd] at hfin2
      unfold Oper.wp
      simp only [execOp, hop, Instr.alloc, hz p hp, newVar, Value.cells, Sem.run_bind, Sem.run_pure, Result.andThen_ok, go_sem]
      exact hfin2
    have hjne : ∀ q ∈ news, ∀ j l, sv q.2 = some (j, l) → j ≠ p.1 := fun q hq j l hj e => by
      obtain ⟨oj, v, hoj, hdj, _⟩ := (hsv q hq j l hj).store
      rw [e, ho] at hoj
      cases hoj
      rw [hd] at hdj
      cases hdj
    refine ⟨hI.below.trans (hb.mono hI.below.size), ?_, ?_, fun s hold hs2 => ?_, fun q hq hl => ?_, fun q hq j l hj hl => hmono _ (hI.order q hq j l hj (hback _ (hjne q hq j l hj) hl)), fun q hq q' hq' hne hl hl' => ?_⟩
    · rw [← hI.size]; simp [Act.put]
    · rw [← hI.defers]; rfl
    · have hne := oldB_ne hold p hp
      rw [hget _ _ _ hne]
      refine hI.fact s hold fun j hj hjs => ?_
      have h1 := hs2 j hj hjs
      refine hback j (fun e => ?_) h1
      rw [e] at hjs
      simp only [dstIs, ho, hd] at hjs
      exact hne (by simpa using hjs)
    · by_cases e : q.2 = p.2
      · have e3 : curS sv zs (listed.setIfInBounds p.1 true) q.2 = zs p.2 := by
          rw [hcur _ (hjne q hq), e]
          unfold curS
          split
          · rename_i j l hj
            rw [if_neg]
            intro hlj
            rw [hI.order p hp j l hj hlj] at hun
            cases hun
          · rfl
        rw [e3, e, heq]
        exact ⟨_, hI.below.size, rfl, Cells.new w _ _⟩
      · rw [hget _ _ _ (fun e2 => e e2.symm), hcur _ (hjne q hq)]
        obtain ⟨g, h1, h2, h3⟩ := hI.made q hq (hback _ (fun e2 => by
          obtain ⟨oq, hoq, hdq, _⟩ := (hN q hq).new
          rw [e2, ho] at hoq
          cases hoq
          rw [hd] at hdq
          exact e (by simpa using hdq.symm)) hl)
        exact ⟨g, h1, h2, h3.below hb h3.lt⟩
    · have key : ∀ r ∈ news, r.2 ≠ p.2 → (listed.setIfInBounds p.1 true).getD r.1 false = true → a.tmps.getD r.2 undef ≠ .pointer (some ⟨w.heap.size, 0, none⟩) := fun r hr2 hne2 hl2 e => by
        obtain ⟨g, h1, h2, h3⟩ := hI.made r hr2 (hback _ (fun e2 => by
          obtain ⟨oq, hoq, hdq, _⟩ := (hN r hr2).new
          rw [e2, ho] at hoq
          cases hoq
          rw [hd] at hdq
          exact hne2 (by simpa using hdq.symm)) hl2)
        rw [h2] at e
        have := h3.lt
        simp at e
        try omega
      have nl : ∀ r ∈ news, r.2 ≠ p.2 → (listed.setIfInBounds p.1 true).getD r.1 false = true → listed.getD r.1 false = true := fun r hr2 hne2 hl2 => hback _ (fun e2 => by
          obtain ⟨oq, hoq, hdq, _⟩ := (hN r hr2).new
          rw [e2, ho] at hoq
          cases hoq
          rw [hd] at hdq
          exact hne2 (by simpa using hdq.symm)) hl2
      by_cases e : q.2 = p.2
      · have e' : q'.2 ≠ p.2 := fun e2 => hne (e.trans e2.symm)
        rw [e, heq, hget _ _ _ (fun e2 => e' e2.symm)]
        exact fun h => key q' hq' e' hl' h.symm
      · by_cases e' : q'.2 = p.2
        · rw [e', heq, hget _ _ _ (fun e2 => e e2.symm)]
          exact key q hq e hl
        · rw [hget _ _ _ (fun e2 => e e2.symm), hget _ _ _ (fun e2 => e' e2.symm)]
          exact hI.apart q hq q' hq' hne (nl q hq e hl) (nl q' hq' e' hl')
  · obtain ⟨o, s, ho, hd, hs, hold, hone, hstep⟩ := h.step
    rw [List.all_eq_true] at hone
    have hs' : s < vs.length := by simpa [Nat.blt_eq] using hs
    have hnew := oldB_ne hold
    have hni : ∀ p ∈ news, p.1 ≠ i := fun p hp e => by
      obtain ⟨oq, hoq, hdq, _⟩ := (hN p hp).new
      rw [e, ho] at hoq
      cases hoq
      rw [hd] at hdq
      exact hnew p hp (by simpa using hdq.symm)
    refine wpOp_step ho fun K hK => ?_
    refine hstep a w K hI.below (fun u hu hou => hI.fact u hou fun j hj hjs => ?_) fun w' hb => hK _ _ ?_
    · rw [okB, List.all_eq_true] at hu
      have h1 := hu j hj
      rw [hjs] at h1
      exact ready_has hr (by simpa using h1)
    · rw [hd]
      have hjne : ∀ q ∈ news, ∀ j l, sv q.2 = some (j, l) → j ≠ i := fun q hq j l hj e => by
        obtain ⟨oj, v, hoj, hdj, _⟩ := (hsv q hq j l hj).store
        rw [e, ho] at hoj
        cases hoj
        rw [hd] at hdj
        cases hdj
      refine ⟨hI.below.trans (hb.mono hI.below.size), ?_, ?_, fun u hou hu => ?_, fun q hq hl => ?_, fun q hq j l hj hl => hmono _ (hI.order q hq j l hj (hback _ (hjne q hq j l hj) hl)), fun q hq q' hq' hne hl hl' => ?_⟩
      · rw [← hI.size]; simp [Act.put]
      · rw [← hI.defers]; rfl
      · by_cases e : s = u
        · subst e
          rw [put_getD_eq _ _ _ (by rw [hI.size]; exact hs')]
        · rw [hget _ _ _ e]
          refine hI.fact u hou fun j hj hju => ?_
          have h1 := hu j hj hju
          refine hback j (fun ej => ?_) h1
          rw [ej] at hju
          simp only [dstIs, ho, hd] at hju
          exact e (by simpa using hju)
      · rw [hget _ _ _ (fun e => hnew q hq e.symm), hcur _ (hjne q hq)]
        obtain ⟨g, h1, h2, h3⟩ := hI.made q hq (hback _ (hni q hq) hl)
        exact ⟨g, h1, h2, h3.below hb h3.lt⟩
      · rw [hget _ _ _ (fun e => hnew q hq e.symm), hget _ _ _ (fun e => hnew q' hq' e.symm)]
        exact hI.apart q hq q' hq' hne (hback _ (hni q hq) hl) (hback _ (hni q' hq') hl')
  · obtain ⟨o, v, ho, hd, hg, hop, hw, hov, hok, hval, hsz, hzl, h1c⟩ := (hsv p hp i l hsp).store
    have hlp : listed.getD p.1 false = true := ready_has hr hw
    obtain ⟨g, hge, hpt, hC⟩ := hI.made p hp hlp
    have hcz : curS sv zs listed p.2 = zs p.2 := by
      unfold curS
      rw [hsp]
      simp [hun]
    rw [hcz] at hC
    have hv : a.tmps.getD v undef = .agg l.toArray := by
      rw [← hval]
      refine hI.fact v hov fun j hj hjs => ?_
      rw [okB, List.all_eq_true] at hok
      have h1 := hok j hj
      rw [hjs] at h1
      exact ready_has hr (by simpa using h1)
    have hne : ∀ q ∈ news, q.2 ≠ p.2 → ∀ j l', sv q.2 = some (j, l') → j ≠ i := fun q hq hne j l' hj e => by
      subst e
      exact hne (huq q hq p hp j l' l hj hsp)
    have hC2 := hC.setCells (cs := l) (o := 0) (by omega)
    rw [splice_all _ _ (by omega)] at hC2
    refine wpOp_step ho fun K hK => ?_
    rw [if_pos (by simp [Region.wanted, hg])]
    refine wp_store_mid (t p.2) (.tmp p.2) (.tmp v) hop g 0 l.toArray hpt hv (by rw [List.size_toArray]; exact hC.there 0 _ (by omega)) (by rw [List.size_toArray]; exact hsz) h1c ?_
    rw [hd]
    refine hK _ _ ⟨below_setCells hI.below hge _ _, hI.size, hI.defers, fun s hold hs2 => hI.fact s hold fun j hj hjs => hback j (fun e => ?_) (hs2 j hj hjs), fun q hq hl => ?_, fun q hq j l' hj hl => ?_, fun q hq q' hq' hne2 hl hl' => hI.apart q hq q' hq' hne2 ?_ ?_⟩
    · rw [e] at hjs
      simp [dstIs, ho, hd] at hjs
    · by_cases e : q.2 = p.2
      · have e3 : curS sv zs (listed.setIfInBounds i true) q.2 = l := by
          unfold curS
          rw [e, hsp]
          simp only [hset, if_true]
        rw [e3, e]
        exact ⟨g, hge, hpt, hC2⟩
      · rw [hcur _ (hne q hq e)]
        have hlq : listed.getD q.1 false = true := by
          refine hback _ (fun e2 => ?_) hl
          obtain ⟨oq, hoq, hdq, _⟩ := (hN q hq).new
          rw [e2, ho] at hoq
          cases hoq
          rw [hd] at hdq
          cases hdq
        obtain ⟨g', h1, h2, h3⟩ := hI.made q hq hlq
        refine ⟨g', h1, h2, h3.otherCells (fun e2 => ?_) _ _⟩
        have h4 := hI.apart q hq p hp e hlq hlp
        rw [h2, hpt, e2] at h4
        exact h4 rfl
    · by_cases e : q.2 = p.2
      · have hq1 : q.1 = p.1 := by
          obtain ⟨oq, hoq, hdq, hgq, hopq, hsq, honeq⟩ := (hN q hq).new
          rw [List.all_eq_true] at honeq
          obtain ⟨op, hop2, hdp, _⟩ := (hN p hp).new
          have := honeq p.1 (hnL p hp)
          have h5 : p.1 = q.1 := by simpa [dstIs, hop2, hdp, e] using this
          exact h5.symm
        rw [hq1]
        exact hmono _ hlp
      · exact hmono _ (hI.order q hq j l' hj (hback _ (hne q hq e j l' hj) hl))
    all_goals
      refine hback _ (fun e2 => ?_) (by assumption)
      first
      | (obtain ⟨oq, hoq, hdq, _⟩ := (hN q hq).new
         rw [e2, ho] at hoq
         cases hoq
         rw [hd] at hdq
         cases hdq
         done)
      | (obtain ⟨oq, hoq, hdq, _⟩ := (hN q' hq').new
         rw [e2, ho] at hoq
         cases hoq
         rw [hd] at hdq
         cases hdq)
theorem wpAny_flatS (hB : flatB md ops L = true) (w0 : World) (a0 : Act) (vs : List Value) (news : List (Nat × Nat)) (t : Nat → TypeId) (zs : Nat → List Value) (sv : Nat → Option (Nat × List Value)) (keep : List Nat) (hkeep : ((List.range vs.length).all fun s => keep.contains s || L.any fun j => dstIs ops j s && Nat.blt j ops.size) = true)
    (hnL : (news.all fun p => L.contains p.1) = true) (hN : ∀ p ∈ news, NewM P ops L vs.length (t p.2) p) (hz : ∀ p ∈ news, ∀ w, (zeroValue (t p.2)).run P w = .ok (.agg (zs p.2).toArray) w)
    (hsv : ∀ p ∈ news, ∀ j l, sv p.2 = some (j, l) → StoreS P md ops L vs news (t p.2) (zs p.2) p j l ∧ j ∈ L) (huq : ∀ p ∈ news, ∀ q ∈ news, ∀ j l l', sv p.2 = some (j, l) → sv q.2 = some (j, l') → p.2 = q.2)
    (hk : ∀ s ∈ keep, a0.tmps.getD s undef = vs.getD s undef) (hsz : a0.tmps.size = vs.length) (hstep : ∀ i ∈ L, (∃ p ∈ news, p.1 = i) ∨ StepM P md ops Q L w0 vs news i ∨ ∃ p ∈ news, ∃ l, sv p.2 = some (i, l)) (rem : Nat) (hrem : rem + (fullOf ops.size L).toList.countP id = ops.size)
    (hend : ∀ w (g : Nat → Nat), Below w0.heap.size w0 w → (∀ p ∈ news, w0.heap.size ≤ g p.2 ∧ Cells w (g p.2) ((sv p.2).elim (zs p.2) (·.2)) (t p.2)) → (∀ p ∈ news, ∀ q ∈ news, p.2 ≠ q.2 → g p.2 ≠ g q.2) → wpAny P md ops Q rem (fullOf ops.size L) ⟨(withNew g news vs).toArray, a0.defers⟩ w) : wpAny P md ops Q ops.size (Array.replicate ops.size false) a0 w0 := by
  rw [List.all_eq_true] at hkeep hnL
  have hnL' : ∀ p ∈ news, p.1 ∈ L := fun p hp => by simpa using hnL p hp
  have hno : ∀ j, (Array.replicate ops.size false).getD j false = false := fun j => by
    by_cases h : j < ops.size <;> simp [h]
  have h0 : (Array.replicate ops.size false).toList.countP id = 0 := by simp [List.countP_replicate]
  refine wpAny_flat hB (FlatS sv ops L w0 a0.defers vs news t zs) (fun i hi => flatS_step hnL' hN hz (fun p hp j l h => (hsv p hp j l h).1) huq hi (hstep i hi)) rem hrem (fun a w hI => ?_) ops.size _ a0 w0 ⟨by simp, fun j hj => ?_, fun i j hi => ?_⟩ (by omega) ⟨Below.refl _ _, hsz, rfl, fun s hold hs => ?_, fun p hp hl => ?_, fun p hp j l _ hl => ?_, fun p hp q hq _ hl => ?_⟩
  · have hful : ∀ j ∈ L, j < ops.size → (fullOf ops.size L).getD j false = true := fun j hj hlt => by simp [fullOf, hlt, hj]
    have hnew : ∀ p ∈ news, (fullOf ops.size L).getD p.1 false = true := fun p hp => by
      obtain ⟨o, ho, _⟩ := (hN p hp).new
      exact hful _ (hnL' p hp) (Array.getElem?_eq_some_iff.1 ho).1
    have hcur : ∀ p ∈ news, curS sv zs (fullOf ops.size L) p.2 = (sv p.2).elim (zs p.2) (·.2) := fun p hp => by
      unfold curS
      split
      · rename_i j l hj
        have h := hsv p hp j l hj
        obtain ⟨o, v, ho, _⟩ := h.1.store
        rw [if_pos (hful j h.2 (Array.getElem?_eq_some_iff.1 ho).1), hj]; rfl
      · rename_i hj
        rw [hj]; rfl
    have hg : ∃ g : Nat → Nat, ∀ p ∈ news, w0.heap.size ≤ g p.2 ∧ a.tmps.getD p.2 undef = .pointer (some ⟨g p.2, 0, none⟩) ∧ Cells w (g p.2) ((sv p.2).elim (zs p.2) (·.2)) (t p.2) := by
      refine ⟨fun s => blk (a.tmps.getD s undef), fun p hp => ?_⟩
      obtain ⟨g, h1, h2, h3⟩ := hI.made p hp (hnew p hp)
      have hb : blk (a.tmps.getD p.2 undef) = g := by rw [h2]; rfl
      show w0.heap.size ≤ blk (a.tmps.getD p.2 undef) ∧ a.tmps.getD p.2 undef = .pointer (some ⟨blk (a.tmps.getD p.2 undef), 0, none⟩) ∧ Cells w (blk (a.tmps.getD p.2 undef)) ((sv p.2).elim (zs p.2) (·.2)) (t p.2)
      rw [hb, ← hcur p hp]
      exact ⟨h1, h2, h3⟩
    obtain ⟨g, hg⟩ := hg
    rw [frame_is (vs := withNew g news vs) (by rw [withNew_length]; exact hI.size) hI.defers fun s => ?_]
    · refine hend w g hI.below (fun p hp => ⟨(hg p hp).1, (hg p hp).2.2⟩) fun p hp q hq hne e => hI.apart p hp q hq hne (hnew p hp) (hnew q hq) ?_
      rw [(hg p hp).2.1, (hg q hq).2.1, e]
    · by_cases ho : oldB news s = true
      · rw [withNew_old g s news vs ho]
        refine hI.fact s ho fun j hj hjs => hful j hj ?_
        unfold dstIs at hjs
        rcases Nat.lt_or_ge j ops.size with h | h
        · exact h
        · rw [Array.getElem?_eq_none h] at hjs; cases hjs
      · have hex : ∃ p ∈ news, p.2 = s := by
          refine Classical.byContradiction fun hc => ho ?_
          rw [oldB, List.all_eq_true]
          intro q hq
          cases hb : Nat.beq q.2 s with
          | false => rfl
          | true => exact absurd ⟨q, hq, Nat.eq_of_beq_eq_true hb⟩ hc
        obtain ⟨p, hp, e⟩ := hex
        obtain ⟨o, _, _, _, _, hlt, _⟩ := (hN p hp).new
        rw [withNew_new g s news vs (by rw [← e]; simpa [Nat.blt_eq] using hlt) ⟨p, hp, e⟩, ← e]
        exact (hg p hp).2.1
  · rw [hno] at hj; cases hj
  · rw [hno] at hi; cases hi
  · rcases Nat.lt_or_ge s vs.length with h | h
    · have h1 := hkeep s (List.mem_range.2 h)
      rw [Bool.or_eq_true, List.contains_iff_mem, List.any_eq_true] at h1
      rcases h1 with h1 | ⟨j, hj, h1⟩
      · exact hk s h1
      · rw [Bool.and_eq_true] at h1
        have := hs j hj h1.1
        rw [hno] at this; cases this
    · simp [Array.getElem?_eq_none (show a0.tmps.size ≤ s by omega), h]
  · rw [hno] at hl; cases hl
  · rw [hno] at hl; cases hl
  · rw [hno] at hl; cases hl
end
end Go.Proofs.YtlhgabhjbnckkaaDoor
