/- Part 14 of what the laws of this seat share: WFlat3, WFlat4, USmall. -/
import Derived.Deep.Cut
import Derived.Test.YtagjbdhelfickaaDoorPart13
namespace Go.Proofs.YtagjbdhelfickaaDoor
open Go.RowKit
section
variable {P : Program} {ops : Array Oper} {Q : Exit → Act → World → Prop} {md : Region.Mode}
/-- Each operation waits for earlier ones alone. -/
def earlyB (md : Region.Mode) (ops : Array Oper) : Bool := (List.range ops.size).all fun i => match ops[i]? with
  | some o => o.after.all fun e => !Region.binds md e || Nat.blt e.on i
  | none => true
/-- The first k of n have come up. -/
def preA (n k : Nat) : Array Bool := ((List.range n).map fun i => Nat.blt i k).toArray
theorem preA_get (n k i : Nat) (d : Bool) (h : i < n) : (preA n k).getD i d = Nat.blt i k := by simp [preA, h]
theorem preA_zero (n : Nat) : preA n 0 = Array.replicate n false := by
  apply Array.ext_getElem?
  intro i
  by_cases h : i < n
  · simp [preA, h, show Nat.blt i 0 = false from Bool.eq_false_iff.2 (by rw [Ne, Nat.blt_eq]; omega)]
  · simp [preA, h]
theorem preA_set (n k : Nat) : (preA n k).setIfInBounds k true = preA n (k + 1) := by
  apply Array.ext_getElem?
  intro i
  rw [Array.getElem?_setIfInBounds]
  by_cases h : i < n
  · by_cases e : k = i
    · subst e
      simp [preA, h, Nat.blt_eq]
    · have : Nat.blt i k = Nat.blt i (k + 1) := by
        rw [Bool.eq_iff_iff, Nat.blt_eq, Nat.blt_eq]
        omega
      simp [preA, h, e, this]
  · by_cases e : k = i
    · subst e
      simp [preA, h]
    · simp [preA, h, e]
theorem wpOps_of_any (hE : earlyB md ops = true) : ∀ (n k : Nat) (a : Act) (w : World), k + n = ops.size → wpAny P md ops Q n (preA ops.size k) a w → wpOps P ops Q (List.range' k n) a w
  | 0, _, _, _, _, h => h.2
  | n + 1, k, a, w, hk, h => by
    rw [List.range'_succ, wpOps_cons]
    have hr : k ∈ Region.ready md ops (preA ops.size k) := by
      have hlt : k < ops.size := by omega
      refine mem_ready.2 ⟨by rw [preA_get _ _ _ _ hlt]; exact Bool.eq_false_iff.2 (by rw [Ne, Nat.blt_eq]; omega), ops[k], by simp [hlt], fun e he hb => ?_⟩
      rw [earlyB, List.all_eq_true] at hE
      have h1 := hE k (List.mem_range.2 hlt)
      rw [Array.getElem?_eq_getElem hlt] at h1
      have h2 := (Array.all_eq_true'.1 h1) e he
      rw [hb] at h2
      have h3 : Nat.blt e.on k = true := by simpa using h2
      rw [preA_get _ _ _ _ (Nat.lt_trans (by simpa [Nat.blt_eq] using h3) hlt)]
      exact h3
    refine wpOp_mono (fun a w hh => wpOps_of_any hE n (k + 1) a w (by omega) ?_) (h.2 k hr)
    rwa [preA_set] at hh
theorem wp_region_flat {id : Nat} {a : Act} {w : World} (hE : earlyB md ops = true) (h : wpAny P md ops Q ops.size (Array.replicate ops.size false) a w) : (Code.region id ops false).wp P Q a w := by
  refine wp_region ?_
  rw [List.range_eq_range']
  refine wpOps_of_any hE ops.size 0 a w (by omega) ?_
  rw [preA_zero]
  exact h
end
end Go.Proofs.YtagjbdhelfickaaDoor
namespace Go.Proofs.YtagjbdhelfickaaDoor
open Go.RowKit
section
variable {P : Program} {ops : Array Oper} {Q : Exit → Act → World → Prop} {md : Region.Mode} {L : List Nat}
/-- What is asked of a store into a new variable. -/
structure StoreS (P : Program) (md : Region.Mode) (ops : Array Oper) (L : List Nat) (vs : List Value) (news : List (Nat × Nat)) (t : TypeId) (zs : List Value) (p : Nat × Nat) (j : Nat) (l : List Value) : Prop where
  store : ∃ o v, ops[j]? = some o ∧ o.dst = none ∧ o.guard = none ∧ o.op = .store t (.tmp p.2) (.tmp v) ∧ waitsFor md ops j p.1 = true ∧ oldB news v = true ∧ okB md ops L j v = true ∧ vs.getD v undef = .agg l.toArray ∧ (P.info? t).map (·.size) = some l.length ∧ zs.length = l.length ∧ l.toArray.all (·.oneCell') = true
/-- What a new variable's block holds: what it is made with, or what was stored into it. -/
def curS (sv : Nat → Option (Nat × List Value)) (zs : Nat → List Value) (listed : Array Bool) (s : Nat) : List Value := match sv s with
  | some (j, l) => if listed.getD j false = true then l else zs s
  | none => zs s
structure FlatS (sv : Nat → Option (Nat × List Value)) (ops : Array Oper) (L : List Nat) (w0 : World) (ds : List Deferred) (vs : List Value) (news : List (Nat × Nat)) (t : Nat → TypeId) (zs : Nat → List Value) (listed : Array Bool) (a : Act) (w : World) : Prop where
  below : Below w0.heap.size w0 w
  size : a.tmps.size = vs.length
  defers : a.defers = ds
  fact : ∀ s, oldB news s = true → (∀ j ∈ L, dstIs ops j s = true → listed.getD j false = true) → a.tmps.getD s undef = vs.getD s undef
  made : ∀ p ∈ news, listed.getD p.1 false = true → ∃ g, w0.heap.size ≤ g ∧ a.tmps.getD p.2 undef = .pointer (some ⟨g, 0, none⟩) ∧ Cells w g (curS sv zs listed p.2) (t p.2)
  order : ∀ p ∈ news, ∀ j l, sv p.2 = some (j, l) → listed.getD j false = true → listed.getD p.1 false = true
  apart : ∀ p ∈ news, ∀ q ∈ news, p.2 ≠ q.2 → listed.getD p.1 false = true → listed.getD q.1 false = true → a.tmps.getD p.2 undef ≠ a.tmps.getD q.2 undef
theorem flatS_step {w0 : World} {ds : List Deferred} {vs : List Value} {news : List (Nat × Nat)} {t : Nat → TypeId} {zs : Nat → List Value} {sv : Nat → Option (Nat × List Value)} (hnL : ∀ p ∈ news, p.1 ∈ L) (hN : ∀ p ∈ news, NewM P ops L vs.length (t p.2) p) (hz : ∀ p ∈ news, ∀ w, (zeroValue (t p.2)).run P w = .ok (.agg (zs p.2).toArray) w) (hsv : ∀ p ∈ news, ∀ j l, sv p.2 = some (j, l) → StoreS P md ops L vs news (t p.2) (zs p.2) p j l) (huq : ∀ p ∈ news, ∀ q ∈ news, ∀ j l l', sv p.2 = some (j, l) → sv q.2 = some (j, l') → p.2 = q.2) {i : Nat} (hi : i ∈ L) (h : (∃ p ∈ news, p.1 = i) ∨ StepM P md ops Q L w0 vs news i ∨ ∃ p ∈ news, ∃ l, sv p.2 = some (i, l))
    (listed : Array Bool) (a : Act) (w : World) (hI : FlatS sv ops L w0 ds vs news t zs listed a w) (hr : i ∈ Region.ready md ops listed) : wpOp P ops Q i (FlatS sv ops L w0 ds vs news t zs (listed.setIfInBounds i true)) a w := by
  have hget : ∀ (s u : Nat) (v : Value), s ≠ u → (a.put (some s) v).tmps.getD u undef = a.tmps.getD u undef := fun s u v hne => put_getD_ne _ _ _ _ hne
  have hback : ∀ j, j ≠ i → (listed.setIfInBounds i true).getD j false = true → listed.getD j false = true := fun j hj hl => by
    rwa [getD_set_ne false (fun e => hj e.symm)] at hl
  have hilt : i < listed.size := by
    have h0 := (mem_ready.1 hr).1
    rcases Nat.lt_or_ge i listed.size with h | h
    · exact h
    · rw [Array.getD_eq_getD_getElem?, Array.getElem?_eq_none h] at h0; cases h0
  have hun : listed.getD i false = false := by
    have h0 := (mem_ready.1 hr).1
    simp [hilt] at h0 ⊢
    exact h0
  have hset : (listed.setIfInBounds i true).getD i false = true := by simp [hilt]
  have hmono : ∀ j, listed.getD j false = true → (listed.setIfInBounds i true).getD j false = true := fun j hj => by
    by_cases e : j = i
    · rw [e]; exact hset
    · rwa [getD_set_ne false (fun e2 => e e2.symm)]
  have hcur : ∀ s, (∀ j l, sv s = some (j, l) → j ≠ i) → curS sv zs (listed.setIfInBounds i true) s = curS sv zs listed s := fun s hs => by
    unfold curS
    split
    · rename_i j l hj
      rw [getD_set_ne false (fun e2 => hs j l hj e2.symm)]
    · rfl
  rcases h with ⟨p, hp, rfl⟩ | h | ⟨p, hp, l, hsp⟩
  · obtain ⟨o, ho, hd, hg, hop, hs, hone⟩ := (hN p hp).new
    rw [List.all_eq_true] at hone
    have hs' : p.2 < vs.length := by simpa [Nat.blt_eq] using hs
    have hb : Below w.heap.size w (w.alloc (.cells (zs p.2).toArray (t p.2))) := (Below.refl _ _).alloc (Nat.le_refl _) _
    have heq : (a.put (some p.2) (.pointer (some ⟨w.heap.size, 0, none⟩))).tmps.getD p.2 undef = .pointer (some ⟨w.heap.size, 0, none⟩) := put_getD_eq _ _ _ (by rw [hI.size]; exact hs')
    have hone2 : ∀ q ∈ news, q.2 = p.2 → q.1 = p.1 := fun q hq e => by
      obtain ⟨oq, hoq, hdq, _⟩ := (hN q hq).new
      have := hone q.1 (hnL q hq)
      simpa [dstIs, hoq, hdq, e] using this
    suffices hfin : FlatS sv ops L w0 ds vs news t zs (listed.setIfInBounds p.1 true) (a.put (some p.2) (.pointer (some ⟨w.heap.size, 0, none⟩))) (w.alloc (.cells (zs p.2).toArray (t p.2))) by
      refine wpOp_step ho fun K hK => ?_
      rw [if_pos (by simp [Region.wanted, hg])]
      have hfin2 := hK _ _ hfin
      rw [← hd] at hfin2
      unfold Oper.wp
      simp only [execOp, hop, Instr.alloc, hz p hp, newVar, Value.cells, Sem.run_bind, Sem.run_pure, Result.andThen_ok, go_sem]
      exact hfin2
    have hjne : ∀ q ∈ news, ∀ j l, sv q.2 = some (j, l) → j ≠ p.1 := fun q hq j l hj e => by
      obtain ⟨oj, v, hoj, hdj, _⟩ := (hsv q hq j l hj).store
      rw [e, ho] at hoj
      cases hoj
      rw [hd] at hdj
      cases hdj
    refine ⟨hI.below.trans (hb.mono hI.below.size), ?_, ?_, fun s hold hs2 => ?_, fun q hq hl => ?_, fun q hq j l hj hl => hmono _ (hI.order q hq j l hj (hback _ (hjne q hq j l hj) hl)), fun q hq q' hq' hne hl hl' => ?_⟩
    · rw [← hI.size]; simp [Act.put]
    · rw [← hI.defers]; rfl
    · have hne := oldB_ne hold p hp
      rw [hget _ _ _ hne]
      refine hI.fact s hold fun j hj hjs => ?_
      have h1 := hs2 j hj hjs
      refine hback j (fun e => ?_) h1
      rw [e] at hjs
      simp only [dstIs, ho, hd] at hjs
      exact hne (by simpa using hjs)
    · by_cases e : q.2 = p.2
      · have e3 : curS sv zs (listed.setIfInBounds p.1 true) q.2 = zs p.2 := by
          rw [hcur _ (hjne q hq), e]
          unfold curS
          split
          · rename_i j l hj
            rw [if_neg]
            intro hlj
            rw [hI.order p hp j l hj hlj] at hun
            cases hun
          · rfl
        rw [e3, e, heq]
        exact ⟨_, hI.below.size, rfl, Cells.new w _ _⟩
      · rw [hget _ _ _ (fun e2 => e e2.symm), hcur _ (hjne q hq)]
        obtain ⟨g, h1, h2, h3⟩ := hI.made q hq (hback _ (fun e2 => by
          obtain ⟨oq, hoq, hdq, _⟩ := (hN q hq).new
          rw [e2, ho] at hoq
          cases hoq
          rw [hd] at hdq
          exact e (by simpa using hdq.symm)) hl)
        exact ⟨g, h1, h2, h3.below hb h3.lt⟩
    · have key : ∀ r ∈ news, r.2 ≠ p.2 → (listed.setIfInBounds p.1 true).getD r.1 false = true → a.tmps.getD r.2 undef ≠ .pointer (some ⟨w.heap.size, 0, none⟩) := fun r hr2 hne2 hl2 e => by
        obtain ⟨g, h1, h2, h3⟩ := hI.made r hr2 (hback _ (fun e2 => by
          obtain ⟨oq, hoq, hdq, _⟩ := (hN r hr2).new
          rw [e2, ho] at hoq
          cases hoq
          rw [hd] at hdq
          exact hne2 (by simpa using hdq.symm)) hl2)
        rw [h2] at e
        have := h3.lt
        simp at e
        try omega
      have nl : ∀ r ∈ news, r.2 ≠ p.2 → (listed.setIfInBounds p.1 true).getD r.1 false = true → listed.getD r.1 false = true := fun r hr2 hne2 hl2 => hback _ (fun e2 => by
          obtain ⟨oq, hoq, hdq, _⟩ := (hN r hr2).new
          rw [e2, ho] at hoq
          cases hoq
          rw [hd] at hdq
          exact hne2 (by simpa using hdq.symm)) hl2
      by_cases e : q.2 = p.2
      · have e' : q'.2 ≠ p.2 := fun e2 => hne (e.trans e2.symm)
        rw [e, heq, hget _ _ _ (fun e2 => e' e2.symm)]
        exact fun h => key q' hq' e' hl' h.symm
      · by_cases e' : q'.2 = p.2
        · rw [e', heq, hget _ _ _ (fun e2 => e e2.symm)]
          exact key q hq e hl
        · rw [hget _ _ _ (fun e2 => e e2.symm), hget _ _ _ (fun e2 => e' e2.symm)]
          exact hI.apart q hq q' hq' hne (nl q hq e hl) (nl q' hq' e' hl')
  · obtain ⟨o, s, ho, hd, hs, hold, hone, hstep⟩ := h.step
    rw [List.all_eq_true] at hone
    have hs' : s < vs.length := by simpa [Nat.blt_eq] using hs
    have hnew := oldB_ne hold
    have hni : ∀ p ∈ news, p.1 ≠ i := fun p hp e => by
      obtain ⟨oq, hoq, hdq, _⟩ := (hN p hp).new
      rw [e, ho] at hoq
      cases hoq
      rw [hd] at hdq
      exact hnew p hp (by simpa using hdq.symm)
    refine wpOp_step ho fun K hK => ?_
    refine hstep a w K hI.below (fun u hu hou => hI.fact u hou fun j hj hjs => ?_) fun w' hb => hK _ _ ?_
    · rw [okB, List.all_eq_true] at hu
      have h1 := hu j hj
      rw [hjs] at h1
      exact ready_has hr (by simpa using h1)
    · rw [hd]
      have hjne : ∀ q ∈ news, ∀ j l, sv q.2 = some (j, l) → j ≠ i := fun q hq j l hj e => by
        obtain ⟨oj, v, hoj, hdj, _⟩ := (hsv q hq j l hj).store
        rw [e, ho] at hoj
        cases hoj
        rw [hd] at hdj
        cases hdj
      refine ⟨hI.below.trans (hb.mono hI.below.size), ?_, ?_, fun u hou hu => ?_, fun q hq hl => ?_, fun q hq j l hj hl => hmono _ (hI.order q hq j l hj (hback _ (hjne q hq j l hj) hl)), fun q hq q' hq' hne hl hl' => ?_⟩
      · rw [← hI.size]; simp [Act.put]
      · rw [← hI.defers]; rfl
      · by_cases e : s = u
        · subst e
          rw [put_getD_eq _ _ _ (by rw [hI.size]; exact hs')]
        · rw [hget _ _ _ e]
          refine hI.fact u hou fun j hj hju => ?_
          have h1 := hu j hj hju
          refine hback j (fun ej => ?_) h1
          rw [ej] at hju
          simp only [dstIs, ho, hd] at hju
          exact e (by simpa using hju)
      · rw [hget _ _ _ (fun e => hnew q hq e.symm), hcur _ (hjne q hq)]
        obtain ⟨g, h1, h2, h3⟩ := hI.made q hq (hback _ (hni q hq) hl)
        exact ⟨g, h1, h2, h3.below hb h3.lt⟩
      · rw [hget _ _ _ (fun e => hnew q hq e.symm), hget _ _ _ (fun e => hnew q' hq' e.symm)]
        exact hI.apart q hq q' hq' hne (hback _ (hni q hq) hl) (hback _ (hni q' hq') hl')
  · obtain ⟨o, v, ho, hd, hg, hop, hw, hov, hok, hval, hsz, hzl, h1c⟩ := (hsv p hp i l hsp).store
    have hlp : listed.getD p.1 false = true := ready_has hr hw
    obtain ⟨g, hge, hpt, hC⟩ := hI.made p hp hlp
    have hcz : curS sv zs listed p.2 = zs p.2 := by
      unfold curS
      rw [hsp]
      simp [hun]
    rw [hcz] at hC
    have hv : a.tmps.getD v undef = .agg l.toArray := by
      rw [← hval]
      refine hI.fact v hov fun j hj hjs => ?_
      rw [okB, List.all_eq_true] at hok
      have h1 := hok j hj
      rw [hjs] at h1
      exact ready_has hr (by simpa using h1)
    have hne : ∀ q ∈ news, q.2 ≠ p.2 → ∀ j l', sv q.2 = some (j, l') → j ≠ i := fun q hq hne j l' hj e => by
      subst e
      exact hne (huq q hq p hp j l' l hj hsp)
    have hC2 := hC.setCells (cs := l) (o := 0) (by omega)
    rw [splice_all _ _ (by omega)] at hC2
    refine wpOp_step ho fun K hK => ?_
    rw [if_pos (by simp [Region.wanted, hg])]
    refine wp_store_mid (t p.2) (.tmp p.2) (.tmp v) hop g 0 l.toArray hpt hv (by rw [List.size_toArray]; exact hC.there 0 _ (by omega)) (by rw [List.size_toArray]; exact hsz) h1c ?_
    rw [hd]
    refine hK _ _ ⟨below_setCells hI.below hge _ _, hI.size, hI.defers, fun s hold hs2 => hI.fact s hold fun j hj hjs => hback j (fun e => ?_) (hs2 j hj hjs), fun q hq hl => ?_, fun q hq j l' hj hl => ?_, fun q hq q' hq' hne2 hl hl' => hI.apart q hq q' hq' hne2 ?_ ?_⟩
    · rw [e] at hjs
      simp [dstIs, ho, hd] at hjs
    · by_cases e : q.2 = p.2
      · have e3 : curS sv zs (listed.setIfInBounds i true) q.2 = l := by
          unfold curS
          rw [e, hsp]
          simp only [hset, if_true]
        rw [e3, e]
        exact ⟨g, hge, hpt, hC2⟩
      · rw [hcur _ (hne q hq e)]
        have hlq : listed.getD q.1 false = true := by
          refine hback _ (fun e2 => ?_) hl
          obtain ⟨oq, hoq, hdq, _⟩ := (hN q hq).new
          rw [e2, ho] at hoq
          cases hoq
          rw [hd] at hdq
          cases hdq
        obtain ⟨g', h1, h2, h3⟩ := hI.made q hq hlq
        refine ⟨g', h1, h2, h3.otherCells (fun e2 => ?_) _ _⟩
        have h4 := hI.apart q hq p hp e hlq hlp
        rw [h2, hpt, e2] at h4
        exact h4 rfl
    · by_cases e : q.2 = p.2
      · have hq1 : q.1 = p.1 := by
          obtain ⟨oq, hoq, hdq, hgq, hopq, hsq, honeq⟩ := (hN q hq).new
          rw [List.all_eq_true] at honeq
          obtain ⟨op, hop2, hdp, _⟩ := (hN p hp).new
          have := honeq p.1 (hnL p hp)
          have h5 : p.1 = q.1 := by simpa [dstIs, hop2, hdp, e] using this
          exact h5.symm
        rw [hq1]
        exact hmono _ hlp
      · exact hmono _ (hI.order q hq j l' hj (hback _ (hne q hq e j l' hj) hl))
    all_goals
      refine hback _ (fun e2 => ?_) (by assumption)
      first
      | (obtain ⟨oq, hoq, hdq, _⟩ := (hN q hq).new
         rw [e2, ho] at hoq
         cases hoq
         rw [hd] at hdq
         cases hdq
         done)
      | (obtain ⟨oq, hoq, hdq, _⟩ := (hN q' hq').new
         rw [e2, ho] at hoq
         cases hoq
         rw [hd] at hdq
         cases hdq)
theorem wpAny_flatS (hB : flatB md ops L = true) (w0 : World) (a0 : Act) (vs : List Value) (news : List (Nat × Nat)) (t : Nat → TypeId) (zs : Nat → List Value) (sv : Nat → Option (Nat × List Value)) (keep : List Nat) (hkeep : ((List.range vs.length).all fun s => keep.contains s || L.any fun j => dstIs ops j s && Nat.blt j ops.size) = true)
    (hnL : (news.all fun p => L.contains p.1) = true) (hN : ∀ p ∈ news, NewM P ops L vs.length (t p.2) p) (hz : ∀ p ∈ news, ∀ w, (zeroValue (t p.2)).run P w = .ok (.agg (zs p.2).toArray) w)
    (hsv : ∀ p ∈ news, ∀ j l, sv p.2 = some (j, l) → StoreS P md ops L vs news (t p.2) (zs p.2) p j l ∧ j ∈ L) (huq : ∀ p ∈ news, ∀ q ∈ news, ∀ j l l', sv p.2 = some (j, l) → sv q.2 = some (j, l') → p.2 = q.2)
    (hk : ∀ s ∈ keep, a0.tmps.getD s undef = vs.getD s undef) (hsz : a0.tmps.size = vs.length) (hstep : ∀ i ∈ L, (∃ p ∈ news, p.1 = i) ∨ StepM P md ops Q L w0 vs news i ∨ ∃ p ∈ news, ∃ l, sv p.2 = some (i, l)) (rem : Nat) (hrem : rem + (fullOf ops.size L).toList.countP id = ops.size)
    (hend : ∀ w (g : Nat → Nat), Below w0.heap.size w0 w → (∀ p ∈ news, w0.heap.size ≤ g p.2 ∧ Cells w (g p.2) ((sv p.2).elim (zs p.2) (·.2)) (t p.2)) → (∀ p ∈ news, ∀ q ∈ news, p.2 ≠ q.2 → g p.2 ≠ g q.2) → wpAny P md ops Q rem (fullOf ops.size L) ⟨(withNew g news vs).toArray, a0.defers⟩ w) : wpAny P md ops Q ops.size (Array.replicate ops.size false) a0 w0 := by
  rw [List.all_eq_true] at hkeep hnL
  have hnL' : ∀ p ∈ news, p.1 ∈ L := fun p hp => by simpa using hnL p hp
  have hno : ∀ j, (Array.replicate ops.size false).getD j false = false := fun j => by
    by_cases h : j < ops.size <;> simp [h]
  have h0 : (Array.replicate ops.size false).toList.countP id = 0 := by simp [List.countP_replicate]
  refine wpAny_flat hB (FlatS sv ops L w0 a0.defers vs news t zs) (fun i hi => flatS_step hnL' hN hz (fun p hp j l h => (hsv p hp j l h).1) huq hi (hstep i hi)) rem hrem (fun a w hI => ?_) ops.size _ a0 w0 ⟨by simp, fun j hj => ?_, fun i j hi => ?_⟩ (by omega) ⟨Below.refl _ _, hsz, rfl, fun s hold hs => ?_, fun p hp hl => ?_, fun p hp j l _ hl => ?_, fun p hp q hq _ hl => ?_⟩
  · have hful : ∀ j ∈ L, j < ops.size → (fullOf ops.size L).getD j false = true := fun j hj hlt => by simp [fullOf, hlt, hj]
    have hnew : ∀ p ∈ news, (fullOf ops.size L).getD p.1 false = true := fun p hp => by
      obtain ⟨o, ho, _⟩ := (hN p hp).new
      exact hful _ (hnL' p hp) (Array.getElem?_eq_some_iff.1 ho).1
    have hcur : ∀ p ∈ news, curS sv zs (fullOf ops.size L) p.2 = (sv p.2).elim (zs p.2) (·.2) := fun p hp => by
      unfold curS
      split
      · rename_i j l hj
        have h := hsv p hp j l hj
        obtain ⟨o, v, ho, _⟩ := h.1.store
        rw [if_pos (hful j h.2 (Array.getElem?_eq_some_iff.1 ho).1), hj]; rfl
      · rename_i hj
        rw [hj]; rfl
    have hg : ∃ g : Nat → Nat, ∀ p ∈ news, w0.heap.size ≤ g p.2 ∧ a.tmps.getD p.2 undef = .pointer (some ⟨g p.2, 0, none⟩) ∧ Cells w (g p.2) ((sv p.2).elim (zs p.2) (·.2)) (t p.2) := by
      refine ⟨fun s => blk (a.tmps.getD s undef), fun p hp => ?_⟩
      obtain ⟨g, h1, h2, h3⟩ := hI.made p hp (hnew p hp)
      have hb : blk (a.tmps.getD p.2 undef) = g := by rw [h2]; rfl
      show w0.heap.size ≤ blk (a.tmps.getD p.2 undef) ∧ a.tmps.getD p.2 undef = .pointer (some ⟨blk (a.tmps.getD p.2 undef), 0, none⟩) ∧ Cells w (blk (a.tmps.getD p.2 undef)) ((sv p.2).elim (zs p.2) (·.2)) (t p.2)
      rw [hb, ← hcur p hp]
      exact ⟨h1, h2, h3⟩
    obtain ⟨g, hg⟩ := hg
    rw [frame_is (vs := withNew g news vs) (by rw [withNew_length]; exact hI.size) hI.defers fun s => ?_]
    · refine hend w g hI.below (fun p hp => ⟨(hg p hp).1, (hg p hp).2.2⟩) fun p hp q hq hne e => hI.apart p hp q hq hne (hnew p hp) (hnew q hq) ?_
      rw [(hg p hp).2.1, (hg q hq).2.1, e]
    · by_cases ho : oldB news s = true
      · rw [withNew_old g s news vs ho]
        refine hI.fact s ho fun j hj hjs => hful j hj ?_
        unfold dstIs at hjs
        rcases Nat.lt_or_ge j ops.size with h | h
        · exact h
        · rw [Array.getElem?_eq_none h] at hjs; cases hjs
      · have hex : ∃ p ∈ news, p.2 = s := by
          refine Classical.byContradiction fun hc => ho ?_
          rw [oldB, List.all_eq_true]
          intro q hq
          cases hb : Nat.beq q.2 s with
          | false => rfl
          | true => exact absurd ⟨q, hq, Nat.eq_of_beq_eq_true hb⟩ hc
        obtain ⟨p, hp, e⟩ := hex
        obtain ⟨o, _, _, _, _, hlt, _⟩ := (hN p hp).new
        rw [withNew_new g s news vs (by rw [← e]; simpa [Nat.blt_eq] using hlt) ⟨p, hp, e⟩, ← e]
        exact (hg p hp).2.1
  · rw [hno] at hj; cases hj
  · rw [hno] at hi; cases hi
  · rcases Nat.lt_or_ge s vs.length with h | h
    · have h1 := hkeep s (List.mem_range.2 h)
      rw [Bool.or_eq_true, List.contains_iff_mem, List.any_eq_true] at h1
      rcases h1 with h1 | ⟨j, hj, h1⟩
      · exact hk s h1
      · rw [Bool.and_eq_true] at h1
        have := hs j hj h1.1
        rw [hno] at this; cases this
    · simp [Array.getElem?_eq_none (show a0.tmps.size ≤ s by omega), h]
  · rw [hno] at hl; cases hl
  · rw [hno] at hl; cases hl
  · rw [hno] at hl; cases hl
end
end Go.Proofs.YtagjbdhelfickaaDoor
namespace Go.Proofs.YtagjbdhelfickaaDoor
open Go.RowKit
def uatVs1 (x : List Nat) (y : List Nat) (g_base : Nat) (gy : Nat) (gr : Nat) (o : List Nat) (n : List Nat) : List Value :=
  (numVal x) :: (numVal y) :: (.pointer (some ⟨g_base, 0, none⟩)) :: (.pointer (some ⟨gy, 0, none⟩)) :: (.pointer (some ⟨gr, 0, none⟩)) :: (numVal x) :: (numVal y) :: (numVal o) :: (numVal n) :: []
set_option maxRecDepth 100000 in
set_option maxHeartbeats 1000000 in
theorem uat_over (x y o n : List Nat) (w : World)
    (Hx : Hid (x.length = 5))
    (Hy : Hid (y.length = 5))
    (Hn : Hid (n.length = 15))
    (CS : Hid (∀ W, Calls Tryd.prog 55 #[.int .i64 1] W fun e w' => e = .returned (numVal o) ∧ Below W.heap.size W w'))
    (BN : ∀ w, (Instr.build 31 #[(0, numVal x), (1, numVal y), (2, numVal o)]).run Tryd.prog w = .ok (numVal n) w) :
    Calls Tryd.prog 31 #[numVal x, numVal y] w fun e w' => e = .returned (numVal n) ∧ Below w.heap.size w w' := by
  go_enter Tryd.func31, Tryd.ntmps31
  go_wp2_with (first
    | (refine vtake_step rfl 29 (.tmp 0) rfl (x.map ncell) rfl ?_
       intro w1 hb1 hvx1
       have hB1 := hb1
       have hgex : w.heap.size ≤ w.heap.size := Nat.le_refl _
       clear  hb1
       try simp only [Act.put, List.setIfInBounds_toArray, List.set_cons_zero, List.set_cons_succ]
       skip)
    | (refine vtake_step rfl 29 (.tmp 1) rfl (y.map ncell) rfl ?_
       intro w2 hb2 hvy2
       have hB2 := below_then hB1 hb2
       have hgey : w.heap.size ≤ w1.heap.size := hB1.size
       have hvx2 := hvx1.on hb2
       have hnexy := Nat.ne_of_lt hvx1.lt
       clear hB1 hvx1 hb2
       try simp only [Act.put, List.setIfInBounds_toArray, List.set_cons_zero, List.set_cons_succ]
       skip)
    | (refine vzero_step (o := ⟨some 4, _, _, _, _, _⟩) rfl 31 rfl (nzeros 15) zero_up ?_
       intro w3 hb3 hvr3
       have hB3 := below_then hB2 hb3
       have hger : w.heap.size ≤ w2.heap.size := hB2.size
       have hvx3 := hvx2.on hb3
       have hnexr := Nat.ne_of_lt hvx2.lt
       have hvy3 := hvy2.on hb3
       have hneyr := Nat.ne_of_lt hvy2.lt
       clear hB2 hvx2 hvy2 hb3
       try simp only [Act.put, List.setIfInBounds_toArray, List.set_cons_zero, List.set_cons_succ]
       skip))
  generalize hqy : w1.heap.size = gy at *
  clear hqy
  generalize hqr : w2.heap.size = gr at *
  clear hqr
  replace hvx3 := hvx3.drew
  replace hvy3 := hvy3.drew
  replace hvr3 := hvr3.drew
  refine wp_region_any (by kernel_rfl) ?_
  refine wpAny_flatM (L := [0, 1, 2, 3]) (by kernel_rfl) _ _ (uatVs1 x y w.heap.size gy gr o n) [] 29 (nzeros 5) [0, 1, 2, 3, 4] (by kernel_rfl) (by kernel_rfl) ?_ zero_elem ?_ (by rfl) ?_ 1 (by kernel_rfl) ?_
  · intro p hp
    exact absurd hp List.not_mem_nil
  · repeat refine all_cons rfl ?_
    exact all_nil
  · refine all_cons (.inr (mStep _ 5 rfl rfl rfl rfl (by kernel_rfl) (fun a hv => wanted_all rfl _) (fun a w K hb hv hK => mPure (numVal x) (exec_load _ _ _ _ rfl _ _ (hv 2 (by kernel_rfl) rfl) w (elem_run (hvx3.on hb) Hx.out)) hK))) ?_
    refine all_cons (.inr (mStep _ 6 rfl rfl rfl rfl (by kernel_rfl) (fun a hv => wanted_all rfl _) (fun a w K hb hv hK => mPure (numVal y) (exec_load _ _ _ _ rfl _ _ (hv 3 (by kernel_rfl) rfl) w (elem_run (hvy3.on hb) Hy.out)) hK))) ?_
    refine all_cons (.inr (mStep _ 7 rfl rfl rfl rfl (by kernel_rfl) (fun a hv => wanted_all rfl _) (fun a w K hb hv hK => mCall (numVal o) 55 _ _ rfl [.int .i64 1] (cons_eq (by rfl) (rfl)) (enters Tryd.func55 rfl rfl) (CS.out w) hK))) ?_
    refine all_cons (.inr (mStep _ 8 rfl rfl rfl rfl (by kernel_rfl) (fun a hv => wanted_all rfl _) (fun a w K hb hv hK => mPure (numVal n) (exec_build _ _ _ [(0, .tmp 5), (1, .tmp 6), (2, .tmp 7)] rfl [(0, numVal x), (1, numVal y), (2, numVal o)] (cons_eq (congrArg (Prod.mk 0) (hv 5 (by kernel_rfl) rfl)) (cons_eq (congrArg (Prod.mk 1) (hv 6 (by kernel_rfl) rfl)) (cons_eq (congrArg (Prod.mk 2) (hv 7 (by kernel_rfl) rfl)) (rfl)))) _ w (BN w)) hK))) ?_
    exact all_nil
  intro w4 g hb4 hN4 hap4
  clear hN4 hap4
  have hB4 := below_then (show Below w.heap.size w w3.drew from hB3.drew) hb4
  have hvx4 := hvx3.on hb4
  have hvy4 := hvy3.on hb4
  have hvr4 := hvr3.on hb4
  clear hB3 hvx3 hvy3 hvr3 hb4
  refine wpAny_rest 4 rfl (by kernel_rfl) ?_
  refine vset_step rfl 31 (.tmp 4) (.tmp 8) rfl gr 15 (nzeros 15) (n.map ncell) rfl rfl hvr4 rfl size_up (by rw [List.length_map, Hn.out]) (ncells_one _) ?_
  intro w5 hb5 hvr5 hz5
  have hB5 : Below w.heap.size w w5 := hB4.trans (hb5.below hger hB4.size)
  have hvx5 := hvx4.but hb5 hnexr
  have hvy5 := hvy4.but hb5 hneyr
  clear hB4 hvr4 hb5 hz5 hvx4 hvy4
  rename_i K hKK
  show Exit.then K _ Exit.normal (⟨(uatVs1 x y w.heap.size gy gr o n).toArray, []⟩ : Act) w5
  simp only [Exit.then]
  refine hKK _ _ ?_
  clear hKK K g
  simp only [uatVs1]
  go_wp2
  exact sret Tryd.results31 gr (n.map ncell) rfl hvr5 Tryd.underlying31 rfl size_up (by rw [List.length_map, Hn.out]) rfl ⟨rfl, hB5⟩
def uzeroVs1 (g_base : Nat) (z : List Nat) (o : List Nat) (r : List Nat) : List Value :=
  (.pointer (some ⟨g_base, 0, none⟩)) :: (numVal z) :: (numVal o) :: (numVal r) :: []
set_option maxRecDepth 100000 in
set_option maxHeartbeats 1000000 in
theorem uzero_over (z o r : List Nat) (w : World)
    (Hr : Hid (r.length = 15))
    (CS : Hid (∀ W, Calls Tryd.prog 55 #[.int .i64 1] W fun e w' => e = .returned (numVal o) ∧ Below W.heap.size W w'))
    (CA : Hid (∀ W, Calls Tryd.prog 31 #[numVal z, numVal o] W fun e w' => e = .returned (numVal r) ∧ Below W.heap.size W w'))
    (BZ : ∀ w, (Instr.build 29 #[]).run Tryd.prog w = .ok (numVal z) w) :
    Calls Tryd.prog 20 #[] w fun e w' => e = .returned (numVal r) ∧ Below w.heap.size w w' := by
  go_enter Tryd.func20, Tryd.ntmps20
  go_upto_region 1 with (first
    | (refine vzero_step (o := ⟨some 0, _, _, _, _, _⟩) rfl 31 rfl (nzeros 15) zero_up ?_
       intro w1 hb1 hvr1
       have hB1 := hb1
       have hger : w.heap.size ≤ w.heap.size := Nat.le_refl _
       clear  hb1
       try simp only [Act.put, List.setIfInBounds_toArray, List.set_cons_zero]
       skip))
  refine wp_region_flat (md := .any) (by kernel_rfl) ?_
  refine wpAny_flatM (L := [0, 1, 2]) (by kernel_rfl) _ _ (uzeroVs1 w.heap.size z o r) [] 31 (nzeros 15) [0] (by kernel_rfl) (by kernel_rfl) ?_ zero_up ?_ (by rfl) ?_ 1 (by kernel_rfl) ?_
  · intro p hp
    exact absurd hp List.not_mem_nil
  · exact all_cons rfl (all_nil)
  · refine all_cons (.inr (mStep _ 1 rfl rfl rfl rfl (by kernel_rfl) (fun a hv => wanted_all rfl _) (fun a w K hb hv hK => mPure (numVal z) (exec_build _ _ _ [] rfl [] rfl _ w (BZ w)) hK))) ?_
    refine all_cons (.inr (mStep _ 2 rfl rfl rfl rfl (by kernel_rfl) (fun a hv => wanted_all rfl _) (fun a w K hb hv hK => mCall (numVal o) 55 _ _ rfl [.int .i64 1] (cons_eq (by rfl) (rfl)) (enters Tryd.func55 rfl rfl) (CS.out w) hK))) ?_
    refine all_cons (.inr (mStep _ 3 rfl rfl rfl rfl (by kernel_rfl) (fun a hv => wanted_all rfl _) (fun a w K hb hv hK => mCall (numVal r) 31 _ _ rfl [numVal z, numVal o] (cons_eq (hv 1 (by kernel_rfl) rfl) (cons_eq (hv 2 (by kernel_rfl) rfl) (rfl))) (enters Tryd.func31 rfl rfl) (CA.out w) hK))) ?_
    exact all_nil
  intro w2 g hb2 hN2 hap2
  clear hN2 hap2
  have hB2 := below_then hB1 hb2
  have hvr2 := hvr1.on hb2
  clear hB1 hvr1 hb2
  refine wpAny_rest 3 rfl (by kernel_rfl) ?_
  refine vset_step rfl 31 (.tmp 0) (.tmp 3) rfl w.heap.size 15 (nzeros 15) (r.map ncell) rfl rfl hvr2 rfl size_up (by rw [List.length_map, Hr.out]) (ncells_one _) ?_
  intro w3 hb3 hvr3 hz3
  have hB3 : Below w.heap.size w w3 := hB2.trans (hb3.below hger hB2.size)
  clear hB2 hvr2 hb3 hz3
  rename_i K hKK
  show Exit.then K _ Exit.normal (⟨(uzeroVs1 w.heap.size z o r).toArray, []⟩ : Act) w3
  simp only [Exit.then]
  refine hKK _ _ ?_
  clear hKK K g
  simp only [uzeroVs1]
  go_wp2
  exact sret Tryd.results20 (w.heap.size) (r.map ncell) rfl hvr3 Tryd.underlying31 rfl size_up (by rw [List.length_map, Hr.out]) rfl ⟨rfl, hB3⟩
set_option maxRecDepth 100000 in
set_option maxHeartbeats 1000000 in
theorem ubase_over (x y r : List Nat) (E : Value) (w : World)
    (Hr : Hid (r.length = 15))
    (CX : Hid (∀ W, TabsU E W → Calls Tryd.prog 59 #[] W fun e w' => e = .returned (numVal x) ∧ Below W.heap.size W w'))
    (CY : Hid (∀ W, TabsU E W → Calls Tryd.prog 60 #[] W fun e w' => e = .returned (numVal y) ∧ Below W.heap.size W w'))
    (CA : Hid (∀ W, Calls Tryd.prog 31 #[numVal x, numVal y] W fun e w' => e = .returned (numVal r) ∧ Below W.heap.size W w'))
    (hS : TabsU E w) :
    Calls Tryd.prog 25 #[] w fun e w' => e = .returned (numVal r) ∧ Below w.heap.size w w' := by
  go_enter Tryd.func25, Tryd.ntmps25
  go_wp2_with (first
    | (refine vzero_step (o := ⟨some 0, _, _, _, _, _⟩) rfl 31 rfl (nzeros 15) zero_up ?_
       intro w1 hb1 hvr1
       have hB1 := hb1
       have hger : w.heap.size ≤ w.heap.size := Nat.le_refl _
       clear  hb1
       try simp only [Act.put, List.setIfInBounds_toArray, List.set_cons_zero]
       skip))
  refine (CX.out w1 (hS.below hB1)).mono ?_
  rintro e w2 ⟨rfl, hb2⟩
  have hB2 := below_then hB1 hb2
  have hvr2 := hvr1.on hb2
  clear hB1 hvr1 hb2
  go_wp2_with fail
  refine (CY.out w2 (hS.below hB2)).mono ?_
  rintro e w3 ⟨rfl, hb3⟩
  have hB3 := below_then hB2 hb3
  have hvr3 := hvr2.on hb3
  clear hB2 hvr2 hb3
  go_wp2_with fail
  refine (CA.out w3).mono ?_
  rintro e w4 ⟨rfl, hb4⟩
  have hB4 := below_then hB3 hb4
  have hvr4 := hvr3.on hb4
  clear hB3 hvr3 hb4
  go_wp2_with (first
    | (refine vset_step rfl 31 (.tmp 0) (.tmp 3) rfl w.heap.size 15 (nzeros 15) (r.map ncell) rfl rfl hvr4 rfl size_up (by rw [List.length_map, Hr.out]) (ncells_one _) ?_
       intro w5 hb5 hvr5 hz5
       have hB5 : Below w.heap.size w w5 := hB4.trans (hb5.below hger hB4.size)
       clear hB4 hvr4 hb5 hz5
       skip))
  exact sret Tryd.results25 (w.heap.size) (r.map ncell) rfl hvr5 Tryd.underlying31 rfl size_up (by rw [List.length_map, Hr.out]) rfl ⟨rfl, hB5⟩
def uquoVs1 (la : List Nat) (lb : List Nat) (lc : List Nat) (ld : List Nat) (g_base : Nat) (gb : Nat) (gc : Nat) (gd : Nat) (gr : Nat) (ad : List Nat) (cb : List Nat) (bd : List Nat) (r : List Nat) : List Value :=
  (numVal la) :: (numVal lb) :: (numVal lc) :: (numVal ld) :: (.pointer (some ⟨g_base, 0, none⟩)) :: (.pointer (some ⟨gb, 0, none⟩)) :: (.pointer (some ⟨gc, 0, none⟩)) :: (.pointer (some ⟨gd, 0, none⟩)) :: (.pointer (some ⟨gr, 0, none⟩)) :: (numVal la) :: (numVal ld) :: (numVal ad) :: (numVal lc) :: (numVal lb) :: (numVal cb) :: (numVal lb) :: (numVal ld) :: (numVal bd) :: (numVal r) :: []
set_option maxRecDepth 100000 in
set_option maxHeartbeats 1000000 in
theorem uquo_over (la lb lc ld ad cb bd r : List Nat) (w : World)
    (Hla : Hid (la.length = 5))
    (Hlb : Hid (lb.length = 5))
    (Hlc : Hid (lc.length = 5))
    (Hld : Hid (ld.length = 5))
    (Hr : Hid (r.length = 15))
    (C1 : Hid (∀ W, Calls Tryd.prog 43 #[numVal la, numVal ld] W fun e w' => e = .returned (numVal ad) ∧ Below W.heap.size W w'))
    (C2 : Hid (∀ W, Calls Tryd.prog 43 #[numVal lc, numVal lb] W fun e w' => e = .returned (numVal cb) ∧ Below W.heap.size W w'))
    (C3 : Hid (∀ W, Calls Tryd.prog 43 #[numVal lb, numVal ld] W fun e w' => e = .returned (numVal bd) ∧ Below W.heap.size W w'))
    (BR : ∀ w, (Instr.build 31 #[(0, numVal ad), (1, numVal cb), (2, numVal bd)]).run Tryd.prog w = .ok (numVal r) w) :
    Calls Tryd.prog 53 #[numVal la, numVal lb, numVal lc, numVal ld] w fun e w' => e = .returned (numVal r) ∧ Below w.heap.size w w' := by
  go_enter Tryd.func53, Tryd.ntmps53
  go_wp2_with (first
    | (refine vtake_step rfl 29 (.tmp 0) rfl (la.map ncell) rfl ?_
       intro w1 hb1 hva1
       have hB1 := hb1
       have hgea : w.heap.size ≤ w.heap.size := Nat.le_refl _
       clear  hb1
       try simp only [Act.put, List.setIfInBounds_toArray, List.set_cons_zero, List.set_cons_succ]
       skip)
    | (refine vtake_step rfl 29 (.tmp 1) rfl (lb.map ncell) rfl ?_
       intro w2 hb2 hvb2
       have hB2 := below_then hB1 hb2
       have hgeb : w.heap.size ≤ w1.heap.size := hB1.size
       have hva2 := hva1.on hb2
       have hneab := Nat.ne_of_lt hva1.lt
       clear hB1 hva1 hb2
       try simp only [Act.put, List.setIfInBounds_toArray, List.set_cons_zero, List.set_cons_succ]
       skip)
    | (refine vtake_step rfl 29 (.tmp 2) rfl (lc.map ncell) rfl ?_
       intro w3 hb3 hvc3
       have hB3 := below_then hB2 hb3
       have hgec : w.heap.size ≤ w2.heap.size := hB2.size
       have hva3 := hva2.on hb3
       have hneac := Nat.ne_of_lt hva2.lt
       have hvb3 := hvb2.on hb3
       have hnebc := Nat.ne_of_lt hvb2.lt
       clear hB2 hva2 hvb2 hb3
       try simp only [Act.put, List.setIfInBounds_toArray, List.set_cons_zero, List.set_cons_succ]
       skip)
    | (refine vtake_step rfl 29 (.tmp 3) rfl (ld.map ncell) rfl ?_
       intro w4 hb4 hvd4
       have hB4 := below_then hB3 hb4
       have hged : w.heap.size ≤ w3.heap.size := hB3.size
       have hva4 := hva3.on hb4
       have hnead := Nat.ne_of_lt hva3.lt
       have hvb4 := hvb3.on hb4
       have hnebd := Nat.ne_of_lt hvb3.lt
       have hvc4 := hvc3.on hb4
       have hnecd := Nat.ne_of_lt hvc3.lt
       clear hB3 hva3 hvb3 hvc3 hb4
       try simp only [Act.put, List.setIfInBounds_toArray, List.set_cons_zero, List.set_cons_succ]
       skip)
    | (refine vzero_step (o := ⟨some 8, _, _, _, _, _⟩) rfl 31 rfl (nzeros 15) zero_up ?_
       intro w5 hb5 hvr5
       have hB5 := below_then hB4 hb5
       have hger : w.heap.size ≤ w4.heap.size := hB4.size
       have hva5 := hva4.on hb5
       have hnear := Nat.ne_of_lt hva4.lt
       have hvb5 := hvb4.on hb5
       have hnebr := Nat.ne_of_lt hvb4.lt
       have hvc5 := hvc4.on hb5
       have hnecr := Nat.ne_of_lt hvc4.lt
       have hvd5 := hvd4.on hb5
       have hnedr := Nat.ne_of_lt hvd4.lt
       clear hB4 hva4 hvb4 hvc4 hvd4 hb5
       try simp only [Act.put, List.setIfInBounds_toArray, List.set_cons_zero, List.set_cons_succ]
       skip))
  generalize hqb : w1.heap.size = gb at *
  clear hqb
  generalize hqc : w2.heap.size = gc at *
  clear hqc
  generalize hqd : w3.heap.size = gd at *
  clear hqd
  generalize hqr : w4.heap.size = gr at *
  clear hqr
  replace hva5 := hva5.drew
  replace hvb5 := hvb5.drew
  replace hvc5 := hvc5.drew
  replace hvd5 := hvd5.drew
  replace hvr5 := hvr5.drew
  refine wp_region_any (by kernel_rfl) ?_
  refine wpAny_flatM (L := [0, 1, 2, 3, 4, 5, 6, 7, 8, 9]) (by kernel_rfl) _ _ (uquoVs1 la lb lc ld w.heap.size gb gc gd gr ad cb bd r) [] 29 (nzeros 5) [0, 1, 2, 3, 4, 5, 6, 7, 8] (by kernel_rfl) (by kernel_rfl) ?_ zero_elem ?_ (by rfl) ?_ 1 (by kernel_rfl) ?_
  · intro p hp
    exact absurd hp List.not_mem_nil
  · repeat refine all_cons rfl ?_
    exact all_nil
  · refine all_cons (.inr (mStep _ 9 rfl rfl rfl rfl (by kernel_rfl) (fun a hv => wanted_all rfl _) (fun a w K hb hv hK => mPure (numVal la) (exec_load _ _ _ _ rfl _ _ (hv 4 (by kernel_rfl) rfl) w (elem_run (hva5.on hb) Hla.out)) hK))) ?_
    refine all_cons (.inr (mStep _ 10 rfl rfl rfl rfl (by kernel_rfl) (fun a hv => wanted_all rfl _) (fun a w K hb hv hK => mPure (numVal ld) (exec_load _ _ _ _ rfl _ _ (hv 7 (by kernel_rfl) rfl) w (elem_run (hvd5.on hb) Hld.out)) hK))) ?_
    refine all_cons (.inr (mStep _ 11 rfl rfl rfl rfl (by kernel_rfl) (fun a hv => wanted_all rfl _) (fun a w K hb hv hK => mCall (numVal ad) 43 _ _ rfl [numVal la, numVal ld] (cons_eq (hv 9 (by kernel_rfl) rfl) (cons_eq (hv 10 (by kernel_rfl) rfl) (rfl))) (enters Tryd.func43 rfl rfl) (C1.out w) hK))) ?_
    refine all_cons (.inr (mStep _ 12 rfl rfl rfl rfl (by kernel_rfl) (fun a hv => wanted_all rfl _) (fun a w K hb hv hK => mPure (numVal lc) (exec_load _ _ _ _ rfl _ _ (hv 6 (by kernel_rfl) rfl) w (elem_run (hvc5.on hb) Hlc.out)) hK))) ?_
    refine all_cons (.inr (mStep _ 13 rfl rfl rfl rfl (by kernel_rfl) (fun a hv => wanted_all rfl _) (fun a w K hb hv hK => mPure (numVal lb) (exec_load _ _ _ _ rfl _ _ (hv 5 (by kernel_rfl) rfl) w (elem_run (hvb5.on hb) Hlb.out)) hK))) ?_
    refine all_cons (.inr (mStep _ 14 rfl rfl rfl rfl (by kernel_rfl) (fun a hv => wanted_all rfl _) (fun a w K hb hv hK => mCall (numVal cb) 43 _ _ rfl [numVal lc, numVal lb] (cons_eq (hv 12 (by kernel_rfl) rfl) (cons_eq (hv 13 (by kernel_rfl) rfl) (rfl))) (enters Tryd.func43 rfl rfl) (C2.out w) hK))) ?_
    refine all_cons (.inr (mStep _ 15 rfl rfl rfl rfl (by kernel_rfl) (fun a hv => wanted_all rfl _) (fun a w K hb hv hK => mPure (numVal lb) (exec_load _ _ _ _ rfl _ _ (hv 5 (by kernel_rfl) rfl) w (elem_run (hvb5.on hb) Hlb.out)) hK))) ?_
    refine all_cons (.inr (mStep _ 16 rfl rfl rfl rfl (by kernel_rfl) (fun a hv => wanted_all rfl _) (fun a w K hb hv hK => mPure (numVal ld) (exec_load _ _ _ _ rfl _ _ (hv 7 (by kernel_rfl) rfl) w (elem_run (hvd5.on hb) Hld.out)) hK))) ?_
    refine all_cons (.inr (mStep _ 17 rfl rfl rfl rfl (by kernel_rfl) (fun a hv => wanted_all rfl _) (fun a w K hb hv hK => mCall (numVal bd) 43 _ _ rfl [numVal lb, numVal ld] (cons_eq (hv 15 (by kernel_rfl) rfl) (cons_eq (hv 16 (by kernel_rfl) rfl) (rfl))) (enters Tryd.func43 rfl rfl) (C3.out w) hK))) ?_
    refine all_cons (.inr (mStep _ 18 rfl rfl rfl rfl (by kernel_rfl) (fun a hv => wanted_all rfl _) (fun a w K hb hv hK => mPure (numVal r) (exec_build _ _ _ [(0, .tmp 11), (1, .tmp 14), (2, .tmp 17)] rfl [(0, numVal ad), (1, numVal cb), (2, numVal bd)] (cons_eq (congrArg (Prod.mk 0) (hv 11 (by kernel_rfl) rfl)) (cons_eq (congrArg (Prod.mk 1) (hv 14 (by kernel_rfl) rfl)) (cons_eq (congrArg (Prod.mk 2) (hv 17 (by kernel_rfl) rfl)) (rfl)))) _ w (BR w)) hK))) ?_
    exact all_nil
  intro w6 g hb6 hN6 hap6
  clear hN6 hap6
  have hB6 := below_then (show Below w.heap.size w w5.drew from hB5.drew) hb6
  have hva6 := hva5.on hb6
  have hvb6 := hvb5.on hb6
  have hvc6 := hvc5.on hb6
  have hvd6 := hvd5.on hb6
  have hvr6 := hvr5.on hb6
  clear hB5 hva5 hvb5 hvc5 hvd5 hvr5 hb6
  refine wpAny_rest 10 rfl (by kernel_rfl) ?_
  refine vset_step rfl 31 (.tmp 8) (.tmp 18) rfl gr 15 (nzeros 15) (r.map ncell) rfl rfl hvr6 rfl size_up (by rw [List.length_map, Hr.out]) (ncells_one _) ?_
  intro w7 hb7 hvr7 hz7
  have hB7 : Below w.heap.size w w7 := hB6.trans (hb7.below hger hB6.size)
  have hva7 := hva6.but hb7 hnear
  have hvb7 := hvb6.but hb7 hnebr
  have hvc7 := hvc6.but hb7 hnecr
  have hvd7 := hvd6.but hb7 hnedr
  clear hB6 hvr6 hb7 hz7 hva6 hvb6 hvc6 hvd6
  rename_i K hKK
  show Exit.then K _ Exit.normal (⟨(uquoVs1 la lb lc ld w.heap.size gb gc gd gr ad cb bd r).toArray, []⟩ : Act) w7
  simp only [Exit.then]
  refine hKK _ _ ?_
  clear hKK K g
  simp only [uquoVs1]
  go_wp2
  exact sret Tryd.results53 gr (r.map ncell) rfl hvr7 Tryd.underlying31 rfl size_up (by rw [List.length_map, Hr.out]) rfl ⟨rfl, hB7⟩
end Go.Proofs.YtagjbdhelfickaaDoor
