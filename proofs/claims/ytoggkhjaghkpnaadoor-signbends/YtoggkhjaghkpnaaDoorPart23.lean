/- Part 23 of what the laws of this seat share: ZAny, WGuard, ZLoose, KSgAlive, KScAlive, QInts, QEven, QAdd, QTimes, QHalved, QMod, ALess, ARegion, AMod, AAdd, ATimes, ANegate, TLaw, VPad, VRW, VR2, VR3, VR4, VR5, VR, VRSum, VLaw. -/
import Derived.Deep.Cut
import Derived.Deep.WholeRow
import Derived.IntWalk
import Derived.OrdersHeld
import Derived.StillTail
import Derived.StillTailTactics
import Derived.Lib.LaidTab
import Derived.Stop.BytesEq
import Derived.Lib.SlBytesConst
import Derived.Test.YtoggkhjaghkpnaaDoorPart22
namespace Go.Proofs.YtoggkhjaghkpnaaDoor
open Go.RowKit
theorem halves_any (b : List UInt8) (w : World) (hb : b.length = 64) : Calls Tryd.prog 14 #[hashVal b] w (gvn (.tuple #[hashVal (b.take 32), hashVal (b.drop 32)]) w) :=
  sgHalves_over b _ _ w (Lib.hid (by rw [List.length_take]; omega)) (Lib.hid (by rw [List.length_drop]; omega)) (Lib.hid rfl) (Lib.hid (List.take_of_length_le (by rw [List.length_drop]; omega)))
theorem multiple_any (E : Value) (key : List UInt8) (w : World) (hk : key.length = 32) (hS : SgTabs E w) : Calls Tryd.prog 10 #[hashVal key] w (gvn (hashVal (bytesOf (NP.edw.mul NP.bE (lev key)))) w) :=
  sgMul_over (triU baseT) (triU (timesU baseT key)) key _ E w (Lib.hid hk) (Lib.hid (bytesOf_length _)) (Lib.hid fun W hW => ubase_any E W hW.2.2) (Lib.hid fun W hW => utimes_any E baseT key W hk baseT_lt hW.2.2) (Lib.hid fun W => ubytes_pt (NP.timesU_rep NP.baseT_rep key hk) W) hS
theorem spread_any (E : Value) (seed : List UInt8) (w : World) (hs : seed.length = 32) (hS : SgTabs E w) : Calls Tryd.prog 8 #[hashVal seed] w (gvn (.tuple #[hashVal (sgA seed), hashVal (sgPre seed)]) w) := by
  have l1 : ((widSum seed).take 32).length = 32 := by rw [List.length_take, widSum_length]; rfl
  refine sgSpread_over seed (widSum seed) ((widSum seed).take 32) (sgPre seed) (sgA seed) E w (Lib.hid l1) (Lib.hid (sgPre_length _)) (Lib.hid (sgA_length _)) (Lib.hid fun gp gs W hp hk hW => ?_) (Lib.hid fun W => halves_any (widSum seed) W (widSum_length _)) (Lib.hid fun W => clamp_any _ W l1) hS
  have h := wideSum_any (some ⟨gp, 0, none⟩) 1 1 [seed] W hW.1 rfl (parts_cells hp fun j us hu => by
    match j, hu with
    | 0, hu => cases hu; exact ⟨_, rfl, part_cells hk 32 32 hs (Nat.le_refl _) (by unfold maxLen; omega)⟩
    | j + 1, hu => simp at hu) (by decide) (by simp [hs])
  rw [show [seed].flatten = seed by simp] at h
  exact h
theorem public_any (E : Value) (seed : List UInt8) (w : World) (hs : seed.length = 32) (hS : SgTabs E w) : Calls Tryd.prog 7 #[hashVal seed] w (gvn (hashVal (sgPub seed)) w) :=
  sgPublic_over seed (sgA seed) (sgPre seed) (sgPub seed) E w (Lib.hid hs) (Lib.hid (sgA_length _)) (Lib.hid (sgPre_length _)) (Lib.hid (sgPub_length _)) (Lib.hid fun W hW => spread_any E seed W hs hW) (Lib.hid fun W hW => multiple_any E _ W (sgA_length _) hW) hS
/-- The parts of a text: so many, not too long. -/
structure TextParts (D : Option Addr) (m d : Nat) (ps : List (List UInt8)) : Prop where
  len : ps.length = m
  few : m ≤ 80000
  short : ps.flatten.length ≤ 800000
  cap : m ≤ d
  max : d ≤ maxLen
  nil : D = none → d = 0
theorem sign_any (E : Value) (D : Option Addr) (m d : Nat) (ps : List (List UInt8)) (seed : List UInt8) (w : World) (hs : seed.length = 32) (hT : TextParts D m d ps) (hS : SgTabs E w) (hP : PartsAt D ps w) :
    Calls Tryd.prog 5 #[hashVal seed, .slice D m d] w (gvn (hashVal (sgSign seed ps.flatten)) w) := by
  have l1 : lev (putL (sgNum seed ps.flatten) 32) = sgNum seed ps.flatten := lev_putLL _ (sgNum_lt seed _)
  have l2 : lev (putL (sgMod (sgR seed ps.flatten ++ sgPub seed ++ ps.flatten)) 32) = sgMod (sgR seed ps.flatten ++ sgPub seed ++ ps.flatten) := lev_putLL _ (sgMod_lt _)
  have l3 : lev (putL (sgMod (sgR seed ps.flatten ++ sgPub seed ++ ps.flatten) * lev (sgA seed) % NP.LL) 32) = sgMod (sgR seed ps.flatten ++ sgPub seed ++ ps.flatten) * lev (sgA seed) % NP.LL := lev_putLL _ (Nat.mod_lt _ LL_pos)
  refine sgSign_over seed (sgA seed) (sgPre seed) (putL (sgNum seed ps.flatten) 32) (sgR seed ps.flatten) (sgPub seed) (putL (sgMod (sgR seed ps.flatten ++ sgPub seed ++ ps.flatten)) 32) (putL (sgMod (sgR seed ps.flatten ++ sgPub seed ++ ps.flatten) * lev (sgA seed) % NP.LL) 32) (putL (sgS seed ps.flatten) 32) (sgSign seed ps.flatten) D m d ps E w
    (Lib.hid hs) (Lib.hid (sgA_length _)) (Lib.hid (sgPre_length _)) (Lib.hid (putL_length _ _)) (Lib.hid (sgR_length _ _)) (Lib.hid (sgPub_length _)) (Lib.hid (putL_length _ _)) (Lib.hid (sgSign_length _ _))
    (Lib.hid fun W hW => spread_any E seed W hs hW)
    (Lib.hid fun g W hC hW hp => number_any E D m d 1 g ps (sgPre seed) W (by rw [sgPre_length]) (by decide) hC hW hT.len hp hT.few hT.short hT.cap hT.max hT.nil)
    (Lib.hid fun W hW => by have b := multiple_any E (putL (sgNum seed ps.flatten) 32) W (putL_length _ _) hW; rw [l1] at b; exact b)
    (Lib.hid fun W hW => multiple_any E _ W (sgA_length _) hW)
    (Lib.hid fun g W hC hW hp => number_any E D m d 2 g ps (sgR seed ps.flatten ++ sgPub seed) W (by rw [List.length_append, sgR_length, sgPub_length]) (by decide) hC hW hT.len hp hT.few hT.short hT.cap hT.max hT.nil)
    (Lib.hid fun W hW => by have b := scTimes_any (putL (sgMod (sgR seed ps.flatten ++ sgPub seed ++ ps.flatten)) 32) (sgA seed) W (putL_length _ _) (sgA_length _) hW.2.1; rw [l2] at b; exact b)
    (Lib.hid fun W hW => by have b := scAdd_any (putL (sgNum seed ps.flatten) 32) (putL (sgMod (sgR seed ps.flatten ++ sgPub seed ++ ps.flatten) * lev (sgA seed) % NP.LL) 32) W (putL_length _ _) (putL_length _ _) hW.2.1; rw [l1, l3, Nat.add_mod_mod] at b; exact b)
    (Lib.hid fun W => joined_over _ _ W (Lib.hid (sgR_length _ _)) (Lib.hid (putL_length _ _))) hS hP
theorem verify_any (ae : Addr) (D : Option Addr) (m d : Nat) (ps : List (List UInt8)) (pub sig : List UInt8) (w : World) (hp : pub.length = 32) (hs : sig.length = 64) (hT : TextParts D m d ps) (hS : SgTabs (errAt ae) w) (hP : PartsAt D ps w) :
    Calls Tryd.prog 6 #[hashVal pub, hashVal sig, .slice D m d] w (gvn (.bool (sgOk pub sig ps.flatten)) w) := by
  have h1 : (sig.take 32).length = 32 := by rw [List.length_take]; omega
  have h2 : (sig.drop 32).length = 32 := by rw [List.length_drop]; omega
  have l3 : lev (putL (sgMod (sig.take 32 ++ pub ++ ps.flatten)) 32) = sgMod (sig.take 32 ++ pub ++ ps.flatten) := lev_putLL _ (sgMod_lt _)
  by_cases hr : lev (sig.drop 32) < NP.LL
  · have R : ∀ W, SgTabs (errAt ae) W → Calls Tryd.prog 15 #[hashVal (sig.drop 32)] W (gvn (.bool true) W) := fun W hW => by
      have b := scRight_any (sig.drop 32) W h2 hW.2.1
      rw [decide_eq_true hr] at b
      exact b
    cases hg : readGood pub with
    | true =>
      have r : NP.RepN (sgPt pub) (readT pub) := by rw [(sgPt_of pub hp hg).1]; exact NP.Pt.own _
      have q := NP.withU_rep (NP.negT_rep r) (putL (sgMod (sig.take 32 ++ pub ++ ps.flatten)) 32) (sig.drop 32) (putL_length _ _) h2
      rw [l3] at q
      rw [show sgOk pub sig ps.flatten = (bytesOf (NP.edw.add (NP.edw.mul (sgPt pub).neg (sgMod (sig.take 32 ++ pub ++ ps.flatten))) (NP.edw.mul NP.bE (lev (sig.drop 32)))) == sig.take 32) by
        rw [sgOk, hg, decide_eq_true hr, Bool.true_and, Bool.true_and]]
      exact sgVerifyGood_over (triU (readT pub)) (triU (negT (readT pub))) _ pub sig (sig.take 32) (sig.drop 32) (putL (sgMod (sig.take 32 ++ pub ++ ps.flatten)) 32) _ _ D m d ps ae w
        (Lib.hid hs) (Lib.hid hp) (Lib.hid h1) (Lib.hid h2) (Lib.hid fun W => halves_any sig W hs) (Lib.hid R) (Lib.hid rfl)
        (Lib.hid fun W hW => by have b := uread_any ae pub W hp hW.2.2; rw [hg] at b; exact b)
        (Lib.hid (putL_length _ _))
        (Lib.hid fun g W hC hW hq => number_any _ D m d 2 g ps (sig.take 32 ++ pub) W (by rw [List.length_append, h1, hp]) (by decide) hC hW hT.len hq hT.few hT.short hT.cap hT.max hT.nil)
        (Lib.hid fun W => uneg_any (readT pub) W r.lt) (Lib.hid fun W hW => uwith_any _ (negT (readT pub)) _ _ W (putL_length _ _) h2 (NP.negT_rep r).lt hW.2.2) (Lib.hid fun W => ubytes_pt q W)
        (key_eql _ _ (bytesOf_length _) h1) hS hP
    | false =>
      rw [show sgOk pub sig ps.flatten = false by rw [sgOk, hg, Bool.false_and, Bool.and_false]]
      exact sgVerifyBad_over (triU (readT pub)) pub sig (sig.take 32) (sig.drop 32) D m d ae w (Lib.hid hs) (Lib.hid hp) (Lib.hid h1) (Lib.hid h2) (Lib.hid fun W => halves_any sig W hs) (Lib.hid R) (Lib.hid rfl)
        (Lib.hid fun W hW => by have b := uread_any ae pub W hp hW.2.2; rw [hg] at b; exact b) hS
  · rw [show sgOk pub sig ps.flatten = false by rw [sgOk, decide_eq_false hr, Bool.false_and]]
    exact sgVerifyOut_over pub sig (sig.take 32) (sig.drop 32) D m d ae w (Lib.hid hs) (Lib.hid h1) (Lib.hid h2) (Lib.hid fun W => halves_any sig W hs)
      (Lib.hid fun W hW => by have b := scRight_any (sig.drop 32) W h2 hW.2.1; rw [decide_eq_false hr] at b; exact b) hS
/-- A guarded operation that is wanted, as one with no guard. -/
theorem under_guard {P : Program} {ops : Array Oper} {Q : Exit → Act → World → Prop} {w : World} {o : Oper} {a : Act} {K : Act → World → Prop} (hw : Region.wanted o (yielded ops a.tmps) = true)
    (h : if Region.wanted { o with guard := none } (yielded ops a.tmps) = true then Oper.wp P { o with guard := none } a w K Q else K (a.put o.dst undef) w) : if Region.wanted o (yielded ops a.tmps) = true then Oper.wp P o a w K Q else K (a.put o.dst undef) w := by
  rw [if_pos hw]
  rw [if_pos (by simp [Region.wanted])] at h
  exact h
theorem wanted_by {ops : Array Oper} {o : Oper} {a : Act} {j s : Nat} (hg : o.guard = some (j, true)) {oj : Oper} (hj : ops[j]? = some oj) (hd : oj.dst = some s) (hv : a.tmps.getD s undef = .bool true) : Region.wanted o (yielded ops a.tmps) = true := by
  simp only [Region.wanted, hg]
  unfold yielded
  rw [Array.getD_eq_getD_getElem?] at hv
  cases h : a.tmps[s]? with
  | none => rw [h] at hv; cases hv
  | some v =>
    rw [h] at hv
    obtain rfl : v = .bool true := hv
    simp [hj, hd, h]
section
variable {P : Program} {ops : Array Oper} {Q : Exit → Act → World → Prop} {md : Region.Mode}
def addNew (x : Array Bool) (xs : List (Array Bool)) : List (Array Bool) := if xs.contains x then xs else x :: xs
theorem mem_addNew {x y : Array Bool} {xs : List (Array Bool)} (h : y = x ∨ y ∈ xs) : y ∈ addNew x xs := by
  unfold addNew
  split
  · rename_i hc
    rcases h with rfl | h
    · simpa using hc
    · exact h
  · rcases h with rfl | h
    · exact List.mem_cons_self
    · exact List.mem_cons_of_mem _ h
theorem mem_news {y : Array Bool} : ∀ (xs : List (Array Bool)), y ∈ xs → y ∈ xs.foldr addNew []
  | x :: xs, h => by
    rw [List.foldr_cons]
    refine mem_addNew ?_
    rcases List.mem_cons.1 h with h | h
    · exact .inl h
    · exact .inr (mem_news xs h)
/-- What may have come up one operation later. -/
def looseNext (md : Region.Mode) (ops : Array Oper) (fins : List (Array Bool × Nat)) (k : Nat) (front : List (Array Bool)) : List (Array Bool) :=
  (front.flatMap fun l => if fins.contains (l, k) then [] else (Region.ready md ops l).map fun i => l.setIfInBounds i true).foldr addNew []
def looseS (md : Region.Mode) (ops : Array Oper) (L : List Nat) (fins : List (Array Bool × Nat)) : Nat → List (Array Bool) → Bool
  | 0, front => front.all fun l => fins.contains (l, 0)
  | k + 1, front => (front.all fun l => fins.contains (l, k + 1) || (!(Region.ready md ops l).isEmpty && (Region.ready md ops l).all fun i => L.contains i)) && looseS md ops L fins k (looseNext md ops fins (k + 1) front)
theorem wpAny_looseS {L : List Nat} {fins : List (Array Bool × Nat)} (I : Array Bool → Act → World → Prop)
    (hstep : ∀ i ∈ L, ∀ listed a w, I listed a w → i ∈ Region.ready md ops listed → wpOp P ops Q i (I (listed.setIfInBounds i true)) a w)
    (hend : ∀ f ∈ fins, ∀ a w, I f.1 a w → wpAny P md ops Q f.2 f.1 a w) :
    ∀ (k : Nat) (front : List (Array Bool)), looseS md ops L fins k front = true → ∀ listed ∈ front, ∀ (a : Act) (w : World), I listed a w → wpAny P md ops Q k listed a w
  | 0, front, hB, listed, hm, a, w, hI => hend (listed, 0) (by have h := List.all_eq_true.1 hB listed hm; simpa using h) a w hI
  | k + 1, front, hB, listed, hm, a, w, hI => by
    rw [looseS, Bool.and_eq_true] at hB
    have h1 := List.all_eq_true.1 hB.1 listed hm
    by_cases hf : fins.contains (listed, k + 1) = true
    · exact hend (listed, k + 1) (by simpa using hf) a w hI
    · rw [Bool.or_eq_true] at h1
      have h2 := h1.resolve_left hf
      rw [Bool.and_eq_true, List.all_eq_true] at h2
      refine ⟨fun h0 => ?_, fun i hi => ?_⟩
      · rw [h0] at h2
        simp at h2
      · have h := h2.2 i hi
        refine wpOp_mono (fun a' w' h' => wpAny_looseS I hstep hend k _ hB.2 _ ?_ a' w' h') (hstep i (by simpa using h) listed a w hI hi)
        refine mem_news _ (List.mem_flatMap.2 ⟨listed, hm, ?_⟩)
        rw [if_neg hf]
        exact List.mem_map.2 ⟨i, hi, rfl⟩
/-- From one set. -/
theorem wpAny_looseA {L : List Nat} {fins : List (Array Bool × Nat)} (I : Array Bool → Act → World → Prop)
    (hstep : ∀ i ∈ L, ∀ listed a w, I listed a w → i ∈ Region.ready md ops listed → wpOp P ops Q i (I (listed.setIfInBounds i true)) a w)
    (hend : ∀ f ∈ fins, ∀ a w, I f.1 a w → wpAny P md ops Q f.2 f.1 a w) (k : Nat) (listed : Array Bool) (a : Act) (w : World) (hB : looseS md ops L fins k [listed] = true) (hI : I listed a w) : wpAny P md ops Q k listed a w :=
  wpAny_looseS I hstep hend k [listed] hB listed (List.mem_singleton.2 rfl) a w hI
end
/-- What stands in one world stands in the next: marks apart, nothing old has turned. -/
structure Kept (w w' : World) : Prop where
  size : w.heap.size ≤ w'.heap.size
  cell : ∀ p : Addr, p.block < w.heap.size → w'.cell? p = w.cell? p
  row : ∀ (g : Nat) (C : Array Value) (t : TypeId) (fr : Nat × Nat), w.heap[g]? = some (.cells C t fr) → ∃ fr', w'.heap[g]? = some (.cells C t fr')
theorem lt_heap {w : World} {g : Nat} {o : Obj} (h : w.heap[g]? = some o) : g < w.heap.size := by
  rcases Nat.lt_or_ge g w.heap.size with h' | h'
  · exact h'
  · rw [Array.getElem?_eq_none h'] at h; cases h
theorem Kept.of {w w' : World} (hb : Below w.heap.size w w') : Kept w w' := ⟨hb.size, fun _ hp => hb.cell hp, fun g C t fr h => ⟨fr, by rw [hb.block g (lt_heap h)]; exact h⟩⟩
theorem PartsAt.kept {D : Option Addr} {ps : List (List UInt8)} {w w' : World} (h : PartsAt D ps w) (k : Kept w w') : PartsAt D ps w' := by
  refine Parts.more ?_ k.size
  rcases h with rfl | ⟨b, off, rfl, hlt, hc⟩
  · exact .inl rfl
  · refine .inr ⟨b, off, rfl, hlt, fun j us hu => ?_⟩
    obtain ⟨v, h1, A, c, e, hr, h2⟩ := hc j us hu
    exact ⟨v, (k.cell _ hlt).trans h1, A, c, e, hr.keep k.cell, h2⟩
theorem row_heap {w : World} {g : Nat} {l : List UInt8} {t : TypeId} {fr : Nat × Nat} (h : w.heap[g]? = some (.cells (l.map cellOf).toArray t fr)) : Row w w.heap.size (some ⟨g, 0, none⟩) l := by
  refine .inr ⟨g, 0, rfl, lt_heap h, fun j u hu => ?_⟩
  rw [Nat.zero_add, cell_of_row _ _ _ _ _ _ h, List.getElem?_toArray, List.getElem?_map, hu]
  rfl
/-- What a loose operation finds, where rows may have been marked. -/
structure LooseK (w0 : World) (a0 : Act) (slots : List (Nat × Nat)) (prop : Nat → Value → World → Prop) (listed : Array Bool) (a : Act) (w : World) : Prop where
  below : Below w0.heap.size w0 w
  size : a.tmps.size = a0.tmps.size
  defers : a.defers = a0.defers
  same : ∀ s, (∀ p ∈ slots, p.2 ≠ s) → a.tmps.getD s undef = a0.tmps.getD s undef
  fact : ∀ p ∈ slots, listed.getD p.1 false = true → prop p.1 (a.tmps.getD p.2 undef) w
theorem slot_eq2 {slots : List (Nat × Nat)} {p q : Nat × Nat} : (slots.map (·.2)).Nodup → p ∈ slots → q ∈ slots → p.2 = q.2 → p = q := by
  intro hl h1 h2 e
  induction slots with
  | nil => cases h1
  | cons r l ih =>
    rw [List.map_cons, List.nodup_cons] at hl
    rcases List.mem_cons.1 h1 with rfl | h1
    · rcases List.mem_cons.1 h2 with h2 | h2
      · exact h2.symm
      · exact absurd (List.mem_map.2 ⟨q, h2, e.symm⟩) hl.1
    · rcases List.mem_cons.1 h2 with h2 | h2
      · rw [← h2] at hl
        exact absurd (List.mem_map.2 ⟨p, h1, e⟩) hl.1
      · exact ih hl.2 h1 h2
theorem loose_putK {w0 : World} {a0 : Act} {slots : List (Nat × Nat)} {prop : Nat → Value → World → Prop} (hinj : (slots.map (·.2)).Nodup) (hinj1 : (slots.map (·.1)).Nodup) (N : Nat) (hN : a0.tmps.size = N) (hlt : ∀ p ∈ slots, p.2 < N)
    (hst : ∀ i v w w', prop i v w → Kept w w' → prop i v w') {i s : Nat} (hi : (i, s) ∈ slots) {listed : Array Bool} {a : Act} {w w' : World} {v : Value} (h : LooseK w0 a0 slots prop listed a w) (hb : Below w0.heap.size w0 w') (hk : Kept w w') (hv : prop i v w') :
    LooseK w0 a0 slots prop (listed.setIfInBounds i true) (a.put (some s) v) w' := by
  refine ⟨hb, ?_, ?_, fun t ht => ?_, fun p hp hl => ?_⟩
  · rw [← h.size]; simp [Act.put]
  · rw [← h.defers]; rfl
  · rw [put_getD_ne _ _ _ _ (ht _ hi)]
    exact h.same t ht
  · by_cases e : p.1 = i
    · have e2 := slot_eq hinj1 hp hi e
      subst e2
      rw [put_getD_eq _ _ _ (by rw [h.size, hN]; exact hlt _ hi)]
      exact hv
    · have hne : s ≠ p.2 := fun e3 => e (by rw [slot_eq2 hinj hp hi e3.symm])
      rw [put_getD_ne _ _ _ _ hne]
      refine hst _ _ _ _ (h.fact p hp ?_) hk
      rwa [getD_set_ne false (fun e4 => e e4.symm)] at hl
section
variable {P : Program} {ops : Array Oper} {Q : Exit → Act → World → Prop} {md : Region.Mode}
/-- One loose operation: hK after one that makes or reads, hM after one that marks. -/
theorem loose_stepK {w0 : World} {a0 : Act} {slots : List (Nat × Nat)} {prop : Nat → Value → World → Prop} (hinj : (slots.map (·.2)).Nodup) (hinj1 : (slots.map (·.1)).Nodup) (N : Nat) (hN : a0.tmps.size = N) (hlt : ∀ p ∈ slots, p.2 < N)
    (hst : ∀ i v w w', prop i v w → Kept w w' → prop i v w')
    {i s : Nat} (hi : (i, s) ∈ slots) {o : Oper} (ho : ops[i]? = some o) (hd : o.dst = some s)
    (hop : ∀ a w K, Below w0.heap.size w0 w → a.tmps.size = a0.tmps.size → a.defers = a0.defers → (∀ s, (∀ p ∈ slots, p.2 ≠ s) → a.tmps.getD s undef = a0.tmps.getD s undef) →
      (∀ p ∈ slots, waitsFor md ops i p.1 = true → prop p.1 (a.tmps.getD p.2 undef) w) → (∀ v w', Below w.heap.size w w' → prop i v w' → K (a.put o.dst v) w') → (∀ v w', Below w0.heap.size w0 w' → Kept w w' → prop i v w' → K (a.put o.dst v) w') →
      if Region.wanted o (yielded ops a.tmps) = true then Oper.wp P o a w K Q else K (a.put o.dst undef) w)
    (listed : Array Bool) (a : Act) (w : World) (h : LooseK w0 a0 slots prop listed a w) (hr : i ∈ Region.ready md ops listed) :
    wpOp P ops Q i (LooseK w0 a0 slots prop (listed.setIfInBounds i true)) a w := by
  refine wpOp_step ho fun K hK => ?_
  have hM : ∀ v w', Below w0.heap.size w0 w' → Kept w w' → prop i v w' → K (a.put o.dst v) w' := fun v w' hb hk hv => hK _ _ (by
    rw [hd]
    exact loose_putK hinj hinj1 N hN hlt hst hi h hb hk hv)
  exact hop a w K h.below h.size h.defers h.same (fun p hp hwt => h.fact p hp (ready_has hr hwt)) (fun v w' hb hv => hM v w' (h.below.trans (hb.mono h.below.size)) (Kept.of hb) hv) hM
end
/-- The mark on a row that a constant text is: no cell turns. -/
theorem run_markF {W : World} (g n c : Nat) (C : Array Value) (fr : Nat × Nat) (hg : W.heap[g]? = some (.cells C 5 fr)) :
    ∃ W', (convert 24 24 (.slice (some ⟨g, 0, none⟩) n c)).run Tryd.prog W = .ok (.slice (some ⟨g, 0, none⟩) n c) W' ∧ But g W W' ∧ Kept W W' := by
  have hsh : W.shape? g = some (5, C.size) := by
    unfold World.shape?
    rw [hg]
  have hsz : (W.freeze ⟨g, C.size, none⟩ 1).heap.size = W.heap.size := by unfold World.freeze; rw [if_neg (by decide)]; simp
  have hbut : But g W (W.freeze ⟨g, C.size, none⟩ 1) := by
    refine ⟨rfl, rfl, rfl, ?_, fun k _ hk => ?_⟩
    · rw [hsz]; exact Nat.le_refl _
    · unfold World.freeze; rw [if_neg (by decide)]; simp [Array.getElem?_modify, Ne.symm hk]
  have hrow : ∃ fr', (W.freeze ⟨g, C.size, none⟩ 1).heap[g]? = some (.cells C 5 fr') := by
    unfold World.freeze
    rw [if_neg (by decide)]
    simp [Array.getElem?_modify, hg]
  refine ⟨W.freeze ⟨g, C.size, none⟩ 1, ?_, hbut, ?_, fun p hp => ?_, fun k C2 t2 fr2 h2 => ?_⟩
  · simp [convert, run_underlying Tryd.underlying24, run_underlying Tryd.underlying5, markStringish, hsh]
  · rw [hsz]; exact Nat.le_refl _
  · by_cases hpg : p.block = g
    · obtain ⟨fr', h'⟩ := hrow
      obtain ⟨b, o, f⟩ := p
      simp only at hpg
      subst hpg
      unfold World.cell?
      simp only [h', hg]
    · exact World.cell?_of_block (hbut.block _ hp hpg)
  · by_cases hkg : k = g
    · subst hkg
      rw [hg] at h2
      cases h2
      exact hrow
    · exact ⟨fr2, by rw [hbut.block k (lt_heap h2) hkg]; exact h2⟩
theorem markF_op {w : World} {ops : Array Oper} {o : Oper} {a : Act} {K : Act → World → Prop} {Q : Exit → Act → World → Prop} (hgd : o.guard = none) (x : Operand) (ho : o.op = .convert 24 24 x) (g n c : Nat) (C : Array Value) (fr : Nat × Nat) (hx : a.eval x = .slice (some ⟨g, 0, none⟩) n c) (hg : w.heap[g]? = some (.cells C 5 fr))
    (h : ∀ w', But g w w' → Kept w w' → K (a.put o.dst (.slice (some ⟨g, 0, none⟩) n c)) w') : if Region.wanted o (yielded ops a.tmps) = true then Oper.wp Tryd.prog o a w K Q else K (a.put o.dst undef) w := by
  obtain ⟨W', h1, h2, h3⟩ := run_markF g n c C fr hg
  rw [if_pos (by simp [Region.wanted, hgd])]
  unfold Oper.wp
  simp only [execOp, ho, hx, h1, Sem.run_bind, Sem.run_pure, Result.andThen_ok]
  exact h W' h2 h3
theorem markF_step {w : World} {ops : Array Oper} {rest : List Oper} {o : Oper} {a : Act} {Q : Exit → Act → World → Prop} (hgd : o.guard = none) (x : Operand) (ho : o.op = .convert 24 24 x) (g n c : Nat) (C : Array Value) (fr : Nat × Nat) (hx : a.eval x = .slice (some ⟨g, 0, none⟩) n c) (hg : w.heap[g]? = some (.cells C 5 fr))
    (h : ∀ w', But g w w' → Kept w w' → wpList Tryd.prog ops Q rest (a.put o.dst (.slice (some ⟨g, 0, none⟩) n c)) w') : wpList Tryd.prog ops Q (o :: rest) a w := by
  obtain ⟨W', h1, h2, h3⟩ := run_markF g n c C fr hg
  refine wpList_plain hgd fun K hK => ?_
  unfold Oper.wp
  simp only [execOp, ho, hx, h1, Sem.run_bind, Sem.run_pure, Result.andThen_ok]
  exact hK _ _ (h W' h2 h3)
theorem bool_self (z : Bool) (w : World) : (binOp .eql 4 (.bool z) (.bool z)).run Tryd.prog w = .ok (.bool true) w := by cases z <;> kernel_rfl
theorem bool_guard (op : BinOp) (x y : Operand) (a b : Bool) (w : World) : (eqGuard op 4 x y (.bool a) (.bool b)).run Tryd.prog w = .ok () w := by cases op <;> kernel_rfl
theorem sig_guard (op : BinOp) (x y : Operand) (a b : List UInt8) (w : World) : (eqGuard op 27 x y (hashVal a) (hashVal b)).run Tryd.prog w = .ok () w := run_eqGuard_agg w op 27 _ _ _ _ (by kernel_rfl)
theorem sig_eql (ds es : List UInt8) (hd : ds.length = 64) (he : es.length = 64) (w : World) : (binOp .eql 27 (hashVal ds) (hashVal es)).run Tryd.prog w = .ok (.bool (ds == es)) w :=
  run_eql_bytes (P := Tryd.prog) w 27 5 64 Tryd.underlying27 Tryd.underlying5 (fun w => by
    obtain ⟨i0, hi0, hs0⟩ := Option.map_eq_some_iff.1 size_u8
    simp [sizeOf, typeInfo, hi0, hs0]) ds es hd he
theorem lit_byte (v : UInt8) (w : World) : (Instr.buildSlice 24 1 #[(0, .int .u8 (v.toNat : Int))]).run Tryd.prog w = .ok (.slice (some ⟨w.heap.size, 0, none⟩) 1 1) (w.alloc (.cells ([v].map cellOf).toArray 5)) := by kernel_rfl
theorem parts_one_cells {w : World} {g : Nat} {v : Value} {t : TypeId} {x : List UInt8} (hC : Cells w g [v] t) (h1 : Part w w.heap.size v x) : Parts w w.heap.size (some ⟨g, 0, none⟩) [x] :=
  parts_cells hC fun j us hu => by
    match j, hu with
    | 0, hu => cases hu; exact ⟨v, rfl, h1⟩
    | j + 1, hu => simp at hu
end Go.Proofs.YtoggkhjaghkpnaaDoor
namespace Go.Proofs.YtoggkhjaghkpnaaDoor
open Go.RowKit
set_option maxRecDepth 100000 in
theorem loose_frame24 (a : Act) (hs : a.tmps.size = 24) (hd : a.defers = []) : ∃ u : Nat → Value, a = ⟨(u 0 :: u 1 :: u 2 :: u 3 :: u 4 :: u 5 :: u 6 :: u 7 :: u 8 :: u 9 :: u 10 :: u 11 :: u 12 :: u 13 :: u 14 :: u 15 :: u 16 :: u 17 :: u 18 :: u 19 :: u 20 :: u 21 :: u 22 :: u 23 :: []).toArray, []⟩ := by
  obtain ⟨u, h⟩ := frame_of 24 a hs hd
  exact ⟨u, h⟩
/-- What the operations of this region yield. -/
def alive13Yields (B : Nat) (k1 : List UInt8) (k2 : List UInt8) (p1 : List UInt8) (p2 : List UInt8) (sb : List UInt8) (i : Nat) (v : Value) (w : World) : Prop := match i with
  | 0 => v = hashVal k1
  | 1 => v = hashVal p1
  | 2 => v = hashVal sb
  | 3 => ∃ (g : Nat) (fr : Nat × Nat), v = .slice (some ⟨g, 0, none⟩) 1 1 ∧ B ≤ g ∧ w.heap[g]? = some (.cells ([97].map cellOf).toArray 5 fr)
  | 4 => ∃ (g : Nat) (fr : Nat × Nat), v = .slice (some ⟨g, 0, none⟩) 1 1 ∧ B ≤ g ∧ w.heap[g]? = some (.cells ([97].map cellOf).toArray 5 fr)
  | 5 => ∃ g, v = .slice (some ⟨g, 0, none⟩) 1 1 ∧ PartsAt (some ⟨g, 0, none⟩) [[97]] w
  | 6 => v = .bool true
  | 7 => v = .bool true
  | 8 => v = hashVal k2
  | 9 => v = hashVal p2
  | 10 => v = hashVal sb
  | 11 => ∃ (g : Nat) (fr : Nat × Nat), v = .slice (some ⟨g, 0, none⟩) 1 1 ∧ B ≤ g ∧ w.heap[g]? = some (.cells ([97].map cellOf).toArray 5 fr)
  | 12 => ∃ (g : Nat) (fr : Nat × Nat), v = .slice (some ⟨g, 0, none⟩) 1 1 ∧ B ≤ g ∧ w.heap[g]? = some (.cells ([97].map cellOf).toArray 5 fr)
  | 13 => ∃ g, v = .slice (some ⟨g, 0, none⟩) 1 1 ∧ PartsAt (some ⟨g, 0, none⟩) [[97]] w
  | 14 => v = .bool false
  | 15 => v = .bool true
  | 16 => v = .bool true
  | 17 => v = .bool true
  | _ => True
theorem alive13Yields_on {B : Nat} {k1 : List UInt8} {k2 : List UInt8} {p1 : List UInt8} {p2 : List UInt8} {sb : List UInt8} {i : Nat} {v : Value} {w w' : World} (h : alive13Yields B k1 k2 p1 p2 sb i v w) (hk : Kept w w') : alive13Yields B k1 k2 p1 p2 sb i v w' := by
  unfold alive13Yields at h ⊢
  split
  all_goals first
    | exact h
    | trivial
    | (obtain ⟨g, h1, h2⟩ := h
       exact ⟨g, h1, h2.kept hk⟩)
    | (obtain ⟨g, fr, h1, h2, h3⟩ := h
       obtain ⟨fr2, h4⟩ := hk.row _ _ _ _ h3
       exact ⟨g, fr2, h1, h2, h4⟩)
set_option maxRecDepth 100000 in
set_option maxHeartbeats 4000000 in
theorem alive13_over (k1 k2 p1 p2 sb : List UInt8) (E : Value) (w : World)
    (Hsb : Hid (sb.length = 64))
    (BK1 : ∀ w, (Instr.build 23 #[(0, .int .u8 1)]).run Tryd.prog w = .ok (hashVal k1) w)
    (BK2 : ∀ w, (Instr.build 23 #[(0, .int .u8 2)]).run Tryd.prog w = .ok (hashVal k2) w)
    (CS : Hid (∀ g W, PartsAt (some ⟨g, 0, none⟩) [[97]] W → SgTabs E W → Calls Tryd.prog 5 #[hashVal k1, .slice (some ⟨g, 0, none⟩) 1 1] W (gvn (hashVal sb) W)))
    (CP1 : Hid (∀ W, SgTabs E W → Calls Tryd.prog 7 #[hashVal k1] W (gvn (hashVal p1) W)))
    (CP2 : Hid (∀ W, SgTabs E W → Calls Tryd.prog 7 #[hashVal k2] W (gvn (hashVal p2) W)))
    (CV1 : Hid (∀ g W, PartsAt (some ⟨g, 0, none⟩) [[97]] W → SgTabs E W → Calls Tryd.prog 6 #[hashVal p1, hashVal sb, .slice (some ⟨g, 0, none⟩) 1 1] W (gvn (.bool true) W)))
    (CV2 : Hid (∀ g W, PartsAt (some ⟨g, 0, none⟩) [[97]] W → SgTabs E W → Calls Tryd.prog 6 #[hashVal p2, hashVal sb, .slice (some ⟨g, 0, none⟩) 1 1] W (gvn (.bool false) W)))
    (hS : SgTabs E w) :
    Calls Tryd.prog 4 #[] w (gvn (.bool true) w) := by
  go_enter Tryd.func4, Tryd.ntmps4
  go_wp2_with (first
    | (refine build_step rfl 23 _ rfl [(0, .int .u8 1)] rfl _ BK1 ?_
       try simp only [putS]
       skip)
    | (refine ulit_step rfl 24 1 [(0, .const (.int .u8 97))] rfl [(0, .int .u8 97)] rfl 5 ([97].map cellOf) (lit_byte 97) ?_
       intro w1 hb1 hl1
       try simp only [putS]
       skip)
    | (refine markF_step rfl (.tmp 3) rfl w.heap.size 1 1 _ (0, 0) rfl hl1 ?_
       intro w2 hbt2 hk2
       have hB2 : Below w.heap.size w w2 := hb1.trans (hbt2.below (Nat.le_refl _) hb1.size)
       obtain ⟨fr2, hl2⟩ := hk2.row _ _ _ _ hl1
       clear hb1 hl1 hbt2 hk2
       try simp only [putS]
       skip)
    | (refine ulit_step rfl 32 1 [(0, .tmp 4)] rfl [(0, .slice (some ⟨w.heap.size, 0, none⟩) 1 1)] rfl 24 ([.slice (some ⟨w.heap.size, 0, none⟩) 1 1].map anyc) (lit_parts1 _ _ _) ?_
       intro w3 hb3 hl3
       have hB3 := below_then hB2 hb3
       have hP3 : PartsAt (some ⟨w2.heap.size, 0, none⟩) [[97]] w3 := parts_one_cells hl3 (Part.mk (c := 1) rfl ((row_heap (l := [97]) hl2).on hb3) (fun h => by cases h) (Nat.le_refl _) (by unfold maxLen; omega))
       clear hB2 hl2 hb3 hl3
       try simp only [putS]
       skip))
  refine (CS.out _ w3 hP3 (hS.below hB3)).mono ?_
  rintro e w4 ⟨rfl, hb4⟩
  clear hP3
  generalize w2.heap.size = gq at *
  have hB4 := below_then hB3 hb4
  clear hB3 hb4
  go_wp2_with (first
    | (refine vput_step rfl rfl 27 (.tmp 1) (.tmp 6) rfl rfl 64 zsig (sb.map cellOf) rfl rfl zero_sig rfl size_sig (by rw [List.length_map, Hsb.out]) (kcells_one _) ?_
       intro w5 hb5 hvs5
       have hB5 := below_then hB4 hb5
       have hges : w.heap.size ≤ w4.heap.size := hB4.size
       clear hB4 hb5
       try simp only [putS]
       skip))
  generalize hqs : w4.heap.size = gs at *
  clear hqs
  have hB6 : Below w.heap.size w w5.drew := hB5.drew
  have hvs6 := hvs5.drew
  refine wp_region_any (by kernel_rfl) ?_
  show wpAny _ _ _ _ _ _ _ w5.drew
  simp only [List.size_toArray, List.length_cons, List.length_nil, Nat.reduceAdd, Array.replicate_succ, Array.replicate_zero, List.push_toArray, List.nil_append, List.cons_append]
  clear hB5 hvs5
  generalize w5.drew = w6 at *
  have rs := hvs6.range 0 64
  rw [List.drop_zero, List.take_of_length_le (by rw [List.length_map, Hsb.out]; omega)] at rs
  refine wpAny_looseA (L := [0, 1, 2, 3, 4, 5, 6, 7, 8, 9, 10, 11, 12, 13, 14, 15, 16, 17]) (fins := [(#[true, true, true, true, true, true, true, true, true, true, true, true, true, true, true, true, true, true], 0)]) (LooseK w6 _ [(0, 7), (1, 8), (2, 9), (3, 10), (4, 11), (5, 12), (6, 13), (7, 14), (8, 15), (9, 16), (10, 17), (11, 18), (12, 19), (13, 20), (14, 21), (15, 22), (16, 23), (17, 0)] (alive13Yields w6.heap.size k1 k2 p1 p2 sb)) ?_ ?_ 18 _ _ _ (by kernel_rfl) ⟨Below.refl _ _, rfl, rfl, fun _ _ => rfl, ?_⟩
  rotate_left 2
  · intro p hp hl
    simp only [List.mem_cons, List.not_mem_nil, or_false] at hp
    rcases hp with rfl | rfl | rfl | rfl | rfl | rfl | rfl | rfl | rfl | rfl | rfl | rfl | rfl | rfl | rfl | rfl | rfl | rfl
    all_goals cases hl
  · intro i hi
    simp only [List.mem_cons, List.not_mem_nil, or_false] at hi
    rcases hi with rfl | rfl | rfl | rfl | rfl | rfl | rfl | rfl | rfl | rfl | rfl | rfl | rfl | rfl | rfl | rfl | rfl | rfl
    · refine loose_stepK (slots := [(0, 7), (1, 8), (2, 9), (3, 10), (4, 11), (5, 12), (6, 13), (7, 14), (8, 15), (9, 16), (10, 17), (11, 18), (12, 19), (13, 20), (14, 21), (15, 22), (16, 23), (17, 0)]) (prop := alive13Yields w6.heap.size k1 k2 p1 p2 sb) (by decide) (by decide) 24 rfl (by decide) (fun _ _ _ _ h hk => alive13Yields_on h hk) (i := 0) (s := 7) (by decide) rfl rfl ?_
      intro a w6 K hb hs hd hsame hfact hK hM
      exact quiet_op rfl _ (exec_build _ _ _ [(0, .const (.int .u8 1))] rfl [(0, .int .u8 1)] rfl _ w6 (BK1 w6)) (hK _ _ (Below.refl _ _) rfl)
    · refine loose_stepK (slots := [(0, 7), (1, 8), (2, 9), (3, 10), (4, 11), (5, 12), (6, 13), (7, 14), (8, 15), (9, 16), (10, 17), (11, 18), (12, 19), (13, 20), (14, 21), (15, 22), (16, 23), (17, 0)]) (prop := alive13Yields w6.heap.size k1 k2 p1 p2 sb) (by decide) (by decide) 24 rfl (by decide) (fun _ _ _ _ h hk => alive13Yields_on h hk) (i := 1) (s := 8) (by decide) rfl rfl ?_
      intro a w6 K hb hs hd hsame hfact hK hM
      refine call_op rfl 7 [.tmp 7] _ rfl [hashVal k1] ?_ (enters Tryd.func7 (by kernel_rfl) (by kernel_rfl)) (CP1.out w6 (hS.below (below_then hB6 hb))) ?_
      · simp only [List.map_cons, List.map_nil]
        rw [(show a.eval (.tmp 7) = hashVal k1 from hfact (0, 7) (by decide) (by kernel_rfl))]
      · rintro e w7 ⟨rfl, hb7⟩
        exact ⟨_, rfl, hK _ _ hb7 rfl⟩
    · refine loose_stepK (slots := [(0, 7), (1, 8), (2, 9), (3, 10), (4, 11), (5, 12), (6, 13), (7, 14), (8, 15), (9, 16), (10, 17), (11, 18), (12, 19), (13, 20), (14, 21), (15, 22), (16, 23), (17, 0)]) (prop := alive13Yields w6.heap.size k1 k2 p1 p2 sb) (by decide) (by decide) 24 rfl (by decide) (fun _ _ _ _ h hk => alive13Yields_on h hk) (i := 2) (s := 9) (by decide) rfl rfl ?_
      intro a w6 K hb hs hd hsame hfact hK hM
      exact load_op rfl 27 (.tmp 1) rfl gs 0 (hsame 1 (by decide)) (sb.map cellOf) _ (range_on rs hvs6.lt hb) Tryd.underlying27 rfl (by rw [List.length_map, Hsb.out]; exact size_sig) (hK _ _ (Below.refl _ _) rfl)
    · refine loose_stepK (slots := [(0, 7), (1, 8), (2, 9), (3, 10), (4, 11), (5, 12), (6, 13), (7, 14), (8, 15), (9, 16), (10, 17), (11, 18), (12, 19), (13, 20), (14, 21), (15, 22), (16, 23), (17, 0)]) (prop := alive13Yields w6.heap.size k1 k2 p1 p2 sb) (by decide) (by decide) 24 rfl (by decide) (fun _ _ _ _ h hk => alive13Yields_on h hk) (i := 3) (s := 10) (by decide) rfl rfl ?_
      intro a w6 K hb hs hd hsame hfact hK hM
      exact lit_op rfl 24 1 [(0, .const (.int .u8 97))] rfl [(0, .int .u8 97)] rfl 5 ([97].map cellOf) (lit_byte 97) (fun w' hb' hc' => hK _ _ hb' ⟨_, (0, 0), rfl, hb.size, hc'⟩)
    · refine loose_stepK (slots := [(0, 7), (1, 8), (2, 9), (3, 10), (4, 11), (5, 12), (6, 13), (7, 14), (8, 15), (9, 16), (10, 17), (11, 18), (12, 19), (13, 20), (14, 21), (15, 22), (16, 23), (17, 0)]) (prop := alive13Yields w6.heap.size k1 k2 p1 p2 sb) (by decide) (by decide) 24 rfl (by decide) (fun _ _ _ _ h hk => alive13Yields_on h hk) (i := 4) (s := 11) (by decide) rfl rfl ?_
      intro a w6 K hb hs hd hsame hfact hK hM
      obtain ⟨g10, fr10, e10, hg10, hh10⟩ := hfact (3, 10) (by decide) (by kernel_rfl)
      refine markF_op rfl (.tmp 10) rfl g10 1 1 _ fr10 e10 hh10 (fun w' hbt hkp => ?_)
      obtain ⟨fr2, h2⟩ := hkp.row _ _ _ _ hh10
      exact hM _ _ (hb.trans (hbt.below hg10 hb.size)) hkp ⟨g10, fr2, rfl, hg10, h2⟩
    · refine loose_stepK (slots := [(0, 7), (1, 8), (2, 9), (3, 10), (4, 11), (5, 12), (6, 13), (7, 14), (8, 15), (9, 16), (10, 17), (11, 18), (12, 19), (13, 20), (14, 21), (15, 22), (16, 23), (17, 0)]) (prop := alive13Yields w6.heap.size k1 k2 p1 p2 sb) (by decide) (by decide) 24 rfl (by decide) (fun _ _ _ _ h hk => alive13Yields_on h hk) (i := 5) (s := 12) (by decide) rfl rfl ?_
      intro a w6 K hb hs hd hsame hfact hK hM
      obtain ⟨g11, fr11, e11, hg11, hh11⟩ := hfact (4, 11) (by decide) (by kernel_rfl)
      refine lit_op rfl 32 1 [(0, .tmp 11)] rfl [(0, .slice (some ⟨g11, 0, none⟩) 1 1)] ?_ 24 ([.slice (some ⟨g11, 0, none⟩) 1 1].map anyc) (lit_parts1 _ _ _) (fun w' hb' hc' => hK _ _ hb' ⟨_, rfl, parts_one_cells hc' (Part.mk (c := 1) rfl ((row_heap hh11).on hb') (fun h => by cases h) (Nat.le_refl _) (by unfold maxLen; omega))⟩)
      simp only [List.map_cons, List.map_nil]
      rw [(show a.eval (.tmp 11) = .slice (some ⟨g11, 0, none⟩) 1 1 from e11)]
    · refine loose_stepK (slots := [(0, 7), (1, 8), (2, 9), (3, 10), (4, 11), (5, 12), (6, 13), (7, 14), (8, 15), (9, 16), (10, 17), (11, 18), (12, 19), (13, 20), (14, 21), (15, 22), (16, 23), (17, 0)]) (prop := alive13Yields w6.heap.size k1 k2 p1 p2 sb) (by decide) (by decide) 24 rfl (by decide) (fun _ _ _ _ h hk => alive13Yields_on h hk) (i := 6) (s := 13) (by decide) rfl rfl ?_
      intro a w6 K hb hs hd hsame hfact hK hM
      obtain ⟨g12, e12, hp12⟩ := hfact (5, 12) (by decide) (by kernel_rfl)
      refine call_op rfl 6 [.tmp 8, .tmp 9, .tmp 12] _ rfl [hashVal p1, hashVal sb, .slice (some ⟨g12, 0, none⟩) 1 1] ?_ (enters Tryd.func6 (by kernel_rfl) (by kernel_rfl)) (CV1.out g12 w6 hp12 (hS.below (below_then hB6 hb))) ?_
      · simp only [List.map_cons, List.map_nil]
        rw [(show a.eval (.tmp 8) = hashVal p1 from hfact (1, 8) (by decide) (by kernel_rfl)), (show a.eval (.tmp 9) = hashVal sb from hfact (2, 9) (by decide) (by kernel_rfl)), (show a.eval (.tmp 12) = .slice (some ⟨g12, 0, none⟩) 1 1 from e12)]
      · rintro e w7 ⟨rfl, hb7⟩
        exact ⟨_, rfl, hK _ _ hb7 rfl⟩
    · refine loose_stepK (slots := [(0, 7), (1, 8), (2, 9), (3, 10), (4, 11), (5, 12), (6, 13), (7, 14), (8, 15), (9, 16), (10, 17), (11, 18), (12, 19), (13, 20), (14, 21), (15, 22), (16, 23), (17, 0)]) (prop := alive13Yields w6.heap.size k1 k2 p1 p2 sb) (by decide) (by decide) 24 rfl (by decide) (fun _ _ _ _ h hk => alive13Yields_on h hk) (i := 7) (s := 14) (by decide) rfl rfl ?_
      intro a w6 K hb hs hd hsame hfact hK hM
      exact quiet_op rfl _ (exec_move _ _ _ (.inl rfl) _ (show a.eval (.tmp 13) = .bool true from hfact (6, 13) (by decide) (by kernel_rfl)) w6) (hK _ _ (Below.refl _ _) rfl)
    · refine loose_stepK (slots := [(0, 7), (1, 8), (2, 9), (3, 10), (4, 11), (5, 12), (6, 13), (7, 14), (8, 15), (9, 16), (10, 17), (11, 18), (12, 19), (13, 20), (14, 21), (15, 22), (16, 23), (17, 0)]) (prop := alive13Yields w6.heap.size k1 k2 p1 p2 sb) (by decide) (by decide) 24 rfl (by decide) (fun _ _ _ _ h hk => alive13Yields_on h hk) (i := 8) (s := 15) (by decide) rfl rfl ?_
      intro a w6 K hb hs hd hsame hfact hK hM
      refine under_guard (wanted_by (j := 7) (s := 14) rfl rfl rfl (hfact (7, 14) (by decide) (by kernel_rfl))) ?_
      exact quiet_op rfl _ (exec_build _ _ _ [(0, .const (.int .u8 2))] rfl [(0, .int .u8 2)] rfl _ w6 (BK2 w6)) (hK _ _ (Below.refl _ _) rfl)
    · refine loose_stepK (slots := [(0, 7), (1, 8), (2, 9), (3, 10), (4, 11), (5, 12), (6, 13), (7, 14), (8, 15), (9, 16), (10, 17), (11, 18), (12, 19), (13, 20), (14, 21), (15, 22), (16, 23), (17, 0)]) (prop := alive13Yields w6.heap.size k1 k2 p1 p2 sb) (by decide) (by decide) 24 rfl (by decide) (fun _ _ _ _ h hk => alive13Yields_on h hk) (i := 9) (s := 16) (by decide) rfl rfl ?_
      intro a w6 K hb hs hd hsame hfact hK hM
      refine under_guard (wanted_by (j := 7) (s := 14) rfl rfl rfl (hfact (7, 14) (by decide) (by kernel_rfl))) ?_
      refine call_op rfl 7 [.tmp 15] _ rfl [hashVal k2] ?_ (enters Tryd.func7 (by kernel_rfl) (by kernel_rfl)) (CP2.out w6 (hS.below (below_then hB6 hb))) ?_
      · simp only [List.map_cons, List.map_nil]
        rw [(show a.eval (.tmp 15) = hashVal k2 from hfact (8, 15) (by decide) (by kernel_rfl))]
      · rintro e w7 ⟨rfl, hb7⟩
        exact ⟨_, rfl, hK _ _ hb7 rfl⟩
    · refine loose_stepK (slots := [(0, 7), (1, 8), (2, 9), (3, 10), (4, 11), (5, 12), (6, 13), (7, 14), (8, 15), (9, 16), (10, 17), (11, 18), (12, 19), (13, 20), (14, 21), (15, 22), (16, 23), (17, 0)]) (prop := alive13Yields w6.heap.size k1 k2 p1 p2 sb) (by decide) (by decide) 24 rfl (by decide) (fun _ _ _ _ h hk => alive13Yields_on h hk) (i := 10) (s := 17) (by decide) rfl rfl ?_
      intro a w6 K hb hs hd hsame hfact hK hM
      refine under_guard (wanted_by (j := 7) (s := 14) rfl rfl rfl (hfact (7, 14) (by decide) (by kernel_rfl))) ?_
      exact load_op rfl 27 (.tmp 1) rfl gs 0 (hsame 1 (by decide)) (sb.map cellOf) _ (range_on rs hvs6.lt hb) Tryd.underlying27 rfl (by rw [List.length_map, Hsb.out]; exact size_sig) (hK _ _ (Below.refl _ _) rfl)
    · refine loose_stepK (slots := [(0, 7), (1, 8), (2, 9), (3, 10), (4, 11), (5, 12), (6, 13), (7, 14), (8, 15), (9, 16), (10, 17), (11, 18), (12, 19), (13, 20), (14, 21), (15, 22), (16, 23), (17, 0)]) (prop := alive13Yields w6.heap.size k1 k2 p1 p2 sb) (by decide) (by decide) 24 rfl (by decide) (fun _ _ _ _ h hk => alive13Yields_on h hk) (i := 11) (s := 18) (by decide) rfl rfl ?_
      intro a w6 K hb hs hd hsame hfact hK hM
      refine under_guard (wanted_by (j := 7) (s := 14) rfl rfl rfl (hfact (7, 14) (by decide) (by kernel_rfl))) ?_
      exact lit_op rfl 24 1 [(0, .const (.int .u8 97))] rfl [(0, .int .u8 97)] rfl 5 ([97].map cellOf) (lit_byte 97) (fun w' hb' hc' => hK _ _ hb' ⟨_, (0, 0), rfl, hb.size, hc'⟩)
    · refine loose_stepK (slots := [(0, 7), (1, 8), (2, 9), (3, 10), (4, 11), (5, 12), (6, 13), (7, 14), (8, 15), (9, 16), (10, 17), (11, 18), (12, 19), (13, 20), (14, 21), (15, 22), (16, 23), (17, 0)]) (prop := alive13Yields w6.heap.size k1 k2 p1 p2 sb) (by decide) (by decide) 24 rfl (by decide) (fun _ _ _ _ h hk => alive13Yields_on h hk) (i := 12) (s := 19) (by decide) rfl rfl ?_
      intro a w6 K hb hs hd hsame hfact hK hM
      refine under_guard (wanted_by (j := 7) (s := 14) rfl rfl rfl (hfact (7, 14) (by decide) (by kernel_rfl))) ?_
      obtain ⟨g18, fr18, e18, hg18, hh18⟩ := hfact (11, 18) (by decide) (by kernel_rfl)
      refine markF_op rfl (.tmp 18) rfl g18 1 1 _ fr18 e18 hh18 (fun w' hbt hkp => ?_)
      obtain ⟨fr2, h2⟩ := hkp.row _ _ _ _ hh18
      exact hM _ _ (hb.trans (hbt.below hg18 hb.size)) hkp ⟨g18, fr2, rfl, hg18, h2⟩
    · refine loose_stepK (slots := [(0, 7), (1, 8), (2, 9), (3, 10), (4, 11), (5, 12), (6, 13), (7, 14), (8, 15), (9, 16), (10, 17), (11, 18), (12, 19), (13, 20), (14, 21), (15, 22), (16, 23), (17, 0)]) (prop := alive13Yields w6.heap.size k1 k2 p1 p2 sb) (by decide) (by decide) 24 rfl (by decide) (fun _ _ _ _ h hk => alive13Yields_on h hk) (i := 13) (s := 20) (by decide) rfl rfl ?_
      intro a w6 K hb hs hd hsame hfact hK hM
      refine under_guard (wanted_by (j := 7) (s := 14) rfl rfl rfl (hfact (7, 14) (by decide) (by kernel_rfl))) ?_
      obtain ⟨g19, fr19, e19, hg19, hh19⟩ := hfact (12, 19) (by decide) (by kernel_rfl)
      refine lit_op rfl 32 1 [(0, .tmp 19)] rfl [(0, .slice (some ⟨g19, 0, none⟩) 1 1)] ?_ 24 ([.slice (some ⟨g19, 0, none⟩) 1 1].map anyc) (lit_parts1 _ _ _) (fun w' hb' hc' => hK _ _ hb' ⟨_, rfl, parts_one_cells hc' (Part.mk (c := 1) rfl ((row_heap hh19).on hb') (fun h => by cases h) (Nat.le_refl _) (by unfold maxLen; omega))⟩)
      simp only [List.map_cons, List.map_nil]
      rw [(show a.eval (.tmp 19) = .slice (some ⟨g19, 0, none⟩) 1 1 from e19)]
    · refine loose_stepK (slots := [(0, 7), (1, 8), (2, 9), (3, 10), (4, 11), (5, 12), (6, 13), (7, 14), (8, 15), (9, 16), (10, 17), (11, 18), (12, 19), (13, 20), (14, 21), (15, 22), (16, 23), (17, 0)]) (prop := alive13Yields w6.heap.size k1 k2 p1 p2 sb) (by decide) (by decide) 24 rfl (by decide) (fun _ _ _ _ h hk => alive13Yields_on h hk) (i := 14) (s := 21) (by decide) rfl rfl ?_
      intro a w6 K hb hs hd hsame hfact hK hM
      refine under_guard (wanted_by (j := 7) (s := 14) rfl rfl rfl (hfact (7, 14) (by decide) (by kernel_rfl))) ?_
      obtain ⟨g20, e20, hp20⟩ := hfact (13, 20) (by decide) (by kernel_rfl)
      refine call_op rfl 6 [.tmp 16, .tmp 17, .tmp 20] _ rfl [hashVal p2, hashVal sb, .slice (some ⟨g20, 0, none⟩) 1 1] ?_ (enters Tryd.func6 (by kernel_rfl) (by kernel_rfl)) (CV2.out g20 w6 hp20 (hS.below (below_then hB6 hb))) ?_
      · simp only [List.map_cons, List.map_nil]
        rw [(show a.eval (.tmp 16) = hashVal p2 from hfact (9, 16) (by decide) (by kernel_rfl)), (show a.eval (.tmp 17) = hashVal sb from hfact (10, 17) (by decide) (by kernel_rfl)), (show a.eval (.tmp 20) = .slice (some ⟨g20, 0, none⟩) 1 1 from e20)]
      · rintro e w7 ⟨rfl, hb7⟩
        exact ⟨_, rfl, hK _ _ hb7 rfl⟩
    · refine loose_stepK (slots := [(0, 7), (1, 8), (2, 9), (3, 10), (4, 11), (5, 12), (6, 13), (7, 14), (8, 15), (9, 16), (10, 17), (11, 18), (12, 19), (13, 20), (14, 21), (15, 22), (16, 23), (17, 0)]) (prop := alive13Yields w6.heap.size k1 k2 p1 p2 sb) (by decide) (by decide) 24 rfl (by decide) (fun _ _ _ _ h hk => alive13Yields_on h hk) (i := 15) (s := 22) (by decide) rfl rfl ?_
      intro a w6 K hb hs hd hsame hfact hK hM
      refine under_guard (wanted_by (j := 7) (s := 14) rfl rfl rfl (hfact (7, 14) (by decide) (by kernel_rfl))) ?_
      exact quiet_op rfl _ (exec_not _ _ _ _ rfl (false) (show a.eval (.tmp 21) = .bool false from hfact (14, 21) (by decide) (by kernel_rfl)) w6) (hK _ _ (Below.refl _ _) rfl)
    · refine loose_stepK (slots := [(0, 7), (1, 8), (2, 9), (3, 10), (4, 11), (5, 12), (6, 13), (7, 14), (8, 15), (9, 16), (10, 17), (11, 18), (12, 19), (13, 20), (14, 21), (15, 22), (16, 23), (17, 0)]) (prop := alive13Yields w6.heap.size k1 k2 p1 p2 sb) (by decide) (by decide) 24 rfl (by decide) (fun _ _ _ _ h hk => alive13Yields_on h hk) (i := 16) (s := 23) (by decide) rfl rfl ?_
      intro a w6 K hb hs hd hsame hfact hK hM
      exact quiet_op rfl _ (pick_true _ _ _ _ _ rfl (show a.eval (.tmp 14) = .bool true from hfact (7, 14) (by decide) (by kernel_rfl)) (.bool true) (show a.eval (.tmp 22) = .bool true from hfact (15, 22) (by decide) (by kernel_rfl)) w6) (hK _ _ (Below.refl _ _) rfl)
    · refine loose_stepK (slots := [(0, 7), (1, 8), (2, 9), (3, 10), (4, 11), (5, 12), (6, 13), (7, 14), (8, 15), (9, 16), (10, 17), (11, 18), (12, 19), (13, 20), (14, 21), (15, 22), (16, 23), (17, 0)]) (prop := alive13Yields w6.heap.size k1 k2 p1 p2 sb) (by decide) (by decide) 24 rfl (by decide) (fun _ _ _ _ h hk => alive13Yields_on h hk) (i := 17) (s := 0) (by decide) rfl rfl ?_
      intro a w6 K hb hs hd hsame hfact hK hM
      exact quiet_op rfl _ (exec_move _ _ _ (.inr rfl) _ (show a.eval (.tmp 23) = .bool true from hfact (16, 23) (by decide) (by kernel_rfl)) w6) (hK _ _ (Below.refl _ _) rfl)
  · intro f hf a w7 hA
    obtain rfl := List.mem_singleton.1 hf
    have hB7 := below_then hB6 hA.below
    have sR : a.tmps.getD 0 undef = .bool true := hA.fact (17, 0) (by decide) (by kernel_rfl)
    obtain ⟨u, rfl⟩ := loose_frame24 a hA.size hA.defers
    change u 0 = _ at sR
    rw [sR]
    clear sR hA hB6
    refine wpAny_done (by kernel_rfl) ?_ _
    rename_i K hKK
    simp only [Exit.then]
    refine hKK _ _ ?_
    clear hKK K
    go_wp2
    go_ret
    exact ⟨rfl, hB7⟩
end Go.Proofs.YtoggkhjaghkpnaaDoor
namespace Go.Proofs.YtoggkhjaghkpnaaDoor
open Go.RowKit
/-- A digit as a cell holds it. -/
abbrev icell (x : Nat) : Value := .int .i64 (x : Int)
/-- The address A leads to these digits, in a block below B. -/
def RowI (w : World) (B : Nat) (A : Option Addr) (ds : List Nat) : Prop :=
  ds = [] ∨ ∃ b off, A = some ⟨b, off, none⟩ ∧ b < B ∧ ∀ j x, ds[j]? = some x → w.cell? ⟨b, off + j, none⟩ = some (icell x)
section
variable {w w' : World} {B B' : Nat} {A : Option Addr} {ds : List Nat}
theorem RowI.at (h : RowI w B A ds) (k : Nat) (hk : k < ds.length) : ∃ b off, A = some ⟨b, off, none⟩ ∧ b < B ∧ w.cell? ⟨b, off + k, none⟩ = some (icell (ds.getD k 0)) := by
  rcases h with rfl | ⟨b, off, hA, hb, hc⟩
  · simp at hk
  · exact ⟨b, off, hA, hb, hc k _ (by rw [List.getD_eq_getElem?_getD, List.getElem?_eq_getElem hk]; rfl)⟩
theorem RowI.more (h : RowI w B A ds) (hB : B ≤ B') : RowI w B' A ds := by
  rcases h with rfl | ⟨b, off, hA, hb, hc⟩
  · exact .inl rfl
  · exact .inr ⟨b, off, hA, by omega, hc⟩
theorem RowI.below (h : RowI w B A ds) (hb : Below B w w') : RowI w' B A ds := by
  rcases h with rfl | ⟨b, off, hA, hlt, hc⟩
  · exact .inl rfl
  · exact .inr ⟨b, off, hA, hlt, fun j u hu => (hb.cell hlt).trans (hc j u hu)⟩
theorem RowI.on (h : RowI w w.heap.size A ds) (hb : Below w.heap.size w w') : RowI w' w'.heap.size A ds := (h.below hb).more hb.size
theorem RowI.but {b : Nat} (h : RowI w B A ds) (hb : But b w w') (hB : B ≤ b) (hw : B ≤ w.heap.size) : RowI w' B A ds := by
  rcases h with rfl | ⟨b', off, hA, hlt, hc⟩
  · exact .inl rfl
  · exact .inr ⟨b', off, hA, hlt, fun j u hu => (World.cell?_of_block (w := w) (hb.block b' (by omega) (by omega))).trans (hc j u hu)⟩
theorem RowI.take (h : RowI w B A ds) (n : Nat) : RowI w B A (ds.take n) := by
  rcases h with rfl | ⟨b, off, hA, hb, hc⟩
  · exact .inl (by simp)
  · refine .inr ⟨b, off, hA, hb, fun j u hu => hc j u ?_⟩
    rw [List.getElem?_take] at hu
    split at hu
    · exact hu
    · cases hu
end
/-- The slice v is a row of the call's own (blocks from base on) that begins with these digits. -/
def OwnsI (w : World) (base : Nat) (v : Value) (l : List Nat) : Prop := w.ownsRow base 3 1 v l.length (l.map icell)
section
variable {w w' : World} {base : Nat} {v : Value} {l : List Nat}
theorem OwnsI.lit (w : World) (l : List Nat) (hb : base ≤ w.heap.size) (hc : l.length ≤ 1000000) : OwnsI (w.alloc (.cells (l.map icell).toArray 3)) base (.slice (some ⟨w.heap.size, 0, none⟩) l.length l.length) l := by
  have h := World.ownsRow_lit (base := base) (e := 3) (size := 1) w (l.map icell).toArray l.length hb (by simp only [maxLen]; omega) (by simp)
  simp only at h ⊢
  exact h
theorem OwnsI.far (h : OwnsI w base v l) : ∀ k, v.ownBlock = some k → base ≤ k := fun k hk => (World.ownsRow.lt h k hk).1
theorem OwnsI.form (h : OwnsI w base v l) : ∃ A c, v = .slice A l.length c ∧ l.length ≤ c ∧ c ≤ maxLen ∧ (A = none → c = 0) ∧ RowI w w.heap.size A l := by
  rcases h.2 with ⟨rfl, hn⟩ | ⟨g, cap, cur, rfl, hb, hg, hnc, hcm, _⟩
  · have : l = [] := List.eq_nil_of_length_eq_zero hn
    subst this
    exact ⟨none, 0, rfl, Nat.le_refl _, Nat.zero_le _, fun _ => rfl, .inl rfl⟩
  · refine ⟨_, cap, rfl, hnc, hcm, (fun h => by cases h), .inr ⟨g, 0, rfl, (World.ownsRow.lt h g rfl).2, fun j u hu => ?_⟩⟩
    have := World.ownsRow.cells h (g := g) rfl j (icell u) (by rw [List.getElem?_map, hu]; rfl)
    rwa [Go.WideShapes.add_plain] at this
/-- The row's block, known whole. -/
theorem OwnsI.cells (h : OwnsI w base v l) (hp : 0 < l.length) : ∃ g c rest, v = .slice (some ⟨g, 0, none⟩) l.length c ∧ base ≤ g ∧ l.length ≤ c ∧ c ≤ maxLen ∧ Cells w g (l.map icell ++ rest) 3 := by
  rcases h.2 with ⟨rfl, hn⟩ | ⟨g, cap, cur, rfl, hb, hg, hnc, hcm, hsz, htk⟩
  · omega
  · refine ⟨g, cap, cur.toList.drop l.length, rfl, hb, hnc, hcm, ?_⟩
    rw [Nat.mul_one] at htk
    unfold Cells
    rw [← htk, List.take_append_drop]
    exact hg
end
end Go.Proofs.YtoggkhjaghkpnaaDoor
namespace Go.Proofs.YtoggkhjaghkpnaaDoor
open Go.RowKit
end Go.Proofs.YtoggkhjaghkpnaaDoor
namespace Go.Proofs.YtoggkhjaghkpnaaDoor
open Go.RowKit
end Go.Proofs.YtoggkhjaghkpnaaDoor
namespace Go.Proofs.YtoggkhjaghkpnaaDoor
open Go.RowKit
theorem below_drewN {B : Nat} {w w' : World} (h : Below B w w') (n : Nat) : Below B w (w'.drewN n) := ⟨h.os, h.tape, h.output, h.size, h.block⟩
theorem OwnsI.keep {w w' : World} {base : Nat} {v : Value} {l : List Nat} (h : OwnsI w base v l) (hk : ∀ g, v.ownBlock = some g → w'.heap[g]? = w.heap[g]?) : OwnsI w' base v l := by
  obtain ⟨h1, h2⟩ := h
  refine ⟨h1, ?_⟩
  rcases h2 with h2 | ⟨g, cap, cur, hv, hg, hh, r⟩
  · exact .inl h2
  · refine .inr ⟨g, cap, cur, hv, hg, ?_, r⟩
    rw [hk g (by rw [hv]; rfl)]
    exact hh
theorem OwnsI.on {w w' : World} {base : Nat} {v : Value} {l : List Nat} (h : OwnsI w base v l) (hb : Below w.heap.size w w') : OwnsI w' base v l :=
  h.keep fun g hg => hb.block g (World.ownsRow.lt h g hg).2
section
variable {w : World} {o : Oper} {a : Act} {K : Act → World → Prop} {Q : Exit → Act → World → Prop}
end
end Go.Proofs.YtoggkhjaghkpnaaDoor
namespace Go.Proofs.YtoggkhjaghkpnaaDoor
open Go.RowKit
end Go.Proofs.YtoggkhjaghkpnaaDoor
namespace Go.Proofs.YtoggkhjaghkpnaaDoor
open Go.RowKit
end Go.Proofs.YtoggkhjaghkpnaaDoor
namespace Go.Proofs.YtoggkhjaghkpnaaDoor
open Go.ChangeShapes Go.WideShapes Go.ChangeAt Go.RowKit
theorem order_tab {H : Type} : (Rows.laid_fellowship_scalar_order (H := H)) = Lib.tabData .u64 ((nD NP.LL).map fun n : Nat => (n : Int)) := by kernel_rfl
theorem tail_tab {H : Type} : (Rows.laid_fellowship_scalar_tail (H := H)) = Lib.tabData .u64 ((nD tailN).map fun n : Nat => (n : Int)) := by kernel_rfl
theorem sn_cells_are (l : List Nat) : ((l.map fun n : Nat => (n : Int)).map fun z => Value.int .u64 z) = l.map ncell := by
  rw [List.map_map]; rfl
theorem snTab_is {W : World} {name : String} {g : Nat} {fuel : Nat} {l : List Nat} {cs : Array Value} {p : List MemPlace} (hg : Tryd.prog.globalNamed name = some g) (hv : W.var? Tryd.prog name = some cs)
    (hd : DataW.trod (H := Unit) (fun _ => ()) Tryd.prog W 0 (fun _ => true) false fuel 63 cs.toList = some (Lib.tabData .u64 (l.map fun n : Nat => (n : Int)), p)) : Tab W g (l.map ncell) := by
  have c2 := Lib.cells_of_tab Tryd.underlying63 Tryd.underlying40 (by kernel_rfl) (by kernel_rfl) hd
  rw [sn_cells_are] at c2
  have e : cs = (l.map ncell).toArray := by rw [← c2]
  rw [e] at hv
  exact Tab.of_var hg hv
end Go.Proofs.YtoggkhjaghkpnaaDoor
namespace Go.Proofs.YtoggkhjaghkpnaaDoor
open Go.RowKit
/-- What stands in every round: the result's block, the constants, the chain, the message. -/
structure VW (w wr : World) (gk gh gm : Nat) (hs : List Value) (ms : List UInt8) : Prop where
  below : Below w.heap.size w wr
  res : Cells wr w.heap.size (List.replicate 64 (cellOf 0)) 26
  ks : Cells wr gk (widK.map vcell) 40
  ch : Cells wr gh hs 40
  row : Row wr wr.heap.size (some ⟨gm, 0, none⟩) ms
  o1 : w.heap.size < gk
  o2 : gk < gh
  o3 : gh < gm
  o4 : gm < wr.heap.size
section
variable {w wr wr' : World} {gk gh gm : Nat} {hs : List Value} {ms : List UInt8}
theorem VW.drew (h : VW w wr gk gh gm hs ms) : VW w wr.drew gk gh gm hs ms := ⟨h.below.drew, h.res, h.ks, h.ch, h.row, h.o1, h.o2, h.o3, h.o4⟩
theorem VW.drewN (h : VW w wr gk gh gm hs ms) (n : Nat) : VW w (wr.drewN n) gk gh gm hs ms := ⟨below_drewN h.below n, h.res, h.ks, h.ch, h.row, h.o1, h.o2, h.o3, h.o4⟩
theorem VW.alloc (h : VW w wr gk gh gm hs ms) (o : Obj) : VW w (wr.alloc o) gk gh gm hs ms :=
  ⟨h.below.alloc h.below.size o, h.res.alloc o, h.ks.alloc o, h.ch.alloc o, h.row.on ((Below.refl _ _).alloc (Nat.le_refl _) o), h.o1, h.o2, h.o3, by have := h.o4; simp; omega⟩
/-- Another block, newer than all these. -/
theorem VW.but (h : VW w wr gk gh gm hs ms) {g : Nat} (hb : But g wr wr') (hg : gm < g) : VW w wr' gk gh gm hs ms := by
  have h1 := h.o1
  have h2 := h.o2
  have h3 := h.o3
  exact ⟨h.below.trans (hb.below (by omega) h.below.size), h.res.but hb (by omega), h.ks.but hb (by omega), h.ch.but hb (by omega), h.row.but hb (fun _ p hp => by cases hp; show gm ≠ g; omega), h1, h2, h3, Nat.lt_of_lt_of_le h.o4 hb.size⟩
end
end Go.Proofs.YtoggkhjaghkpnaaDoor
namespace Go.Proofs.YtoggkhjaghkpnaaDoor
open Go.RowKit
end Go.Proofs.YtoggkhjaghkpnaaDoor
namespace Go.Proofs.YtoggkhjaghkpnaaDoor
open Go.RowKit
end Go.Proofs.YtoggkhjaghkpnaaDoor
namespace Go.Proofs.YtoggkhjaghkpnaaDoor
open Go.RowKit
theorem wideStart_tab : (Rows.laid_fellowship_shawide_start : DataW Unit) = Lib.tabData .u64 (widStart.list.map fun x => (x.toNat : Int)) := by rfl
theorem wideRounds_tab : (Rows.laid_fellowship_shawide_rounds : DataW Unit) = Lib.tabData .u64 (widK.map fun x => (x.toNat : Int)) := by rfl
theorem tab_range64 {W : World} {name : String} {g : Nat} {cs : Array Value} (l : List (BitVec 64)) (hg : Tryd.prog.globalNamed name = some g) (hv : W.var? Tryd.prog name = some cs) (hc : cs.toList = (l.map fun x => (x.toNat : Int)).map fun z => Value.int .u64 z) : W.rangeAt g 0 (l.map vcell) := by
  intro j v hj
  have h := World.var?_cell hg hv j
  have e : cs[j]? = some v := by
    rw [← Array.getElem?_toList, hc, List.map_map]
    exact hj
  rw [e] at h
  simpa using h
theorem tabsW_of {W : World} {ps : List MemPlace} (h : DataW.LaidVars Tryd.prog W [("fellowship/shawide.start", Rows.laid_fellowship_shawide_start), ("fellowship/shawide.rounds", Rows.laid_fellowship_shawide_rounds)] ps) : TabsW W := by
  obtain ⟨g2, t2, cs2, f2, p2, q2, hg2, ht2, hv2, hd2, hq2, rfl⟩ := h
  obtain ⟨g3, t3, cs3, f3, p3, q3, hg3, ht3, hv3, hd3, _, rfl⟩ := hq2
  obtain rfl : 2 = g2 := Option.some.inj ((show Tryd.prog.globalNamed "fellowship/shawide.start" = some 2 by kernel_rfl).symm.trans hg2)
  obtain rfl : 3 = g3 := Option.some.inj ((show Tryd.prog.globalNamed "fellowship/shawide.rounds" = some 3 by kernel_rfl).symm.trans hg3)
  obtain rfl : 84 = t2 := Option.some.inj ((show (Tryd.prog.globals[2]?).map (·.type) = some 84 by kernel_rfl).symm.trans ht2)
  obtain rfl : 113 = t3 := Option.some.inj ((show (Tryd.prog.globals[3]?).map (·.type) = some 113 by kernel_rfl).symm.trans ht3)
  rw [wideStart_tab] at hd2
  rw [wideRounds_tab] at hd3
  have c2 := Lib.cells_of_tab Tryd.underlying84 Tryd.underlying40 (by kernel_rfl) (by kernel_rfl) hd2
  have c3 := Lib.cells_of_tab Tryd.underlying113 Tryd.underlying40 (by kernel_rfl) (by kernel_rfl) hd3
  exact ⟨tab_range64 widStart.list hg2 hv2 c2, tab_range64 widK hg3 hv3 c3⟩
end Go.Proofs.YtoggkhjaghkpnaaDoor
