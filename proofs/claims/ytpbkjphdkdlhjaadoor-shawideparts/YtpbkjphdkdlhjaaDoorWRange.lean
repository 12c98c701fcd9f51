/- A range over a function whose loop body never leaves, over an iterator that may keep cells of its own. No program is named here. -/
import Derived.Test.YtpbkjphdkdlhjaaDoorWCells
import Derived.RangeFuncKeeps
import Derived.RangeFuncCalls
import Derived.RangeFuncLeaves
import Derived.TacticsInMore
namespace Go.Proofs.YtpbkjphdkdlhjaaDoor
open Go.RowKit
/-- Of all blocks that there were only those may have turned of which T holds. -/
structure Turns (T : Nat → Prop) (w w' : World) : Prop where
  os : w'.os = w.os
  tape : w'.tape = w.tape
  output : w'.output = w.output
  size : w.heap.size ≤ w'.heap.size
  block : ∀ k, k < w.heap.size → ¬ T k → w'.heap[k]? = w.heap[k]?
theorem Turns.refl (T : Nat → Prop) (w : World) : Turns T w w := ⟨rfl, rfl, rfl, Nat.le_refl _, fun _ _ _ => rfl⟩
theorem Turns.trans {T : Nat → Prop} {a b c : World} (h : Turns T a b) (k : Turns T b c) : Turns T a c :=
  ⟨k.os.trans h.os, k.tape.trans h.tape, k.output.trans h.output, Nat.le_trans h.size k.size, fun i hi ht => (k.block i (Nat.lt_of_lt_of_le hi h.size) ht).trans (h.block i hi ht)⟩
theorem Turns.mono {T S : Nat → Prop} {a b : World} (h : Turns T a b) (hs : ∀ k, T k → S k) : Turns S a b := ⟨h.os, h.tape, h.output, h.size, fun k hk ht => h.block k hk fun t => ht (hs k t)⟩
theorem Turns.of_below {T : Nat → Prop} {a b : World} (h : Below a.heap.size a b) : Turns T a b := ⟨h.os, h.tape, h.output, h.size, fun k hk _ => h.block k hk⟩
theorem Turns.of_but {T : Nat → Prop} {a b : World} {g : Nat} (h : But g a b) (hg : T g) : Turns T a b := ⟨h.os, h.tape, h.output, h.size, fun k hk ht => h.block k hk fun e => ht (e ▸ hg)⟩
theorem Turns.below {T : Nat → Prop} {a b : World} {B : Nat} (h : Turns T a b) (hB : B ≤ a.heap.size) (hT : ∀ k, T k → B ≤ k) : Below B a b :=
  ⟨h.os, h.tape, h.output, h.size, fun k hk => h.block k (Nat.lt_of_lt_of_le hk hB) fun t => absurd (hT k t) (by omega)⟩
theorem turns_putObj (w : World) (l : Nat) (o : Obj) : Turns (· = l) w (w.putObj l o) := ⟨rfl, rfl, rfl, by simp, fun _ _ hk => World.putObj_heap_other hk⟩
theorem Cells.turns {T : Nat → Prop} {w w' : World} {g : Nat} {vs : List Value} {t : TypeId} (h : Cells w g vs t) (ht : Turns T w w') (hg : ¬ T g) : Cells w' g vs t := (ht.block g h.lt hg).trans h
section
variable {P : Program} {o : Oper} {a : Act} {Q : Exit → Act → World → Prop} {l : Nat}
theorem upon_in {next next' : Act → World → Prop} (hn : ∀ a w, next a w → next' a w) (r : Result Next) (h : o.upon P a next Q r) : o.uponIn (Fence.wide.inRound l) 0 P a next' Q r := by
  cases r with
  | ok x w' =>
    cases x with
    | value v => exact hn _ _ h
    | skip => exact hn _ _ h
    | defer d => exact hn _ _ h
    | enter f args =>
      refine ⟨(fun h => by cases h), CallsIn.inRound l (callsIn_wide.2 (Calls.mono h ?_))⟩
      intro e w1 he
      cases e with
      | returned v => exact hn _ _ he
      | panicked c => exact he
      | outgrown => exact he
    | row r args => exact ⟨(fun h => by cases h), fun c cs _ => let ⟨v, w', r, s⟩ := h c cs; ⟨v, w', hn _ _ r, stepsIn_wide.2 s⟩⟩
    | round l f tmps assign body => exact h.elim
    | _ => exact h.elim
  | halt x w' =>
    cases x with
    | panic v => exact h
    | _ => exact h.elim
/-- A step that the plain walk makes is made behind the wide fence too. -/
theorem one_in {ops : Array Oper} {rest : List Oper} {w w' : World} {a' : Act} (hgd : o.guard = none) (h : ∀ Q0 : Exit → Act → World → Prop, Q0 .normal a' w' → wpList P ops Q0 [o] a w) (h2 : wpListIn Fence.wide 0 P ops Q rest a' w') : wpListIn Fence.wide 0 P ops Q (o :: rest) a w := by
  refine wpListIn_plain hgd fun K hK => ⟨fun _ _ => trivial, ?_⟩
  have h1 := h (fun e a'' w'' => e = .normal ∧ a'' = a' ∧ w'' = w') ⟨rfl, rfl, rfl⟩
  unfold wpList at h1
  rw [if_pos (by simp [Region.wanted, hgd])] at h1
  rcases h1 with h1 | ⟨_, _, _, h1, _⟩
  · have hn : ∀ a'' w'', wpList P ops (fun e a'' w'' => e = .normal ∧ a'' = a' ∧ w'' = w') [] a'' w'' → K a'' w'' := fun a'' w'' hh => by
      obtain ⟨_, rfl, rfl⟩ := hh
      exact hK _ _ h2
    unfold Oper.wp at h1
    show o.uponIn Fence.wide 0 P a K Q ((execOp a.eval o).run P w)
    revert h1
    generalize (execOp a.eval o).run P w = r
    intro h1
    cases r with
    | ok x w1 =>
      cases x with
      | value v => exact hn _ _ h1
      | skip => exact hn _ _ h1
      | defer d => exact hn _ _ h1
      | enter f args =>
        refine ⟨(fun h => by cases h), callsIn_wide.2 (Calls.mono h1 ?_)⟩
        intro e w1 he
        cases e with
        | returned v => exact hn _ _ he
        | panicked c => cases he.1
        | outgrown =>
          obtain ⟨_, _, he, _⟩ := he
          cases he
      | row r args => exact ⟨(fun h => by cases h), fun c cs _ => let ⟨v, w', r, s⟩ := h1 c cs; ⟨v, w', hn _ _ r, stepsIn_wide.2 s⟩⟩
      | round l f tmps assign body => exact h1.elim
      | _ => exact h1.elim
    | halt x w1 =>
      cases x with
      | panic v => cases h1.1
      | _ => exact h1.elim
  · cases h1
/-- In a round's frame operations that defer nothing go as everywhere. -/
theorem list_in {ops : Array Oper} (hQ : ¬ LetsOut Q) : ∀ (rest : List Oper) (a : Act) (w : World), (∀ o ∈ rest, ∀ c, o.op ≠ .defer c) → wpList P ops Q rest a w → wpListIn (Fence.wide.inRound l) 0 P ops Q rest a w
  | [], _, _, _, h => h
  | o :: rest, a, w, hd, h => by
    unfold wpList at h
    unfold wpListIn
    split at h
    · next hw =>
      rw [if_pos hw]
      rcases h with h | h
      · refine ⟨fun _ _ => trivial, ?_⟩
        rw [show (Fence.wide.inRound l).round = some l from rfl, Oper.semAt_some l _ _ (hd o List.mem_cons_self)]
        exact upon_in (fun a w hh => list_in hQ rest a w (fun o ho => hd o (List.mem_cons_of_mem _ ho)) hh) _ h
      · exact absurd h.2 hQ
    · next hw =>
      rw [if_neg hw]
      exact ⟨fun _ _ => trivial, list_in hQ rest _ w (fun o ho => hd o (List.mem_cons_of_mem _ ho)) h⟩
theorem region_in {id : Nat} {ops : List Oper} {w : World} (hQ : ¬ LetsOut Q) (hd : ∀ o ∈ ops, ∀ c, o.op ≠ .defer c) (h : wpList P ops.toArray Q ops a w) : (Code.region id ops.toArray false).wpIn (Fence.wide.inRound l) 0 P Q a w :=
  wpIn_region_lit (list_in hQ ops a w hd h)
theorem one_param (t : Array Value) (p : Tmp) (v : Value) : (#[p].zip #[v]).foldl (fun t (p, v) => t.setIfInBounds p v) t = t.setIfInBounds p v := by simp
/-- How the body of a round ends: it goes on. -/
def allPost (T : Nat → Prop) (I : Nat → World → Prop) (k : Nat) (W : World) : Exit → Act → World → Prop
  | .normal, _, W' => Turns T W W' ∧ I k W'
  | _, _, _ => False
theorem allPost_in (T : Nat → Prop) (I : Nat → World → Prop) (k : Nat) (W : World) : ¬ LetsOut (allPost T I k W) := fun ⟨_, _, h⟩ => h
/-- What an iterator promises that comes to N rounds: it steps from round to round, whatever the caller holds below its own blocks; a round turns what T allows, and the loop's record. -/
def SeqAll (P : Program) (gf : Nat) (lb : Array Value) (N : Nat) (arg : Nat → Array Value) (T : Nat → Prop) (w : World) : Prop :=
  ∀ (l : Nat) (J : Nat → World → Prop) (W1 : World), Below w.heap.size w W1 → w.heap.size ≤ l → l < W1.heap.size → (∀ k W W', J k W → Below W1.heap.size W W' → J k W') →
    (∀ k W, k < N → J k W → W1.heap.size ≤ W.heap.size → YieldAt Fence.wide 0 P l (arg k) W fun e W' => e = .returned (.bool true) ∧ J (k + 1) W' ∧ Turns (fun b => T b ∨ b = l) W W') → J 0 W1 →
    CallsIn Fence.wide 0 P gf (#[.func (.yield l) #[] #[]] ++ lb) W1 fun e W' => (∃ v, e = .returned v) ∧ J N W'
/-- The statement 'for x := range seq { .. }' whose body never leaves. -/
theorem wp_rangeFunc_all {g : Operand} {ps : Array Tmp} {assign body : Code} {w : World} {gf : Nat} {lb : Array Value} (hg : a.eval g = .func (.func gf) #[] lb) (eg : ∀ args w, (callFunc gf args).run P w = .ok (.enter gf args) w)
    {N : Nat} {arg : Nat → Array Value} {T : Nat → Prop} (hseq : SeqAll P gf lb N arg T w) (hps : ∀ k, (arg k).size = ps.size) (hT : ∀ k, T k → k < w.heap.size)
    (I : Nat → World → Prop) (hI : ∀ k W W', I k W → Below w.heap.size W W' → I k W') (h0 : I 0 w)
    (hround : ∀ (l k : Nat) (W : World), k < N → w.heap.size ≤ l → l < W.heap.size → I k W →
      assign.wpIn (Fence.wide.inRound l) 0 P (Exit.then (fun a₁ W₁ => Below W.heap.size W W₁ ∧ ∀ W₂, Turns (· = l) W₁ W₂ → I k W₂ → body.wpIn (Fence.wide.inRound l) 0 P (allPost T I (k + 1) W₂) a₁ W₂) (fun _ _ _ => False))
        { tmps := (ps.zip (arg k)).foldl (fun t (p, v) => t.setIfInBounds p v) a.tmps, defers := [] } W)
    (hdone : ∀ W, I N W → w.heap.size < W.heap.size → W.heap[w.heap.size]? = some (.deferred (some [])) → Q .normal { a with defers := { target := .collected w.heap.size, args := #[] } :: a.defers } W) :
    (Code.rangeFunc g ps assign body).wp P Q a w := by
  refine (wpIn_wide (n := 0)).1 (wpIn_rangeFunc ?_)
  intro fn hfn
  show ∃ _ _ _ _ _ _ _ _, (Instr.enterLoop fn a.tmps ps assign body none).run P w = _ ∧ _
  obtain ⟨rec, hrec⟩ : ∃ rec : LoopState → Option Code → Loop, rec = fun st pe => { state := st, pending := pe, fn, tmps := a.tmps, params := ps, assign, body, defers := w.heap.size } := ⟨_, rfl⟩
  obtain ⟨W1, hW1⟩ : ∃ W1, (w.alloc (.deferred (some []))).alloc (.loop (rec .ready none)) = W1 := ⟨_, rfl⟩
  have hb1 : Below w.heap.size w W1 := by rw [← hW1]; exact ((Below.refl _ w).alloc (Nat.le_refl _) _).alloc (by simp) _
  have hs1 : W1.heap.size = w.heap.size + 2 := by rw [← hW1]; simp
  have hL1 : W1.heap[w.heap.size + 1]? = some (.loop (rec .ready none)) := by
    rw [← hW1]; have := World.alloc_heap_new (w.alloc (.deferred (some []))) (.loop (rec .ready none)); rwa [World.size_alloc] at this
  have hK1 : W1.heap[w.heap.size]? = some (.deferred (some [])) := by
    rw [← hW1]; exact (Below.heap_alloc _ _ _ (by simp)).trans (World.alloc_heap_new w _)
  refine ⟨w.heap.size + 1, [{ target := .collected w.heap.size, args := #[] }], W1, { target := .fn (.func gf) lb, args := #[.func (.yield (w.heap.size + 1)) #[] #[]] }, W1, gf,
    #[.func (.yield (w.heap.size + 1)) #[] #[]] ++ lb, W1, ?_, ?_, fun _ _ => trivial, ?_, (fun h => by cases h), ?_⟩
  · rw [← hW1, hrec]; exact run_enterLoop_outer _ _ _ _ _
  · simp only [resolve, hg]
    simp [go_sem]
  · simp [invoke, go_sem, eg]
  refine (hseq (w.heap.size + 1) (fun k W => I k W ∧ W1.heap.size ≤ W.heap.size ∧ W.heap[w.heap.size + 1]? = some (.loop (rec .ready none)) ∧ W.heap[w.heap.size]? = some (.deferred (some []))) W1 hb1 (by omega) (by omega)
    (fun k W W' h hb => ⟨hI k W W' h.1 (hb.mono (by omega)), Nat.le_trans h.2.1 hb.size, (hb.block _ (by omega)).trans h.2.2.1, (hb.block _ (by omega)).trans h.2.2.2⟩) ?_ ⟨hI 0 w W1 h0 hb1, Nat.le_refl _, hL1, hK1⟩).mono ?_
  · rintro k W hk ⟨hi, hsz, hl, hd⟩ _
    have hlt : w.heap.size + 1 < W.heap.size := heap_lt hl
    have hy := run_yield (P := P) (args := arg k) hl (by rw [hrec]; exact hps k)
    rw [hrec] at hy
    refine ⟨fn, _, assign, body, hy, roundIn_of_wpIn hfn (wpIn_mono (hround (w.heap.size + 1) k W hk (by omega) hlt hi) ?_)⟩
    intro e a₁ W₁ he
    cases e with
    | normal =>
      obtain ⟨hbW, hbody⟩ := he
      have hl1 : W₁.heap[w.heap.size + 1]? = some (.loop (rec .ready none)) := (hbW.block _ hlt).trans hl
      have hd1 : W₁.heap[w.heap.size]? = some (.deferred (some [])) := (hbW.block _ (by omega)).trans hd
      have hlt1 : w.heap.size + 1 < W₁.heap.size := heap_lt hl1
      refine ⟨_, run_beginRound hl1 (by rw [hrec]), ?_⟩
      have ht2 := turns_putObj W₁ (w.heap.size + 1) (.loop { rec .ready none with state := .busy })
      have hl2 : (W₁.putObj (w.heap.size + 1) (.loop { rec .ready none with state := .busy })).heap[w.heap.size + 1]? = some (.loop { rec .ready none with state := .busy }) := World.putObj_heap_same hlt1
      have hd2 : (W₁.putObj (w.heap.size + 1) (.loop { rec .ready none with state := .busy })).heap[w.heap.size]? = some (.deferred (some [])) := (World.putObj_heap_other (by omega)).trans hd1
      have hi2 : I k (W₁.putObj (w.heap.size + 1) (.loop { rec .ready none with state := .busy })) :=
        hI k _ _ (hI k W W₁ hi (hbW.mono (by omega))) (ht2.below (by omega) (fun j e => by omega))
      refine wpIn_mono (hbody _ ht2 hi2) ?_
      generalize W₁.putObj (w.heap.size + 1) (.loop { rec .ready none with state := .busy }) = W₂ at *
      intro e a₃ W₃ hp
      cases e with
      | normal =>
        obtain ⟨ht3, hi3⟩ := hp
        have hnl : ¬ T (w.heap.size + 1) := fun h => absurd (hT _ h) (by omega)
        have hnd : ¬ T w.heap.size := fun h => absurd (hT _ h) (by omega)
        have hl3 := (ht3.block _ (heap_lt hl2) hnl).trans hl2
        have hd3 := (ht3.block _ (heap_lt hd2) hnd).trans hd2
        have hend := run_endRound (P := P) none hl3
        have ht4 := turns_putObj W₃ (w.heap.size + 1) (.loop (rec .ready none))
        have hlt3 := heap_lt hl3
        refine ⟨_, _, hend, rfl, ⟨?_, ?_, ?_, ?_⟩, ?_⟩
        · have := hI (k + 1) _ _ hi3 (ht4.below (B := w.heap.size) (by omega) (fun j e => by omega))
          rw [hrec] at this ⊢
          exact this
        · have h1 := hbW.size
          have h2 := ht2.size
          have h3 := ht3.size
          rw [World.putObj_size]
          omega
        · rw [World.putObj_heap_same hlt3, hrec]
          rfl
        · exact (World.putObj_heap_other (by omega)).trans hd3
        · have t1 : Turns (fun b => T b ∨ b = w.heap.size + 1) W W₁ := Turns.of_below hbW
          have t2 : Turns (fun b => T b ∨ b = w.heap.size + 1) W₁ W₂ := ht2.mono fun _ e => .inr e
          have t3 : Turns (fun b => T b ∨ b = w.heap.size + 1) W₂ W₃ := ht3.mono fun _ e => .inl e
          exact ((t1.trans t2).trans t3).trans ((turns_putObj W₃ (w.heap.size + 1) _).mono fun _ e => .inr e)
      | exit id => exact hp.elim
      | goto t => exact hp.elim
      | ret => exact hp.elim
      | panic ch => exact hp.elim
      | outgrown => exact hp.elim
    | exit id => exact he.elim
    | goto t => exact he.elim
    | ret => exact he.elim
    | panic ch => exact he.elim
    | outgrown => exact he.elim
  · rintro e W2 ⟨⟨v, rfl⟩, hi, hsz, hl, hd⟩
    have hlt := heap_lt hl
    refine ⟨none, _, by have := run_endLoop (P := P) hl (by rw [hrec]; simp); rw [hrec] at this; exact this, hdone _ (hI N _ _ hi ((turns_putObj W2 (w.heap.size + 1) _).below (by omega) (fun j e => by omega))) (by rw [World.putObj_size]; omega) ((World.putObj_heap_other (by omega)).trans hd)⟩
end
end Go.Proofs.YtpbkjphdkdlhjaaDoor
