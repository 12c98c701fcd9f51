/- append onto a row of bytes that the call itself has made; the walks of the verifier's Bytes and Kept, and of the document's own Mix. -/
import Derived.Test.YtmhelmmonkgmmaaDoorWMix
import Derived.Laws.AppendOwnNone
import Derived.Deep.AppendLies
import Derived.Maps.AppendAt
namespace Go.Proofs.YtmhelmmonkgmmaaDoor
open Go.RowKit
/-- The slice v is a row of the call's own (blocks from base on) that begins with these bytes. -/
def Owns (w : World) (base : Nat) (v : Value) (bs : List UInt8) : Prop := w.ownsRow base 5 1 v bs.length (bs.map cellOf)
section
variable {w w' : World} {base : Nat} {v : Value} {bs : List UInt8}
theorem Owns.kept_alloc (h : Owns w base v bs) (o : Obj) : Owns (w.alloc o) base v bs := World.ownsRow.alloc h o
theorem Owns.drewN (h : Owns w base v bs) (n : Nat) : Owns (w.drewN n) base v bs := h
theorem Owns.drew (h : Owns w base v bs) : Owns w.drew base v bs := h
theorem Owns.made (w : World) (c : Nat) (hb : base ≤ w.heap.size) (hc : c ≤ 1000000) : Owns (w.alloc (.cells (rowCells (List.replicate c 0)) 5)) base (.slice (some ⟨w.heap.size, 0, none⟩) 0 c) [] :=
  World.ownsRow_made w _ c hb (by simp only [maxLen]; omega) (by simp [rowCells])
theorem Owns.lit (w : World) (bs : List UInt8) (hb : base ≤ w.heap.size) (hc : bs.length ≤ 1000000) : Owns (w.alloc (.cells (rowCells bs) 5)) base (.slice (some ⟨w.heap.size, 0, none⟩) bs.length bs.length) bs := by
  have h := World.ownsRow_lit (base := base) (e := 5) (size := 1) w (rowCells bs) bs.length hb (by simp only [maxLen]; omega) (by simp [rowCells])
  simp only [rowCells] at h ⊢
  exact h
theorem Owns.form (h : Owns w base v bs) : ∃ A c, v = .slice A bs.length c ∧ bs.length ≤ c ∧ (A = none → c = 0) ∧ Row w w.heap.size A bs := by
  rcases h.2 with ⟨rfl, hn⟩ | ⟨g, cap, cur, rfl, hb, hg, hnc, _⟩
  · have : bs = [] := List.eq_nil_of_length_eq_zero hn
    subst this
    exact ⟨none, 0, rfl, Nat.le_refl _, fun _ => rfl, .inl rfl⟩
  · refine ⟨_, cap, rfl, hnc, (fun h => by cases h), .inr ⟨g, 0, rfl, (World.ownsRow.lt h g rfl).2, fun j u hu => ?_⟩⟩
    have := World.ownsRow.cells h (g := g) rfl j (cellOf u) (by rw [List.getElem?_map, hu]; rfl)
    rwa [Go.WideShapes.add_plain] at this
theorem Owns.form_pos (h : Owns w base v bs) (hp : 0 < bs.length) : ∃ g c, v = .slice (some ⟨g, 0, none⟩) bs.length c ∧ bs.length ≤ c ∧ c ≤ maxLen ∧ base ≤ g ∧ Row w w.heap.size (some ⟨g, 0, none⟩) bs := by
  rcases h.2 with ⟨rfl, hn⟩ | ⟨g, cap, cur, rfl, hb, hg, hnc, hcm, _⟩
  · omega
  · refine ⟨g, cap, rfl, hnc, hcm, hb, .inr ⟨g, 0, rfl, (World.ownsRow.lt h g rfl).2, fun j u hu => ?_⟩⟩
    have := World.ownsRow.cells h (g := g) rfl j (cellOf u) (by rw [List.getElem?_map, hu]; rfl)
    rwa [Go.WideShapes.add_plain] at this
theorem Owns.far (h : Owns w base v bs) : ∀ k, v.ownBlock = some k → base ≤ k := fun k hk => (World.ownsRow.lt h k hk).1
end
/-- 'append(out, b...)', b a row of bytes. -/
theorem append_row {w : World} {ops : Array Oper} {rest : List Oper} {o : Oper} {a : Act} {Q : Exit → Act → World → Prop} (hgd : o.guard = none) (s x : Operand)
    (ho : o.op = .call { callee := .builtin .append, args := #[s, x], argTypes := #[22, 22] }) (base : Nat)
    (v : Value) (bs us : List UInt8) (B : Nat) (A : Option Addr) (c : Nat) (hs : a.eval s = v) (hown : Owns w base v bs) (hx : a.eval x = .slice A us.length c) (hA : A = none → c = 0) (hr : Row w B A us)
    (hlen : bs.length + us.length ≤ 1000000) (hbase : base ≤ w.heap.size)
    (h : ∀ v' w', Owns w' base v' (bs ++ us) → Below base w w' → wpList Tryd.prog ops Q rest (a.put o.dst v') w') : wpList Tryd.prog ops Q (o :: rest) a w := by
  obtain ⟨i0, hi0, hz0, hz1, hz2⟩ := info_parts u8_info
  rcases A with _ | ad
  · have : us = [] := by
      rcases hr with h | ⟨_, _, h, _⟩
      · exact h
      · cases h
    subst this
    rw [hA rfl] at hx
    exact wpList_append_own_none hgd s x 22 ho base 5 i0 1 Tryd.underlying22 hi0 v bs.length (bs.map cellOf) hs hown hx (h v w (by simpa using hown) (Below.refl _ _))
  · refine wpList_append_own w hgd s x 22 ho base 5 i0 _ 1 1 Tryd.underlying22 hi0 hz0 hz1 hz2 rfl (by omega) v bs.length (bs.map cellOf) hs hown ad us.length c (us.map cellOf) hx (by simp) ?_ ?_ (by simp only [maxLen]; omega) (by omega) hbase ?_
    · intro j u hu
      rw [List.getElem?_map] at hu
      cases hj : us[j]? with
      | none => rw [hj] at hu; cases hu
      | some q =>
        rw [hj] at hu
        rcases hr with rfl | ⟨b, off, hb1, _, hc⟩
        · simp at hj
        · cases hb1
          rw [Go.WideShapes.add_plain, hc j q hj]
          exact hu
    · intro u hu
      obtain ⟨q, _, rfl⟩ := List.mem_map.1 hu
      rfl
    · intro v' w' h2 h3 _
      refine h v' w' ?_ ((Below.refl _ _).grown h3 hbase (fun k hk => hown.far k hk))
      unfold Owns
      simpa using h2
/-- The verifier's marks behind a copy. -/
def marks : List UInt8 := [201, 202, 203, 204, 205, 206]
/-- What 'Bytes' answers: a copy of these bytes in a new row, with the marks behind it. -/
def Copied (w : World) (bs : List UInt8) (e : Ending) (w' : World) : Prop :=
  ∃ g cap, e = .returned (.slice (some ⟨g, 0, none⟩) bs.length cap) ∧ bs.length + 6 ≤ cap ∧ cap ≤ maxLen ∧ w.heap.size ≤ g ∧ Row w' w'.heap.size (some ⟨g, 0, none⟩) (bs ++ marks) ∧ Below w.heap.size w w'
set_option maxRecDepth 100000 in
theorem bytes_any (A : Option Addr) (c : Nat) (bs : List UInt8) (w : World) (hr : Row w w.heap.size A bs) (hA : A = none → c = 0) (hn : bs.length ≤ 100000) :
    Calls Tryd.prog 7 #[.slice A bs.length c] w (Copied w bs) := by
  have hmk := make_bytes 0 (bs.length + 6) (by omega) (by omega)
  have e1 : ((bs.length + 6 : Nat) : Int) = (bs.length : Int) + 6 := by omega
  have e0 : ((0 : Nat) : Int) = 0 := rfl
  rw [e1, e0] at hmk
  clear e1 e0
  go_enter Tryd.func7, Tryd.ntmps7
  have hM : ∀ W : World, Row (W.alloc (.cells #[.int .u8 201, .int .u8 202, .int .u8 203, .int .u8 204, .int .u8 205, .int .u8 206] 5)) (W.heap.size + 1) (some ⟨W.heap.size, 0, none⟩) marks := fun W =>
    (Made.new W marks).row (by omega)
  have HM := Lib.hid hM
  clear hM
  go_wp2_with (first
    | (at_builtin
       refine append_row rfl (.tmp 7) (.tmp 8) rfl w.heap.size _ [] bs w.heap.size A c rfl (Owns.made w (bs.length + 6) (Nat.le_refl _) (by omega)) rfl hA (hr.below ((Below.refl _ _).alloc (Nat.le_refl _) _)) (by simp; omega) (by simp) ?_
       intro v1 w1 hown1 hB1)
    | (at_builtin
       refine append_row rfl (.tmp 9) (.tmp 10) rfl w.heap.size _ ([] ++ bs) marks (w1.heap.size + 1) (some ⟨w1.heap.size, 0, none⟩) 6 rfl (hown1.kept_alloc _) rfl (fun h => by cases h) (HM.out w1) (by simp [marks]; omega) ?_ ?_
       · have := hB1.size; simp at this ⊢; omega
       intro v2 w2 hown2 hB2
       obtain ⟨g, cap, hv, hc1, hc2, hg, hrow⟩ := hown2.form_pos (by simp [marks])
       subst hv
       have hc3 : bs.length + 6 ≤ cap := by simpa [marks] using hc1))
  go_ret
  have hB3 : Below w.heap.size w w1 := ((Below.refl _ _).alloc (Nat.le_refl _) _).trans hB1
  exact ⟨g, cap, rfl, hc3, hc2, hg, by simpa using hrow, (hB3.alloc hB3.size _).trans hB2⟩
set_option maxRecDepth 100000 in
theorem kept_any (A : Option Addr) (g cap c : Nat) (bs : List UInt8) (w : World) (hr : Row w w.heap.size (some ⟨g, 0, none⟩) (bs ++ marks)) (hw : Row w w.heap.size A bs) (hc1 : bs.length + 6 ≤ cap) (hc2 : cap ≤ maxLen) (hn : bs.length ≤ 100000) :
    Calls Tryd.prog 11 #[.slice (some ⟨g, 0, none⟩) bs.length cap, .slice A bs.length c] w fun e w' => e = .returned (.bool true) ∧ ∃ n, w' = w.drewN n := by
  unfold maxLen at hc2
  have k1 := fun n => ((hr.take bs.length).drewN n).conv (P := Tryd.prog) cap Tryd.underlying22 Tryd.underlying5 Tryd.underlying9
  rw [List.take_left' rfl] at k1
  have k2 := fun n => (hw.drewN n).conv (P := Tryd.prog) c Tryd.underlying22 Tryd.underlying5 Tryd.underlying9
  have g1 : decide ((cap : Int) < (bs.length : Int) + 6) = false := by simp; omega
  go_enter Tryd.func11, Tryd.ntmps11
  have mk : ∀ k : Nat, k < 6 → w.cell? ⟨g, bs.length + k, none⟩ = some (.int .u8 ((201 : Int) + k)) := by
    intro k hk
    rcases hr with h | ⟨b, off, h, _, hc⟩
    · simp [marks] at h
    · cases h
      have h2 := hc (bs.length + k) (UInt8.ofNat (201 + k)) (by
        rw [List.getElem?_append_right (by omega), Nat.add_sub_cancel_left]
        match k, hk with
        | 0, _ => rfl
        | 1, _ => rfl
        | 2, _ => rfl
        | 3, _ => rfl
        | 4, _ => rfl
        | 5, _ => rfl)
      rw [Nat.zero_add] at h2
      have e : (UInt8.ofNat (201 + k)).toNat = 201 + k := by rw [UInt8.toNat_ofNat']; omega
      rw [h2]
      simp only [cellOf, e]
      congr 2
  have MK := Lib.hid mk
  clear mk
  go_wp2
  go_quiet (fail)
  go_wp2
  go_loop [6] (fun i => ∃ k : Nat, k ≤ 6 ∧ i = .int .i64 k) (fun i => 6 - (intOf i).toNat)
  case atStart => exact ⟨0, by omega, rfl⟩
  case round =>
    obtain ⟨k, hk, rfl⟩ := hrel
    by_cases hlt : k < 6
    · have hc := MK.out k hlt
      have w1 : IntKind.u8.wrap (201 + (k : Int)) = 201 + (k : Int) := by rw [IntKind.wrap_u8']; omega
      have i1 : (0 : Int) ≤ (bs.length : Int) + k := by omega
      have i2 : (bs.length : Int) + (k : Int) < (cap : Int) := by omega
      have i3 : ((bs.length : Int) + k).toNat = bs.length + k := by omega
      go_wp2
      go_round
      case rel => exact ⟨k + 1, by omega, by go_num⟩
      case measure => simp [intOf]; omega
    · go_wp2
      go_ret
      exact ⟨rfl, _, rfl⟩
/-- What a call answers that makes a row of these bytes. -/
def GivesRow (w : World) (bs : List UInt8) (e : Ending) (w' : World) : Prop :=
  ∃ A c, e = .returned (.slice A bs.length c) ∧ (A = none → c = 0) ∧ Below w.heap.size w w' ∧ Row w' w'.heap.size A bs
/- The same contracts, the length a letter of its own. -/
def CopiedN (w : World) (bs : List UInt8) (n : Nat) (e : Ending) (w' : World) : Prop :=
  ∃ g cap, e = .returned (.slice (some ⟨g, 0, none⟩) n cap) ∧ n + 6 ≤ cap ∧ cap ≤ maxLen ∧ w.heap.size ≤ g ∧ Row w' w'.heap.size (some ⟨g, 0, none⟩) (bs ++ marks) ∧ Below w.heap.size w w'
def GivesRowN (w : World) (bs : List UInt8) (n : Nat) (e : Ending) (w' : World) : Prop :=
  ∃ A c, e = .returned (.slice A n c) ∧ (A = none → c = 0) ∧ Below w.heap.size w w' ∧ Row w' w'.heap.size A bs
section
variable {A B : Option Addr} {c d n : Nat} {xs ys : List UInt8} {w : World}
theorem bytes_n (hx : xs.length = n) (hr : Row w w.heap.size A xs) (hA : A = none → c = 0) (hn : n ≤ 100000) : Calls Tryd.prog 7 #[.slice A n c] w (CopiedN w xs n) := by
  subst hx; exact bytes_any A c xs w hr hA hn
theorem kept_n {g cap : Nat} (hx : xs.length = n) (hr : Row w w.heap.size (some ⟨g, 0, none⟩) (xs ++ marks)) (hw : Row w w.heap.size A xs) (hc1 : n + 6 ≤ cap) (hc2 : cap ≤ maxLen) (hn : n ≤ 100000) :
    Calls Tryd.prog 11 #[.slice (some ⟨g, 0, none⟩) n cap, .slice A n c] w fun e w' => e = .returned (.bool true) ∧ ∃ n, w' = w.drewN n := by
  subst hx; exact kept_any A g cap c xs w hr hw hc1 hc2 hn
/-- 'string(b)' in every world in which nothing old has turned. -/
theorem conv_n (hx : xs.length = n) (h : Row w w.heap.size A xs) (c : Nat) : ∀ w' : World, Below w.heap.size w w' → (convert 22 9 (.slice A n c)).run Tryd.prog w' = .ok (.string (str xs)) w' := by
  subst hx
  exact fun _ hb => (h.below hb).conv c Tryd.underlying22 Tryd.underlying5 Tryd.underlying9
end
theorem Row.head {w : World} {B : Nat} {A : Option Addr} {xs ys : List UInt8} (h : Row w B A (xs ++ ys)) : Row w B A xs := by
  have h := h.take xs.length
  rwa [List.take_left' rfl] at h
end Go.Proofs.YtmhelmmonkgmmaaDoor
