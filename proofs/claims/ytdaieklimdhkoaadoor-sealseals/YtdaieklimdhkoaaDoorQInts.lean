/- Rows of ints: what layer 7's document reckons with. -/
import Derived.Test.YtdaieklimdhkoaaDoorPart5
import Derived.Test.YtdaieklimdhkoaaDoorPart3
import Derived.Deep.WholeRow
import Derived.Test.YtdaieklimdhkoaaDoorPart4
namespace Go.Proofs.YtdaieklimdhkoaaDoor
open Go.RowKit
/-- A digit as a cell holds it. -/
abbrev icell (x : Nat) : Value := .int .i64 (x : Int)
/-- The address A leads to these digits, in a block below B. -/
def RowI (w : World) (B : Nat) (A : Option Addr) (ds : List Nat) : Prop :=
  ds = [] ∨ ∃ b off, A = some ⟨b, off, none⟩ ∧ b < B ∧ ∀ j x, ds[j]? = some x → w.cell? ⟨b, off + j, none⟩ = some (icell x)
section
variable {w w' : World} {B B' : Nat} {A : Option Addr} {ds : List Nat}
theorem RowI.at (h : RowI w B A ds) (k : Nat) (hk : k < ds.length) : ∃ b off, A = some ⟨b, off, none⟩ ∧ b < B ∧ w.cell? ⟨b, off + k, none⟩ = some (icell (ds.getD k 0)) := by
  rcases h with rfl | ⟨b, off, hA, hb, hc⟩
  · simp at hk
  · exact ⟨b, off, hA, hb, hc k _ (by rw [List.getD_eq_getElem?_getD, List.getElem?_eq_getElem hk]; rfl)⟩
theorem RowI.more (h : RowI w B A ds) (hB : B ≤ B') : RowI w B' A ds := by
  rcases h with rfl | ⟨b, off, hA, hb, hc⟩
  · exact .inl rfl
  · exact .inr ⟨b, off, hA, by omega, hc⟩
theorem RowI.below (h : RowI w B A ds) (hb : Below B w w') : RowI w' B A ds := by
  rcases h with rfl | ⟨b, off, hA, hlt, hc⟩
  · exact .inl rfl
  · exact .inr ⟨b, off, hA, hlt, fun j u hu => (hb.cell hlt).trans (hc j u hu)⟩
theorem RowI.on (h : RowI w w.heap.size A ds) (hb : Below w.heap.size w w') : RowI w' w'.heap.size A ds := (h.below hb).more hb.size
theorem RowI.but {b : Nat} (h : RowI w B A ds) (hb : But b w w') (hB : B ≤ b) (hw : B ≤ w.heap.size) : RowI w' B A ds := by
  rcases h with rfl | ⟨b', off, hA, hlt, hc⟩
  · exact .inl rfl
  · exact .inr ⟨b', off, hA, hlt, fun j u hu => (World.cell?_of_block (w := w) (hb.block b' (by omega) (by omega))).trans (hc j u hu)⟩
theorem RowI.take (h : RowI w B A ds) (n : Nat) : RowI w B A (ds.take n) := by
  rcases h with rfl | ⟨b, off, hA, hb, hc⟩
  · exact .inl (by simp)
  · refine .inr ⟨b, off, hA, hb, fun j u hu => hc j u ?_⟩
    rw [List.getElem?_take] at hu
    split at hu
    · exact hu
    · cases hu
end
theorem size_i64 : (Tryd.prog.info? 3).map (·.size) = some 1 := by kernel_rfl
theorem i64_info : (Tryd.prog.info? 3).map (fun i => (i.zero, i.size, i.bytes)) = some (some (.int .i64 0), 1, 8) := by kernel_rfl
/-- So many digits of nought. (Named, so that a walk leaves them whole.) -/
def izeros (n : Nat) : List Value := List.replicate n (icell 0)
theorem izeros_map (n : Nat) : izeros n = (List.replicate n 0).map icell := by simp [izeros]
set_option maxRecDepth 100000 in
/-- 'make([]int, n)'. -/
theorem make_ints (n : Nat) (hn : n ≤ 1000000) (W : World) :
    (Instr.makeSlice 95 (.int .i64 (n : Int)) (.int .i64 (n : Int))).run Tryd.prog W = .ok (.slice (some ⟨W.heap.size, 0, none⟩) n n) (W.alloc (.cells (izeros n).toArray 3)) := by
  unfold izeros
  obtain ⟨i0, hi0, hz0, hz1, hz2⟩ := info_parts i64_info
  have h := run_make (P := Tryd.prog) W 95 3 i0 (.int .i64 0) Tryd.underlying95 hi0 hz0 .i64 .i64 n n (by omega) (by omega) (by rw [hz2]; omega) (by omega)
  rw [h, Int.toNat_natCast, hz1, Nat.mul_one]
  congr 3
  apply Array.ext_getElem?
  intro i
  simp only [madeCells, Value.cells]
  by_cases h : i < n
  · simp [h, Nat.mod_one]
  · simp [h]
/-- The slice v is a row of the call's own (blocks from base on) that begins with these digits. -/
def OwnsI (w : World) (base : Nat) (v : Value) (l : List Nat) : Prop := w.ownsRow base 3 1 v l.length (l.map icell)
section
variable {w w' : World} {base : Nat} {v : Value} {l : List Nat}
theorem OwnsI.lit (w : World) (l : List Nat) (hb : base ≤ w.heap.size) (hc : l.length ≤ 1000000) : OwnsI (w.alloc (.cells (l.map icell).toArray 3)) base (.slice (some ⟨w.heap.size, 0, none⟩) l.length l.length) l := by
  have h := World.ownsRow_lit (base := base) (e := 3) (size := 1) w (l.map icell).toArray l.length hb (by simp only [maxLen]; omega) (by simp)
  simp only at h ⊢
  exact h
theorem OwnsI.kept_alloc (h : OwnsI w base v l) (o : Obj) : OwnsI (w.alloc o) base v l := World.ownsRow.alloc h o
theorem OwnsI.far (h : OwnsI w base v l) : ∀ k, v.ownBlock = some k → base ≤ k := fun k hk => (World.ownsRow.lt h k hk).1
theorem OwnsI.form (h : OwnsI w base v l) : ∃ A c, v = .slice A l.length c ∧ l.length ≤ c ∧ c ≤ maxLen ∧ (A = none → c = 0) ∧ RowI w w.heap.size A l := by
  rcases h.2 with ⟨rfl, hn⟩ | ⟨g, cap, cur, rfl, hb, hg, hnc, hcm, _⟩
  · have : l = [] := List.eq_nil_of_length_eq_zero hn
    subst this
    exact ⟨none, 0, rfl, Nat.le_refl _, Nat.zero_le _, fun _ => rfl, .inl rfl⟩
  · refine ⟨_, cap, rfl, hnc, hcm, (fun h => by cases h), .inr ⟨g, 0, rfl, (World.ownsRow.lt h g rfl).2, fun j u hu => ?_⟩⟩
    have := World.ownsRow.cells h (g := g) rfl j (icell u) (by rw [List.getElem?_map, hu]; rfl)
    rwa [Go.WideShapes.add_plain] at this
/-- The row's block, known whole. -/
theorem OwnsI.cells (h : OwnsI w base v l) (hp : 0 < l.length) : ∃ g c rest, v = .slice (some ⟨g, 0, none⟩) l.length c ∧ base ≤ g ∧ l.length ≤ c ∧ c ≤ maxLen ∧ Cells w g (l.map icell ++ rest) 3 := by
  rcases h.2 with ⟨rfl, hn⟩ | ⟨g, cap, cur, rfl, hb, hg, hnc, hcm, hsz, htk⟩
  · omega
  · refine ⟨g, cap, cur.toList.drop l.length, rfl, hb, hnc, hcm, ?_⟩
    rw [Nat.mul_one] at htk
    unfold Cells
    rw [← htk, List.take_append_drop]
    exact hg
end
/-- 'append(s, us...)' of digits. -/
theorem append_ints {w : World} {ops : Array Oper} {rest : List Oper} {o : Oper} {a : Act} {Q : Exit → Act → World → Prop} (hgd : o.guard = none) (s x : Operand)
    (ho : o.op = .call { callee := .builtin .append, args := #[s, x], argTypes := #[95, 95] }) (base B : Nat)
    (v : Value) (l us : List Nat) (b off m c : Nat) (hs : a.eval s = v) (hown : OwnsI w base v l) (hx : a.eval x = .slice (some ⟨b, off, none⟩) m c) (hm : us.length = m) (hr : RowI w B (some ⟨b, off, none⟩) us)
    (hlen : l.length + us.length ≤ 1000000) (hbase : base ≤ w.heap.size)
    (h : ∀ v' w', OwnsI w' base v' (l ++ us) → Below base w w' → wpList Tryd.prog ops Q rest (a.put o.dst v') w') : wpList Tryd.prog ops Q (o :: rest) a w := by
  subst hm
  obtain ⟨i0, hi0, hz0, hz1, hz2⟩ := info_parts i64_info
  refine wpList_append_own w hgd s x 95 ho base 3 i0 _ 1 8 Tryd.underlying95 hi0 hz0 hz1 hz2 rfl (by omega) v l.length (l.map icell) hs hown ⟨b, off, none⟩ us.length c (us.map icell) hx (by simp) ?_ ?_ (by simp only [maxLen]; omega) (by omega) hbase ?_
  · intro j u hu
    rw [List.getElem?_map] at hu
    cases hj : us[j]? with
    | none => rw [hj] at hu; cases hu
    | some q =>
      rw [hj] at hu
      rcases hr with rfl | ⟨b', off', hb1, _, hc⟩
      · simp at hj
      · cases hb1
        rw [Addr.add_mid, hc j q hj]
        exact hu
  · intro u hu
    obtain ⟨q, _, rfl⟩ := List.mem_map.1 hu
    rfl
  · intro v' w' h2 h3 _
    refine h v' w' ?_ ((Below.refl _ _).grown h3 hbase (fun k hk => hown.far k hk))
    unfold OwnsI
    simpa using h2
/-- A literal's row. -/
theorem rowI_new (w : World) (l : List Nat) : RowI (w.alloc (.cells (l.map icell).toArray 3)) (w.heap.size + 1) (some ⟨w.heap.size, 0, none⟩) l := by
  refine .inr ⟨_, 0, rfl, by omega, fun j u hu => ?_⟩
  rw [Nat.zero_add]
  exact (Cells.new w (l.map icell).toArray 3).get (by simp [hu])
/-- 'a[:i]' of digits. -/
theorem slice_toI (b off n c i : Nat) (hi : i ≤ n) (hc : n ≤ c) (hp : 0 < c) (w : World) : (Instr.slice 95 (.slice (some ⟨b, off, none⟩) n c) none (some (.int .i64 (i : Int))) none).run Tryd.prog w = .ok (.slice (some ⟨b, off, none⟩) i c) w := by
  obtain ⟨i0, hi0, hs0⟩ := Option.map_eq_some_iff.1 size_i64
  have h4 : (i : Int) ≤ (c : Int) := by omega
  have h5 : ¬ c = 0 := by omega
  simp [Instr.slice, run_underlying Tryd.underlying95, Instr.sliceBounds, run_sliceBound, sizeOf, typeInfo, hi0, h4, h5, Addr.add_mid]
theorem dtrim_take (ds : List Nat) (k : Nat) (hk : k < ds.length) (h0 : ds.getD k 0 = 0) : dtrim (ds.take (k + 1)) = dtrim (ds.take k) := by
  have e : ds[k] = 0 := by rw [List.getD_eq_getElem?_getD, List.getElem?_eq_getElem hk] at h0; exact h0
  rw [take_snoc ds k hk, dtrim_snoc, if_pos e]
theorem dtrim_stop (ds : List Nat) (k : Nat) (hk : k < ds.length) (h0 : ds.getD k 0 ≠ 0) : dtrim (ds.take (k + 1)) = ds.take (k + 1) := by
  have e : ds[k] ≠ 0 := by rw [List.getD_eq_getElem?_getD, List.getElem?_eq_getElem hk] at h0; exact h0
  rw [take_snoc ds k hk, dtrim_snoc, if_neg e]
set_option maxRecDepth 100000 in
/-- The document's trim. -/
theorem trim_any (A : Option Addr) (n c : Nat) (ds rs : List Nat) (w : World) (hl : ds.length = n) (hr : RowI w w.heap.size A ds) (hc : n ≤ c) (hc2 : c ≤ maxLen) (HR : Hid (dtrim ds = rs)) :
    Calls Tryd.prog 60 #[.slice A n c] w fun e w' => e = .returned (.slice A rs.length c) ∧ w = w' ∧ RowI w w.heap.size A rs ∧ rs.length ≤ n := by
  have HL := Lib.hid hl
  clear hl
  unfold maxLen at hc2
  go_enter Tryd.func60, Tryd.ntmps60
  go_wp2_with fail
  go_loop [0] (fun v => ∃ k : Nat, k ≤ n ∧ v = .slice A k c ∧ Hid (dtrim (ds.take k) = rs)) (fun v => lenOf v)
  case atStart => exact ⟨n, Nat.le_refl _, rfl, by show _ = _; rw [List.take_of_length_le (by rw [HL.out]; omega)]; exact HR.out⟩
  case round =>
    obtain ⟨k, hk, rfl, hd⟩ := hrel
    by_cases h0 : 0 < k
    · obtain ⟨j, rfl⟩ : ∃ j, k = j + 1 := ⟨k - 1, by omega⟩
      have hj : j < ds.length := by rw [HL.out]; omega
      obtain ⟨b, off, rfl, hb, hcell⟩ := hr.at j hj
      have hs := fun W => slice_toI b off (j + 1) c j (by omega) (by omega) (by omega) W
      have D1 := Lib.hid (dtrim_take ds j hj)
      have D2 := Lib.hid (dtrim_stop ds j hj)
      generalize ds.getD j 0 = x at *
      by_cases hx : x = 0
      · subst hx
        go_wp2_with fail
        go_round
        case rel => exact ⟨j, by omega, rfl, by show _ = _; rw [← D1.out rfl]; exact hd.out⟩
        case measure => simp [lenOf]
      · have hx2 : ¬ (x : Int) = 0 := by omega
        go_wp2_with fail
        go_ret
        have e : ds.take (j + 1) = rs := by rw [← D2.out hx]; exact hd.out
        have el : rs.length = j + 1 := by rw [← e, List.length_take, HL.out]; omega
        exact ⟨by rw [el]; rfl, rfl, by rw [← e]; exact hr.take _, by omega⟩
    · obtain rfl : k = 0 := by omega
      have e := Lib.hid (show rs = [] by rw [← hd.out]; rfl)
      go_wp2_with fail
      go_ret
      refine ⟨?_, rfl, ?_, ?_⟩
      · rw [e.out]; rfl
      · rw [e.out]; exact Or.inl rfl
      · rw [e.out]; exact Nat.zero_le _
end Go.Proofs.YtdaieklimdhkoaaDoor
