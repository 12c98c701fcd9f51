/- The document's number, add. -/
import Derived.Test.YtdaieklimdhkoaaDoorQEven
namespace Go.Proofs.YtdaieklimdhkoaaDoor
open Go.RowKit
set_option maxRecDepth 100000 in
set_option maxHeartbeats 1000000 in
theorem number_any (A : Option Addr) (n c : Nat) (bs : List UInt8) (w : World) (hl : bs.length = n) (hr : Row w w.heap.size A bs) (hn : n ≤ 100000) :
    Calls Tryd.prog 52 #[.slice A n c] w (GivesI w (digs (lev bs))) := by
  have HE := Lib.hid (OwnsI.lit (base := w.heap.size) w [] (Nat.le_refl _) (by simp))
  have HL := Lib.hid hl
  have HT := Lib.hid (lev_digs bs)
  generalize digs (lev bs) = rs at *
  clear hl
  go_enter Tryd.func52, Tryd.ntmps52
  go_wp2_with fail
  go_loopw [3, 5, 9] (fun v _ i wr => ∃ k : Nat, k ≤ n ∧ i = .int .i64 k ∧ Below w.heap.size w wr ∧ OwnsI wr w.heap.size v ((bs.take k).map (·.toNat))) (fun _ _ i _ => n - (intOf i).toNat)
  case atStart => exact ⟨0, Nat.zero_le _, rfl, (Below.refl _ _).alloc (Nat.le_refl _) _, HE.out⟩
  case round =>
    clear HE
    obtain ⟨k, hk, rfl, hB, hO⟩ := hrel
    by_cases hlt : k < n
    · have hlt2 : k < bs.length := by rw [HL.out]; exact hlt
      obtain ⟨b, off, rfl, hb, hcell⟩ := (hr.below hB).at k hlt2
      have HS := Lib.hid (show (bs.take (k + 1)).map (·.toNat) = (bs.take k).map (·.toNat) ++ [bs[k].toNat] by rw [take_snoc bs k hlt2, List.map_append]; rfl)
      have HK : Hid (((bs.take k).map (·.toNat)).length = k) := by show _ = _; rw [List.length_map, List.length_take]; omega
      have hz := hB.size
      have hu := bs[k].toNat_lt
      generalize bs[k] = u at *
      generalize (bs.take k).map (·.toNat) = dk at *
      have j1 : IntKind.i64.wrap (u.toNat : Int) = (u.toNat : Int) := IntWalk.i64_in _ (by omega)
      go_wp2_with (first
        | (at_builtin
           refine append_ints rfl (.tmp 13) (.tmp 16) rfl w.heap.size (wr.heap.size + 1) _ dk [u.toNat] wr.heap.size 0 1 1 rfl (hO.kept_alloc _) rfl rfl (rowI_new wr [u.toNat]) (by rw [HK.out]; simp; omega) (by simp; omega) ?_
           intro v1 w1 hown1 hB1))
      go_roundw
      case rel => exact ⟨k + 1, by omega, by go_num, (hB.alloc hz _).trans hB1, by rw [HS.out]; exact hown1⟩
      case measure => simp [intOf]; omega
    · have e : k = n := by omega
      subst e
      rw [List.take_of_length_le (by rw [HL.out]; omega)] at hO
      have HK : Hid ((bs.map (·.toNat)).length = k) := by show _ = _; rw [List.length_map, HL.out]
      generalize bs.map (·.toNat) = dk at *
      obtain ⟨A', c', rfl, hc1, hc2, hA', hrow⟩ := hO.form
      rw [HK.out] at hc1
      have CT := Lib.hid (trim_any A' k c' dk rs wr HK.out hrow hc1 hc2 HT.out)
      rw [HK.out]
      go_wp2_with fail
      refine CT.out.mono ?_
      rintro e w2 ⟨rfl, rfl, hr2, hle⟩
      go_wp2_with fail
      go_ret
      exact ⟨A', c', rfl, hA', by omega, hc2, hr2, hB⟩
/-- A row's digits raised by another's, k of them. -/
def addTo (s a : List Nat) : Nat → List Nat
  | 0 => s
  | k + 1 => (addTo s a k).set k ((addTo s a k).getD k 0 + a.getD k 0)
theorem addTo_length (s a : List Nat) : ∀ k, (addTo s a k).length = s.length
  | 0 => rfl
  | k + 1 => by rw [addTo, List.length_set, addTo_length]
theorem getD_get (l : List Nat) (k : Nat) (h : k < l.length) : l.getD k 0 = l[k] := by
  rw [List.getD_eq_getElem?_getD, List.getElem?_eq_getElem h]; rfl
theorem addTo_val (s a : List Nat) (h : a.length ≤ s.length) : ∀ k, k ≤ a.length → dval (addTo s a k) = dval s + dval (a.take k)
  | 0, _ => by rw [List.take_zero]; rfl
  | k + 1, hk => by
    have h1 : k < (addTo s a k).length := by rw [addTo_length]; omega
    rw [addTo, getD_get _ k h1, dval_set _ k _ h1, addTo_val s a h k (by omega), dval_take a k (by omega), getD_get a k (by omega)]
    omega
theorem getD_set_self_le (l : List Nat) (k z : Nat) : (l.set k z).getD k 0 ≤ z := by
  rw [List.getD_eq_getElem?_getD, List.getElem?_set]
  by_cases h : k < l.length <;> simp [h]
theorem getN_set_other (l : List Nat) (k i z : Nat) (h : k ≠ i) : (l.set k z).getD i 0 = l.getD i 0 := by
  rw [List.getD_eq_getElem?_getD, List.getElem?_set, if_neg h, List.getD_eq_getElem?_getD]
theorem getD_le (l : List Nat) (C k : Nat) (h : ∀ x ∈ l, x ≤ C) : l.getD k 0 ≤ C := by
  rw [List.getD_eq_getElem?_getD]
  cases hi : l[k]? with
  | none => exact Nat.zero_le _
  | some x => exact h x (List.mem_of_getElem? hi)
theorem mem_le (l : List Nat) (C : Nat) (h : ∀ i, l.getD i 0 ≤ C) : ∀ x ∈ l, x ≤ C := by
  intro x hx
  obtain ⟨i, hi, rfl⟩ := List.getElem_of_mem hx
  rw [← getD_get l i hi]
  exact h i
theorem addTo_le (s a : List Nat) (B C : Nat) (hs : ∀ x ∈ s, x ≤ B) (ha : ∀ x ∈ a, x ≤ C) : ∀ k i, (i < k → (addTo s a k).getD i 0 ≤ B + C) ∧ (k ≤ i → (addTo s a k).getD i 0 ≤ B)
  | 0, i => ⟨fun h => by omega, fun _ => getD_le s B i hs⟩
  | k + 1, i => by
    have h1 := addTo_le s a B C hs ha k i
    have h2 := (addTo_le s a B C hs ha k k).2 (Nat.le_refl _)
    have h3 := getD_le a C k ha
    rw [addTo]
    by_cases e : k = i
    · subst e
      have h4 := getD_set_self_le (addTo s a k) k ((addTo s a k).getD k 0 + a.getD k 0)
      exact ⟨fun _ => by omega, fun h => by omega⟩
    · rw [getN_set_other _ _ _ _ e]
      exact ⟨fun h => h1.1 (by omega), fun h => h1.2 (by omega)⟩
theorem iset_map (l : List Nat) (k x : Nat) : (l.map icell).set k (icell x) = (l.set k x).map icell := by rw [List.map_set]
theorem int_at (l : List Nat) (k : Nat) (hk : k < l.length) : (l.map icell)[k]? = some (icell (l.getD k 0)) := by
  rw [List.getElem?_map, List.getD_eq_getElem?_getD, List.getElem?_eq_getElem hk]
  rfl
theorem Cells.rowI {w : World} {g : Nat} {l : List Nat} {t : TypeId} (h : Cells w g (l.map icell) t) : RowI w w.heap.size (some ⟨g, 0, none⟩) l :=
  .inr ⟨g, 0, rfl, h.lt, fun j u hu => by rw [Nat.zero_add]; exact h.get (by rw [List.getElem?_map, hu]; rfl)⟩
set_option maxRecDepth 100000 in
set_option maxHeartbeats 1000000 in
theorem add_over (A B : Option Addr) (n m c d : Nat) (xs ys rs : List Nat) (S T : Nat → List Nat) (w : World) (HX : Hid (xs.length = n)) (HY : Hid (ys.length = m)) (ha : RowI w w.heap.size A xs) (hb : RowI w w.heap.size B ys) (hn : n ≤ 1000) (hm : m ≤ 1000) (H0 : Hid (S 0 = List.replicate (n + m) 0)) (HST : Hid (T 0 = S n))
    (HS : Hid (∀ k, S (k + 1) = (S k).set k ((S k).getD k 0 + xs.getD k 0))) (HT : Hid (∀ k, T (k + 1) = (T k).set k ((T k).getD k 0 + ys.getD k 0))) (HSL : Hid (∀ k, (S k).length = n + m)) (HTL : Hid (∀ k, (T k).length = n + m)) (HB : Hid (∀ k, (S k).getD k 0 ≤ 1000000 ∧ (T k).getD k 0 ≤ 1000000 ∧ xs.getD k 0 ≤ 1000000 ∧ ys.getD k 0 ≤ 1000000))
    (CE : Hid (∀ g W, RowI W W.heap.size (some ⟨g, 0, none⟩) (T m) → Calls Tryd.prog 62 #[.slice (some ⟨g, 0, none⟩) (n + m) (n + m)] W (GivesI W rs))) :
    Calls Tryd.prog 55 #[.slice A n c, .slice B m d] w (GivesI w rs) := by
  have hmk := make_ints (n + m) (by omega)
  rw [show ((n + m : Nat) : Int) = (n : Int) + (m : Int) by omega] at hmk
  go_enter Tryd.func55, Tryd.ntmps55
  go_wp2_with fail
  have hB0 : Below w.heap.size w (w.alloc (.cells (izeros (n + m)).toArray 3)) := (Below.refl _ _).alloc (Nat.le_refl _) _
  have hC0 : Cells (w.alloc (.cells (izeros (n + m)).toArray 3)) w.heap.size ((S 0).map icell) 3 := by rw [H0.out, ← izeros_map]; exact Cells.new w _ _
  generalize w.alloc (.cells (izeros (n + m)).toArray 3) = w0 at *
  clear hmk
  go_loopw [6, 7, 18] (fun _ _ i wr => ∃ k : Nat, k ≤ n ∧ i = .int .i64 k ∧ Below w.heap.size w wr ∧ Cells wr w.heap.size ((S k).map icell) 3) (fun _ _ i _ => n - (intOf i).toNat)
  case atStart => exact ⟨0, Nat.zero_le _, rfl, hB0, hC0⟩
  case round =>
    clear hB0 hC0
    obtain ⟨k, hk, rfl, hB, hC⟩ := hrel
    by_cases hlt : k < n
    · have HNk := Lib.hid (HS.out k)
      have HLk := Lib.hid (HSL.out k)
      have hbk := HB.out k
      obtain ⟨b, off, rfl, hb1, hcell⟩ := (ha.below hB).at k (by rw [HX.out]; exact hlt)
      obtain ⟨s1, HS1⟩ : ∃ s1, Hid (S (k + 1) = s1) := ⟨_, rfl⟩
      rw [HS1.out] at HNk
      have d1 := hC.get (int_at (S k) k (by rw [HLk.out]; omega))
      have d2 := hC.frozen k
      have q1 : (S k).getD k 0 ≤ 1000000 := hbk.1
      have q2 : xs.getD k 0 ≤ 1000000 := hbk.2.2.1
      clear hbk
      generalize S k = s at *
      generalize s.getD k 0 = x at *
      generalize xs.getD k 0 = y at *
      have i1 : (0 : Int) ≤ (k : Int) := by omega
      have i2 : (k : Int) < (n : Int) + (m : Int) := by omega
      have e0 : ((n + m : Nat) : Int) = (n : Int) + (m : Int) := by omega
      go_wp2_with fail
      go_roundw
      case rel =>
        refine ⟨k + 1, by omega, by go_num, hB.setCell (p := ⟨w.heap.size, k, none⟩) (Nat.le_refl _) _, ?_⟩
        rw [HS1.out, HNk.out, ← iset_map, show ((x : Int) + (y : Int)) = ((x + y : Nat) : Int) from (Int.natCast_add x y).symm]
        exact hC.set k _
      case measure => simp [intOf]; omega
    · obtain rfl : k = n := by omega
      rw [← HST.out] at hC
      go_wp2_with fail
      go_loopw [8, 9, 33] (fun _ _ i wr => ∃ j : Nat, j ≤ m ∧ i = .int .i64 j ∧ Below w.heap.size w wr ∧ Cells wr w.heap.size ((T j).map icell) 3) (fun _ _ i _ => m - (intOf i).toNat)
      case atStart => exact ⟨0, Nat.zero_le _, rfl, hB, hC⟩
      case round =>
        clear hB hC
        obtain ⟨j, hj, rfl, hB, hC⟩ := hrel
        by_cases hjt : j < m
        · have HNk := Lib.hid (HT.out j)
          have HLk := Lib.hid (HTL.out j)
          have hbk := HB.out j
          obtain ⟨b, off, rfl, hb1, hcell⟩ := (hb.below hB).at j (by rw [HY.out]; exact hjt)
          obtain ⟨s1, HS1⟩ : ∃ s1, Hid (T (j + 1) = s1) := ⟨_, rfl⟩
          rw [HS1.out] at HNk
          have d1 := hC.get (int_at (T j) j (by rw [HLk.out]; omega))
          have d2 := hC.frozen j
          have q1 : (T j).getD j 0 ≤ 1000000 := hbk.2.1
          have q2 : ys.getD j 0 ≤ 1000000 := hbk.2.2.2
          clear hbk
          generalize T j = s at *
          generalize s.getD j 0 = x at *
          generalize ys.getD j 0 = y at *
          have i1 : (0 : Int) ≤ (j : Int) := by omega
          have i2 : (j : Int) < (k : Int) + (m : Int) := by omega
          have e0 : ((k + m : Nat) : Int) = (k : Int) + (m : Int) := by omega
          go_wp2_with fail
          go_roundw
          case rel =>
            refine ⟨j + 1, by omega, by go_num, hB.setCell (p := ⟨w.heap.size, j, none⟩) (Nat.le_refl _) _, ?_⟩
            rw [HS1.out, HNk.out, ← iset_map, show ((x : Int) + (y : Int)) = ((x + y : Nat) : Int) from (Int.natCast_add x y).symm]
            exact hC.set j _
          case measure => simp [intOf]; omega
        · obtain rfl : j = m := by omega
          have CE2 := Lib.hid (CE.out w.heap.size wr hC.rowI)
          go_wp2_with fail
          refine CE2.out.mono ?_
          rintro e w5 ⟨A', c', rfl, h1, h2, h3, h4, h5⟩
          go_wp2_with fail
          go_ret
          exact ⟨A', c', rfl, h1, h2, h3, h4, below_then hB h5⟩
theorem add_any (A B : Option Addr) (n m c d x y : Nat) (xs ys : List Nat) (w : World) (hx : xs = digs x) (hy : ys = digs y) (hxl : xs.length = n) (hyl : ys.length = m) (ha : RowI w w.heap.size A xs) (hb : RowI w w.heap.size B ys) (hn : n ≤ 1000) (hm : m ≤ 1000) :
    Calls Tryd.prog 55 #[.slice A n c, .slice B m d] w (GivesI w (digs (x + y))) := by
  have bx : ∀ z ∈ xs, z ≤ 255 := by rw [hx]; exact fun z hz => by have := digs_lt x z hz; omega
  have by' : ∀ z ∈ ys, z ≤ 255 := by rw [hy]; exact fun z hz => by have := digs_lt y z hz; omega
  have bz : ∀ z ∈ List.replicate (n + m) 0, z ≤ 0 := by intro z hz; rw [List.eq_of_mem_replicate hz]; exact Nat.le_refl _
  have b1 : ∀ k i, (addTo (List.replicate (n + m) 0) xs k).getD i 0 ≤ 255 := fun k i => by
    have h := addTo_le _ xs 0 255 bz bx k i
    rcases Nat.lt_or_ge i k with h1 | h1
    · have := h.1 h1; omega
    · have := h.2 h1; omega
  have b2 : ∀ k i, (addTo (addTo (List.replicate (n + m) 0) xs n) ys k).getD i 0 ≤ 510 := fun k i => by
    have h := addTo_le _ ys 255 255 (mem_le _ _ (b1 n)) by' k i
    rcases Nat.lt_or_ge i k with h1 | h1
    · have := h.1 h1; omega
    · have := h.2 h1; omega
  have l1 : (addTo (List.replicate (n + m) 0) xs n).length = n + m := by rw [addTo_length, List.length_replicate]
  have hv : dval (addTo (addTo (List.replicate (n + m) 0) xs n) ys m) = x + y := by
    rw [addTo_val _ _ (by rw [l1]; omega) m (by omega), addTo_val _ _ (by rw [List.length_replicate]; omega) n (by omega), dval_zeros, List.take_of_length_le (by omega), List.take_of_length_le (by omega), hx, hy, dval_digs, dval_digs]
    omega
  have hE := fun g W (hW : RowI W W.heap.size (some ⟨g, 0, none⟩) (addTo (addTo (List.replicate (n + m) 0) xs n) ys m)) => even_any (some ⟨g, 0, none⟩) (n + m) (n + m) _ W (by rw [addTo_length, l1]) hW (by omega) (fun z hz => by have := mem_le _ _ (b2 m) z hz; omega)
  rw [hv] at hE
  exact add_over A B n m c d xs ys _ (addTo (List.replicate (n + m) 0) xs) (addTo (addTo (List.replicate (n + m) 0) xs n) ys) w hxl hyl ha hb hn hm (show addTo _ _ 0 = _ from rfl) (show addTo _ _ 0 = _ from rfl) (fun _ => rfl) (fun _ => rfl) (fun k => by rw [addTo_length, List.length_replicate]) (fun k => by rw [addTo_length, l1])
    (fun k => ⟨by have := b1 k k; omega, by have := b2 k k; omega, by have := getD_le xs 255 k bx; omega, by have := getD_le ys 255 k by'; omega⟩) hE
end Go.Proofs.YtdaieklimdhkoaaDoor
