/- The document's even, number. -/
import Derived.Test.YtdaieklimdhkoaaDoorQInts
import Derived.IntWalk
namespace Go.Proofs.YtdaieklimdhkoaaDoor
open Go.RowKit
/-- What a call answers that makes a row of these digits. -/
def GivesI (w : World) (ds : List Nat) (e : Ending) (w' : World) : Prop :=
  ∃ A c, e = .returned (.slice A ds.length c) ∧ (A = none → c = 0) ∧ ds.length ≤ c ∧ c ≤ maxLen ∧ RowI w' w'.heap.size A ds ∧ Below w.heap.size w w'
/-- How far a row is made even behind i digits: the digits, and what is carried. -/
def evenTo (a : List Nat) : Nat → List Nat × Nat
  | 0 => ([], 0)
  | i + 1 => ((evenTo a i).1 ++ [((evenTo a i).2 + a.getD i 0) % 256], ((evenTo a i).2 + a.getD i 0) / 256)
theorem evenTo_length (a : List Nat) : ∀ i, (evenTo a i).1.length = i
  | 0 => rfl
  | i + 1 => by rw [evenTo, List.length_append, evenTo_length a i]; rfl
theorem evenTo_lt (a : List Nat) : ∀ i, ∀ x ∈ (evenTo a i).1, x < 256
  | 0 => by intro x hx; cases hx
  | i + 1 => by
    intro x hx
    rw [evenTo, List.mem_append] at hx
    rcases hx with hx | hx
    · exact evenTo_lt a i x hx
    · obtain rfl := List.mem_singleton.1 hx
      omega
theorem evenTo_val (a : List Nat) : ∀ i, dval (evenTo a i).1 + 256 ^ i * ((evenTo a i).2 + dval (a.drop i)) = dval a
  | 0 => by simp [evenTo, dval]
  | i + 1 => by
    rw [evenTo, even_step _ i _ _ (evenTo_length a i), ← evenTo_val a i]
    congr 2
    rcases Nat.lt_or_ge i a.length with h | h
    · rw [dval_drop a i h, List.getD_eq_getElem?_getD, List.getElem?_eq_getElem h]
      show _ + a[i] + _ = _
      omega
    · rw [dval_drop_end a i h, dval_drop_end a (i + 1) (by omega), List.getD_eq_getElem?_getD, List.getElem?_eq_none h]
      rfl
/-- What is carried is small. -/
theorem evenTo_over (a : List Nat) (B : Nat) (hB : ∀ x ∈ a, x ≤ B) : ∀ i, (evenTo a i).2 ≤ B
  | 0 => Nat.zero_le _
  | i + 1 => by
    have h1 := evenTo_over a B hB i
    have h2 : a.getD i 0 ≤ B := by
      rw [List.getD_eq_getElem?_getD]
      cases hi : a[i]? with
      | none => exact Nat.zero_le _
      | some x => exact hB x (List.mem_of_getElem? hi)
    show ((evenTo a i).2 + a.getD i 0) / 256 ≤ B
    omega
theorem evenTo_end (a : List Nat) (i : Nat) (h : a.length ≤ i) (h0 : (evenTo a i).2 = 0) : dtrim (evenTo a i).1 = digs (dval a) := by
  have hv := evenTo_val a i
  rw [h0, dval_drop_end a i h] at hv
  rw [dtrim_digs _ (evenTo_lt a i), ← hv]
  simp
/-- Behind the row's end what is carried falls. -/
theorem evenTo_fall (a : List Nat) (i : Nat) (h : a.length ≤ i) : (evenTo a (i + 1)).2 = (evenTo a i).2 / 256 := by
  show ((evenTo a i).2 + a.getD i 0) / 256 = _
  rw [List.getD_eq_getElem?_getD, List.getElem?_eq_none h]
  rfl
theorem evenTo_stop (a : List Nat) (B : Nat) (hB : ∀ x ∈ a, x ≤ B) (hb : B < 256 ^ 6) (k : Nat) (hk : a.length ≤ k) (h : 0 < (evenTo a k).2) : k < a.length + 6 := by
  have key : ∀ j, (evenTo a (a.length + j)).2 ≤ B / 256 ^ j := by
    intro j
    induction j with
    | zero => simpa using evenTo_over a B hB a.length
    | succ j ih =>
      rw [← Nat.add_assoc, evenTo_fall a _ (by omega), Nat.pow_succ, ← Nat.div_div_eq_div_mul]
      exact Nat.div_le_div_right ih
  rcases Nat.lt_or_ge k (a.length + 6) with h1 | h1
  · exact h1
  · obtain ⟨j, rfl⟩ : ∃ j, k = a.length + j := ⟨k - a.length, by omega⟩
    have h2 := key j
    have h3 : 256 ^ 6 ≤ 256 ^ j := pow256_le (by omega)
    rw [Nat.div_eq_of_lt (by omega)] at h2
    omega
theorem sum_mod (x y : Nat) : ((x : Int) + (y : Int)) % 256 = (((x + y) % 256 : Nat) : Int) := by omega
theorem sum_div (x y : Nat) : ((x : Int) + (y : Int)) / 256 = (((x + y) / 256 : Nat) : Int) := by omega
theorem one_mod (x : Nat) : (x : Int) % 256 = ((x % 256 : Nat) : Int) := by omega
set_option maxRecDepth 100000 in
set_option maxHeartbeats 1000000 in
theorem even_over (A : Option Addr) (n c : Nat) (ds rs : List Nat) (D : Nat → List Nat) (O : Nat → Nat) (w : World) (HL : Hid (ds.length = n)) (hr : RowI w w.heap.size A ds) (hn : n ≤ 100000) (HB : Hid (∀ k, O k ≤ 1000000000000 ∧ ds.getD k 0 ≤ 1000000000000)) (H0 : Hid (D 0 = [] ∧ O 0 = 0)) (HD : Hid (∀ k, D (k + 1) = D k ++ [(O k + ds.getD k 0) % 256])) (HO : Hid (∀ k, O (k + 1) = (O k + ds.getD k 0) / 256)) (HDL : Hid (∀ k, (D k).length = k))
    (HZ : Hid (∀ k, n ≤ k → ds.getD k 0 = 0)) (HF : Hid (∀ k, n ≤ k → 0 < O k → k < n + 6)) (HR : Hid (∀ k, n ≤ k → O k = 0 → dtrim (D k) = rs)) :
    Calls Tryd.prog 62 #[.slice A n c] w (GivesI w rs) := by
  have HE := Lib.hid (OwnsI.lit (base := w.heap.size) w [] (Nat.le_refl _) (by simp))
  go_enter Tryd.func62, Tryd.ntmps62
  go_wp2_with fail
  go_loopw [3, 4, 5] (fun v o i wr => ∃ k : Nat, k ≤ n + 6 ∧ i = .int .i64 k ∧ o = .int .i64 (O k : Int) ∧ Below w.heap.size w wr ∧ OwnsI wr w.heap.size v (D k)) (fun _ _ i _ => n + 200 - (intOf i).toNat)
  case atStart => exact ⟨0, Nat.zero_le _, rfl, by rw [H0.out.2]; rfl, (Below.refl _ _).alloc (Nat.le_refl _) _, by rw [H0.out.1]; exact HE.out⟩
  case round =>
    clear HE H0
    obtain ⟨k, hk, rfl, rfl, hB, hO⟩ := hrel
    have HDk := Lib.hid (HDL.out k)
    have HNk := Lib.hid (HD.out k)
    have HOk := Lib.hid (HO.out k)
    have hBk := HB.out k
    have HZk := Lib.hid (HZ.out k)
    have HFk := Lib.hid (HF.out k)
    have HRk := Lib.hid (HR.out k)
    clear HDL HD HB HZ HF HR
    obtain ⟨o1, HO1, HO2⟩ : ∃ o1, Hid (O (k + 1) = o1) ∧ Hid (o1 = (O k + ds.getD k 0) / 256) := ⟨_, rfl, HOk.out⟩
    obtain ⟨d1, HD1, HD2⟩ : ∃ d1, Hid (D (k + 1) = d1) ∧ Hid (d1 = D k ++ [(O k + ds.getD k 0) % 256]) := ⟨_, rfl, HNk.out⟩
    clear HOk HNk HO
    have hat := fun h => (hr.below hB).at k h
    have hz := hB.size
    generalize O k = ok at *
    generalize D k = dk at *
    generalize ds.getD k 0 = x at *
    by_cases hlt : k < n
    · obtain ⟨b, off, rfl, hb, hcell⟩ := hat (by rw [HL.out]; exact hlt)
      clear HZk HFk HRk hat
      have M1 := Lib.hid (sum_mod ok x)
      have M2 := Lib.hid (sum_div ok x)
      go_wp2_with (first
        | (at_builtin
           rw [M1.out]
           refine append_ints rfl (.tmp 27) (.tmp 30) rfl w.heap.size (wr.heap.size + 1) _ dk [(ok + x) % 256] wr.heap.size 0 1 1 rfl (hO.kept_alloc _) rfl rfl (rowI_new wr [(ok + x) % 256]) (by rw [HDk.out]; simp; omega) (by simp; omega) ?_
           intro v1 w1 hown1 hB1))
      go_roundw
      case rel => exact ⟨k + 1, by omega, by go_num, by rw [HO1.out, HO2.out, M2.out], (hB.alloc hz _).trans hB1, by rw [HD1.out, HD2.out]; exact hown1⟩
      case measure => simp [intOf]; omega
    · have hx0 := HZk.out (by omega)
      clear hat HZk
      subst hx0
      rw [Nat.add_zero] at HO2 HD2
      by_cases hpos : 0 < ok
      · have hk6 := HFk.out (by omega) hpos
        have hposI : (0 : Int) < (ok : Int) := by omega
        have M1 := Lib.hid (one_mod ok)
        clear HRk HFk
        go_wp2_with (first
          | (at_builtin
             rw [M1.out]
             refine append_ints rfl (.tmp 27) (.tmp 30) rfl w.heap.size (wr.heap.size + 1) _ dk [ok % 256] wr.heap.size 0 1 1 rfl (hO.kept_alloc _) rfl rfl (rowI_new wr [ok % 256]) (by rw [HDk.out]; simp; omega) (by simp; omega) ?_
             intro v1 w1 hown1 hB1))
        go_roundw
        case rel => exact ⟨k + 1, by omega, by go_num, by rw [HO1.out, HO2.out, Int.natCast_ediv]; rfl, (hB.alloc hz _).trans hB1, by rw [HD1.out, HD2.out]; exact hown1⟩
        case measure => simp [intOf]; omega
      · obtain rfl : ok = 0 := by omega
        have HE := Lib.hid (HRk.out (by omega) rfl)
        clear HRk HFk
        obtain ⟨A', c', rfl, hc1, hc2, hA', hrow⟩ := hO.form
        rw [HDk.out] at hc1
        have CT := Lib.hid (trim_any A' k c' dk rs wr HDk.out hrow hc1 hc2 HE.out)
        rw [HDk.out]
        go_wp2_with fail
        refine CT.out.mono ?_
        rintro e w2 ⟨rfl, rfl, hr2, hle⟩
        go_wp2_with fail
        go_ret
        exact ⟨A', c', rfl, hA', by omega, hc2, hr2, hB⟩
theorem even_any (A : Option Addr) (n c : Nat) (ds : List Nat) (w : World) (hl : ds.length = n) (hr : RowI w w.heap.size A ds) (hn : n ≤ 100000) (hb : ∀ x ∈ ds, x ≤ 1000000000000) :
    Calls Tryd.prog 62 #[.slice A n c] w (GivesI w (digs (dval ds))) :=
  even_over A n c ds _ (fun k => (evenTo ds k).1) (fun k => (evenTo ds k).2) w hl hr hn (fun k => ⟨evenTo_over ds _ hb k, by
      rw [List.getD_eq_getElem?_getD]
      cases hi : ds[k]? with
      | none => exact Nat.zero_le _
      | some x => exact hb x (List.mem_of_getElem? hi)⟩) ⟨rfl, rfl⟩ (fun _ => rfl) (fun _ => rfl) (evenTo_length ds) (fun k hk => by rw [List.getD_eq_getElem?_getD, List.getElem?_eq_none (by omega)]; rfl)
    (fun k hk h => by rw [← hl]; exact evenTo_stop ds _ hb (by decide) k (by omega) h) (fun k hk h => evenTo_end ds k (by omega) h)
end Go.Proofs.YtdaieklimdhkoaaDoor
