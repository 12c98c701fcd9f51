/- The document's halved. -/
import Derived.Test.YtdaieklimdhkoaaDoorQTimes
namespace Go.Proofs.YtdaieklimdhkoaaDoor
open Go.RowKit
/-- What a call answers that gives two rows of digits. -/
def GivesTwo (w : World) (hs ls : List Nat) (e : Ending) (w' : World) : Prop :=
  ∃ A c B d, e = .returned (.tuple #[.slice A hs.length c, .slice B ls.length d]) ∧ RowI w' w'.heap.size A hs ∧ hs.length ≤ c ∧ c ≤ maxLen ∧ RowI w' w'.heap.size B ls ∧ ls.length ≤ d ∧ d ≤ maxLen ∧ Below w.heap.size w w'
set_option maxRecDepth 100000 in
theorem halved_short (A : Option Addr) (n c : Nat) (ds : List Nat) (w : World) (hl : ds.length = n) (hr : RowI w w.heap.size A ds) (hc : n ≤ c) (hc2 : c ≤ maxLen) (hn : n < 17) :
    Calls Tryd.prog 61 #[.slice A n c] w (GivesTwo w [] ds) := by
  have HL := Lib.hid hl
  clear hl
  go_enter Tryd.func61, Tryd.ntmps61
  have hnI : (n : Int) < 17 := by omega
  go_wp2_with fail
  go_ret2
  exact ⟨none, 0, A, c, by rw [HL.out]; rfl, .inl rfl, Nat.le_refl _, Nat.zero_le _, hr, by rw [HL.out]; exact hc, hc2, Below.refl _ _⟩

theorem rowI_cells {w : World} {g : Nat} {l : List Nat} {rest : List Value} {t : TypeId} (h : Cells w g (l.map icell ++ rest) t) : RowI w w.heap.size (some ⟨g, 0, none⟩) l :=
  .inr ⟨g, 0, rfl, h.lt, fun j u hu => by
    rw [Nat.zero_add]
    refine h.get ?_
    have hj : j < l.length := (List.getElem?_eq_some_iff.1 hu).1
    rw [List.getElem?_append_left (by rw [List.length_map]; exact hj), List.getElem?_map, hu]; rfl⟩
set_option maxRecDepth 100000 in
set_option maxHeartbeats 1000000 in
theorem halved_over (b off n c : Nat) (ds t hs ls : List Nat) (H : Nat → List Nat) (w : World) (HL : Hid (ds.length = n)) (hr : RowI w w.heap.size (some ⟨b, off, none⟩) ds) (hc : n ≤ c) (hn : 17 ≤ n) (hn2 : n ≤ 1000) (HD : Hid (∀ k, ds.getD k 0 ≤ 255))
    (HT : Hid (ds.take 17 = t)) (HTL : Hid (t.length = 17)) (HT16 : Hid (t.getD 16 0 ≤ 255)) (H0 : Hid (H 16 = [])) (HH : Hid (∀ k, 16 ≤ k → H (k + 1) = H k ++ [ds.getD k 0 / 4 + ds.getD (k + 1) 0 % 4 * 64])) (HHL : Hid (∀ k, (H k).length = k - 16)) (HZ : Hid (ds.getD n 0 = 0))
    (HR : Hid (dtrim (H n) = hs)) (HS : Hid (dtrim (t.set 16 (t.getD 16 0 % 4)) = ls)) :
    Calls Tryd.prog 61 #[.slice (some ⟨b, off, none⟩) n c] w (GivesTwo w hs ls) := by
  have HE := Lib.hid (OwnsI.lit (base := w.heap.size) w [] (Nat.le_refl _) (by simp))
  have hs17 := slice_toI b off n c 17 (by omega) hc (by omega)
  have hr17 : RowI (w.alloc (.cells ([] : List Value).toArray 3)) w.heap.size (some ⟨b, off, none⟩) t := by
    rw [← HT.out]
    exact (hr.below ((Below.refl _ _).alloc (Nat.le_refl _) _)).take 17
  clear HT
  go_enter Tryd.func61, Tryd.ntmps61
  have hnI : ¬ (n : Int) < 17 := by omega
  go_wp2_with (first
    | (at_builtin
       refine append_ints rfl (.tmp 12) (.tmp 14) rfl w.heap.size w.heap.size _ [] t b off 17 c rfl HE.out rfl HTL.out hr17 (by rw [HTL.out]; simp) (by simp) ?_
       intro v1 w1 hown1 hB1
       rw [List.nil_append] at hown1
       obtain ⟨g1, c1, rest, rfl, hg1, hc1, hc1m, hC1⟩ := hown1.cells (by rw [HTL.out]; omega)
       rw [HTL.out] at hc1 ⊢
       have d1 : w1.cell? ⟨g1, 16, none⟩ = some (icell (t.getD 16 0)) := hC1.get (by rw [List.getElem?_append_left (by rw [List.length_map, HTL.out]; omega)]; exact int_at t 16 (by rw [HTL.out]; omega))
       have d2 := hC1.frozen 16
       have hx16 := HT16.out
       generalize HX : t.getD 16 0 = x16 at *
       clear hown1))
  have e16 : (x16 : Int) % 4 = ((x16 % 4 : Nat) : Int) := by omega
  have hB2 := (((Below.refl w.heap.size w).alloc (Nat.le_refl _) (.cells ([] : List Value).toArray 3)).trans hB1).setCell (p := ⟨g1, 16, none⟩) hg1 (.int .i64 ((x16 : Int) % 4))
  have hC2 : Cells (w1.setCell ⟨g1, 16, none⟩ (.int .i64 ((x16 : Int) % 4))) g1 ((t.set 16 (x16 % 4)).map icell ++ rest) 3 := by
    have h := hC1.set 16 (icell (x16 % 4))
    rw [List.set_append_left _ _ (by rw [List.length_map, HTL.out]; omega), iset_map] at h
    rw [e16]; exact h
  have hz2 : (w1.setCell ⟨g1, 16, none⟩ (.int .i64 ((x16 : Int) % 4))).heap.size = w1.heap.size := by simp
  rw [← hz2]
  generalize w1.setCell ⟨g1, 16, none⟩ (.int .i64 ((x16 : Int) % 4)) = w2 at *
  have HLo : Hid ((t.set 16 (x16 % 4)).length = 17) := by show _ = _; rw [List.length_set]; exact HTL.out
  have hlow := rowI_cells hC2
  have hr2 := hr.below hB2
  have hz := hB2.size
  have hB2H := Lib.hid hB2
  clear hC1 hC2 hB1 d1 d2 hr17 hs17 HE hr HX hz2 HTL hB2
  generalize t.set 16 (x16 % 4) = lo at *
  generalize (.int .i64 ((x16 : Int) % 4) : Value) = y1
  clear w1 e16
  have HE := Lib.hid (OwnsI.lit (base := w2.heap.size) w2 [] (Nat.le_refl _) (by simp))
  go_loopw [5, 6, 7] (fun v i _ wr => ∃ k : Nat, 16 ≤ k ∧ k ≤ n ∧ i = .int .i64 k ∧ Below w2.heap.size w2 wr ∧ OwnsI wr w2.heap.size v (H k)) (fun _ i _ _ => n - (intOf i).toNat)
  case atStart => exact ⟨16, Nat.le_refl _, by omega, rfl, (Below.refl _ _).alloc (Nat.le_refl _) _, by rw [H0.out]; exact HE.out⟩
  case round =>
    clear HE H0
    obtain ⟨k, hk16, hk, rfl, hB, hO⟩ := hrel
    have HHk := Lib.hid (HH.out k hk16)
    have HHLk := Lib.hid (HHL.out k)
    have hdk := HD.out k
    have hdk1 := HD.out (k + 1)
    have hz3 := hB.size
    by_cases hlt : k < n
    · have hrow := (hr2.more hz).below hB
      obtain ⟨b2, off2, hA, hb, hcell⟩ := hrow.at k (by rw [HL.out]; exact hlt)
      cases hA
      obtain ⟨h1, HH1⟩ : ∃ h1, Hid (H (k + 1) = h1) := ⟨_, rfl⟩
      rw [HH1.out] at HHk
      have HK : Hid ((H k).length = k - 16) := HHLk
      by_cases hlt1 : k + 1 < n
      · obtain ⟨b2, off2, hA, hb2, hcell1⟩ := hrow.at (k + 1) (by rw [HL.out]; exact hlt1)
        cases hA
        have hlt1I : (k : Int) + 1 < (n : Int) := by omega
        clear HH HHL HD HR HS hrow hr2 HHLk hlow
        generalize H k = dk at *
        generalize ds.getD k 0 = x at *
        generalize ds.getD (k + 1) 0 = y at *
        have M1 : Hid ((x : Int) / 4 + (y : Int) % 4 * 64 = ((x / 4 + y % 4 * 64 : Nat) : Int)) := by show _ = _; omega
        go_wp2_with (first
          | (at_builtin
             rw [M1.out]
             refine append_ints rfl (.tmp 39) (.tmp 49) rfl w2.heap.size (wr.heap.size + 1) _ dk [x / 4 + y % 4 * 64] wr.heap.size 0 1 1 rfl (hO.kept_alloc _) rfl rfl (rowI_new wr [x / 4 + y % 4 * 64]) (by rw [HK.out]; simp; omega) (by simp; omega) ?_
             intro v1 w1 hown1 hB1))
        go_roundw
        case rel => exact ⟨k + 1, by omega, by omega, by go_num, (hB.alloc hz3 _).trans hB1, by rw [HH1.out, HHk.out]; exact hown1⟩
        case measure => simp [intOf]; omega
      · have hlt1I : ¬ (k : Int) + 1 < (n : Int) := by omega
        have hy : ds.getD (k + 1) 0 = 0 := by
          have e : k + 1 = n := by omega
          rw [e]; exact HZ.out
        rw [hy] at HHk
        clear HH HHL HD HR HS hrow hr2 HHLk hlow hy HZ hdk1
        generalize H k = dk at *
        generalize ds.getD k 0 = x at *
        have M1 : Hid ((x : Int) / 4 = ((x / 4 + 0 % 4 * 64 : Nat) : Int)) := by show _ = _; omega
        go_wp2_with (first
          | (at_builtin
             rw [M1.out]
             refine append_ints rfl (.tmp 39) (.tmp 49) rfl w2.heap.size (wr.heap.size + 1) _ dk [x / 4 + 0 % 4 * 64] wr.heap.size 0 1 1 rfl (hO.kept_alloc _) rfl rfl (rowI_new wr [x / 4 + 0 % 4 * 64]) (by rw [HK.out]; simp; omega) (by simp; omega) ?_
             intro v1 w1 hown1 hB1))
        go_roundw
        case rel => exact ⟨k + 1, by omega, by omega, by go_num, (hB.alloc hz3 _).trans hB1, by rw [HH1.out, HHk.out]; exact hown1⟩
        case measure => simp [intOf]; omega
    · obtain rfl : k = n := by omega
      have hlowr := (hlow.below hB).more hz3
      have hBw := Lib.hid (hB2H.out.trans (hB.mono hz))
      clear hlow hr2 HH HHL HHk HD hdk hdk1 HZ
      generalize H k = dk at *
      obtain ⟨A', c', rfl, hc3, hc4, hA', hrow⟩ := hO.form
      rw [HHLk.out] at hc3 ⊢
      have CT := Lib.hid (trim_any A' (k - 16) c' dk hs wr HHLk.out hrow hc3 hc4 HR.out)
      have CL := Lib.hid (trim_any (some ⟨g1, 0, none⟩) 17 c1 lo ls wr HLo.out hlowr hc1 hc1m HS.out)
      go_wp2_with fail
      refine CT.out.mono ?_
      rintro e w3 ⟨rfl, rfl, hrh, hle⟩
      go_wp2_with fail
      refine CL.out.mono ?_
      rintro e w3 ⟨rfl, rfl, hrl, hle2⟩
      go_wp2_with fail
      go_ret2
      exact ⟨A', c', some ⟨g1, 0, none⟩, c1, rfl, hrh, by omega, hc4, hrl, by omega, hc1m, hBw.out⟩
/-- The digits above the low 130 bits, j of them. -/
def hTo (ds : List Nat) (j : Nat) : List Nat := (List.range j).map fun i => ds.getD (16 + i) 0 / 4 + ds.getD (16 + i + 1) 0 % 4 * 64
theorem hTo_all (ds : List Nat) : hTo ds (ds.length - 16) = dshift (ds.drop 16) := by
  apply List.ext_getElem
  · rw [dshift_length, List.length_drop, hTo, List.length_map, List.length_range]
  · intro i h1 h2
    have h3 : i < (ds.drop 16).length := by rw [dshift_length] at h2; exact h2
    have h4 : 16 + i < ds.length := by rw [List.length_drop] at h3; omega
    rw [dshift_get _ i h3]
    simp only [hTo, List.getElem_map, List.getElem_range]
    rw [getD_get ds _ h4, List.getElem_drop]
    congr 3
    rw [List.getD_eq_getElem?_getD, List.getD_eq_getElem?_getD, List.getElem?_drop]
    rfl
theorem halved_any (A : Option Addr) (n c x : Nat) (ds : List Nat) (w : World) (hx : ds = digs x) (hl : ds.length = n) (hr : RowI w w.heap.size A ds) (hc : n ≤ c) (hc2 : c ≤ maxLen) (hn : n ≤ 1000) :
    Calls Tryd.prog 61 #[.slice A n c] w (GivesTwo w (digs (x / 2 ^ 130)) (digs (x % 2 ^ 130))) := by
  have hd : ∀ z ∈ ds, z < 256 := by rw [hx]; exact digs_lt x
  have hv : dval ds = x := by rw [hx]; exact dval_digs x
  rcases Nat.lt_or_ge n 17 with h | h
  · have h1 : x < 2 ^ 130 := by
      have h2 := dval_lt ds hd
      rw [hv, hl] at h2
      have h3 : 256 ^ n ≤ 256 ^ 16 := Nat.pow_le_pow_right (by omega) (by omega)
      have h4 : (256 : Nat) ^ 16 ≤ 2 ^ 130 := by decide
      omega
    rw [Nat.div_eq_of_lt h1, Nat.mod_eq_of_lt h1, digs_zero, ← hx]
    exact halved_short A n c ds w hl hr hc hc2 h
  · have hp : 16 < ds.length := by omega
    rcases hr with rfl | ⟨b, off, rfl, hb, hcell⟩
    · simp at hp
    · have g16 : (ds.take 17).getD 16 0 = ds[16] := by
        rw [List.getD_eq_getElem?_getD, List.getElem?_take, if_pos (by omega), List.getElem?_eq_getElem hp]
        rfl
      have hlo : ∀ z ∈ (ds.take 17).set 16 (ds[16] % 4), z < 256 := by
        intro z hz
        rcases List.mem_or_eq_of_mem_set hz with h5 | h5
        · exact hd z (List.mem_of_mem_take h5)
        · omega
      have e16 := hd _ (List.getElem_mem hp)
      refine halved_over b off n c ds (ds.take 17) _ _ (fun k => hTo ds (k - 16)) w hl (.inr ⟨b, off, rfl, hb, hcell⟩) hc h hn (fun k => ?_) rfl ?_ ?_ rfl (fun k hk => ?_) (fun k => ?_) ?_ ?_ ?_
      · exact getD_le ds 255 k (fun z hz => by have := hd z hz; omega)
      · show _ = _
        rw [List.length_take]; omega
      · show _ ≤ _
        rw [g16]; omega
      · show hTo ds (k + 1 - 16) = _
        rw [show k + 1 - 16 = (k - 16) + 1 by omega]
        unfold hTo
        rw [List.range_succ, List.map_append, List.map_singleton, show 16 + (k - 16) = k by omega]
      · show (hTo ds (k - 16)).length = _
        rw [hTo, List.length_map, List.length_range]
      · show _ = _
        rw [List.getD_eq_getElem?_getD, List.getElem?_eq_none (by omega)]; rfl
      · show dtrim (hTo ds (n - 16)) = _
        rw [← hl, hTo_all, dtrim_digs _ (dshift_lt _ (fun z hz => hd z (List.mem_of_mem_drop hz))), halved_high ds hp hd, hv]
      · show _ = _
        rw [g16, dtrim_digs _ hlo, halved_low ds hp hd, hv]
end Go.Proofs.YtdaieklimdhkoaaDoor
