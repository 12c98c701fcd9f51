/- The parts with the message's end behind them. -/
import Derived.Test.YtpbkjphdkdlhjaaDoorVEnd
namespace Go.Proofs.YtpbkjphdkdlhjaaDoor
open Go.RowKit
/-- The address leads to these bytes, in a block of which G holds. -/
def RowG (w : World) (G : Nat → Prop) (A : Option Addr) (bs : List UInt8) : Prop :=
  bs = [] ∨ ∃ b off, A = some ⟨b, off, none⟩ ∧ G b ∧ ∀ j u, bs[j]? = some u → w.cell? ⟨b, off + j, none⟩ = some (cellOf u)
/-- The value is a slice of these bytes. -/
def PartG (w : World) (G : Nat → Prop) (v : Value) (us : List UInt8) : Prop := ∃ A c, v = .slice A us.length c ∧ RowG w G A us ∧ us.length ≤ c ∧ c ≤ maxLen ∧ (A = none → c = 0)
theorem RowG.row {w : World} {G : Nat → Prop} {A : Option Addr} {bs : List UInt8} {B : Nat} (h : RowG w G A bs) (hG : ∀ b, G b → b < B) : Row w B A bs := by
  rcases h with rfl | ⟨b, off, e, hb, hc⟩
  · exact .inl rfl
  · exact .inr ⟨b, off, e, hG b hb, hc⟩
theorem RowG.keep {w w' : World} {G : Nat → Prop} {A : Option Addr} {bs : List UInt8} (h : RowG w G A bs) (hk : ∀ b, G b → w'.heap[b]? = w.heap[b]?) : RowG w' G A bs := by
  rcases h with rfl | ⟨b, off, e, hb, hc⟩
  · exact .inl rfl
  · exact .inr ⟨b, off, e, hb, fun j u hu => (World.cell?_of_block (hk b hb)).trans (hc j u hu)⟩
theorem PartG.keep {w w' : World} {G : Nat → Prop} {v : Value} {us : List UInt8} (h : PartG w G v us) (hk : ∀ b, G b → w'.heap[b]? = w.heap[b]?) : PartG w' G v us := by
  obtain ⟨A, c, e, hr, r⟩ := h
  exact ⟨A, c, e, hr.keep hk, r⟩
theorem RowG.mono {w : World} {G H : Nat → Prop} {A : Option Addr} {bs : List UInt8} (h : RowG w G A bs) (hG : ∀ b, G b → H b) : RowG w H A bs := by
  rcases h with rfl | ⟨b, off, e, hb, hc⟩
  · exact .inl rfl
  · exact .inr ⟨b, off, e, hG b hb, hc⟩
theorem PartG.mono {w : World} {G H : Nat → Prop} {v : Value} {us : List UInt8} (h : PartG w G v us) (hG : ∀ b, G b → H b) : PartG w H v us := by
  obtain ⟨A, c, e, hr, r⟩ := h
  exact ⟨A, c, e, hr.mono hG, r⟩
theorem Row.toG {w : World} {B : Nat} {A : Option Addr} {bs : List UInt8} {G : Nat → Prop} (h : Row w B A bs) (hG : ∀ b, b < B → G b) : RowG w G A bs := by
  rcases h with rfl | ⟨b, off, e, hb, hc⟩
  · exact .inl rfl
  · exact .inr ⟨b, off, e, hG b hb, hc⟩
theorem Part.toG {w : World} {B : Nat} {v : Value} {us : List UInt8} {G : Nat → Prop} (h : Part w B v us) (hG : ∀ b, b < B → G b) : PartG w G v us := by
  obtain ⟨A, c, e, hr, r⟩ := h
  exact ⟨A, c, e, hr.toG hG, r⟩
/-- The slices that stand at an address, one by one. -/
theorem Parts.vals {w : World} {B : Nat} {D : Option Addr} {ps : List (List UInt8)} (h : Parts w B D ps) :
    ∃ vs : List Value, vs.length = ps.length ∧ (∀ (j : Nat) (us : List UInt8) (v : Value), ps[j]? = some us → vs[j]? = some v → Part w B v us) ∧ (ps = [] ∨ ∃ b off, D = some ⟨b, off, none⟩ ∧ b < B ∧ ∀ (j : Nat) (v : Value), vs[j]? = some v → w.cell? ⟨b, off + j, none⟩ = some v) := by
  rcases h with rfl | ⟨b, off, rfl, hlt, hc⟩
  · exact ⟨[], rfl, fun j us v h => by simp at h, .inl rfl⟩
  · refine ⟨(List.range ps.length).map fun j => (w.cell? ⟨b, off + j, none⟩).getD undef, by simp, fun j us v hu hv => ?_, .inr ⟨b, off, rfl, hlt, fun j v hv => ?_⟩⟩
    · obtain ⟨v', h1, h2⟩ := hc j us hu
      have hj := (List.getElem?_eq_some_iff.1 hu).1
      rw [List.getElem?_map, List.getElem?_range hj, Option.map_some, h1] at hv
      cases hv
      exact h2
    · have hj : j < ps.length := by simpa using (List.getElem?_eq_some_iff.1 hv).1
      obtain ⟨v', h1, h2⟩ := hc j _ (List.getElem?_eq_getElem hj)
      rw [List.getElem?_map, List.getElem?_range hj, Option.map_some, h1] at hv
      cases hv
      exact h1
theorem sl_info : (Tryd.prog.info? 24).map (fun i => (i.zero, i.size, i.bytes)) = some (some (.slice none 0 0), 1, 24) := by kernel_rfl
theorem Part.one {w : World} {B : Nat} {v : Value} {us : List UInt8} (h : Part w B v us) : v.oneCell' = true := by
  obtain ⟨A, c, rfl, _⟩ := h
  rfl
theorem ownsRow_on {w w' : World} {base n sz : Nat} {e : TypeId} {v : Value} {xs : List Value} (h : w.ownsRow base e sz v n xs) (hb : Below w.heap.size w w') : w'.ownsRow base e sz v n xs := by
  have hlt := World.ownsRow.lt h
  obtain ⟨h1, h2⟩ := h
  refine ⟨h1, ?_⟩
  rcases h2 with h2 | ⟨g, cap, cur, hv, hg, hh, r⟩
  · exact .inl h2
  · refine .inr ⟨g, cap, cur, hv, hg, ?_, r⟩
    rw [hb.block g (hlt g (by rw [hv]; rfl)).2]
    exact hh
/-- The end of a message behind its parts, where they lie: old parts below B, new ones from S on. -/
def Ended (w : World) (B S g : Nat) (ps : List (List UInt8)) : Prop :=
  S ≤ g ∧ g < w.heap.size ∧ ∀ j us, ps[j]? = some us → ∃ v, w.cell? ⟨g, j, none⟩ = some v ∧ PartG w (fun b => b < B ∨ (S ≤ b ∧ b < w.heap.size)) v us
set_option maxRecDepth 100000 in
theorem ended_any (D : Option Addr) (d n B : Nat) (ps : List (List UInt8)) (w : World) (hl : ps.length = n) (hB : B ≤ w.heap.size) (hP : Parts w B D ps) (hn1 : n ≤ 100000) (hn : ps.flatten.length ≤ 900000) :
    Calls Tryd.prog 13 #[.slice D n d] w fun e w' => ∃ g c, e = .returned (.slice (some ⟨g, 0, none⟩) (n + 1) c) ∧ Below w.heap.size w w' ∧ Ended w' B w.heap.size g (ps ++ [widEnd ps.flatten.length]) := by
  have HL := Lib.hid hl
  obtain ⟨vs, hvl, hvp, hvc⟩ := hP.vals
  rw [hl] at hvl
  have HV := Lib.hid hvl
  clear hl hvl
  obtain ⟨i0, hi0, hz0, hz1, hz2⟩ := info_parts sl_info
  have HN2 : Hid (((n : Int) + 1) = ((n + 1 : Nat) : Int)) := by show _ = _; omega
  have HM : Hid (i0.bytes * (n + 1) ≤ 281474976710656) := by show _ ≤ _; rw [hz2]; omega
  go_enter Tryd.func13, Tryd.ntmps13
  go_wp2_with (first
    | (refine wpList_make_own w rfl _ _ 22 rfl w.heap.size 24 i0 _ 1 Tryd.underlying22 hi0 hz0 hz1 .i64 .i64 _ (n + 1) rfl rfl HN2.out HM.out (by simp only [maxLen]; omega) (Nat.le_refl _) ?_
       intro w1 hO1 hG1
       have hB1 : Below w.heap.size w w1 := (Below.refl _ _).grown hG1 (Nat.le_refl _) (fun k e => by cases e)))
  go_loopw [3, 4, 13] (fun v s i wr => ∃ k : Nat, k ≤ n ∧ i = .int .i64 k ∧ s = .int .i64 ((ps.take k).flatten.length : Int) ∧ v = .slice (some ⟨w.heap.size, 0, none⟩) k (n + 1) ∧ Below w.heap.size w wr ∧ wr.ownsRow w.heap.size 24 1 v k (vs.take k)) (fun _ _ i _ => n - (intOf i).toNat)
  case atStart => exact ⟨0, Nat.zero_le _, rfl, rfl, rfl, hB1, hO1⟩
  case round =>
    clear hB1 hO1 hG1
    obtain ⟨k, hk, rfl, rfl, rfl, hBr, hO⟩ := hrel
    have hle := flatten_take_le ps k
    by_cases hlt : k < n
    · have hlt2 : k < ps.length := by rw [HL.out]; exact hlt
      have hlt3 : k < vs.length := by rw [HV.out]; exact hlt
      have HS := Lib.hid (show (ps.take (k + 1)).flatten.length = (ps.take k).flatten.length + ps[k].length by rw [take_snoc ps k hlt2, List.flatten_append]; simp)
      have HT := Lib.hid (take_snoc vs k hlt3)
      have hle2 := flatten_take_le ps (k + 1)
      rw [HS.out] at hle2
      obtain ⟨A, c, hvk, _⟩ := hvp k _ _ (List.getElem?_eq_getElem hlt2) (List.getElem?_eq_getElem hlt3)
      rcases hvc with rfl | ⟨b, off, rfl, hbB, hcell⟩
      · simp at hlt2
      have hc1 := (hBr.cell (p := ⟨b, off + k, none⟩) (Nat.lt_of_lt_of_le hbB hB)).trans (hcell k _ (List.getElem?_eq_getElem hlt3))
      rw [hvk] at hc1 HT
      generalize hps : ps[k].length = m at *
      replace hps := Lib.hid hps
      generalize (ps.take k).flatten.length = q at *
      have hcell2 : ∀ (j : Nat) (u : Value), [Value.slice A m c][j]? = some u → (wr.alloc (.cells #[.slice A m c] 24)).cell? ((⟨wr.heap.size, 0, none⟩ : Addr).add j) = some u := fun j u hu => by
        match j, hu with
        | 0, hu =>
          cases hu
          rw [Go.WideShapes.add_plain, World.cell?_alloc_at _ _ _ _ rfl]
          rfl
        | j + 1, hu => simp at hu
      have HC := Lib.hid hcell2
      clear hcell2
      go_wp2_with (first
        | (at_builtin
           refine wpList_append_fits _ rfl (.tmp 17) (.tmp 19) 22 rfl w.heap.size 24 i0 1 Tryd.underlying22 hi0 hz1 w.heap.size k (n + 1) (vs.take k) rfl (World.ownsRow.alloc hO _) ⟨wr.heap.size, 0, none⟩ 1 1 [.slice A m c] rfl rfl HC.out (by intro u hu; rw [List.mem_singleton.1 hu]; rfl) (by omega) ?_
           intro w3 hO3 hG3))
      go_roundw
      case rel =>
        refine ⟨k + 1, by omega, by go_num, by rw [HS.out]; go_num, rfl, ?_, by rw [HT.out]; exact hO3⟩
        exact (hBr.alloc hBr.size _).grown hG3 (by have := hBr.size; simp; omega) (fun j e => by cases e; exact Nat.le_refl _)
      case measure => simp [intOf]; omega
    · obtain rfl : k = n := by omega
      have e1 : ps.take k = ps := List.take_of_length_le (by rw [HL.out]; omega)
      have e2 : vs.take k = vs := List.take_of_length_le (by rw [HV.out]; omega)
      rw [e2] at hO
      rw [e1]
      clear e1 e2 hle
      have hown := (World.ownsRow.lt hO w.heap.size rfl).2
      generalize hLL : ps.flatten.length = L at *
      replace hLL := Lib.hid hLL
      go_wp2_with fail
      refine (wideEnd_any L wr hn).mono ?_
      rintro e w4 ⟨rfl, hB4, hM4⟩
      have hO4 := ownsRow_on hO hB4
      have hB5 := hBr.trans (hB4.mono hBr.size)
      have hp := widPad_pos L
      have HE := Lib.hid (widEnd_length L)
      generalize widPad L = p at *
      have hcell2 : ∀ (j : Nat) (u : Value), [Value.slice (some ⟨wr.heap.size, 0, none⟩) (p + 16) (p + 16)][j]? = some u → (w4.alloc (.cells #[.slice (some ⟨wr.heap.size, 0, none⟩) (p + 16) (p + 16)] 24)).cell? ((⟨w4.heap.size, 0, none⟩ : Addr).add j) = some u := fun j u hu => by
        match j, hu with
        | 0, hu =>
          cases hu
          rw [Go.WideShapes.add_plain, World.cell?_alloc_at _ _ _ _ rfl]
          rfl
        | j + 1, hu => simp at hu
      have HC := Lib.hid hcell2
      clear hcell2
      go_wp2_with (first
        | (at_builtin
           refine wpList_append_fits _ rfl (.tmp 26) (.tmp 29) 22 rfl w.heap.size 24 i0 1 Tryd.underlying22 hi0 hz1 w.heap.size k (k + 1) vs rfl (World.ownsRow.alloc hO4 _) ⟨w4.heap.size, 0, none⟩ 1 1 [.slice (some ⟨wr.heap.size, 0, none⟩) (p + 16) (p + 16)] rfl rfl HC.out (by intro u hu; rw [List.mem_singleton.1 hu]; rfl) (by omega) ?_
           intro w5 hO5 hG5))
      go_ret
      have hB6 : Below w.heap.size w w5 := (hB5.alloc hB5.size _).grown hG5 (by have := hB5.size; simp; omega) (fun j e => by cases e; exact Nat.le_refl _)
      have hz4 := hB4.size
      have hz5 := hG5.size
      rw [World.size_alloc] at hz5
      refine ⟨w.heap.size, k + 1, rfl, hB6, Nat.le_refl _, (World.ownsRow.lt hO5 w.heap.size rfl).2, fun j us hu => ?_⟩
      by_cases hj : j < k
      · rw [List.getElem?_append_left (by rw [HL.out]; exact hj)] at hu
        have hj2 : j < vs.length := by rw [HV.out]; exact hj
        have hc5 := World.ownsRow.cells hO5 (g := w.heap.size) rfl j vs[j] (by rw [List.getElem?_append_left hj2, List.getElem?_eq_getElem hj2])
        rw [Go.WideShapes.add_plain, Nat.zero_add] at hc5
        refine ⟨_, hc5, ?_⟩
        have hq := (hvp j us _ hu (List.getElem?_eq_getElem hj2)).below (hB6.mono hB)
        exact hq.toG fun b hb => .inl hb
      · have hj2 : j = k := by
          have := (List.getElem?_eq_some_iff.1 hu).1
          rw [List.length_append, HL.out] at this
          simp at this
          omega
        subst hj2
        rw [List.getElem?_append_right (by rw [HL.out]; exact Nat.le_refl _), HL.out, Nat.sub_self, hLL.out] at hu
        cases hu
        have hc5 := World.ownsRow.cells hO5 (g := w.heap.size) rfl j (.slice (some ⟨wr.heap.size, 0, none⟩) (p + 16) (p + 16)) (by rw [List.getElem?_append_right (by rw [HV.out]; exact Nat.le_refl _), HV.out]; simp)
        rw [Go.WideShapes.add_plain, Nat.zero_add] at hc5
        refine ⟨_, hc5, some ⟨wr.heap.size, 0, none⟩, p + 16, by rw [HE.out], ?_, by rw [HE.out]; exact Nat.le_refl _, by simp only [maxLen]; omega, fun h => by cases h⟩
        have hM5 : Made w5 wr.heap.size (widEnd L) := by
          have h := hG5.block wr.heap.size (by have := hM4.lt; simp; omega) (by intro e; have e := Option.some.inj e; omega)
          exact h.trans ((Below.heap_alloc _ _ _ hM4.lt).trans hM4)
        rcases hM5.row hM5.lt with h0 | ⟨b, off, e, hb, hc⟩
        · exact .inl h0
        · cases e
          exact .inr ⟨wr.heap.size, 0, rfl, .inr ⟨by omega, hb⟩, hc⟩
end Go.Proofs.YtpbkjphdkdlhjaaDoor
