/- Part 8 of what the laws of this seat share: TMinus, WFlat3, TLess, WZeros, DOwn, TNext. -/
import Derived.IntWalk
import Derived.Deep.Cut
import Derived.Lib.AppendStr
import Derived.Laws.IdiomStrings
import Derived.Test.YticgkabamelddaaDoorPart7
namespace Go.Proofs.YticgkabamelddaaDoor
open Go.RowKit
/-- What wraps round below nought, in a word of 64 bits. -/
def lowW (p y o : Nat) : Nat := (p + 18446744073709551616 - y - o) % 18446744073709551616
theorem lowW_is (p y o : Nat) (hp : p < 4294967296) (hy : y < 4294967296) (ho : o ≤ 1) : IntKind.u64.wrap (IntKind.u64.wrap ((p : Int) - (y : Int)) - (o : Int)) = (lowW p y o : Int) ∧ lowW p y o % 4294967296 = (p + 4294967296 - y - o) % 4294967296 ∧ lowW p y o / 4294967296 % 2 = 1 - (p + 4294967296 - y - o) / 4294967296 := by
  rw [IntKind.wrap_u64, IntKind.wrap_u64, lowW]
  refine ⟨by omega, by omega, ?_⟩
  rcases Nat.lt_or_ge p (y + o) with h | h
  · rw [show (p + 4294967296 - y - o) / 4294967296 = 0 by omega, show (p + 18446744073709551616 - y - o) % 18446744073709551616 = p + 18446744073709551616 - y - o by omega, show (p + 18446744073709551616 - y - o) / 4294967296 = 4294967295 by omega]
  · rw [show (p + 4294967296 - y - o) / 4294967296 = 1 by omega, show (p + 18446744073709551616 - y - o) % 18446744073709551616 = p - y - o by omega, show (p - y - o) / 4294967296 = 0 by omega]
set_option maxRecDepth 100000 in
set_option maxHeartbeats 2000000 in
theorem scMinus_over (a b r : List Nat) (c : Bool) (S : Nat → List Nat) (O : Nat → Nat) (w : World) (HA : Hid (∀ k, a.getD k 0 < 4294967296)) (HB : Hid (b.length = 8 ∧ ∀ k, b.getD k 0 < 4294967296)) (HL : Hid (∀ k, (S k).length = 8)) (H0 : Hid (S 0 = a ∧ O 0 = 0)) (HG : Hid (∀ k, (S k).getD k 0 = a.getD k 0))
    (HS : Hid (∀ k, S (k + 1) = (S k).set k ((a.getD k 0 + 4294967296 - b.getD k 0 - O k) % 4294967296) ∧ O (k + 1) = 1 - (a.getD k 0 + 4294967296 - b.getD k 0 - O k) / 4294967296)) (HO : Hid (∀ k, O k ≤ 1)) (HR : Hid (S 8 = r)) (HC : Hid (((O 8 : Int) == 1) = c)) :
    Calls Tryd.prog 23 #[numVal a, numVal b] w fun e w' => e = .returned (.tuple #[numVal r, .bool c]) ∧ Below w.heap.size w w' := by
  go_enter Tryd.func23, Tryd.ntmps23
  go_wp2_with (first
    | (refine vtake_step rfl 42 (.tmp 0) rfl (a.map ncell) rfl ?_
       intro w1 hB1 hA1
       try simp only [Act.put, List.setIfInBounds_toArray, List.set_cons_zero, List.set_cons_succ]
       skip)
    | (refine vtake_step rfl 42 (.tmp 1) rfl (b.map ncell) rfl ?_
       intro w2 hb2 hC2
       have hB2 := below_then hB1 hb2
       have hA2 := hA1.on hb2
       have hg1 := hA1.lt
       clear hB1 hA1 hb2
       try simp only [Act.put, List.setIfInBounds_toArray, List.set_cons_zero, List.set_cons_succ]
       skip)
    | (refine vzero_step (o := ⟨some 4, _, _, _, _, _⟩) rfl 42 rfl (nzeros 8) zero_sn ?_
       intro w3 hb3 hZ3
       have hB3 := below_then hB2 hb3
       have hA3 := hA2.on hb3
       have hC3 := hC2.on hb3
       have hg2 := hC2.lt
       clear hB2 hA2 hC2 hb3
       try simp only [Act.put, List.setIfInBounds_toArray, List.set_cons_zero, List.set_cons_succ]
       skip))
  generalize hg : w1.heap.size = gb at *
  generalize hh : w2.heap.size = gz at *
  clear hg hh
  go_loopw [6, 9] (fun v i wr => ∃ k : Nat, k ≤ 8 ∧ i = .int .i64 k ∧ v = .int .u64 (O k : Int) ∧ Below w.heap.size w wr ∧ Cells wr w.heap.size ((S k).map ncell) 42 ∧ Cells wr gb (b.map ncell) 42 ∧ Cells wr gz (nzeros 8) 42) (fun _ i _ => 8 - (intOf i).toNat)
  case atStart => exact ⟨0, Nat.zero_le _, rfl, by rw [H0.out.2]; rfl, hB3, by rw [H0.out.1]; exact hA3, hC3, hZ3⟩
  case round =>
    clear hB3 hA3 hC3 hZ3
    obtain ⟨k, hk, rfl, rfl, hB, hS, hC, hZ⟩ := hrel
    have HLk := Lib.hid (HL.out k)
    by_cases hlt : k < 8
    · have HN := Lib.hid (HS.out k)
      have ho := HO.out k
      have hp := HA.out k
      have hq := HB.out.2 k
      have HGk := Lib.hid (HG.out k)
      have d1 := hS.get (nat_at (S k) k (by rw [HLk.out]; omega))
      have d2 := hC.get (nat_at b k (by rw [HB.out.1]; omega))
      rw [HGk.out] at d1
      obtain ⟨z, HZ⟩ := namedF (S (k + 1))
      obtain ⟨o2, HO2⟩ := namedF (O (k + 1))
      rw [HZ.out, HO2.out] at HN
      generalize S k = s at *
      generalize O k = o at *
      generalize a.getD k 0 = p at *
      generalize b.getD k 0 = y at *
      clear HA HB HL H0 HS HO HR HG HGk HC
      have hlow := lowW_is p y o hp hq ho
      have hlt2 : lowW p y o < 18446744073709551616 := Nat.mod_lt _ (by decide)
      generalize lowW p y o = x at *
      obtain ⟨c5, hv, hu⟩ := hlow
      rw [← hv, ← hu] at HN
      have c6 := and32m x hlt2
      have c7 : bits .and .u64 ((x : Int) / 4294967296) 1 = (o2 : Int) := by rw [HN.out.2]; exact and1m (x / 4294967296) (by omega)
      obtain ⟨v, HV⟩ := namedF (x % 4294967296)
      rw [HV.out] at HN c6
      clear HV hp hq hv hu hlt2 ho
      have i1 : (0 : Int) ≤ (k : Int) := by omega
      have i2 : (k : Int) < 8 := by omega
      go_wp2_with fail
      go_quiet (fail)
      have hB4 : Below w.heap.size w (wr.drewN nq) := ⟨hB.os, hB.tape, hB.output, hB.size, hB.block⟩
      have hC4 := hC.drewN nq
      have hZ4 := hZ.drewN nq
      have hS4 := hS.drewN nq
      generalize wr.drewN nq = w4 at *
      clear hB hC hZ hS d1 d2
      have hT := hS4.there k 1 (by rw [List.length_map, HLk.out]; omega)
      have hE := Lib.hid (hS4.set k (ncell v))
      go_wp2_with (first
        | (refine store_step rfl 40 _ _ rfl w.heap.size k .u64 (v : Int) rfl rfl size_u64 hT ?_
           intro w5 hw5
           have hB5 : Below w.heap.size w w5 := by rw [hw5]; exact hB4.setCell (p := ⟨w.heap.size, k, none⟩) (Nat.le_refl _) _
           have hC5 : Cells w5 gb (b.map ncell) 42 := by rw [hw5]; exact hC4.other (by show gb ≠ w.heap.size; omega) _
           have hZ5 : Cells w5 gz (nzeros 8) 42 := by rw [hw5]; exact hZ4.other (by show gz ≠ w.heap.size; omega) _
           have hS5 : Cells w5 w.heap.size (z.map ncell) 42 := by rw [hw5, HN.out.1, ← nset_map]; exact hE.out
           clear hw5 hT hE hB4 hC4 hZ4 hS4))
      go_roundw
      case rel => exact ⟨k + 1, by omega, by go_num, by rw [HO2.out], hB5, by rw [HZ.out]; exact hS5, hC5, hZ5⟩
      case measure => simp [intOf]; omega
    · obtain rfl : k = 8 := by omega
      rw [HR.out] at hS HLk
      generalize O 8 = o at *
      go_wp2_with (first
        | (refine sget_step rfl 42 _ rfl w.heap.size 8 (r.map ncell) rfl hS Tryd.underlying42 rfl size_sn (by rw [List.length_map, HLk.out]) ?_)
        | (refine vset_step rfl 42 _ _ rfl gz 8 (nzeros 8) (r.map ncell) rfl rfl hZ rfl size_sn (by rw [List.length_map, HLk.out]) (ncells_one r) ?_
           intro w7 hb7 hC7 _))
      rw [HC.out]
      exact vret2 Tryd.results23 gz (r.map ncell) (.bool c) rfl rfl hC7 Tryd.underlying42 size_sn (by rw [List.length_map, HLk.out]) rfl ⟨rfl, hB.trans (hb7.below (by omega) hB.size)⟩
theorem scMinus_any (n m : Nat) (w : World) (hn : n < mm) (hm : m < mm) : Calls Tryd.prog 23 #[numVal (nD n), numVal (nD m)] w fun e w' => e = .returned (.tuple #[numVal (nD ((n + mm - m) % mm)), .bool (decide (n < m))]) ∧ Below w.heap.size w w' := by
  have h := mnS_all (nD_D8 n) (nD_D8 m)
  rw [pre_nD n hn, pre_nD m hm] at h
  refine scMinus_over (nD n) (nD m) _ _ (fun k => (mnS (nD n) (nD m) k).1) (fun k => (mnS (nD n) (nD m) k).2) w (nD_D8 n).2 (nD_D8 m) (fun k => (mnS_D8 (nD_D8 n) k).1) ⟨rfl, rfl⟩ (fun k => mnS_ahead _ _ k k (Nat.le_refl _)) (fun k => ?_) (fun k => mnS_owe _ _ k) h.1 ?_
  · rw [mnS]; exact ⟨rfl, rfl⟩
  · show _ = _
    rw [h.2]
    by_cases hc : n < m
    · rw [if_pos hc, decide_eq_true hc]; rfl
    · rw [if_neg hc, decide_eq_false hc]; rfl
end Go.Proofs.YticgkabamelddaaDoor
namespace Go.Proofs.YticgkabamelddaaDoor
open Go.RowKit
section
variable {P : Program} {ops : Array Oper} {Q : Exit → Act → World → Prop} {md : Region.Mode}
/-- Each operation waits for earlier ones alone. -/
def earlyB (md : Region.Mode) (ops : Array Oper) : Bool := (List.range ops.size).all fun i => match ops[i]? with
  | some o => o.after.all fun e => !Region.binds md e || Nat.blt e.on i
  | none => true
/-- The first k of n have come up. -/
def preA (n k : Nat) : Array Bool := ((List.range n).map fun i => Nat.blt i k).toArray
theorem preA_get (n k i : Nat) (d : Bool) (h : i < n) : (preA n k).getD i d = Nat.blt i k := by simp [preA, h]
theorem preA_zero (n : Nat) : preA n 0 = Array.replicate n false := by
  apply Array.ext_getElem?
  intro i
  by_cases h : i < n
  · simp [preA, h, show Nat.blt i 0 = false from Bool.eq_false_iff.2 (by rw [Ne, Nat.blt_eq]; omega)]
  · simp [preA, h]
theorem preA_set (n k : Nat) : (preA n k).setIfInBounds k true = preA n (k + 1) := by
  apply Array.ext_getElem?
  intro i
  rw [Array.getElem?_setIfInBounds]
  by_cases h : i < n
  · by_cases e : k = i
    · subst e
      simp [preA, h, Nat.blt_eq]
    · have : Nat.blt i k = Nat.blt i (k + 1) := by
        rw [Bool.eq_iff_iff, Nat.blt_eq, Nat.blt_eq]
        omega
      simp [preA, h, e, this]
  · by_cases e : k = i
    · subst e
      simp [preA, h]
    · simp [preA, h, e]
theorem wpOps_of_any (hE : earlyB md ops = true) : ∀ (n k : Nat) (a : Act) (w : World), k + n = ops.size → wpAny P md ops Q n (preA ops.size k) a w → wpOps P ops Q (List.range' k n) a w
  | 0, _, _, _, _, h => h.2
  | n + 1, k, a, w, hk, h => by
    rw [List.range'_succ, wpOps_cons]
    have hr : k ∈ Region.ready md ops (preA ops.size k) := by
      have hlt : k < ops.size := by omega
      refine mem_ready.2 ⟨by rw [preA_get _ _ _ _ hlt]; exact Bool.eq_false_iff.2 (by rw [Ne, Nat.blt_eq]; omega), ops[k], by simp [hlt], fun e he hb => ?_⟩
      rw [earlyB, List.all_eq_true] at hE
      have h1 := hE k (List.mem_range.2 hlt)
      rw [Array.getElem?_eq_getElem hlt] at h1
      have h2 := (Array.all_eq_true'.1 h1) e he
      rw [hb] at h2
      have h3 : Nat.blt e.on k = true := by simpa using h2
      rw [preA_get _ _ _ _ (Nat.lt_trans (by simpa [Nat.blt_eq] using h3) hlt)]
      exact h3
    refine wpOp_mono (fun a w hh => wpOps_of_any hE n (k + 1) a w (by omega) ?_) (h.2 k hr)
    rwa [preA_set] at hh
theorem wp_region_flat {id : Nat} {a : Act} {w : World} (hE : earlyB md ops = true) (h : wpAny P md ops Q ops.size (Array.replicate ops.size false) a w) : (Code.region id ops false).wp P Q a w := by
  refine wp_region ?_
  rw [List.range_eq_range']
  refine wpOps_of_any hE ops.size 0 a w (by omega) ?_
  rw [preA_zero]
  exact h
end
end Go.Proofs.YticgkabamelddaaDoor
namespace Go.Proofs.YticgkabamelddaaDoor
open Go.RowKit
set_option maxRecDepth 100000 in
set_option maxHeartbeats 1000000 in
theorem scLess_over (a b d s ol : List Nat) (c : Bool) (w : World)
    (Ha : Hid (a.length = 8))
    (Hb : Hid (b.length = 8))
    (Hd : Hid (d.length = 8))
    (Hs : Hid (s.length = 8))
    (Hol : Hid (ol.length = 8))
    (CM : Hid (∀ W, Calls Tryd.prog 23 #[numVal a, numVal b] W fun e w' => e = .returned (.tuple #[numVal d, .bool c]) ∧ Below W.heap.size W w'))
    (CP : Hid (c = true → ∀ W, Calls Tryd.prog 25 #[numVal d, numVal ol] W fun e w' => e = .returned (numVal s) ∧ Below W.heap.size W w'))
    (hO : Tab w 0 (ol.map ncell)) :
    Calls Tryd.prog 24 #[numVal a, numVal b] w fun e w' => e = .returned (numVal (bif c then s else d)) ∧ Below w.heap.size w w' := by
  go_enter Tryd.func24, Tryd.ntmps24
  go_wp2_with (first
    | (refine vtake_step rfl 42 (.tmp 0) rfl (a.map ncell) rfl ?_
       intro w1 hb1 hva1
       have hB1 := hb1
       have hgea : w.heap.size ≤ w.heap.size := Nat.le_refl _
       have hvo1 := hO.on hb1
       have hneoa := Nat.ne_of_lt hO.lt
       clear hO hb1
       try simp only [Act.put, List.setIfInBounds_toArray, List.set_cons_zero, List.set_cons_succ]
       skip)
    | (refine vtake_step rfl 42 (.tmp 1) rfl (b.map ncell) rfl ?_
       intro w2 hb2 hvb2
       have hB2 := below_then hB1 hb2
       have hgeb : w.heap.size ≤ w1.heap.size := hB1.size
       have hvo2 := hvo1.on hb2
       have hneob := Nat.ne_of_lt hvo1.lt
       have hva2 := hva1.on hb2
       have hneab := Nat.ne_of_lt hva1.lt
       clear hB1 hvo1 hva1 hb2
       try simp only [Act.put, List.setIfInBounds_toArray, List.set_cons_zero, List.set_cons_succ]
       skip)
    | (refine vzero_step (o := ⟨some 4, _, _, _, _, _⟩) rfl 42 rfl (nzeros 8) zero_sn ?_
       intro w3 hb3 hvr3
       have hB3 := below_then hB2 hb3
       have hger : w.heap.size ≤ w2.heap.size := hB2.size
       have hvo3 := hvo2.on hb3
       have hneor := Nat.ne_of_lt hvo2.lt
       have hva3 := hva2.on hb3
       have hnear := Nat.ne_of_lt hva2.lt
       have hvb3 := hvb2.on hb3
       have hnebr := Nat.ne_of_lt hvb2.lt
       clear hB2 hvo2 hva2 hvb2 hb3
       try simp only [Act.put, List.setIfInBounds_toArray, List.set_cons_zero, List.set_cons_succ]
       skip)
    | (refine sget_step rfl 42 (.tmp 2) rfl w.heap.size 8 (a.map ncell) rfl hva3 Tryd.underlying42 rfl size_sn (by rw [List.length_map, Ha.out]) ?_
       try simp only [Act.put, List.setIfInBounds_toArray, List.set_cons_zero, List.set_cons_succ]
       skip)
    | (refine sget_step rfl 42 (.tmp 3) rfl w1.heap.size 8 (b.map ncell) rfl hvb3 Tryd.underlying42 rfl size_sn (by rw [List.length_map, Hb.out]) ?_
       try simp only [Act.put, List.setIfInBounds_toArray, List.set_cons_zero, List.set_cons_succ]
       skip))
  generalize hqb : w1.heap.size = gb at *
  clear hqb
  generalize hqr : w2.heap.size = gr at *
  clear hqr
  refine (CM.out w3).mono ?_
  rintro e w4 ⟨rfl, hb4⟩
  have hB4 := below_then hB3 hb4
  have hvo4 := hvo3.on hb4
  have hva4 := hva3.on hb4
  have hvb4 := hvb3.on hb4
  have hvr4 := hvr3.on hb4
  clear hB3 hvo3 hva3 hvb3 hvr3 hb4
  cases c
  · go_wp2_with (first
      | (refine vput_step rfl rfl 42 (.tmp 5) (.tmp 11) rfl rfl 8 (nzeros 8) (d.map ncell) rfl rfl zero_sn rfl size_sn (by rw [List.length_map, Hd.out]) (ncells_one _) ?_
         intro w5 hb5 hvd5
         have hB5 := below_then hB4 hb5
         have hged : w.heap.size ≤ w4.heap.size := hB4.size
         have hvo5 := hvo4.on hb5
         have hneod := Nat.ne_of_lt hvo4.lt
         have hva5 := hva4.on hb5
         have hnead := Nat.ne_of_lt hva4.lt
         have hvb5 := hvb4.on hb5
         have hnebd := Nat.ne_of_lt hvb4.lt
         have hvr5 := hvr4.on hb5
         have hnerd := Nat.ne_of_lt hvr4.lt
         clear hB4 hvo4 hva4 hvb4 hvr4 hb5
         try simp only [Act.put, List.setIfInBounds_toArray, List.set_cons_zero, List.set_cons_succ]
         skip)
      | (refine sget_step rfl 42 (.tmp 5) rfl w4.heap.size 8 (d.map ncell) rfl hvd5 Tryd.underlying42 rfl size_sn (by rw [List.length_map, Hd.out]) ?_
         try simp only [Act.put, List.setIfInBounds_toArray, List.set_cons_zero, List.set_cons_succ]
         skip)
      | (refine vset_step rfl 42 (.tmp 4) (.tmp 17) rfl gr 8 (nzeros 8) (d.map ncell) rfl rfl hvr5 rfl size_sn (by rw [List.length_map, Hd.out]) (ncells_one _) ?_
         intro w6 hb6 hvr6 hz6
         have hB6 : Below w.heap.size w w6 := hB5.trans (hb6.below hger hB5.size)
         have hvo6 := hvo5.but hb6 hneor
         have hva6 := hva5.but hb6 hnear
         have hvb6 := hvb5.but hb6 hnebr
         have hvd6 := hvd5.but hb6 (Ne.symm hnerd)
         clear hB5 hvr5 hb6 hz6 hvo5 hva5 hvb5 hvd5
         skip))
    generalize hqd : w4.heap.size = gd at *
    clear hqd
    exact sret Tryd.results24 gr (d.map ncell) rfl hvr6 Tryd.underlying42 rfl size_sn (by rw [List.length_map, Hd.out]) rfl ⟨rfl, hB6⟩
  · go_wp2_with (first
      | (refine vput_step rfl rfl 42 (.tmp 5) (.tmp 11) rfl rfl 8 (nzeros 8) (d.map ncell) rfl rfl zero_sn rfl size_sn (by rw [List.length_map, Hd.out]) (ncells_one _) ?_
         intro w5 hb5 hvd5
         have hB5 := below_then hB4 hb5
         have hged : w.heap.size ≤ w4.heap.size := hB4.size
         have hvo5 := hvo4.on hb5
         have hneod := Nat.ne_of_lt hvo4.lt
         have hva5 := hva4.on hb5
         have hnead := Nat.ne_of_lt hva4.lt
         have hvb5 := hvb4.on hb5
         have hnebd := Nat.ne_of_lt hvb4.lt
         have hvr5 := hvr4.on hb5
         have hnerd := Nat.ne_of_lt hvr4.lt
         clear hB4 hvo4 hva4 hvb4 hvr4 hb5
         try simp only [Act.put, List.setIfInBounds_toArray, List.set_cons_zero, List.set_cons_succ]
         skip)
      | (refine sget_step rfl 42 (.tmp 5) rfl w4.heap.size 8 (d.map ncell) rfl hvd5 Tryd.underlying42 rfl size_sn (by rw [List.length_map, Hd.out]) ?_
         try simp only [Act.put, List.setIfInBounds_toArray, List.set_cons_zero, List.set_cons_succ]
         skip)
      | (refine tget_step rfl 42 (.global 0) rfl 0 8 (ol.map ncell) rfl hvo5 Tryd.underlying42 rfl size_sn (by rw [List.length_map, Hol.out]) ?_
         try simp only [Act.put, List.setIfInBounds_toArray, List.set_cons_zero, List.set_cons_succ]
         skip))
    generalize hqd : w4.heap.size = gd at *
    clear hqd
    refine ((CP.out (by simp)) w5).mono ?_
    rintro e w7 ⟨rfl, hb7⟩
    have hB7 := below_then hB5 hb7
    have hvo7 := hvo5.on hb7
    have hva7 := hva5.on hb7
    have hvb7 := hvb5.on hb7
    have hvr7 := hvr5.on hb7
    have hvd7 := hvd5.on hb7
    clear hB5 hvo5 hva5 hvb5 hvr5 hvd5 hb7
    go_wp2_with (first
      | (refine vset_step rfl 42 (.tmp 4) (.tmp 16) rfl gr 8 (nzeros 8) (s.map ncell) rfl rfl hvr7 rfl size_sn (by rw [List.length_map, Hs.out]) (ncells_one _) ?_
         intro w8 hb8 hvr8 hz8
         have hB8 : Below w.heap.size w w8 := hB7.trans (hb8.below hger hB7.size)
         have hvo8 := hvo7.but hb8 hneor
         have hva8 := hva7.but hb8 hnear
         have hvb8 := hvb7.but hb8 hnebr
         have hvd8 := hvd7.but hb8 (Ne.symm hnerd)
         clear hB7 hvr7 hb8 hz8 hvo7 hva7 hvb7 hvd7
         skip))
    exact sret Tryd.results24 gr (s.map ncell) rfl hvr8 Tryd.underlying42 rfl size_sn (by rw [List.length_map, Hs.out]) rfl ⟨rfl, hB8⟩
theorem scLess_any (n m : Nat) (w : World) (hn : n < mm) (hm : m < mm) (h : m ≤ n + NP.LL) (hO : Tab w 0 ((nD NP.LL).map ncell)) : Calls Tryd.prog 24 #[numVal (nD n), numVal (nD m)] w fun e w' => e = .returned (numVal (nD (if n < m then n + NP.LL - m else n - m))) ∧ Below w.heap.size w w' := by
  have hL : NP.LL < mm := by decide
  have e2 : mm = 115792089237316195423570985008687907853269984665640564039457584007913129639936 := rfl
  have hL2 : NP.LL = 7237005577332262213973186563042994240857116359379907606001950938285454250989 := rfl
  have h1 := scLess_over (nD n) (nD m) (nD ((n + mm - m) % mm)) (nD (((n + mm - m) % mm + NP.LL) % mm)) (nD NP.LL) (decide (n < m)) w rfl rfl rfl rfl rfl (fun W => scMinus_any n m W hn hm) (fun _ W => scPlus_any _ NP.LL W (Nat.mod_lt _ (by decide)) hL) hO
  have e : (bif decide (n < m) then nD (((n + mm - m) % mm + NP.LL) % mm) else nD ((n + mm - m) % mm)) = nD (if n < m then n + NP.LL - m else n - m) := by
    generalize mm = M at *
    generalize NP.LL = L at *
    by_cases hc : n < m
    · rw [decide_eq_true hc, if_pos hc, cond_true, Nat.mod_eq_of_lt (a := n + M - m) (by omega)]
      congr 1
      rw [show n + M - m + L = n + L - m + M by omega, Nat.add_mod_right, Nat.mod_eq_of_lt (by omega)]
    · rw [decide_eq_false hc, if_neg hc, cond_false, show n + M - m = n - m + M by omega, Nat.add_mod_right, Nat.mod_eq_of_lt (by omega)]
  rw [e] at h1
  exact h1
end Go.Proofs.YticgkabamelddaaDoor
namespace Go.Proofs.YticgkabamelddaaDoor
open Go.RowKit
theorem zeroCells_u8 (n : Nat) : Builtin.zeroCells (Value.int .u8 0).cells n = (List.replicate n (cellOf 0)).toArray := by
  apply Array.ext_getElem?
  intro i
  simp only [Builtin.zeroCells, Value.cells]
  by_cases h : i < n
  · simp [h, Nat.mod_one]
  · simp [h]
theorem str_size (bs : List UInt8) : (str bs).size = bs.length := by simp [str, ByteArray.size]
theorem strCells_str (bs : List UInt8) : Lib.strCells (str bs) = bs.map cellOf := by simp [Lib.strCells, str]
theorem run_append_zeros (w : World) (ty : TypeId) (A : Option Addr) (l c n : Nat) (hn : l + n ≤ 1000000) :
    (Builtin.append_ #[29, 3] ty #[.slice A l c, .int .i64 (n : Int)]).run Tryd.prog w = (Builtin.append_ #[29, 9] ty #[.slice A l c, .string (str (List.replicate n 0))]).run Tryd.prog w := by
  obtain ⟨i0, hi0, hz0, hz1, hz2⟩ := info_parts u8_info
  have hs : (str (List.replicate n 0)).size = n := by rw [str_size, List.length_replicate]
  have hf : ∀ w, (Builtin.firstCells 1 n (.string (str (List.replicate n 0)))).run Tryd.prog w = .ok (List.replicate n (cellOf 0)).toArray w := fun w => by
    have h := Lib.run_firstCells_string (P := Tryd.prog) w 1 (str (List.replicate n 0))
    rw [hs, strCells_str, List.map_replicate] at h
    exact h
  have hwr : IntKind.i64.wrap (n : Int) = (n : Int) := IntWalk.i64_in _ (by omega)
  have h1 : ¬ (n : Int) < 0 := by omega
  have h2 : ¬ (281474976710656 : Int) < (n : Int) := by omega
  have hzc := zeroCells_u8
  have ha : ∀ (n : Int) w, (asInt (.int .i64 n)).run Tryd.prog w = .ok n w := fun n w => by simp [asInt, asIntOf]
  have hw0 : IntKind.i64.wrap 0 = 0 := by decide
  by_cases h0 : n = 0
  · subst h0
    rw [List.replicate_zero] at hs hf
    have hf' : ∀ w, (Builtin.firstCells 1 0 (.string (str []))).run Tryd.prog w = .ok #[] w := hf
    by_cases hroom : l ≤ c
    · simp [Builtin.append_, run_underlying Tryd.underlying29, run_underlying Tryd.underlying3, run_underlying Tryd.underlying9, sizeOf, typeInfo, zeroValue, hi0, hz0, hz1, hz2, Builtin.lenOf, hs, hf', ha, hroom, hw0, hzc]
    · have h63 : ¬ (9223372036854775807 < (l : Int)) := by omega
      have h48 : ¬ (281474976710656 < Builtin.nextslicecap l c) := by
        have := growslice_fits (need := l) (old := c) (bytes := 1) (by omega) (by omega)
        omega
      simp [Builtin.append_, run_underlying Tryd.underlying29, run_underlying Tryd.underlying3, run_underlying Tryd.underlying9, sizeOf, typeInfo, zeroValue, hi0, hz0, hz1, hz2, Builtin.lenOf, hs, hf', ha, hroom, hw0, hzc, h63, h48]
  · by_cases hroom : l + n ≤ c
    · simp [Builtin.append_, run_underlying Tryd.underlying29, run_underlying Tryd.underlying3, run_underlying Tryd.underlying9, sizeOf, typeInfo, zeroValue, hi0, hz0, hz1, hz2, Builtin.lenOf, hs, hwr, h1, h2, hf, ha, hroom, h0, hzc]
    · have h63 : ¬ (9223372036854775807 < (l : Int) + (n : Int)) := by omega
      have h48 : ¬ (281474976710656 < Builtin.nextslicecap (l + n) c) := by
        have := growslice_fits (need := l + n) (old := c) (bytes := 1) (by omega) (by omega)
        omega
      simp [Builtin.append_, run_underlying Tryd.underlying29, run_underlying Tryd.underlying3, run_underlying Tryd.underlying9, sizeOf, typeInfo, zeroValue, hi0, hz0, hz1, hz2, Builtin.lenOf, hs, hwr, h1, h2, hf, ha, hroom, h0, hzc, h63, h48]
theorem Owns.form2 {w : World} {base : Nat} {v : Value} {bs : List UInt8} (h : Owns w base v bs) : ∃ A c, v = .slice A bs.length c ∧ bs.length ≤ c ∧ c ≤ maxLen ∧ (A = none → c = 0) ∧ Row w w.heap.size A bs := by
  obtain ⟨A, c, hv, hc, hA, hR⟩ := h.form
  refine ⟨A, c, hv, hc, ?_, hA, hR⟩
  rcases h.2 with ⟨h0, _⟩ | ⟨g, cap, cur, h0, _, _, _, hcm, _⟩
  · rw [hv] at h0; injection h0 with _ _ e; rw [e]; exact Nat.zero_le _
  · rw [hv] at h0; injection h0 with _ _ e; rw [e]; exact hcm
/-- 'append(out, make([]byte, n)...)'. -/
theorem append_zeros {w : World} {ops : Array Oper} {rest : List Oper} {o : Oper} {a : Act} {Q : Exit → Act → World → Prop} (hgd : o.guard = none) (s x : Operand)
    (ho : o.op = .call { callee := .builtin .append, args := #[s, x], argTypes := #[29, 3] }) (base n : Nat)
    (v : Value) (bs : List UInt8) (hs : a.eval s = v) (hown : Owns w base v bs) (hx : a.eval x = .int .i64 (n : Int))
    (hlen : bs.length + n ≤ 1000000) (hbase : base ≤ w.heap.size)
    (h : ∀ v' w', Owns w' base v' (bs ++ List.replicate n 0) → Below base w w' → wpList Tryd.prog ops Q rest (a.put o.dst v') w') : wpList Tryd.prog ops Q (o :: rest) a w := by
  obtain ⟨i0, hi0, hz0, hz1, hz2⟩ := info_parts u8_info
  have hsz : (str (List.replicate n 0)).size = n := by rw [str_size, List.length_replicate]
  refine wpList_plain hgd fun K hK => ?_
  obtain ⟨v', w', hr, h2, h3, _⟩ := Lib.run_append_own_string (P := Tryd.prog) w base 29 9 o.type 5 i0 Tryd.underlying29 Tryd.underlying9 hi0 hz0 hz1 hz2 v bs.length (bs.map cellOf) hown (str (List.replicate n 0)) (by rw [hsz]; simp only [maxLen]; omega) (by rw [hsz]; omega) hbase
  obtain ⟨A, c, rfl, _, _, _⟩ := hown.form
  rw [← run_append_zeros w o.type A bs.length c n hlen] at hr
  unfold Oper.wp execOp
  simp only [ho, resolve, invoke, builtin, Sem.run_bind, Sem.run_pure, Result.andThen_ok, List.map_toArray, List.map_cons, List.map_nil, hs, hx, hr]
  refine hK _ _ (h v' w' ?_ ((Below.refl _ _).grown h3 hbase (fun k hk => hown.far k hk)))
  rw [strCells_str, hsz, ← List.map_append] at h2
  unfold Owns
  rw [List.length_append, List.length_replicate]
  exact h2
end Go.Proofs.YticgkabamelddaaDoor
namespace Go.Proofs.YticgkabamelddaaDoor
open Go.RowKit
theorem Owns.cutTo {w : World} {base n c : Nat} {A : Option Addr} {bs : List UInt8} (h : Owns w base (.slice A n c) bs) (k : Nat) (hk : k ≤ n) : Owns w base (.slice A k c) (bs.take k) := by
  obtain ⟨h1, h2⟩ := h
  rcases h2 with ⟨hv, hn⟩ | ⟨g, cap, cur, hv, hg, hh, hnc, hcm, hsz, htk⟩
  · injection hv with hA hn2 hc
    obtain rfl : k = 0 := by omega
    subst hA hc
    exact ⟨by simp, .inl ⟨rfl, by simp⟩⟩
  · injection hv with hA hn2 hc
    subst hA hc
    have hl : (bs.take k).length = k := by rw [List.length_take]; omega
    refine ⟨by simp, .inr ⟨g, c, cur, by rw [hl], hg, hh, by omega, hcm, hsz, ?_⟩⟩
    rw [hl, Nat.mul_one, List.map_take, ← htk, Nat.mul_one, List.take_take, Nat.min_eq_left (by omega)]
theorem str_of (s : ByteArray) : s = str s.data.toList := by unfold str; simp
theorem str_append (a b : List UInt8) : str a ++ str b = str (a ++ b) := by
  unfold str
  rw [ByteArray.ext_iff, ByteArray.data_append]
  simp
section
variable {w : World} {ops : Array Oper} {rest : List Oper} {o : Oper} {a : Act} {Q : Exit → Act → World → Prop}
/-- '[]byte(s)'. -/
theorem bytes_step (hgd : o.guard = none) (x : Operand) (ho : o.op = .convert 9 29 x) (n : Nat) (bs : List UInt8) (hl : bs.length = n) (hx : a.eval x = .string (str bs)) (hn : n ≤ 1000000)
    (h : ∀ w' c, Below w.heap.size w w' → Row w' w'.heap.size (some ⟨w.heap.size, 0, none⟩) bs → w'.heap.size = w.heap.size + 1 → n ≤ c → c ≤ maxLen → wpList Tryd.prog ops Q rest (a.put o.dst (.slice (some ⟨w.heap.size, 0, none⟩) n c)) w') : wpList Tryd.prog ops Q (o :: rest) a w := by
  refine wpList_plain hgd fun K hK => ?_
  have hrun := run_bytes_of_string (P := Tryd.prog) w 9 29 5 (str bs) Tryd.underlying9 Tryd.underlying29 Tryd.underlying5
  have hs : (str bs).size = n := by rw [str_size, hl]
  rw [hs] at hrun
  unfold Oper.wp
  simp only [execOp, ho, hx, hrun, Sem.run_bind, Sem.run_pure, Result.andThen_ok]
  have hb : Below w.heap.size w (w.drew.alloc (.cells (bytesRow (str bs) (grownCap w n 0 5)) 5 ((bytesRow (str bs) (grownCap w n 0 5)).size, (bytesRow (str bs) (grownCap w n 0 5)).size + 1))) :=
    (Below.refl w.heap.size w).drew.alloc (Nat.le_refl _) _
  refine hK _ _ (h _ _ hb ?_ (by simp) (grownCap_ge w n 0 _) (grownCap_le_maxLen w n 0 _ (by unfold maxLen; omega)))
  refine .inr ⟨w.heap.size, 0, rfl, by simp, fun j u hu => ?_⟩
  have hj := World.cell?_alloc_mark w.drew (bytesRow (str bs) (grownCap w n 0 5)) 5 ((bytesRow (str bs) (grownCap w n 0 5)).size, (bytesRow (str bs) (grownCap w n 0 5)).size + 1) j
  rw [Nat.zero_add]
  refine (show _ = _ from hj).trans ?_
  have hjl : j < bs.length := by
    rcases Nat.lt_or_ge j bs.length with h | h
    · exact h
    · rw [List.getElem?_eq_none h] at hu; cases hu
  rw [List.getElem?_eq_getElem hjl] at hu
  cases hu
  simp [bytesRow, str, Array.getElem?_append, hjl]
/-- 'append(out, s...)', s a text. -/
theorem append_text (hgd : o.guard = none) (s x : Operand) (ho : o.op = .call { callee := .builtin .append, args := #[s, x], argTypes := #[29, 9] }) (base n : Nat)
    (v : Value) (bs us : List UInt8) (hs : a.eval s = v) (hown : Owns w base v bs) (hx : a.eval x = .string (str us)) (hl : us.length = n) (hlen : bs.length + n ≤ 1000000) (hbase : base ≤ w.heap.size)
    (h : ∀ v' w', Owns w' base v' (bs ++ us) → Below base w w' → wpList Tryd.prog ops Q rest (a.put o.dst v') w') : wpList Tryd.prog ops Q (o :: rest) a w := by
  obtain ⟨i0, hi0, hz0, hz1, hz2⟩ := info_parts u8_info
  have hsz : (str us).size = n := by rw [str_size, hl]
  refine Lib.wpList_append_own_string (P := Tryd.prog) w hgd s x 29 9 ho base 5 i0 Tryd.underlying29 Tryd.underlying9 hi0 hz0 hz1 hz2 v bs.length (bs.map cellOf) hs hown (str us) hx (by rw [hsz]; simp only [maxLen]; omega) (by rw [hsz]; omega) hbase ?_
  intro v' w' h2 h3 _
  refine h v' w' ?_ ((Below.refl _ _).grown h3 hbase (fun k hk => hown.far k hk))
  rw [strCells_str, hsz, ← List.map_append, ← hl] at h2
  unfold Owns
  rw [List.length_append]
  exact h2
end
/-- 'b[:i]'. -/
theorem cut_to {w : World} {ops : Array Oper} {rest : List Oper} {o : Oper} {a : Act} {Q : Exit → Act → World → Prop} (hgd : o.guard = none) (x y : Operand) (ho : o.op = .slice 29 x none (some y) none)
    (A : Option Addr) (len cap i : Nat) (z : Int) (hx : a.eval x = .slice A len cap) (hy : a.eval y = .int .i64 z) (hz : z = (i : Int)) (hi : i ≤ cap)
    (h : wpList Tryd.prog ops Q rest (a.put o.dst (.slice (cutA A 0 cap) i cap)) w) : wpList Tryd.prog ops Q (o :: rest) a w := by
  subst hz
  refine wpList_plain hgd fun K hK => ?_
  obtain ⟨i0, hi0, hs0⟩ := Option.map_eq_some_iff.1 size_u8
  have hrun : (Instr.sliceAt 29 (.slice A len cap) none (some (.int .i64 (i : Int))) none).run Tryd.prog w = .ok (.slice (cutA A 0 cap) i cap) w := by
    have hu : Tryd.prog.underlying 29 = some (.slice 5) := Tryd.underlying29
    have h1 : (Instr.sliceAt 29 (.slice A len cap) none (some (.int .i64 (i : Int))) none).run Tryd.prog w = (Instr.slice 29 (.slice A len cap) none (some (.int .i64 (i : Int))) none).run Tryd.prog w := by
      simp [Instr.sliceAt, run_underlying hu]
    rw [h1]
    have h4 : (i : Int) ≤ (cap : Int) := by omega
    simp [Instr.slice, run_underlying hu, Instr.sliceBounds, run_sliceBound, sizeOf, typeInfo, hi0, cutA, h4]
  unfold Oper.wp
  simp only [execOp, ho, hx, hy, Option.map_some, Option.map_none, hrun, Sem.run_bind, Sem.run_pure, Result.andThen_ok]
  exact hK _ _ h
/-- 'min(p, q)' of integers. -/
theorem min_step {w : World} {ops : Array Oper} {rest : List Oper} {o : Oper} {a : Act} {Q : Exit → Act → World → Prop} (hgd : o.guard = none) (p q : Operand) (ho : o.op = .call { callee := .builtin .min, args := #[p, q], argTypes := #[3, 3] })
    (x y : Int) (m : Nat) (hp : a.eval p = .int .i64 x) (hq : a.eval q = .int .i64 y) (hm : min x y = (m : Int)) (h : wpList Tryd.prog ops Q rest (a.put o.dst (.int .i64 (m : Int))) w) : wpList Tryd.prog ops Q (o :: rest) a w := by
  refine wpList_plain hgd fun K hK => ?_
  have e : (if y < x then y else x) = (m : Int) := by rw [← hm]; split <;> omega
  unfold Oper.wp execOp
  simp only [ho, resolve, invoke, builtin, Sem.run_bind, Sem.run_pure, Result.andThen_ok, List.map_toArray, List.map_cons, List.map_nil, hp, hq, run_min_int2, e]
  exact hK _ _ h
theorem Row.cutTo {w : World} {B : Nat} {A : Option Addr} {us : List UInt8} (h : Row w B A us) (i cap : Nat) (hl : us.length ≤ cap) : Row w B (cutA A 0 cap) (us.take i) := by
  have h := (h.cut 0 cap hl).take i
  rwa [List.drop_zero] at h
theorem cutA_zero (g o cap : Nat) : cutA (some ⟨g, o, none⟩) 0 cap = some ⟨g, o, none⟩ := by
  unfold cutA
  split <;> simp [Addr.add_mid]
/-- A slice of these bytes, as a part. -/
theorem Part.mk {w : World} {B : Nat} {A : Option Addr} {n c : Nat} {us : List UInt8} (hl : us.length = n) (hr : Row w B A us) (hA : A = none → c = 0) (hc : n ≤ c) (hc2 : c ≤ maxLen) : Part w B (.slice A n c) us := ⟨A, c, by rw [hl], hr, by omega, hc2, hA⟩
theorem Part.on {w w' : World} {v : Value} {us : List UInt8} (h : Part w w.heap.size v us) (hb : Below w.heap.size w w') : Part w' w'.heap.size v us := (h.below hb).more hb.size
theorem parts_three (w : World) (a b c : Value) (x y z : List UInt8) (ha : Part w w.heap.size a x) (hb : Part w w.heap.size b y) (hc : Part w w.heap.size c z) :
    Parts (w.alloc (.cells #[a, b, c] 29)) (w.alloc (.cells #[a, b, c] 29)).heap.size (some ⟨w.heap.size, 0, none⟩) [x, y, z] := parts_lit w #[a, b, c] [x, y, z] (fun j us hu => by
  match j, hu with
  | 0, hu => cases hu; exact ⟨a, rfl, ha⟩
  | 1, hu => cases hu; exact ⟨b, rfl, hb⟩
  | 2, hu => cases hu; exact ⟨c, rfl, hc⟩
  | j + 3, hu => simp at hu)
theorem parts_four (w : World) (a b c d : Value) (x y z u : List UInt8) (ha : Part w w.heap.size a x) (hb : Part w w.heap.size b y) (hc : Part w w.heap.size c z) (hd : Part w w.heap.size d u) :
    Parts (w.alloc (.cells #[a, b, c, d] 29)) (w.alloc (.cells #[a, b, c, d] 29)).heap.size (some ⟨w.heap.size, 0, none⟩) [x, y, z, u] := parts_lit w #[a, b, c, d] [x, y, z, u] (fun j us hu => by
  match j, hu with
  | 0, hu => cases hu; exact ⟨a, rfl, ha⟩
  | 1, hu => cases hu; exact ⟨b, rfl, hb⟩
  | 2, hu => cases hu; exact ⟨c, rfl, hc⟩
  | 3, hu => cases hu; exact ⟨d, rfl, hd⟩
  | j + 4, hu => simp at hu)
theorem parts_five (w : World) (a b c d e : Value) (x y z u v : List UInt8) (ha : Part w w.heap.size a x) (hb : Part w w.heap.size b y) (hc : Part w w.heap.size c z) (hd : Part w w.heap.size d u) (he : Part w w.heap.size e v) :
    Parts (w.alloc (.cells #[a, b, c, d, e] 29)) (w.alloc (.cells #[a, b, c, d, e] 29)).heap.size (some ⟨w.heap.size, 0, none⟩) [x, y, z, u, v] := parts_lit w #[a, b, c, d, e] [x, y, z, u, v] (fun j us hu => by
  match j, hu with
  | 0, hu => cases hu; exact ⟨a, rfl, ha⟩
  | 1, hu => cases hu; exact ⟨b, rfl, hb⟩
  | 2, hu => cases hu; exact ⟨c, rfl, hc⟩
  | 3, hu => cases hu; exact ⟨d, rfl, hd⟩
  | 4, hu => cases hu; exact ⟨e, rfl, he⟩
  | j + 5, hu => simp at hu)
theorem Cells.rangeAll {w : World} {g : Nat} {vs : List Value} {t : TypeId} (h : Cells w g vs t) : w.rangeAt g 0 vs := fun j v hj => by
  rw [Nat.zero_add]
  exact h.get hj
theorem Row.rangeAll {w : World} {B b off : Nat} {ds : List UInt8} (h : Row w B (some ⟨b, off, none⟩) ds) : w.rangeAt b off (ds.map cellOf) := fun j v hj => by
  rw [List.getElem?_map] at hj
  cases hd : ds[j]? with
  | none => rw [hd] at hj; cases hj
  | some u =>
    rw [hd] at hj
    cases hj
    rcases h with rfl | ⟨b', off', hA, _, hc⟩
    · simp at hd
    · cases hA
      exact hc j u hd
/-- A row of bytes loaded as an array's value. -/
theorem load_row_step {w : World} {ops : Array Oper} {rest : List Oper} {o : Oper} {a : Act} {Q : Exit → Act → World → Prop} (hgd : o.guard = none) (t : TypeId) (x : Operand) (ho : o.op = .load t x) (B b off n : Nat) (ds : List UInt8) (e : TypeId) (hx : a.eval x = .pointer (some ⟨b, off, none⟩)) (hR : Row w B (some ⟨b, off, none⟩) ds) (hu : Tryd.prog.underlying t = some (.array n e))
    (hs : (Tryd.prog.info? t).map (·.size) = some n) (hl : ds.length = n) (h : wpList Tryd.prog ops Q rest (a.put o.dst (hashVal ds)) w) : wpList Tryd.prog ops Q (o :: rest) a w :=
  wpList_load_mid hgd t x ho b off hx (ds.map cellOf) _ hR.rangeAll hu rfl (by rw [List.length_map, hl]; exact hs) h
theorem Row.some {w : World} {B : Nat} {A : Option Addr} {ds : List UInt8} (h : Row w B A ds) (hp : 0 < ds.length) : ∃ b off, A = some ⟨b, off, none⟩ := by
  rcases h with rfl | ⟨b, off, rfl, _, _⟩
  · simp at hp
  · exact ⟨b, off, rfl⟩
/-- What a call answers that makes a row of these bytes. -/
def Gives (w : World) (bs : List UInt8) (n : Nat) (e : Ending) (w' : World) : Prop :=
  ∃ A c, e = .returned (.slice A n c) ∧ (A = none → c = 0) ∧ n ≤ c ∧ c ≤ maxLen ∧ Row w' w'.heap.size A bs ∧ Below w.heap.size w w'
/-- What a call answers that makes a row of these bytes, and no error. -/
def GivesOk (w : World) (bs : List UInt8) (n : Nat) (e : Ending) (w' : World) : Prop :=
  ∃ A c, e = .returned (.tuple #[.slice A n c, .nilIface]) ∧ (A = none → c = 0) ∧ n ≤ c ∧ c ≤ maxLen ∧ Row w' w'.heap.size A bs ∧ Below w.heap.size w w'
end Go.Proofs.YticgkabamelddaaDoor
namespace Go.Proofs.YticgkabamelddaaDoor
open Go.RowKit
theorem splice_up (s n : List Nat) (hs : s.length = 8) (hn : n.length = 8) : splice (s.map ncell) 1 ((n.take 7).map ncell) = (s.take 1 ++ n.take 7).map ncell := by
  rw [splice, List.length_map, List.length_take, hn, List.drop_of_length_le (by rw [List.length_map, hs]; decide), List.append_nil, ← List.map_take, List.map_append]
def scNextVs5 (n : List Nat) (limb : Nat) (g_base : Nat) (gr : Nat) (top : Nat) (gs : Nat) (q : Nat) (p : Nat) (s0 : List Nat) (z : Nat) (v : List Nat) (tl : List Nat) (m : List Nat) (r : List Nat) : List Value :=
  (numVal n) :: (ncell limb) :: (.pointer (some ⟨g_base, 0, none⟩)) :: undef :: (.pointer (some ⟨gr, 0, none⟩)) :: (ncell top) :: (.pointer (some ⟨gs, 0, none⟩)) :: (.pointer (some ⟨g_base, 7, none⟩)) :: (ncell q) :: (.int .u64 (IntKind.u64.wrap ((q : Int) * 16))) :: (.pointer (some ⟨g_base, 6, none⟩)) :: (ncell p) :: (.int .u64 ((p : Int) / 268435456)) :: (ncell top) :: (ncell limb) :: (numVal s0) :: (.slice (some ⟨gs, 1, none⟩) 7 7) :: (.slice (some ⟨g_base, 0, none⟩) 8 8) :: (.int .i64 7) :: (.pointer (some ⟨gs, 7, none⟩)) :: (ncell p) :: (ncell z) :: (.pointer (some ⟨gs, 7, none⟩)) :: (numVal v) :: (numVal tl) :: (ncell top) :: (numVal m) :: (numVal r) :: []
set_option maxRecDepth 100000 in
set_option maxHeartbeats 1000000 in
theorem scNext_over (n s0 u v m r ol tl : List Nat) (limb p q top z : Nat) (w : World)
    (Hn : Hid (n.length = 8))
    (Hs0 : Hid (s0.length = 8))
    (Hu : Hid (u.length = 8))
    (Hv : Hid (v.length = 8))
    (Hr : Hid (r.length = 8))
    (Htl : Hid (tl.length = 8))
    (HP : Hid ((n.map ncell)[6]? = some (ncell p)))
    (HQ : Hid ((n.map ncell)[7]? = some (ncell q)))
    (HTOP : Hid (bits .or .u64 (IntKind.u64.wrap ((q : Int) * 16)) ((p : Int) / 268435456) = (top : Int)))
    (HU : Hid (s0.take 1 ++ n.take 7 = u))
    (HU7 : Hid ((u.map ncell)[7]? = some (ncell p)))
    (hc8 : bits .and .u64 (p : Int) 268435455 = (z : Int))
    (HV : Hid (u.set 7 z = v))
    (BS : ∀ w, (Instr.build 42 #[(0, ncell limb)]).run Tryd.prog w = .ok (numVal s0) w)
    (CS : Hid (∀ W, Calls Tryd.prog 31 #[numVal tl, ncell top] W fun e w' => e = .returned (numVal m) ∧ Below W.heap.size W w'))
    (CL : Hid (∀ W, Tab W 0 (ol.map ncell) → Calls Tryd.prog 24 #[numVal v, numVal m] W fun e w' => e = .returned (numVal r) ∧ Below W.heap.size W w'))
    (hO : Tab w 0 (ol.map ncell))
    (hT : Tab w 3 (tl.map ncell)) :
    Calls Tryd.prog 30 #[numVal n, ncell limb] w fun e w' => e = .returned (numVal r) ∧ Below w.heap.size w w' := by
  have c8 := hc8
  clear hc8
  go_enter Tryd.func30, Tryd.ntmps30
  go_upto_region 1 with (first
    | (refine vtake_step rfl 42 (.tmp 0) rfl (n.map ncell) rfl ?_
       intro w1 hb1 hvn1
       have hB1 := hb1
       have hgen : w.heap.size ≤ w.heap.size := Nat.le_refl _
       have hvo1 := hO.on hb1
       have hneon := Nat.ne_of_lt hO.lt
       have hvt1 := hT.on hb1
       have hnetn := Nat.ne_of_lt hT.lt
       clear hO hT hb1
       try simp only [Act.put, List.setIfInBounds_toArray, List.set_cons_zero, List.set_cons_succ]
       skip)
    | (refine vzero_step (o := ⟨some 4, _, _, _, _, _⟩) rfl 42 rfl (nzeros 8) zero_sn ?_
       intro w2 hb2 hvr2
       have hB2 := below_then hB1 hb2
       have hger : w.heap.size ≤ w1.heap.size := hB1.size
       have hvo2 := hvo1.on hb2
       have hneor := Nat.ne_of_lt hvo1.lt
       have hvt2 := hvt1.on hb2
       have hnetr := Nat.ne_of_lt hvt1.lt
       have hvn2 := hvn1.on hb2
       have hnenr := Nat.ne_of_lt hvn1.lt
       clear hB1 hvo1 hvt1 hvn1 hb2
       try simp only [Act.put, List.setIfInBounds_toArray, List.set_cons_zero, List.set_cons_succ]
       skip))
  generalize hqr : w1.heap.size = gr at *
  clear hqr
  have d6 := hvn2.get HP.out
  have d7 := hvn2.get HQ.out
  have c1 := HTOP.out
  go_wp2_with (first
    | (refine build_step rfl 42 _ rfl [(0, ncell limb)] rfl _ BS ?_
       try simp only [Act.put, List.setIfInBounds_toArray, List.set_cons_zero, List.set_cons_succ]
       skip)
    | (refine vput_step rfl rfl 42 (.tmp 6) (.tmp 15) rfl rfl 8 (nzeros 8) (s0.map ncell) rfl rfl zero_sn rfl size_sn (by rw [List.length_map, Hs0.out]) (ncells_one _) ?_
       intro w3 hb3 hvs3
       have hB3 := below_then hB2 hb3
       have hges : w.heap.size ≤ w2.heap.size := hB2.size
       have hvo3 := hvo2.on hb3
       have hneos := Nat.ne_of_lt hvo2.lt
       have hvt3 := hvt2.on hb3
       have hnets := Nat.ne_of_lt hvt2.lt
       have hvn3 := hvn2.on hb3
       have hnens := Nat.ne_of_lt hvn2.lt
       have hvr3 := hvr2.on hb3
       have hners := Nat.ne_of_lt hvr2.lt
       clear hB2 hvo2 hvt2 hvn2 hvr2 hb3
       try simp only [Act.put, List.setIfInBounds_toArray, List.set_cons_zero, List.set_cons_succ]
       skip))
  generalize hqs : w2.heap.size = gs at *
  clear hqs
  refine wp_region_tail 2 (by kernel_rfl) (by kernel_rfl) ?_
  intro w50 hw50
  have hB50 : Below w.heap.size w w50 := by rw [hw50]; exact hB3.drew
  have hvo50 := hvo3.drew
  rw [← hw50] at hvo50
  have hvt50 := hvt3.drew
  rw [← hw50] at hvt50
  have hvn50 := hvn3.drew
  rw [← hw50] at hvn50
  have hvr50 := hvr3.drew
  rw [← hw50] at hvr50
  have hvs50 := hvs3.drew
  rw [← hw50] at hvs50
  clear hw50 hB3 hvo3 hvt3 hvn3 hvr3 hvs3
  simp only [List.take_succ_cons, List.take_zero, List.drop_succ_cons, List.drop_zero]
  repeat still_step
  refine wpStill_nil ?_
  go_wp2_with (first
    | (refine copy_cells rfl (.tmp 16) (.tmp 17) 62 40 Tryd.underlying62 size_u64 rfl gs 1 _ _ w.heap.size 0 _ _ 7 ((n.take 7).map ncell) rfl rfl rfl (by rw [List.length_map, List.length_take, Hn.out]; rfl) (by rw [List.map_take]; exact hvn50.range 0 7) (hvs50.there 1 7 (by rw [List.length_map, Hs0.out]; decide)) (by intro x hx; obtain ⟨y, _, rfl⟩ := List.mem_map.1 hx; rfl) ?_
       intro w51 hw51
       have hb51 : But gs w50 w51 := by rw [hw51]; exact (But.refl gs w50).setCells _ _
       have hvs51 : Cells w51 gs (u.map ncell) 42 := by
         rw [hw51, ← HU.out, ← splice_up s0 n Hs0.out Hn.out]
         exact hvs50.setCells (by rw [List.length_map, List.length_map, List.length_take, Hn.out, Hs0.out]; decide)
       have hB51 := hB50.trans (hb51.below hges hB50.size)
       have hvn51 := hvn50.but hb51 hnens
       have hvr51 := hvr50.but hb51 hners
       have hvo51 := hvo50.but hb51 hneos
       have hvt51 := hvt50.but hb51 hnets
       have d8 := hvs51.get HU7.out
       have hTT := hvs51.there 7 1 (by rw [List.length_map, Hu.out]; decide)
       clear hw51 hb51 hB50 hvn50 hvr50 hvs50 hvo50 hvt50
       try simp only [Act.put, List.setIfInBounds_toArray, List.set_cons_zero, List.set_cons_succ]
       skip)
    | (refine store_step rfl 40 _ _ rfl gs 7 .u64 (z : Int) rfl rfl size_u64 hTT ?_
       intro w52 hw52
       have hb52 : But gs w51 w52 := by rw [hw52]; exact (But.refl gs w51).setCells 7 [ncell z]
       have hvs52 : Cells w52 gs (v.map ncell) 42 := by rw [hw52, ← HV.out, ← nset_map]; exact hvs51.set 7 _
       have hB52 := hB51.trans (hb52.below hges hB51.size)
       have hvn52 := hvn51.but hb52 hnens
       have hvr52 := hvr51.but hb52 hners
       have hvo52 := hvo51.but hb52 hneos
       have hvt52 := hvt51.but hb52 hnets
       clear hw52 hb52 hB51 hvn51 hvr51 hvs51 hvo51 hvt51 d8 hTT))
  go_wp2_with fail
  replace hvo52 := hvo52.drew
  replace hvt52 := hvt52.drew
  replace hvn52 := hvn52.drew
  replace hvr52 := hvr52.drew
  replace hvs52 := hvs52.drew
  refine wp_region_any (by kernel_rfl) ?_
  refine wpAny_flatM (L := [0, 1, 2, 3, 4]) (by kernel_rfl) _ _ (scNextVs5 n limb w.heap.size gr top gs q p s0 z v tl m r) [] 42 (nzeros 8) [0, 1, 2, 3, 4, 5, 6, 7, 8, 9, 10, 11, 12, 13, 14, 15, 16, 17, 18, 19, 20, 21, 22] (by kernel_rfl) (by kernel_rfl) ?_ zero_sn ?_ (by rfl) ?_ 1 (by kernel_rfl) ?_
  · intro p hp
    exact absurd hp List.not_mem_nil
  · exact all_cons rfl (all_cons rfl (all_cons rfl (all_cons rfl (all_cons rfl (all_cons rfl (all_cons rfl (all_cons rfl (all_cons rfl (all_cons rfl (all_cons rfl (all_cons rfl (all_cons rfl (all_cons rfl (all_cons rfl (all_cons rfl (all_cons rfl (all_cons rfl (all_cons rfl (all_cons rfl (all_cons rfl (all_cons rfl (all_cons rfl (all_nil)))))))))))))))))))))))
  · refine all_cons (.inr (mStep _ 23 rfl rfl rfl rfl (by kernel_rfl) (fun a hv => wanted_all rfl _) (fun a w K hb hv hK => mPure (numVal v) (exec_load _ _ _ _ rfl _ _ (hv 6 (by kernel_rfl) rfl) w (sn_run (hvs52.on hb) Hv.out)) hK))) ?_
    refine all_cons (.inr (mStep _ 24 rfl rfl rfl rfl (by kernel_rfl) (fun a hv => wanted_all rfl _) (fun a w K hb hv hK => mPure (numVal tl) (exec_load _ _ _ _ rfl _ _ (by rfl) w (snTab_run (hvt52.on hb) Htl.out)) hK))) ?_
    refine all_cons (.inr (mStep _ 25 rfl rfl rfl rfl (by kernel_rfl) (fun a hv => wanted_all rfl _) (fun a w K hb hv hK => mPure (ncell top) (exec_move _ _ _ (.inl rfl) _ (hv 5 (by kernel_rfl) rfl) w) hK))) ?_
    refine all_cons (.inr (mStep _ 26 rfl rfl rfl rfl (by kernel_rfl) (fun a hv => wanted_all rfl _) (fun a w K hb hv hK => mCall (numVal m) 31 _ _ rfl [numVal tl, ncell top] (cons_eq (hv 24 (by kernel_rfl) rfl) (cons_eq (hv 25 (by kernel_rfl) rfl) (rfl))) (enters Tryd.func31 rfl rfl) (CS.out w) hK))) ?_
    refine all_cons (.inr (mStep _ 27 rfl rfl rfl rfl (by kernel_rfl) (fun a hv => wanted_all rfl _) (fun a w K hb hv hK => mCall (numVal r) 24 _ _ rfl [numVal v, numVal m] (cons_eq (hv 23 (by kernel_rfl) rfl) (cons_eq (hv 26 (by kernel_rfl) rfl) (rfl))) (enters Tryd.func24 rfl rfl) (CL.out w (hvo52.on hb)) hK))) ?_
    exact all_nil
  intro w4 g hb4 hN4 hap4
  clear hN4 hap4
  have hB4 := below_then (show Below w.heap.size w w52.drew from hB52.drew) hb4
  have hvo4 := hvo52.on hb4
  have hvt4 := hvt52.on hb4
  have hvn4 := hvn52.on hb4
  have hvr4 := hvr52.on hb4
  have hvs4 := hvs52.on hb4
  clear hB52 hvo52 hvt52 hvn52 hvr52 hvs52 hb4
  refine wpAny_rest 5 rfl (by kernel_rfl) ?_
  refine vset_step rfl 42 (.tmp 4) (.tmp 27) rfl gr 8 (nzeros 8) (r.map ncell) rfl rfl hvr4 rfl size_sn (by rw [List.length_map, Hr.out]) (ncells_one _) ?_
  intro w5 hb5 hvr5 hz5
  have hB5 : Below w.heap.size w w5 := hB4.trans (hb5.below hger hB4.size)
  have hvo5 := hvo4.but hb5 hneor
  have hvt5 := hvt4.but hb5 hnetr
  have hvn5 := hvn4.but hb5 hnenr
  have hvs5 := hvs4.but hb5 (Ne.symm hners)
  clear hB4 hvr4 hb5 hz5 hvo4 hvt4 hvn4 hvs4
  rename_i K hKK
  show Exit.then K _ Exit.normal (⟨(scNextVs5 n limb w.heap.size gr top gs q p s0 z v tl m r).toArray, []⟩ : Act) w5
  simp only [Exit.then]
  refine hKK _ _ ?_
  clear hKK K g
  simp only [scNextVs5]
  go_wp2
  exact sret Tryd.results30 gr (r.map ncell) rfl hvr5 Tryd.underlying42 rfl size_sn (by rw [List.length_map, Hr.out]) rfl ⟨rfl, hB5⟩
theorem or_top (p q : Nat) (hp : p < 4294967296) (hq : q < 4294967296) : bits .or .u64 (IntKind.u64.wrap ((q : Int) * 16)) ((p : Int) / 268435456) = ((q * 16 + p / 268435456 : Nat) : Int) := by
  have e := wmul q 16 (by omega)
  rw [show ((16 : Nat) : Int) = 16 from rfl] at e
  rw [e, show (p : Int) / 268435456 = ((p / 268435456 : Nat) : Int) from rfl, u64_or_nat _ _ (by omega) (by omega), nat_join 4 _ _ (by omega) (by omega)]
theorem div_split (x m t : Nat) (h : x / m = t) : x = t * m + x % m := by
  rw [← h, Nat.mul_comm]; exact (Nat.div_add_mod x m).symm
theorem scNext_any (n limb : Nat) (w : World) (hn : n < NP.LL) (hl : limb < 4294967296) (hO : Tab w 0 ((nD NP.LL).map ncell)) (hT : Tab w 3 ((nD tailN).map ncell)) :
    Calls Tryd.prog 30 #[numVal (nD n), ncell limb] w fun e w' => e = .returned (numVal (nD ((n * 4294967296 + limb) % NP.LL))) ∧ Below w.heap.size w w' := by
  have hnm : n < mm := Nat.lt_trans hn (by decide)
  have hD := nD_D8 n
  obtain ⟨h1, h2, h3⟩ := upL_set (nD n) limb hD hl
  rw [pre_nD n hnm] at h2 h3
  have ht := next_top_le n hn
  have hs := next_small _ ht
  have hsm := Nat.lt_trans hs (show NP.LL < mm by decide)
  have hr := next_rest (n * 4294967296 + limb) ((n * 4294967296 + limb) % 7237005577332262213973186563042994240829374041602535252466099000494570602496) (n / 1684996666696914987166688442938726917102321526408785780068975640576) (Nat.mod_lt _ (by decide)) ht (div_split _ _ _ (next_top n limb hl))
  have hv := h1.is
  rw [h2] at hv
  have hlt := h1.lt
  rw [h2] at hlt
  have hp := hD.2 6
  have hq := hD.2 7
  have h6 := nat_at (nD n) 6 (by rw [nD_length]; decide)
  have h7 := nat_at (nD n) 7 (by rw [nD_length]; decide)
  have hu7 : ((upL (nD n) limb).map ncell)[7]? = some (ncell ((nD n).getD 6 0)) := rfl
  have hor := or_top ((nD n).getD 6 0) ((nD n).getD 7 0) hp hq
  rw [h3] at hor
  generalize (nD n).getD 6 0 = p at *
  generalize (nD n).getD 7 0 = q at *
  generalize n / 1684996666696914987166688442938726917102321526408785780068975640576 = t at *
  generalize (n * 4294967296 + limb) % 7237005577332262213973186563042994240829374041602535252466099000494570602496 = x at *
  refine scNext_over (nD n) [limb, 0, 0, 0, 0, 0, 0, 0] (upL (nD n) limb) ((upL (nD n) limb).set 7 (p % 268435456)) (nD (tailN * t)) (nD ((n * 4294967296 + limb) % NP.LL)) (nD NP.LL) (nD tailN) limb p q t (p % 268435456) w rfl rfl rfl rfl rfl rfl h6 h7 hor rfl hu7 (and28m p (by omega)) rfl (build_sn1 limb) (fun W => ?_) (fun W hW => ?_) hO hT
  · have h := scScaled_any tailN t W (by decide) ht
    rw [Nat.mod_eq_of_lt hsm] at h
    exact h
  · have h := scLess_any x (tailN * t) W hlt hsm (Nat.le_trans (Nat.le_of_lt hs) (Nat.le_add_left _ _)) hW
    rw [hr, ← hv] at h
    exact h
end Go.Proofs.YticgkabamelddaaDoor
