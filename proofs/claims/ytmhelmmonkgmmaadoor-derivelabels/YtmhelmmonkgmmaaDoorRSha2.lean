/- The document's own SHA-256: its second loop, a block's 64 words. -/
import Derived.Test.YtmhelmmonkgmmaaDoorRShaW
namespace Go.Proofs.YtmhelmmonkgmmaaDoor
open Go.RowKit
/-- At the second loop's head: t words are laid. -/
def I2 (w : World) (gk gh gm cm N gw p0 : Nat) (hs : List Value) (ms bk : List UInt8) (a : Act) (wr : World) : Prop :=
  ∃ t : Nat, t ≤ 64 ∧ Fr 271 ([(6, .int .i64 (p0 : Int)), (7, .slice (some ⟨gw, 0, none⟩) 64 64), (8, .int .i64 (t : Int))] ++ baseSlots w gk gh gm cm N) a ∧ RW w wr gk gh gm hs ms ∧ Cells wr gw (spreadTo bk t) 61
def mu2 (a : Act) (_ : World) : Nat := 64 - (intOf (a.tmps.getD 8 undef)).toNat
set_option maxRecDepth 100000 in
set_option maxHeartbeats 4000000 in
theorem round2a (w wr : World) (gk gh gm cm N gw p0 t : Nat) (hs : List Value) (ms bk : List UInt8) (a : Act) (Q0 : Exit → Act → World → Prop) (hN : N ≤ 20000) (hml : ms.length = 64 * N) (hp : p0 + 64 ≤ 64 * N) (hgw : gm < gw)
    (hbk : bk = (ms.drop p0).take 64) (ht : t < 16)
    (hF : Fr 271 ([(6, .int .i64 (p0 : Int)), (7, .slice (some ⟨gw, 0, none⟩) 64 64), (8, .int .i64 (t : Int))] ++ baseSlots w gk gh gm cm N) a) (hW : RW w wr gk gh gm hs ms) (hS : Cells wr gw (spreadTo bk t) 61) :
    Code.wp Tryd.prog (refBody 1) (Exit.then (fun a' w' => I2 w gk gh gm cm N gw p0 hs ms bk a' w' ∧ mu2 a' w' < mu2 a wr) Q0) a wr := by
  have hq : p0 + 4 * t + 3 < ms.length := by omega
  have HV : Hid (shaWord bk t = BitVec.ofNat 32 (bigN [ms.getD (p0 + 4 * t) 0, ms.getD (p0 + 4 * t + 1) 0, ms.getD (p0 + 4 * t + 2) 0, ms.getD (p0 + 4 * t + 3) 0])) := by
    show _ = _
    subst hbk
    rw [← four_at ms _ hq, shaWord, List.drop_take, List.take_take, List.drop_drop, Nat.min_eq_left (by omega)]
  obtain ⟨_, _, e1, hb, hc0⟩ := hW.row.atD (p0 + 4 * t) (by omega)
  cases e1
  obtain ⟨_, _, e1, _, hc1⟩ := hW.row.atD (p0 + 4 * t + 1) (by omega)
  cases e1
  obtain ⟨_, _, e1, _, hc2⟩ := hW.row.atD (p0 + 4 * t + 2) (by omega)
  cases e1
  obtain ⟨_, _, e1, _, hc3⟩ := hW.row.atD (p0 + 4 * t + 3) (by omega)
  cases e1
  rw [Nat.zero_add] at hc0 hc1 hc2 hc3
  have HP : Hid (p0 + 4 * t + 3 < 64 * N) := by show _ < _; omega
  generalize ms.getD (p0 + 4 * t) 0 = x0 at *
  generalize ms.getD (p0 + 4 * t + 1) 0 = x1 at *
  generalize ms.getD (p0 + 4 * t + 2) 0 = x2 at *
  generalize ms.getD (p0 + 4 * t + 3) 0 = x3 at *
  have HML := Lib.hid hml
  have HBK := Lib.hid hbk
  clear hml hbk hq
  obtain ⟨hs0, hd0, h6, h7, h8, h2, h3, h4, h5, _⟩ := hF
  obtain ⟨u, rfl⟩ := frame271 a hs0 hd0
  clear hs0 hd0
  change u 6 = _ at h6
  change u 7 = _ at h7
  change u 8 = _ at h8
  change u 2 = _ at h2
  change u 3 = _ at h3
  change u 4 = _ at h4
  change u 5 = _ at h5
  rw [h6, h7, h8, h2, h3, h4, h5]
  clear h6 h7 h8 h2 h3 h4 h5
  conv => arg 2; whnf
  go_wp2_with fail
  refine wp_region_tail 32 (by kernel_rfl) (by kernel_rfl) ?_
  intro w5 hw5
  have hW2 : RW w w5 gk gh gm hs ms := by rw [hw5]; exact hW.drew
  have hS2 : Cells w5 gw (spreadTo bk t) 61 := by rw [hw5]; exact hS
  have d0 : w5.cell? ⟨gm, p0 + 4 * t, none⟩ = some (cellOf x0) := by rw [hw5]; exact hc0
  have d1 : w5.cell? ⟨gm, p0 + 4 * t + 1, none⟩ = some (cellOf x1) := by rw [hw5]; exact hc1
  have d2 : w5.cell? ⟨gm, p0 + 4 * t + 2, none⟩ = some (cellOf x2) := by rw [hw5]; exact hc2
  have d3 : w5.cell? ⟨gm, p0 + 4 * t + 3, none⟩ = some (cellOf x3) := by rw [hw5]; exact hc3
  clear hw5 hW hS hc0 hc1 hc2 hc3
  have df := hS2.frozen t
  obtain ⟨v4, dc3⟩ : ∃ v, w5.cell? ⟨gw, t, none⟩ = some v := ⟨_, hS2.cell t (by rw [spreadTo_length _ _ (by omega)]; omega)⟩
  have i0 : (0 : Int) ≤ (p0 : Int) + 4 * (t : Int) := by omega
  have j0 : (p0 : Int) + 4 * (t : Int) < 64 * (N : Int) := by have := HP.out; omega
  have n0 : ((p0 : Int) + 4 * (t : Int)).toNat = p0 + 4 * t := by omega
  have i1 : (0 : Int) ≤ (p0 : Int) + 4 * (t : Int) + 1 := by omega
  have j1 : (p0 : Int) + 4 * (t : Int) + 1 < 64 * (N : Int) := by have := HP.out; omega
  have n1 : ((p0 : Int) + 4 * (t : Int) + 1).toNat = p0 + 4 * t + 1 := by omega
  have i2 : (0 : Int) ≤ (p0 : Int) + 4 * (t : Int) + 2 := by omega
  have j2 : (p0 : Int) + 4 * (t : Int) + 2 < 64 * (N : Int) := by have := HP.out; omega
  have n2 : ((p0 : Int) + 4 * (t : Int) + 2).toNat = p0 + 4 * t + 2 := by omega
  have i3 : (0 : Int) ≤ (p0 : Int) + 4 * (t : Int) + 3 := by omega
  have j3 : (p0 : Int) + 4 * (t : Int) + 3 < 64 * (N : Int) := by have := HP.out; omega
  have n3 : ((p0 : Int) + 4 * (t : Int) + 3).toNat = p0 + 4 * t + 3 := by omega
  have it : (t : Int) < 64 := by omega
  have s1 : IntKind.i64.wrap ((p0 : Int) + 4 * (t : Int) + 1) = (p0 : Int) + 4 * (t : Int) + 1 := IntWalk.i64_in _ (by omega)
  have s2 : IntKind.i64.wrap ((p0 : Int) + 4 * (t : Int) + 2) = (p0 : Int) + 4 * (t : Int) + 2 := IntWalk.i64_in _ (by omega)
  have s3 : IntKind.i64.wrap ((p0 : Int) + 4 * (t : Int) + 3) = (p0 : Int) + 4 * (t : Int) + 3 := IntWalk.i64_in _ (by omega)
  simp only [List.take_succ_cons, List.take_zero, List.drop_succ_cons, List.drop_zero]
  repeat still_step
  clear s1 s2 s3
  refine wpStill_nil ?_
  go_wp2
  rw [word_of4]
  refine ⟨⟨t + 1, by omega, ⟨rfl, rfl, rfl, rfl, by show Value.int .i64 ((t : Int) + 1) = _; go_num, rfl, rfl, rfl, rfl, trivial⟩, hW2.but ((But.refl gw w5).setCell t _) hgw, ?_⟩, ?_⟩
  · have h := hS2.set t (wcell (shaWord bk t))
    rw [spreadTo_next bk t (by omega) _ (by rw [if_pos ht]), HV.out] at h
    exact h
  · show 64 - ((t : Int) + 1).toNat < 64 - ((t : Int)).toNat
    omega
set_option maxRecDepth 100000 in
set_option maxHeartbeats 4000000 in
theorem round2b (w wr : World) (gk gh gm cm N gw p0 t : Nat) (hs : List Value) (ms bk : List UInt8) (a : Act) (Q0 : Exit → Act → World → Prop) (hgw : gm < gw) (ht : 16 ≤ t) (ht2 : t < 64)
    (hF : Fr 271 ([(6, .int .i64 (p0 : Int)), (7, .slice (some ⟨gw, 0, none⟩) 64 64), (8, .int .i64 (t : Int))] ++ baseSlots w gk gh gm cm N) a) (hW : RW w wr gk gh gm hs ms) (hS : Cells wr gw (spreadTo bk t) 61) :
    Code.wp Tryd.prog (refBody 1) (Exit.then (fun a' w' => I2 w gk gh gm cm N gw p0 hs ms bk a' w' ∧ mu2 a' w' < mu2 a wr) Q0) a wr := by
  have c15 := hS.get (spreadTo_at bk t (t - 15) (by omega))
  have c2 := hS.get (spreadTo_at bk t (t - 2) (by omega))
  have c16 := hS.get (spreadTo_at bk t (t - 16) (by omega))
  have c7 := hS.get (spreadTo_at bk t (t - 7) (by omega))
  have HX2 : Hid (shaNext (shaSpread bk t) t = (shaSpread bk t).getD (t - 16) 0 + shaLow ((shaSpread bk t).getD (t - 15) 0) + (shaSpread bk t).getD (t - 7) 0 + shaHigh ((shaSpread bk t).getD (t - 2) 0)) := rfl
  generalize (shaSpread bk t).getD (t - 15) 0 = x15 at *
  generalize (shaSpread bk t).getD (t - 2) 0 = x2 at *
  generalize (shaSpread bk t).getD (t - 16) 0 = x16 at *
  generalize (shaSpread bk t).getD (t - 7) 0 = x7 at *
  have i15 : (0 : Int) ≤ (t : Int) - 15 := by omega
  have j15 : (t : Int) - 15 < 64 := by omega
  have t15 : ((t : Int) - 15).toNat = t - 15 := by omega
  have i2 : (0 : Int) ≤ (t : Int) - 2 := by omega
  have j2 : (t : Int) - 2 < 64 := by omega
  have t2 : ((t : Int) - 2).toNat = t - 2 := by omega
  have i16 : (0 : Int) ≤ (t : Int) - 16 := by omega
  have j16 : (t : Int) - 16 < 64 := by omega
  have t16 : ((t : Int) - 16).toNat = t - 16 := by omega
  have i7 : (0 : Int) ≤ (t : Int) - 7 := by omega
  have j7 : (t : Int) - 7 < 64 := by omega
  have t7 : ((t : Int) - 7).toNat = t - 7 := by omega
  obtain ⟨hs0, hd0, h6, h7, h8, h2, h3, h4, h5, _⟩ := hF
  obtain ⟨u, rfl⟩ := frame271 a hs0 hd0
  clear hs0 hd0
  change u 6 = _ at h6
  change u 7 = _ at h7
  change u 8 = _ at h8
  change u 2 = _ at h2
  change u 3 = _ at h3
  change u 4 = _ at h4
  change u 5 = _ at h5
  rw [h6, h7, h8, h2, h3, h4, h5]
  clear h6 h7 h8 h2 h3 h4 h5
  conv => arg 2; whnf
  go_wp2
  go_quiet (fail)
  go_wp2_with fail
  refine wp_region_tail 32 (by kernel_rfl) (by kernel_rfl) ?_
  intro w5 hw5
  have hW2 : RW w w5 gk gh gm hs ms := by rw [hw5]; exact (hW.drewN nq).drew
  have hS2 : Cells w5 gw (spreadTo bk t) 61 := by rw [hw5]; exact hS
  have d16 : w5.cell? ⟨gw, t - 16, none⟩ = some (wcell x16) := by rw [hw5]; exact c16
  have d7 : w5.cell? ⟨gw, t - 7, none⟩ = some (wcell x7) := by rw [hw5]; exact c7
  clear hw5 hW hS c15 c2 c16 c7
  have df := hS2.frozen t
  obtain ⟨v4, dc3⟩ : ∃ v, w5.cell? ⟨gw, t, none⟩ = some v := ⟨_, hS2.cell t (by rw [spreadTo_length _ _ (by omega)]; omega)⟩
  have it : (t : Int) < 64 := by omega
  have s16 : IntKind.i64.wrap ((t : Int) - 16) = (t : Int) - 16 := IntWalk.i64_in _ (by omega)
  have s7 : IntKind.i64.wrap ((t : Int) - 7) = (t : Int) - 7 := IntWalk.i64_in _ (by omega)
  have m16 : (16 : Int) ≤ (t : Int) := by omega
  have m7 : (7 : Int) ≤ (t : Int) := by omega
  simp only [List.take_succ_cons, List.take_zero, List.drop_succ_cons, List.drop_zero]
  have q17 := turn_at x2 17 w5 (by omega) (by omega)
  have q19 := turn_at x2 19 w5 (by omega) (by omega)
  have q7 := turn_at x15 7 w5 (by omega) (by omega)
  have q18 := turn_at x15 18 w5 (by omega) (by omega)
  iterate 3 still_step
  still_call q17
  still_step
  still_call q19
  iterate 11 still_step
  still_call q7
  still_step
  still_call q18
  iterate 12 still_step
  clear s16 s7 q17 q19 q7 q18
  refine wpStill_nil ?_
  go_wp2
  have e8 := shr32 x15 3
  have e10 := shr32 x2 10
  rw [show (2 : Int) ^ 3 = 8 from rfl] at e8
  rw [show (2 : Int) ^ 10 = 1024 from rfl] at e10
  rw [e8, e10, xor32, xor32, xor32, xor32, add32_4]
  refine ⟨⟨t + 1, by omega, ⟨rfl, rfl, rfl, rfl, by show Value.int .i64 ((t : Int) + 1) = _; go_num, rfl, rfl, rfl, rfl, trivial⟩, hW2.but ((But.refl gw w5).setCell t _) hgw, ?_⟩, ?_⟩
  · have h := hS2.set t (wcell (shaNext (shaSpread bk t) t))
    rw [spreadTo_next bk t (by omega) _ (by rw [if_neg (by omega)]), HX2.out] at h
    rw [next_eq]
    exact h
  · show 64 - ((t : Int) + 1).toNat < 64 - ((t : Int)).toNat
    omega
/-- Behind the second loop. -/
def X2 (w : World) (gk gh gm cm N gw p0 : Nat) (hs : List Value) (ms bk : List UInt8) (a : Act) (wr : World) : Prop :=
  Fr 271 ([(6, .int .i64 (p0 : Int)), (7, .slice (some ⟨gw, 0, none⟩) 64 64)] ++ baseSlots w gk gh gm cm N) a ∧ RW w wr gk gh gm hs ms ∧ Cells wr gw (spreadTo bk 64) 61
set_option maxRecDepth 100000 in
set_option maxHeartbeats 4000000 in
theorem loop2 (w wr : World) (gk gh gm cm N gw p0 : Nat) (hs : List Value) (ms bk : List UInt8) (a : Act) (Q0 : Exit → Act → World → Prop) (hN : N ≤ 20000) (hml : ms.length = 64 * N) (hp : p0 + 64 ≤ 64 * N) (hgw : gm < gw) (hbk : bk = (ms.drop p0).take 64)
    (hI : I2 w gk gh gm cm N gw p0 hs ms bk a wr) (hX : ∀ a wr, X2 w gk gh gm cm N gw p0 hs ms bk a wr → Q0 (.exit 2) a wr) : Code.wp Tryd.prog (Code.loop (refBody 1)) Q0 a wr := by
  refine wp_loop (I2 w gk gh gm cm N gw p0 hs ms bk) mu2 hI ?_
  clear hI a wr
  rintro a wr ⟨t, ht, hF, hW, hS⟩
  by_cases h1 : t < 16
  · exact round2a w wr gk gh gm cm N gw p0 t hs ms bk a Q0 hN hml hp hgw hbk h1 hF hW hS
  by_cases h2 : t < 64
  · exact round2b w wr gk gh gm cm N gw p0 t hs ms bk a Q0 hgw (by omega) h2 hF hW hS
  obtain rfl : t = 64 := by omega
  have HX := Lib.hid hX
  clear hX
  obtain ⟨hs0, hd0, h6, h7, h8, h2, h3, h4, h5, _⟩ := hF
  obtain ⟨u, rfl⟩ := frame271 a hs0 hd0
  clear hs0 hd0
  change u 6 = _ at h6
  change u 7 = _ at h7
  change u 8 = _ at h8
  change u 2 = _ at h2
  change u 3 = _ at h3
  change u 4 = _ at h4
  change u 5 = _ at h5
  rw [h6, h7, h8, h2, h3, h4, h5]
  clear h6 h7 h8 h2 h3 h4 h5
  conv => arg 2; whnf
  go_wp2
  exact HX.out _ _ ⟨⟨rfl, rfl, rfl, rfl, rfl, rfl, rfl, rfl, trivial⟩, hW, hS⟩
end Go.Proofs.YtmhelmmonkgmmaaDoor
