/- The document's own SHA-512: its second loop, a block's 80 words. -/
import Derived.Test.YtpbkjphdkdlhjaaDoorVRW
namespace Go.Proofs.YtpbkjphdkdlhjaaDoor
open Go.RowKit
/-- At the second loop's head: t words are laid. -/
def VI2 (w : World) (gk gh gm cm N gw p0 : Nat) (hs : List Value) (ms bk : List UInt8) (a : Act) (wr : World) : Prop :=
  ∃ t : Nat, t ≤ 80 ∧ Fr 249 ([(6, .int .i64 (p0 : Int)), (7, .slice (some ⟨gw, 0, none⟩) 80 80), (8, .int .i64 (t : Int))] ++ vSlots w gk gh gm cm N) a ∧ VW w wr gk gh gm hs ms ∧ Cells wr gw (wideTo bk t) 40
def vmu2 (a : Act) (_ : World) : Nat := 80 - (intOf (a.tmps.getD 8 undef)).toNat
/-- A word on its way: i of its bytes are gathered. -/
def gatherTo (bk : List UInt8) (t i : Nat) : List Value := (wideTo bk t).set t (vcell (BitVec.ofNat 64 (bigN ((bk.drop (8 * t)).take i))))
theorem gatherTo_zero (bk : List UInt8) (t : Nat) (h : t < 80) : gatherTo bk t 0 = wideTo bk t := by
  unfold gatherTo
  rw [List.take_zero, wideTo]
  obtain ⟨m, hm⟩ : ∃ m, 80 - t = m + 1 := ⟨80 - t - 1, by omega⟩
  rw [hm, List.replicate_succ, List.set_append_right _ _ (by rw [List.length_map, widSpread_length]; exact Nat.le_refl _), List.length_map, widSpread_length, Nat.sub_self]
  rfl
theorem gatherTo_all (bk : List UInt8) (t : Nat) (h : t < 16) : gatherTo bk t 8 = wideTo bk (t + 1) := wideTo_next bk t (by omega) _ (by rw [if_pos h]; rfl)
theorem gatherTo_length (bk : List UInt8) (t i : Nat) (h : t < 80) : (gatherTo bk t i).length = 80 := by rw [gatherTo, List.length_set, wideTo_length _ _ (by omega)]
theorem gatherTo_at (bk : List UInt8) (t i : Nat) (h : t < 80) : (gatherTo bk t i)[t]? = some (vcell (BitVec.ofNat 64 (bigN ((bk.drop (8 * t)).take i)))) := by
  rw [gatherTo, List.getElem?_set_self (by rw [wideTo_length _ _ (by omega)]; exact h)]
theorem gatherTo_next (bk : List UInt8) (t i : Nat) (v : Value) : (gatherTo bk t i).set t v = (wideTo bk t).set t v := by rw [gatherTo, List.set_set]
theorem gather_num (l : List UInt8) (u : UInt8) : IntKind.u64.wrap (IntKind.u64.wrap (((BitVec.ofNat 64 (bigN l)).toNat : Int) * 256) + IntKind.u64.wrap (u.toNat : Int)) = ((BitVec.ofNat 64 (bigN (l ++ [u]))).toNat : Int) := by
  rw [IntKind.wrap_u64, IntKind.wrap_u64, IntKind.wrap_u64, bigN_snoc, BitVec.toNat_ofNat, BitVec.toNat_ofNat]
  omega
/-- At the gathering loop's head: i bytes are gathered. -/
def VIg (w : World) (gk gh gm cm N gw p0 t : Nat) (hs : List Value) (ms bk : List UInt8) (a : Act) (wr : World) : Prop :=
  ∃ i : Nat, i ≤ 8 ∧ Fr 249 ([(6, .int .i64 (p0 : Int)), (7, .slice (some ⟨gw, 0, none⟩) 80 80), (8, .int .i64 (t : Int)), (9, .int .i64 (i : Int))] ++ vSlots w gk gh gm cm N) a ∧ VW w wr gk gh gm hs ms ∧ Cells wr gw (gatherTo bk t i) 40
def vmug (a : Act) (_ : World) : Nat := 8 - (intOf (a.tmps.getD 9 undef)).toNat
set_option maxRecDepth 100000 in
set_option maxHeartbeats 4000000 in
theorem vroundg (w wr : World) (gk gh gm cm N gw p0 t i : Nat) (hs : List Value) (ms bk : List UInt8) (a : Act) (Q0 : Exit → Act → World → Prop) (hN : N ≤ 10000) (hml : ms.length = 128 * N) (hp : p0 + 128 ≤ 128 * N) (hgw : gm < gw)
    (hbk : bk = (ms.drop p0).take 128) (ht : t < 16) (hi : i < 8)
    (hF : Fr 249 ([(6, .int .i64 (p0 : Int)), (7, .slice (some ⟨gw, 0, none⟩) 80 80), (8, .int .i64 (t : Int)), (9, .int .i64 (i : Int))] ++ vSlots w gk gh gm cm N) a) (hW : VW w wr gk gh gm hs ms) (hS : Cells wr gw (gatherTo bk t i) 40) :
    Code.wp Tryd.prog (vBody 2) (Exit.then (fun a' w' => VIg w gk gh gm cm N gw p0 t hs ms bk a' w' ∧ vmug a' w' < vmug a wr) Q0) a wr := by
  have hq : p0 + 8 * t + i < ms.length := by omega
  obtain ⟨_, _, e1, hb, hc0⟩ := hW.row.atD (p0 + 8 * t + i) hq
  cases e1
  rw [Nat.zero_add] at hc0
  have HT : Hid ((bk.drop (8 * t)).take (i + 1) = (bk.drop (8 * t)).take i ++ [ms.getD (p0 + 8 * t + i) 0]) := by
    show _ = _
    have hlb : i < (bk.drop (8 * t)).length := by rw [hbk, List.length_drop, List.length_take, List.length_drop]; omega
    rw [take_snoc _ i hlb, getD_lt ms _ hq]
    congr 2
    subst hbk
    simp [Nat.add_assoc]
  have HP : Hid (p0 + 8 * t + i < 128 * N) := by show _ < _; omega
  have cS := hS.get (gatherTo_at bk t i (by omega))
  have HG := Lib.hid (gather_num ((bk.drop (8 * t)).take i) (ms.getD (p0 + 8 * t + i) 0))
  generalize ms.getD (p0 + 8 * t + i) 0 = x0 at *
  generalize hxw : BitVec.ofNat 64 (bigN ((bk.drop (8 * t)).take i)) = xw at *
  have HML := Lib.hid hml
  have HBK := Lib.hid hbk
  replace hxw := Lib.hid hxw
  clear hml hbk hq
  obtain ⟨hs0, hd0, h6, h7, h8, h9, h2, h3, h4, h5, _⟩ := hF
  obtain ⟨u, rfl⟩ := frame249 a hs0 hd0
  clear hs0 hd0
  change u 6 = _ at h6
  change u 7 = _ at h7
  change u 8 = _ at h8
  change u 9 = _ at h9
  change u 2 = _ at h2
  change u 3 = _ at h3
  change u 4 = _ at h4
  change u 5 = _ at h5
  rw [h6, h7, h8, h9, h2, h3, h4, h5]
  clear h6 h7 h8 h9 h2 h3 h4 h5
  conv => arg 2; whnf
  go_wp2_with fail
  refine wp_region_tail 19 (by kernel_rfl) (by kernel_rfl) ?_
  intro w5 hw5
  have hW2 : VW w w5 gk gh gm hs ms := by rw [hw5]; exact hW.drew
  have hS2 : Cells w5 gw (gatherTo bk t i) 40 := by rw [hw5]; exact hS
  have d0 : w5.cell? ⟨gm, p0 + 8 * t + i, none⟩ = some (cellOf x0) := by rw [hw5]; exact hc0
  have dS : w5.cell? ⟨gw, t, none⟩ = some (vcell xw) := by rw [hw5]; exact cS
  clear hw5 hW hS hc0 cS
  have df := hS2.frozen t
  have i0 : (0 : Int) ≤ (p0 : Int) + 8 * (t : Int) := by omega
  have i1 : (0 : Int) ≤ (p0 : Int) + 8 * (t : Int) + (i : Int) := by omega
  have j1 : (p0 : Int) + 8 * (t : Int) + (i : Int) < 128 * (N : Int) := by have := HP.out; omega
  have n1 : ((p0 : Int) + 8 * (t : Int) + (i : Int)).toNat = p0 + 8 * t + i := by omega
  have it : (t : Int) < 80 := by omega
  have s8 : IntKind.i64.wrap (8 * (t : Int)) = 8 * (t : Int) := IntWalk.i64_in _ (by omega)
  have s0 : IntKind.i64.wrap ((p0 : Int) + 8 * (t : Int)) = (p0 : Int) + 8 * (t : Int) := IntWalk.i64_in _ (by omega)
  have s1 : IntKind.i64.wrap ((p0 : Int) + 8 * (t : Int) + (i : Int)) = (p0 : Int) + 8 * (t : Int) + (i : Int) := IntWalk.i64_in _ (by omega)
  simp only [List.take_succ_cons, List.take_zero, List.drop_succ_cons, List.drop_zero]
  repeat still_step
  clear s1 s0 s8
  refine wpStill_nil ?_
  go_wp2
  rw [HG.out]
  refine ⟨⟨i + 1, by omega, ⟨rfl, rfl, rfl, rfl, rfl, by show Value.int .i64 ((i : Int) + 1) = _; go_num, rfl, rfl, rfl, rfl, trivial⟩, hW2.but ((But.refl gw w5).setCell t _) hgw, ?_⟩, ?_⟩
  · have h := hS2.set t (vcell (BitVec.ofNat 64 (bigN ((bk.drop (8 * t)).take i ++ [x0]))))
    rw [gatherTo_next, ← HT.out] at h
    rw [← HT.out]
    exact h
  · show 8 - ((i : Int) + 1).toNat < 8 - ((i : Int)).toNat
    omega
/-- Behind the gathering loop. -/
def VXg (w : World) (gk gh gm cm N gw p0 t : Nat) (hs : List Value) (ms bk : List UInt8) (a : Act) (wr : World) : Prop :=
  Fr 249 ([(6, .int .i64 (p0 : Int)), (7, .slice (some ⟨gw, 0, none⟩) 80 80), (8, .int .i64 (t : Int))] ++ vSlots w gk gh gm cm N) a ∧ VW w wr gk gh gm hs ms ∧ Cells wr gw (wideTo bk (t + 1)) 40
set_option maxRecDepth 100000 in
set_option maxHeartbeats 4000000 in
theorem vloopg (w wr : World) (gk gh gm cm N gw p0 t : Nat) (hs : List Value) (ms bk : List UInt8) (a : Act) (Q0 : Exit → Act → World → Prop) (hN : N ≤ 10000) (hml : ms.length = 128 * N) (hp : p0 + 128 ≤ 128 * N) (hgw : gm < gw) (hbk : bk = (ms.drop p0).take 128) (ht : t < 16)
    (hI : VIg w gk gh gm cm N gw p0 t hs ms bk a wr) (hX : ∀ a wr, VXg w gk gh gm cm N gw p0 t hs ms bk a wr → Q0 (.exit 4) a wr) : Code.wp Tryd.prog (Code.loop (vBody 2)) Q0 a wr := by
  refine wp_loop (VIg w gk gh gm cm N gw p0 t hs ms bk) vmug hI ?_
  clear hI a wr
  rintro a wr ⟨i, hi, hF, hW, hS⟩
  by_cases h1 : i < 8
  · exact vroundg w wr gk gh gm cm N gw p0 t i hs ms bk a Q0 hN hml hp hgw hbk ht h1 hF hW hS
  obtain rfl : i = 8 := by omega
  rw [gatherTo_all bk t ht] at hS
  have HX := Lib.hid hX
  clear hX
  obtain ⟨hs0, hd0, h6, h7, h8, h9, h2, h3, h4, h5, _⟩ := hF
  obtain ⟨u, rfl⟩ := frame249 a hs0 hd0
  clear hs0 hd0
  change u 6 = _ at h6
  change u 7 = _ at h7
  change u 8 = _ at h8
  change u 9 = _ at h9
  change u 2 = _ at h2
  change u 3 = _ at h3
  change u 4 = _ at h4
  change u 5 = _ at h5
  rw [h6, h7, h8, h9, h2, h3, h4, h5]
  clear h6 h7 h8 h9 h2 h3 h4 h5
  conv => arg 2; whnf
  go_wp2
  exact HX.out _ _ ⟨⟨rfl, rfl, rfl, rfl, rfl, rfl, rfl, rfl, rfl, trivial⟩, hW, hS⟩
set_option maxRecDepth 100000 in
set_option maxHeartbeats 4000000 in
theorem vround2a (w wr : World) (gk gh gm cm N gw p0 t : Nat) (hs : List Value) (ms bk : List UInt8) (a : Act) (Q0 : Exit → Act → World → Prop) (hN : N ≤ 10000) (hml : ms.length = 128 * N) (hp : p0 + 128 ≤ 128 * N) (hgw : gm < gw)
    (hbk : bk = (ms.drop p0).take 128) (ht : t < 16)
    (hF : Fr 249 ([(6, .int .i64 (p0 : Int)), (7, .slice (some ⟨gw, 0, none⟩) 80 80), (8, .int .i64 (t : Int))] ++ vSlots w gk gh gm cm N) a) (hW : VW w wr gk gh gm hs ms) (hS : Cells wr gw (wideTo bk t) 40) :
    Code.wp Tryd.prog (vBody 1) (Exit.then (fun a' w' => VI2 w gk gh gm cm N gw p0 hs ms bk a' w' ∧ vmu2 a' w' < vmu2 a wr) Q0) a wr := by
  have HML := Lib.hid hml
  have HBK := Lib.hid hbk
  clear hml hbk
  rw [← gatherTo_zero bk t (by omega)] at hS
  obtain ⟨hs0, hd0, h6, h7, h8, h2, h3, h4, h5, _⟩ := hF
  obtain ⟨u, rfl⟩ := frame249 a hs0 hd0
  clear hs0 hd0
  change u 6 = _ at h6
  change u 7 = _ at h7
  change u 8 = _ at h8
  change u 2 = _ at h2
  change u 3 = _ at h3
  change u 4 = _ at h4
  change u 5 = _ at h5
  rw [h6, h7, h8, h2, h3, h4, h5]
  clear h6 h7 h8 h2 h3 h4 h5
  conv => arg 2; whnf
  go_wp2_with fail
  refine vloopg w wr gk gh gm cm N gw p0 t hs ms bk _ _ hN HML.out hp hgw HBK.out ht ⟨0, by omega, ⟨rfl, rfl, rfl, rfl, rfl, rfl, rfl, rfl, rfl, rfl, trivial⟩, hW, hS⟩ ?_
  clear hW hS
  rintro a5 w5 ⟨hF, hW, hS⟩
  obtain ⟨hs0, hd0, h6, h7, h8, h2, h3, h4, h5, -⟩ := hF
  obtain ⟨u, rfl⟩ := frame249 a5 hs0 hd0
  clear hs0 hd0
  change u 6 = _ at h6
  change u 7 = _ at h7
  change u 8 = _ at h8
  change u 2 = _ at h2
  change u 3 = _ at h3
  change u 4 = _ at h4
  change u 5 = _ at h5
  rw [h6, h7, h8, h2, h3, h4, h5]
  clear h6 h7 h8 h2 h3 h4 h5
  go_wp2_with fail
  refine ⟨⟨t + 1, by omega, ⟨rfl, rfl, rfl, rfl, by show Value.int .i64 ((t : Int) + 1) = _; go_num, rfl, rfl, rfl, rfl, trivial⟩, hW, hS⟩, ?_⟩
  show 80 - ((t : Int) + 1).toNat < 80 - ((t : Int)).toNat
  omega
set_option maxRecDepth 100000 in
set_option maxHeartbeats 4000000 in
theorem vround2b (w wr : World) (gk gh gm cm N gw p0 t : Nat) (hs : List Value) (ms bk : List UInt8) (a : Act) (Q0 : Exit → Act → World → Prop) (hgw : gm < gw) (ht : 16 ≤ t) (ht2 : t < 80)
    (hF : Fr 249 ([(6, .int .i64 (p0 : Int)), (7, .slice (some ⟨gw, 0, none⟩) 80 80), (8, .int .i64 (t : Int))] ++ vSlots w gk gh gm cm N) a) (hW : VW w wr gk gh gm hs ms) (hS : Cells wr gw (wideTo bk t) 40) :
    Code.wp Tryd.prog (vBody 1) (Exit.then (fun a' w' => VI2 w gk gh gm cm N gw p0 hs ms bk a' w' ∧ vmu2 a' w' < vmu2 a wr) Q0) a wr := by
  have c15 := hS.get (wideTo_at bk t (t - 15) (by omega))
  have c2 := hS.get (wideTo_at bk t (t - 2) (by omega))
  have c16 := hS.get (wideTo_at bk t (t - 16) (by omega))
  have c7 := hS.get (wideTo_at bk t (t - 7) (by omega))
  have HX2 : Hid (widNext (widSpread bk t) t = (widSpread bk t).getD (t - 16) 0 + widLow ((widSpread bk t).getD (t - 15) 0) + (widSpread bk t).getD (t - 7) 0 + widHigh ((widSpread bk t).getD (t - 2) 0)) := rfl
  generalize (widSpread bk t).getD (t - 15) 0 = x15 at *
  generalize (widSpread bk t).getD (t - 2) 0 = x2 at *
  generalize (widSpread bk t).getD (t - 16) 0 = x16 at *
  generalize (widSpread bk t).getD (t - 7) 0 = x7 at *
  have i15 : (0 : Int) ≤ (t : Int) - 15 := by omega
  have j15 : (t : Int) - 15 < 80 := by omega
  have t15 : ((t : Int) - 15).toNat = t - 15 := by omega
  have i2 : (0 : Int) ≤ (t : Int) - 2 := by omega
  have j2 : (t : Int) - 2 < 80 := by omega
  have t2 : ((t : Int) - 2).toNat = t - 2 := by omega
  have i16 : (0 : Int) ≤ (t : Int) - 16 := by omega
  have j16 : (t : Int) - 16 < 80 := by omega
  have t16 : ((t : Int) - 16).toNat = t - 16 := by omega
  have i7 : (0 : Int) ≤ (t : Int) - 7 := by omega
  have j7 : (t : Int) - 7 < 80 := by omega
  have t7 : ((t : Int) - 7).toNat = t - 7 := by omega
  obtain ⟨hs0, hd0, h6, h7, h8, h2, h3, h4, h5, _⟩ := hF
  obtain ⟨u, rfl⟩ := frame249 a hs0 hd0
  clear hs0 hd0
  change u 6 = _ at h6
  change u 7 = _ at h7
  change u 8 = _ at h8
  change u 2 = _ at h2
  change u 3 = _ at h3
  change u 4 = _ at h4
  change u 5 = _ at h5
  rw [h6, h7, h8, h2, h3, h4, h5]
  clear h6 h7 h8 h2 h3 h4 h5
  conv => arg 2; whnf
  go_wp2
  go_quiet (fail)
  go_wp2_with fail
  refine wp_region_tail 32 (by kernel_rfl) (by kernel_rfl) ?_
  intro w5 hw5
  have hW2 : VW w w5 gk gh gm hs ms := by rw [hw5]; exact (hW.drewN nq).drew
  have hS2 : Cells w5 gw (wideTo bk t) 40 := by rw [hw5]; exact hS
  have d16 : w5.cell? ⟨gw, t - 16, none⟩ = some (vcell x16) := by rw [hw5]; exact c16
  have d7 : w5.cell? ⟨gw, t - 7, none⟩ = some (vcell x7) := by rw [hw5]; exact c7
  clear hw5 hW hS c15 c2 c16 c7
  have df := hS2.frozen t
  obtain ⟨v4, dc3⟩ : ∃ v, w5.cell? ⟨gw, t, none⟩ = some v := ⟨_, hS2.cell t (by rw [wideTo_length _ _ (by omega)]; omega)⟩
  have it : (t : Int) < 80 := by omega
  have s16 : IntKind.i64.wrap ((t : Int) - 16) = (t : Int) - 16 := IntWalk.i64_in _ (by omega)
  have s7 : IntKind.i64.wrap ((t : Int) - 7) = (t : Int) - 7 := IntWalk.i64_in _ (by omega)
  have m16 : (16 : Int) ≤ (t : Int) := by omega
  have m7 : (7 : Int) ≤ (t : Int) := by omega
  simp only [List.take_succ_cons, List.take_zero, List.drop_succ_cons, List.drop_zero]
  have q17 := turn64_at x2 19 w5 (by omega) (by omega)
  have q19 := turn64_at x2 61 w5 (by omega) (by omega)
  have q7 := turn64_at x15 1 w5 (by omega) (by omega)
  have q18 := turn64_at x15 8 w5 (by omega) (by omega)
  iterate 3 still_step
  still_call q17
  still_step
  still_call q19
  iterate 11 still_step
  still_call q7
  still_step
  still_call q18
  iterate 12 still_step
  clear s16 s7 q17 q19 q7 q18
  refine wpStill_nil ?_
  go_wp2
  have e7 := shr64 x15 7
  have e6 := shr64 x2 6
  rw [show (2 : Int) ^ 7 = 128 from rfl] at e7
  rw [show (2 : Int) ^ 6 = 64 from rfl] at e6
  rw [e7, e6, xor64, xor64, xor64, xor64, wadd64, wadd64, wadd64]
  refine ⟨⟨t + 1, by omega, ⟨rfl, rfl, rfl, rfl, by show Value.int .i64 ((t : Int) + 1) = _; go_num, rfl, rfl, rfl, rfl, trivial⟩, hW2.but ((But.refl gw w5).setCell t _) hgw, ?_⟩, ?_⟩
  · have h := hS2.set t (vcell (widNext (widSpread bk t) t))
    rw [wideTo_next bk t (by omega) _ (by rw [if_neg (by omega)]), HX2.out] at h
    rw [next64_eq]
    exact h
  · show 80 - ((t : Int) + 1).toNat < 80 - ((t : Int)).toNat
    omega
/-- Behind the second loop. -/
def VX2 (w : World) (gk gh gm cm N gw p0 : Nat) (hs : List Value) (ms bk : List UInt8) (a : Act) (wr : World) : Prop :=
  Fr 249 ([(6, .int .i64 (p0 : Int)), (7, .slice (some ⟨gw, 0, none⟩) 80 80)] ++ vSlots w gk gh gm cm N) a ∧ VW w wr gk gh gm hs ms ∧ Cells wr gw (wideTo bk 80) 40
set_option maxRecDepth 100000 in
set_option maxHeartbeats 4000000 in
theorem vloop2 (w wr : World) (gk gh gm cm N gw p0 : Nat) (hs : List Value) (ms bk : List UInt8) (a : Act) (Q0 : Exit → Act → World → Prop) (hN : N ≤ 10000) (hml : ms.length = 128 * N) (hp : p0 + 128 ≤ 128 * N) (hgw : gm < gw) (hbk : bk = (ms.drop p0).take 128)
    (hI : VI2 w gk gh gm cm N gw p0 hs ms bk a wr) (hX : ∀ a wr, VX2 w gk gh gm cm N gw p0 hs ms bk a wr → Q0 (.exit 2) a wr) : Code.wp Tryd.prog (Code.loop (vBody 1)) Q0 a wr := by
  refine wp_loop (VI2 w gk gh gm cm N gw p0 hs ms bk) vmu2 hI ?_
  clear hI a wr
  rintro a wr ⟨t, ht, hF, hW, hS⟩
  by_cases h1 : t < 16
  · exact vround2a w wr gk gh gm cm N gw p0 t hs ms bk a Q0 hN hml hp hgw hbk h1 hF hW hS
  by_cases h2 : t < 80
  · exact vround2b w wr gk gh gm cm N gw p0 t hs ms bk a Q0 hgw (by omega) h2 hF hW hS
  obtain rfl : t = 80 := by omega
  have HX := Lib.hid hX
  clear hX
  obtain ⟨hs0, hd0, h6, h7, h8, h2, h3, h4, h5, _⟩ := hF
  obtain ⟨u, rfl⟩ := frame249 a hs0 hd0
  clear hs0 hd0
  change u 6 = _ at h6
  change u 7 = _ at h7
  change u 8 = _ at h8
  change u 2 = _ at h2
  change u 3 = _ at h3
  change u 4 = _ at h4
  change u 5 = _ at h5
  rw [h6, h7, h8, h2, h3, h4, h5]
  clear h6 h7 h8 h2 h3 h4 h5
  conv => arg 2; whnf
  go_wp2
  exact HX.out _ _ ⟨⟨rfl, rfl, rfl, rfl, rfl, rfl, rfl, rfl, trivial⟩, hW, hS⟩
end Go.Proofs.YtpbkjphdkdlhjaaDoor
