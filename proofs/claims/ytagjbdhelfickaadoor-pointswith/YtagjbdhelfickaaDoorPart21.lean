/- Part 21 of what the laws of this seat share: BWith, BBytes, JBit, BOver. -/
import Derived.Deep.Cut
import Derived.IntWalk
import Derived.Deep.QuietTactic
import Derived.BigQuiet
import Derived.Test.YtagjbdhelfickaaDoorPart20
namespace Go.Proofs.YtagjbdhelfickaaDoor
open Go.RowKit
set_option maxRecDepth 100000 in
set_option maxHeartbeats 4000000 in
theorem with12_over (kh ks : List UInt8) (p dd z bs bo : List Nat) (X : Nat → List Nat) (w : World)
    (Hp : Hid (p.length = 24))
    (Hz : Hid (z.length = 24))
    (Hbs : Hid (bs.length = 24))
    (Hbo : Hid (bo.length = 24))
    (Hdd : Hid (dd.length = 8))
    (HZ : Hid (X 256 = z))
    (HL : Hid (∀ j, (X j).length = 24))
    (HR : Hid (∀ k : Nat, k < 256 → ∃ (m : List Nat) (c b : Bool) (q1 q2 : UInt8), (∀ W, Calls Tryd.prog 54 #[numD (X (k + 1)), numD (X (k + 1)), numD dd] W fun e w' => e = .returned (numD m) ∧ Below W.heap.size W w') ∧ m.length = 24 ∧ (c = false → b = false → X k = m) ∧ (c = false → b = true → (∀ W, Calls Tryd.prog 54 #[numD m, numD bs, numD dd] W fun e w' => e = .returned (numD (X k)) ∧ Below W.heap.size W w')) ∧ (c = true → b = false → (∀ W, Calls Tryd.prog 54 #[numD m, numD p, numD dd] W fun e w' => e = .returned (numD (X k)) ∧ Below W.heap.size W w')) ∧ (c = true → b = true → (∀ W, Calls Tryd.prog 54 #[numD m, numD bo, numD dd] W fun e w' => e = .returned (numD (X k)) ∧ Below W.heap.size W w')) ∧ (kh.map cellOf)[k / 8]? = some (cellOf q1) ∧ (bits .and .u8 ((q1.toNat : Int) / 2 ^ (k % 8)) 1 = if c then 1 else 0) ∧ (ks.map cellOf)[k / 8]? = some (cellOf q2) ∧ (bits .and .u8 ((q2.toNat : Int) / 2 ^ (k % 8)) 1 = if b then 1 else 0)))
    (CC : Hid (∀ W, Calls Tryd.prog 40 #[] W fun e w' => e = .returned (numD dd) ∧ Below W.heap.size W w'))
    (CB : Hid (∀ W, Calls Tryd.prog 49 #[] W fun e w' => e = .returned (numD bs) ∧ Below W.heap.size W w'))
    (CO : Hid (∀ W, Calls Tryd.prog 54 #[numD p, numD bs, numD dd] W fun e w' => e = .returned (numD bo) ∧ Below W.heap.size W w'))
    (CZ : Hid (∀ W, Calls Tryd.prog 58 #[] W fun e w' => e = .returned (numD z) ∧ Below W.heap.size W w')) :
    Calls Tryd.prog 24 #[numD p, hashVal kh, hashVal ks] w fun e w' => e = .returned (numD (X 0)) ∧ Below w.heap.size w w' := by
  go_enter Tryd.func24, Tryd.ntmps24
  go_wp2_with (first
    | (refine vtake_step rfl 40 (.tmp 0) rfl (p.map dcell) rfl ?_
       intro w1 hb1 hvp1
       have hB1 := hb1
       have hgep : w.heap.size ≤ w.heap.size := Nat.le_refl _
       clear  hb1
       try simp only [Act.put, List.setIfInBounds_toArray, List.set_cons_zero, List.set_cons_succ]
       skip)
    | (refine vtake_step rfl 22 (.tmp 1) rfl (kh.map cellOf) rfl ?_
       intro w2 hb2 hvh2
       have hB2 := below_then hB1 hb2
       have hgeh : w.heap.size ≤ w1.heap.size := hB1.size
       have hvp2 := hvp1.on hb2
       have hneph := Nat.ne_of_lt hvp1.lt
       clear hB1 hvp1 hb2
       try simp only [Act.put, List.setIfInBounds_toArray, List.set_cons_zero, List.set_cons_succ]
       skip)
    | (refine vtake_step rfl 22 (.tmp 2) rfl (ks.map cellOf) rfl ?_
       intro w3 hb3 hvs3
       have hB3 := below_then hB2 hb3
       have hges : w.heap.size ≤ w2.heap.size := hB2.size
       have hvp3 := hvp2.on hb3
       have hneps := Nat.ne_of_lt hvp2.lt
       have hvh3 := hvh2.on hb3
       have hnehs := Nat.ne_of_lt hvh2.lt
       clear hB2 hvp2 hvh2 hb3
       try simp only [Act.put, List.setIfInBounds_toArray, List.set_cons_zero, List.set_cons_succ]
       skip)
    | (refine vzero_step (o := ⟨some 6, _, _, _, _, _⟩) rfl 40 rfl (dzeros 24) zero_tri ?_
       intro w4 hb4 hvr4
       have hB4 := below_then hB3 hb4
       have hger : w.heap.size ≤ w3.heap.size := hB3.size
       have hvp4 := hvp3.on hb4
       have hnepr := Nat.ne_of_lt hvp3.lt
       have hvh4 := hvh3.on hb4
       have hnehr := Nat.ne_of_lt hvh3.lt
       have hvs4 := hvs3.on hb4
       have hnesr := Nat.ne_of_lt hvs3.lt
       clear hB3 hvp3 hvh3 hvs3 hb4
       try simp only [Act.put, List.setIfInBounds_toArray, List.set_cons_zero, List.set_cons_succ]
       skip))
  generalize hqh : w1.heap.size = gh at *
  clear hqh
  generalize hqs : w2.heap.size = gs at *
  clear hqs
  generalize hqr : w3.heap.size = gr at *
  clear hqr
  refine (CC.out w4).mono ?_
  rintro e w5 ⟨rfl, hb5⟩
  have hB5 := below_then hB4 hb5
  have hvp5 := hvp4.on hb5
  have hvh5 := hvh4.on hb5
  have hvs5 := hvs4.on hb5
  have hvr5 := hvr4.on hb5
  clear hB4 hvp4 hvh4 hvs4 hvr4 hb5
  go_wp2_with (first
    | (refine vput_step rfl rfl 38 (.tmp 7) (.tmp 14) rfl rfl 8 (dzeros 8) (dd.map dcell) rfl rfl zero_ND rfl size_ND (by rw [List.length_map, Hdd.out]) (dcells_one _) ?_
       intro w6 hb6 hvd6
       have hB6 := below_then hB5 hb6
       have hged : w.heap.size ≤ w5.heap.size := hB5.size
       have hvp6 := hvp5.on hb6
       have hnepd := Nat.ne_of_lt hvp5.lt
       have hvh6 := hvh5.on hb6
       have hnehd := Nat.ne_of_lt hvh5.lt
       have hvs6 := hvs5.on hb6
       have hnesd := Nat.ne_of_lt hvs5.lt
       have hvr6 := hvr5.on hb6
       have hnerd := Nat.ne_of_lt hvr5.lt
       clear hB5 hvp5 hvh5 hvs5 hvr5 hb6
       try simp only [Act.put, List.setIfInBounds_toArray, List.set_cons_zero, List.set_cons_succ]
       skip))
  generalize hqd : w5.heap.size = gd at *
  clear hqd
  refine (CB.out w6).mono ?_
  rintro e w7 ⟨rfl, hb7⟩
  have hB7 := below_then hB6 hb7
  have hvp7 := hvp6.on hb7
  have hvh7 := hvh6.on hb7
  have hvs7 := hvs6.on hb7
  have hvr7 := hvr6.on hb7
  have hvd7 := hvd6.on hb7
  clear hB6 hvp6 hvh6 hvs6 hvr6 hvd6 hb7
  go_wp2_with (first
    | (refine vput_step rfl rfl 40 (.tmp 8) (.tmp 15) rfl rfl 24 (dzeros 24) (bs.map dcell) rfl rfl zero_tri rfl size_tri (by rw [List.length_map, Hbs.out]) (dcells_one _) ?_
       intro w8 hb8 hvb8
       have hB8 := below_then hB7 hb8
       have hgeb : w.heap.size ≤ w7.heap.size := hB7.size
       have hvp8 := hvp7.on hb8
       have hnepb := Nat.ne_of_lt hvp7.lt
       have hvh8 := hvh7.on hb8
       have hnehb := Nat.ne_of_lt hvh7.lt
       have hvs8 := hvs7.on hb8
       have hnesb := Nat.ne_of_lt hvs7.lt
       have hvr8 := hvr7.on hb8
       have hnerb := Nat.ne_of_lt hvr7.lt
       have hvd8 := hvd7.on hb8
       have hnedb := Nat.ne_of_lt hvd7.lt
       clear hB7 hvp7 hvh7 hvs7 hvr7 hvd7 hb8
       try simp only [Act.put, List.setIfInBounds_toArray, List.set_cons_zero, List.set_cons_succ]
       skip)
    | (refine sget_step rfl 40 (.tmp 3) rfl w.heap.size 24 (p.map dcell) rfl hvp8 Tryd.underlying40 rfl size_tri (by rw [List.length_map, Hp.out]) ?_
       try simp only [Act.put, List.setIfInBounds_toArray, List.set_cons_zero, List.set_cons_succ]
       skip)
    | (refine sget_step rfl 40 (.tmp 8) rfl w7.heap.size 24 (bs.map dcell) rfl hvb8 Tryd.underlying40 rfl size_tri (by rw [List.length_map, Hbs.out]) ?_
       try simp only [Act.put, List.setIfInBounds_toArray, List.set_cons_zero, List.set_cons_succ]
       skip)
    | (refine sget_step rfl 38 (.tmp 7) rfl gd 8 (dd.map dcell) rfl hvd8 Tryd.underlying38 rfl size_ND (by rw [List.length_map, Hdd.out]) ?_
       try simp only [Act.put, List.setIfInBounds_toArray, List.set_cons_zero, List.set_cons_succ]
       skip))
  generalize hqb : w7.heap.size = gb at *
  clear hqb
  refine (CO.out w8).mono ?_
  rintro e w9 ⟨rfl, hb9⟩
  have hB9 := below_then hB8 hb9
  have hvp9 := hvp8.on hb9
  have hvh9 := hvh8.on hb9
  have hvs9 := hvs8.on hb9
  have hvr9 := hvr8.on hb9
  have hvd9 := hvd8.on hb9
  have hvb9 := hvb8.on hb9
  clear hB8 hvp8 hvh8 hvs8 hvr8 hvd8 hvb8 hb9
  go_wp2_with (first
    | (refine vput_step rfl rfl 40 (.tmp 9) (.tmp 19) rfl rfl 24 (dzeros 24) (bo.map dcell) rfl rfl zero_tri rfl size_tri (by rw [List.length_map, Hbo.out]) (dcells_one _) ?_
       intro w10 hb10 hvt10
       have hB10 := below_then hB9 hb10
       have hget : w.heap.size ≤ w9.heap.size := hB9.size
       have hvp10 := hvp9.on hb10
       have hnept := Nat.ne_of_lt hvp9.lt
       have hvh10 := hvh9.on hb10
       have hneht := Nat.ne_of_lt hvh9.lt
       have hvs10 := hvs9.on hb10
       have hnest := Nat.ne_of_lt hvs9.lt
       have hvr10 := hvr9.on hb10
       have hnert := Nat.ne_of_lt hvr9.lt
       have hvd10 := hvd9.on hb10
       have hnedt := Nat.ne_of_lt hvd9.lt
       have hvb10 := hvb9.on hb10
       have hnebt := Nat.ne_of_lt hvb9.lt
       clear hB9 hvp9 hvh9 hvs9 hvr9 hvd9 hvb9 hb10
       try simp only [Act.put, List.setIfInBounds_toArray, List.set_cons_zero, List.set_cons_succ]
       skip))
  generalize hqt : w9.heap.size = gt at *
  clear hqt
  refine (CZ.out w10).mono ?_
  rintro e w11 ⟨rfl, hb11⟩
  have hB11 := below_then hB10 hb11
  have hvp11 := hvp10.on hb11
  have hvh11 := hvh10.on hb11
  have hvs11 := hvs10.on hb11
  have hvr11 := hvr10.on hb11
  have hvd11 := hvd10.on hb11
  have hvb11 := hvb10.on hb11
  have hvt11 := hvt10.on hb11
  clear hB10 hvp10 hvh10 hvs10 hvr10 hvd10 hvb10 hvt10 hb11
  go_wp2_with (first
    | (refine vput_step rfl rfl 40 (.tmp 10) (.tmp 20) rfl rfl 24 (dzeros 24) (z.map dcell) rfl rfl zero_tri rfl size_tri (by rw [List.length_map, Hz.out]) (dcells_one _) ?_
       intro w12 hb12 hvo12
       have hB12 := below_then hB11 hb12
       have hgeo : w.heap.size ≤ w11.heap.size := hB11.size
       have hvp12 := hvp11.on hb12
       have hnepo := Nat.ne_of_lt hvp11.lt
       have hvh12 := hvh11.on hb12
       have hneho := Nat.ne_of_lt hvh11.lt
       have hvs12 := hvs11.on hb12
       have hneso := Nat.ne_of_lt hvs11.lt
       have hvr12 := hvr11.on hb12
       have hnero := Nat.ne_of_lt hvr11.lt
       have hvd12 := hvd11.on hb12
       have hnedo := Nat.ne_of_lt hvd11.lt
       have hvb12 := hvb11.on hb12
       have hnebo := Nat.ne_of_lt hvb11.lt
       have hvt12 := hvt11.on hb12
       have hneto := Nat.ne_of_lt hvt11.lt
       clear hB11 hvp11 hvh11 hvs11 hvr11 hvd11 hvb11 hvt11 hb12
       try simp only [Act.put, List.setIfInBounds_toArray, List.set_cons_zero, List.set_cons_succ]
       skip))
  generalize hqo : w11.heap.size = go at *
  clear hqo
  replace hneph := Lib.hid hneph
  replace hneps := Lib.hid hneps
  replace hnehs := Lib.hid hnehs
  replace hnepr := Lib.hid hnepr
  replace hnehr := Lib.hid hnehr
  replace hnesr := Lib.hid hnesr
  replace hnepd := Lib.hid hnepd
  replace hnehd := Lib.hid hnehd
  replace hnesd := Lib.hid hnesd
  replace hnerd := Lib.hid hnerd
  replace hnepb := Lib.hid hnepb
  replace hnehb := Lib.hid hnehb
  replace hnesb := Lib.hid hnesb
  replace hnerb := Lib.hid hnerb
  replace hnedb := Lib.hid hnedb
  replace hnept := Lib.hid hnept
  replace hneht := Lib.hid hneht
  replace hnest := Lib.hid hnest
  replace hnert := Lib.hid hnert
  replace hnedt := Lib.hid hnedt
  replace hnebt := Lib.hid hnebt
  replace hnepo := Lib.hid hnepo
  replace hneho := Lib.hid hneho
  replace hneso := Lib.hid hneso
  replace hnero := Lib.hid hnero
  replace hnedo := Lib.hid hnedo
  replace hnebo := Lib.hid hnebo
  replace hneto := Lib.hid hneto
  go_loopw [11] (fun t wr => ∃ j : Nat, j ≤ 256 ∧ t = .int .i64 ((j : Int) - 1) ∧ Below w.heap.size w wr ∧ Cells wr (w.heap.size) (p.map dcell) 40 ∧ Cells wr gh (kh.map cellOf) 22 ∧ Cells wr gs (ks.map cellOf) 22 ∧ Cells wr gr (dzeros 24) 40 ∧ Cells wr gd (dd.map dcell) 38 ∧ Cells wr gb (bs.map dcell) 40 ∧ Cells wr gt (bo.map dcell) 40 ∧ Cells wr go ((X j).map dcell) 40) (fun t _ => ((intOf t) + 1).toNat)
  case atStart => exact ⟨256, Nat.le_refl _, rfl, hB12, hvp12, hvh12, hvs12, hvr12, hvd12, hvb12, hvt12, by rw [HZ.out]; exact hvo12⟩
  case round =>
    clear hB12 hvp12 hvh12 hvs12 hvr12 hvd12 hvb12 hvt12 hvo12
    obtain ⟨j, hj, rfl, hBl, hvpl, hvhl, hvsl, hvrl, hvdl, hvbl, hvtl, hvol⟩ := hrel
    by_cases h0 : 0 < j
    · obtain ⟨k, rfl⟩ : ∃ k, j = k + 1 := ⟨j - 1, by omega⟩
      have hk : k < 256 := by omega
      have e1' : (((k + 1 : Nat) : Int) - 1) = (k : Int) := by omega
      have i1 : (0 : Int) ≤ (k : Int) := by omega
      have i2 : (k : Int) < 256 := by omega
      have i3 : IntKind.i64.wrap ((k : Int) - 1) = (k : Int) - 1 := IntWalk.i64_in _ (by omega)
      have i4 : IntKind.u64.wrap ((k : Int) % 8) = (k : Int) % 8 := by rw [IntKind.wrap_u64]; omega
      have i5 : (0 : Int) ≤ (k : Int) / 8 := by omega
      have i6 : (k : Int) / 8 < 32 := by omega
      have i7 : ((k : Int) / 8).toNat = k / 8 := by omega
      have i8 : (k : Int).tmod 8 = (k : Int) % 8 := Int.tmod_eq_emod_of_nonneg i1
      have i9 : (k : Int).tdiv 8 = (k : Int) / 8 := Int.tdiv_eq_ediv_of_nonneg i1
      have i10 : IntKind.i64.wrap ((k : Int) / 8) = (k : Int) / 8 := IntWalk.i64_in _ (by omega)
      have i11 : ((k : Int) % 8).toNat = k % 8 := by omega
      rw [e1']
      obtain ⟨m, c, b, q1, q2, C1, Hm, hc0, hc1, hc2, hc3, hq1, hbv1, hq2, hbv2⟩ := HR.out k hk
      replace C1 := Lib.hid C1
      replace Hm := Lib.hid Hm
      have dq1 := Lib.hid hq1
      have dq2 := Lib.hid hq2
      have Hx := Lib.hid (HL.out (k + 1))
      have Hy := Lib.hid (HL.out k)
      clear HR HL HZ CZ CB CO hq1 hq2
      obtain ⟨x, HXx⟩ := namedF (X (k + 1))
      obtain ⟨y, HXy⟩ := namedF (X k)
      rw [HXx.out] at C1 Hx hvol
      rw [HXy.out] at hc0 hc1 hc2 hc3 Hy
      go_wp2_with (first
        | (refine sget_step rfl 40 (.tmp 10) rfl go 24 (x.map dcell) rfl hvol Tryd.underlying40 rfl size_tri (by rw [List.length_map, Hx.out]) ?_
           try simp only [Act.put, List.setIfInBounds_toArray, List.set_cons_zero, List.set_cons_succ]
           skip)
        | (refine sget_step rfl 40 (.tmp 10) rfl go 24 (x.map dcell) rfl hvol Tryd.underlying40 rfl size_tri (by rw [List.length_map, Hx.out]) ?_
           try simp only [Act.put, List.setIfInBounds_toArray, List.set_cons_zero, List.set_cons_succ]
           skip)
        | (refine sget_step rfl 38 (.tmp 7) rfl gd 8 (dd.map dcell) rfl hvdl Tryd.underlying38 rfl size_ND (by rw [List.length_map, Hdd.out]) ?_
           try simp only [Act.put, List.setIfInBounds_toArray, List.set_cons_zero, List.set_cons_succ]
           skip))
      refine (C1.out wr).mono ?_
      rintro e w13 ⟨rfl, hb13⟩
      have hB13 := below_then hBl hb13
      have hvp13 := hvpl.on hb13
      have hvh13 := hvhl.on hb13
      have hvs13 := hvsl.on hb13
      have hvr13 := hvrl.on hb13
      have hvd13 := hvdl.on hb13
      have hvb13 := hvbl.on hb13
      have hvt13 := hvtl.on hb13
      have hvo13 := hvol.on hb13
      clear hBl hvpl hvhl hvsl hvrl hvdl hvbl hvtl hvol hb13
      go_upto_region 9 with (first
        | (refine vset_step rfl 40 (.tmp 10) (.tmp 28) rfl go 24 (x.map dcell) (m.map dcell) rfl rfl hvo13 (by rw [List.length_map, Hx.out]) size_tri (by rw [List.length_map, Hm.out]) (dcells_one _) ?_
           intro w14 hb14 hvo14 hz14
           have hB14 : Below w.heap.size w w14 := hB13.trans (hb14.below hgeo hB13.size)
           have hvp14 := hvp13.but hb14 hnepo.out
           have hvh14 := hvh13.but hb14 hneho.out
           have hvs14 := hvs13.but hb14 hneso.out
           have hvr14 := hvr13.but hb14 hnero.out
           have hvd14 := hvd13.but hb14 hnedo.out
           have hvb14 := hvb13.but hb14 hnebo.out
           have hvt14 := hvt13.but hb14 hneto.out
           clear hB13 hvo13 hb14 hz14 hvp13 hvh13 hvs13 hvr13 hvd13 hvb13 hvt13
           skip))
      have dr1 := hvh14.get dq1.out
      have dr2 := hvs14.get dq2.out
      cases c
      · cases b
        · have C2 := Lib.hid (hc0 rfl rfl)
          clear hc0 hc1 hc2 hc3
          have hw1 : bits .and .u8 ((q1.toNat : Int) / 2 ^ (k % 8)) 1 = 0 := hbv1
          have hw2 : bits .and .u8 ((q2.toNat : Int) / 2 ^ (k % 8)) 1 = 0 := hbv2
          clear hbv1 hbv2
          go_quiet (fail)
          try simp only [i11, hw1, hw2, show ((0 : Int) == 1) = false from rfl, show ((1 : Int) == 1) = true from rfl]
          clear dr1 dr2
          have hBq := below_drewN hB14 nq
          have hvpq := hvp14.drewN nq
          have hvhq := hvh14.drewN nq
          have hvsq := hvs14.drewN nq
          have hvrq := hvr14.drewN nq
          have hvdq := hvd14.drewN nq
          have hvbq := hvb14.drewN nq
          have hvtq := hvt14.drewN nq
          have hvoq := hvo14.drewN nq
          clear hB14 hvp14 hvh14 hvs14 hvr14 hvd14 hvb14 hvt14 hvo14
          generalize w14.drewN nq = wq at *
          go_wp2_with fail
          go_roundw
          case rel => exact ⟨k, by omega, by go_num, hBq, hvpq, hvhq, hvsq, hvrq, hvdq, hvbq, hvtq, by rw [HXy.out, C2.out]; exact hvoq⟩
          case measure => simp [intOf] <;> omega
        · have C2 := Lib.hid (hc1 rfl rfl)
          clear hc0 hc1 hc2 hc3
          have hw1 : bits .and .u8 ((q1.toNat : Int) / 2 ^ (k % 8)) 1 = 0 := hbv1
          have hw2 : bits .and .u8 ((q2.toNat : Int) / 2 ^ (k % 8)) 1 = 1 := hbv2
          clear hbv1 hbv2
          go_quiet (fail)
          try simp only [i11, hw1, hw2, show ((0 : Int) == 1) = false from rfl, show ((1 : Int) == 1) = true from rfl]
          clear dr1 dr2
          have hBq := below_drewN hB14 nq
          have hvpq := hvp14.drewN nq
          have hvhq := hvh14.drewN nq
          have hvsq := hvs14.drewN nq
          have hvrq := hvr14.drewN nq
          have hvdq := hvd14.drewN nq
          have hvbq := hvb14.drewN nq
          have hvtq := hvt14.drewN nq
          have hvoq := hvo14.drewN nq
          clear hB14 hvp14 hvh14 hvs14 hvr14 hvd14 hvb14 hvt14 hvo14
          generalize w14.drewN nq = wq at *
          go_wp2_with (first
            | (refine sget_step rfl 40 (.tmp 10) rfl go 24 (m.map dcell) rfl hvoq Tryd.underlying40 rfl size_tri (by rw [List.length_map, Hm.out]) ?_
               try simp only [Act.put, List.setIfInBounds_toArray, List.set_cons_zero, List.set_cons_succ]
               skip)
            | (refine sget_step rfl 40 (.tmp 8) rfl gb 24 (bs.map dcell) rfl hvbq Tryd.underlying40 rfl size_tri (by rw [List.length_map, Hbs.out]) ?_
               try simp only [Act.put, List.setIfInBounds_toArray, List.set_cons_zero, List.set_cons_succ]
               skip)
            | (refine sget_step rfl 38 (.tmp 7) rfl gd 8 (dd.map dcell) rfl hvdq Tryd.underlying38 rfl size_ND (by rw [List.length_map, Hdd.out]) ?_
               try simp only [Act.put, List.setIfInBounds_toArray, List.set_cons_zero, List.set_cons_succ]
               skip))
          refine (C2.out wq).mono ?_
          rintro e w15 ⟨rfl, hb15⟩
          have hB15 := below_then hBq hb15
          have hvp15 := hvpq.on hb15
          have hvh15 := hvhq.on hb15
          have hvs15 := hvsq.on hb15
          have hvr15 := hvrq.on hb15
          have hvd15 := hvdq.on hb15
          have hvb15 := hvbq.on hb15
          have hvt15 := hvtq.on hb15
          have hvo15 := hvoq.on hb15
          clear hBq hvpq hvhq hvsq hvrq hvdq hvbq hvtq hvoq hb15
          go_wp2_with (first
            | (refine vset_step rfl 40 (.tmp 10) (.tmp 69) rfl go 24 (m.map dcell) (y.map dcell) rfl rfl hvo15 (by rw [List.length_map, Hm.out]) size_tri (by rw [List.length_map, Hy.out]) (dcells_one _) ?_
               intro w16 hb16 hvo16 hz16
               have hB16 : Below w.heap.size w w16 := hB15.trans (hb16.below hgeo hB15.size)
               have hvp16 := hvp15.but hb16 hnepo.out
               have hvh16 := hvh15.but hb16 hneho.out
               have hvs16 := hvs15.but hb16 hneso.out
               have hvr16 := hvr15.but hb16 hnero.out
               have hvd16 := hvd15.but hb16 hnedo.out
               have hvb16 := hvb15.but hb16 hnebo.out
               have hvt16 := hvt15.but hb16 hneto.out
               clear hB15 hvo15 hb16 hz16 hvp15 hvh15 hvs15 hvr15 hvd15 hvb15 hvt15
               skip))
          go_roundw
          case rel => exact ⟨k, by omega, by go_num, hB16, hvp16, hvh16, hvs16, hvr16, hvd16, hvb16, hvt16, by rw [HXy.out]; exact hvo16⟩
          case measure => simp [intOf] <;> omega
      · cases b
        · have C2 := Lib.hid (hc2 rfl rfl)
          clear hc0 hc1 hc2 hc3
          have hw1 : bits .and .u8 ((q1.toNat : Int) / 2 ^ (k % 8)) 1 = 1 := hbv1
          have hw2 : bits .and .u8 ((q2.toNat : Int) / 2 ^ (k % 8)) 1 = 0 := hbv2
          clear hbv1 hbv2
          go_quiet (fail)
          try simp only [i11, hw1, hw2, show ((0 : Int) == 1) = false from rfl, show ((1 : Int) == 1) = true from rfl]
          clear dr1 dr2
          have hBq := below_drewN hB14 nq
          have hvpq := hvp14.drewN nq
          have hvhq := hvh14.drewN nq
          have hvsq := hvs14.drewN nq
          have hvrq := hvr14.drewN nq
          have hvdq := hvd14.drewN nq
          have hvbq := hvb14.drewN nq
          have hvtq := hvt14.drewN nq
          have hvoq := hvo14.drewN nq
          clear hB14 hvp14 hvh14 hvs14 hvr14 hvd14 hvb14 hvt14 hvo14
          generalize w14.drewN nq = wq at *
          go_wp2_with (first
            | (refine sget_step rfl 40 (.tmp 10) rfl go 24 (m.map dcell) rfl hvoq Tryd.underlying40 rfl size_tri (by rw [List.length_map, Hm.out]) ?_
               try simp only [Act.put, List.setIfInBounds_toArray, List.set_cons_zero, List.set_cons_succ]
               skip)
            | (refine sget_step rfl 40 (.tmp 3) rfl w.heap.size 24 (p.map dcell) rfl hvpq Tryd.underlying40 rfl size_tri (by rw [List.length_map, Hp.out]) ?_
               try simp only [Act.put, List.setIfInBounds_toArray, List.set_cons_zero, List.set_cons_succ]
               skip)
            | (refine sget_step rfl 38 (.tmp 7) rfl gd 8 (dd.map dcell) rfl hvdq Tryd.underlying38 rfl size_ND (by rw [List.length_map, Hdd.out]) ?_
               try simp only [Act.put, List.setIfInBounds_toArray, List.set_cons_zero, List.set_cons_succ]
               skip))
          refine (C2.out wq).mono ?_
          rintro e w17 ⟨rfl, hb17⟩
          have hB17 := below_then hBq hb17
          have hvp17 := hvpq.on hb17
          have hvh17 := hvhq.on hb17
          have hvs17 := hvsq.on hb17
          have hvr17 := hvrq.on hb17
          have hvd17 := hvdq.on hb17
          have hvb17 := hvbq.on hb17
          have hvt17 := hvtq.on hb17
          have hvo17 := hvoq.on hb17
          clear hBq hvpq hvhq hvsq hvrq hvdq hvbq hvtq hvoq hb17
          go_wp2_with (first
            | (refine vset_step rfl 40 (.tmp 10) (.tmp 63) rfl go 24 (m.map dcell) (y.map dcell) rfl rfl hvo17 (by rw [List.length_map, Hm.out]) size_tri (by rw [List.length_map, Hy.out]) (dcells_one _) ?_
               intro w18 hb18 hvo18 hz18
               have hB18 : Below w.heap.size w w18 := hB17.trans (hb18.below hgeo hB17.size)
               have hvp18 := hvp17.but hb18 hnepo.out
               have hvh18 := hvh17.but hb18 hneho.out
               have hvs18 := hvs17.but hb18 hneso.out
               have hvr18 := hvr17.but hb18 hnero.out
               have hvd18 := hvd17.but hb18 hnedo.out
               have hvb18 := hvb17.but hb18 hnebo.out
               have hvt18 := hvt17.but hb18 hneto.out
               clear hB17 hvo17 hb18 hz18 hvp17 hvh17 hvs17 hvr17 hvd17 hvb17 hvt17
               skip))
          go_roundw
          case rel => exact ⟨k, by omega, by go_num, hB18, hvp18, hvh18, hvs18, hvr18, hvd18, hvb18, hvt18, by rw [HXy.out]; exact hvo18⟩
          case measure => simp [intOf] <;> omega
        · have C2 := Lib.hid (hc3 rfl rfl)
          clear hc0 hc1 hc2 hc3
          have hw1 : bits .and .u8 ((q1.toNat : Int) / 2 ^ (k % 8)) 1 = 1 := hbv1
          have hw2 : bits .and .u8 ((q2.toNat : Int) / 2 ^ (k % 8)) 1 = 1 := hbv2
          clear hbv1 hbv2
          go_quiet (fail)
          try simp only [i11, hw1, hw2, show ((0 : Int) == 1) = false from rfl, show ((1 : Int) == 1) = true from rfl]
          clear dr1 dr2
          have hBq := below_drewN hB14 nq
          have hvpq := hvp14.drewN nq
          have hvhq := hvh14.drewN nq
          have hvsq := hvs14.drewN nq
          have hvrq := hvr14.drewN nq
          have hvdq := hvd14.drewN nq
          have hvbq := hvb14.drewN nq
          have hvtq := hvt14.drewN nq
          have hvoq := hvo14.drewN nq
          clear hB14 hvp14 hvh14 hvs14 hvr14 hvd14 hvb14 hvt14 hvo14
          generalize w14.drewN nq = wq at *
          go_wp2_with (first
            | (refine sget_step rfl 40 (.tmp 10) rfl go 24 (m.map dcell) rfl hvoq Tryd.underlying40 rfl size_tri (by rw [List.length_map, Hm.out]) ?_
               try simp only [Act.put, List.setIfInBounds_toArray, List.set_cons_zero, List.set_cons_succ]
               skip)
            | (refine sget_step rfl 40 (.tmp 9) rfl gt 24 (bo.map dcell) rfl hvtq Tryd.underlying40 rfl size_tri (by rw [List.length_map, Hbo.out]) ?_
               try simp only [Act.put, List.setIfInBounds_toArray, List.set_cons_zero, List.set_cons_succ]
               skip)
            | (refine sget_step rfl 38 (.tmp 7) rfl gd 8 (dd.map dcell) rfl hvdq Tryd.underlying38 rfl size_ND (by rw [List.length_map, Hdd.out]) ?_
               try simp only [Act.put, List.setIfInBounds_toArray, List.set_cons_zero, List.set_cons_succ]
               skip))
          refine (C2.out wq).mono ?_
          rintro e w19 ⟨rfl, hb19⟩
          have hB19 := below_then hBq hb19
          have hvp19 := hvpq.on hb19
          have hvh19 := hvhq.on hb19
          have hvs19 := hvsq.on hb19
          have hvr19 := hvrq.on hb19
          have hvd19 := hvdq.on hb19
          have hvb19 := hvbq.on hb19
          have hvt19 := hvtq.on hb19
          have hvo19 := hvoq.on hb19
          clear hBq hvpq hvhq hvsq hvrq hvdq hvbq hvtq hvoq hb19
          go_wp2_with (first
            | (refine vset_step rfl 40 (.tmp 10) (.tmp 57) rfl go 24 (m.map dcell) (y.map dcell) rfl rfl hvo19 (by rw [List.length_map, Hm.out]) size_tri (by rw [List.length_map, Hy.out]) (dcells_one _) ?_
               intro w20 hb20 hvo20 hz20
               have hB20 : Below w.heap.size w w20 := hB19.trans (hb20.below hgeo hB19.size)
               have hvp20 := hvp19.but hb20 hnepo.out
               have hvh20 := hvh19.but hb20 hneho.out
               have hvs20 := hvs19.but hb20 hneso.out
               have hvr20 := hvr19.but hb20 hnero.out
               have hvd20 := hvd19.but hb20 hnedo.out
               have hvb20 := hvb19.but hb20 hnebo.out
               have hvt20 := hvt19.but hb20 hneto.out
               clear hB19 hvo19 hb20 hz20 hvp19 hvh19 hvs19 hvr19 hvd19 hvb19 hvt19
               skip))
          go_roundw
          case rel => exact ⟨k, by omega, by go_num, hB20, hvp20, hvh20, hvs20, hvr20, hvd20, hvb20, hvt20, by rw [HXy.out]; exact hvo20⟩
          case measure => simp [intOf] <;> omega
    · obtain rfl : j = 0 := by omega
      rw [show (((0 : Nat) : Int) - 1) = -1 from rfl]
      have Hx := Lib.hid (HL.out 0)
      clear HR HL HZ CZ CB CO
      go_wp2_with (first
        | (refine sget_step rfl 40 (.tmp 10) rfl go 24 ((X 0).map dcell) rfl hvol Tryd.underlying40 rfl size_tri (by rw [List.length_map, Hx.out]) ?_
           try simp only [Act.put, List.setIfInBounds_toArray, List.set_cons_zero, List.set_cons_succ]
           skip)
        | (refine vset_step rfl 40 (.tmp 6) (.tmp 70) rfl gr 24 (dzeros 24) ((X 0).map dcell) rfl rfl hvrl rfl size_tri (by rw [List.length_map, Hx.out]) (dcells_one _) ?_
           intro w21 hb21 hvr21 hz21
           have hB21 : Below w.heap.size w w21 := hBl.trans (hb21.below hger hBl.size)
           have hvp21 := hvpl.but hb21 hnepr.out
           have hvh21 := hvhl.but hb21 hnehr.out
           have hvs21 := hvsl.but hb21 hnesr.out
           have hvd21 := hvdl.but hb21 (Ne.symm hnerd.out)
           have hvb21 := hvbl.but hb21 (Ne.symm hnerb.out)
           have hvt21 := hvtl.but hb21 (Ne.symm hnert.out)
           have hvo21 := hvol.but hb21 (Ne.symm hnero.out)
           clear hBl hvrl hb21 hz21 hvpl hvhl hvsl hvdl hvbl hvtl hvol
           skip))
      exact sret Tryd.results24 gr ((X 0).map dcell) rfl hvr21 Tryd.underlying40 rfl size_tri (by rw [List.length_map, Hx.out]) rfl ⟨rfl, hB21⟩
end Go.Proofs.YtagjbdhelfickaaDoor
namespace Go.Proofs.YtagjbdhelfickaaDoor
open Go.RowKit
def bytes12Vs1 (p : List Nat) (g_base : Nat) (gr : Nat) (pz : List Nat) (iv : List Nat) : List Value :=
  (numD p) :: (.pointer (some ⟨g_base, 0, none⟩)) :: (.pointer (some ⟨gr, 0, none⟩)) :: undef :: undef :: undef :: undef :: (.pointer (some ⟨g_base, 16, none⟩)) :: (numD pz) :: (numD iv) :: undef :: undef :: undef :: undef :: undef :: undef :: undef :: undef :: undef :: undef :: undef :: undef :: undef :: undef :: undef :: undef :: undef :: undef :: undef :: []
def bytes12Vs1N (p : List Nat) (g_base : Nat) (gr : Nat) (pz : List Nat) (iv : List Nat) (n3 : Nat) : List Value :=
  (numD p) :: (.pointer (some ⟨g_base, 0, none⟩)) :: (.pointer (some ⟨gr, 0, none⟩)) :: (.pointer (some ⟨n3, 0, none⟩)) :: undef :: undef :: undef :: (.pointer (some ⟨g_base, 16, none⟩)) :: (numD pz) :: (numD iv) :: undef :: undef :: undef :: undef :: undef :: undef :: undef :: undef :: undef :: undef :: undef :: undef :: undef :: undef :: undef :: undef :: undef :: undef :: undef :: []
def bytes12Vs2_1 (p : List Nat) (g_base : Nat) (gr : Nat) (gv : Nat) (pz : List Nat) (iv : List Nat) (px : List Nat) (xx : List Nat) (py : List Nat) (yy : List Nat) : List Value :=
  (numD p) :: (.pointer (some ⟨g_base, 0, none⟩)) :: (.pointer (some ⟨gr, 0, none⟩)) :: (.pointer (some ⟨gv, 0, none⟩)) :: undef :: undef :: undef :: (.pointer (some ⟨g_base, 16, none⟩)) :: (numD pz) :: (numD iv) :: (.pointer (some ⟨g_base, 0, none⟩)) :: (numD px) :: (numD iv) :: (numD xx) :: (.pointer (some ⟨g_base, 8, none⟩)) :: (numD py) :: (numD iv) :: (numD yy) :: undef :: undef :: undef :: undef :: undef :: undef :: undef :: undef :: undef :: undef :: undef :: []
def bytes12Vs2_1N (p : List Nat) (g_base : Nat) (gr : Nat) (gv : Nat) (pz : List Nat) (iv : List Nat) (px : List Nat) (xx : List Nat) (py : List Nat) (yy : List Nat) (n4 n5 : Nat) : List Value :=
  (numD p) :: (.pointer (some ⟨g_base, 0, none⟩)) :: (.pointer (some ⟨gr, 0, none⟩)) :: (.pointer (some ⟨gv, 0, none⟩)) :: (.pointer (some ⟨n4, 0, none⟩)) :: (.pointer (some ⟨n5, 0, none⟩)) :: undef :: (.pointer (some ⟨g_base, 16, none⟩)) :: (numD pz) :: (numD iv) :: (.pointer (some ⟨g_base, 0, none⟩)) :: (numD px) :: (numD iv) :: (numD xx) :: (.pointer (some ⟨g_base, 8, none⟩)) :: (numD py) :: (numD iv) :: (numD yy) :: undef :: undef :: undef :: undef :: undef :: undef :: undef :: undef :: undef :: undef :: undef :: []
set_option maxRecDepth 100000 in
set_option maxHeartbeats 2000000 in
theorem bytes12_over (p px py pz iv xx yy : List Nat) (kb kc : List UInt8) (x0 : Nat) (q v : UInt8) (c : Bool) (w : World)
    (Hpx : Hid (px.length = 8))
    (Hpy : Hid (py.length = 8))
    (Hpz : Hid (pz.length = 8))
    (Hiv : Hid (iv.length = 8))
    (Hxx : Hid (xx.length = 8))
    (Hyy : Hid (yy.length = 8))
    (Hkb : Hid (kb.length = 32))
    (Hkc : Hid (kc.length = 32))
    (Fp : Hid (p = px ++ py ++ pz))
    (D0 : Hid ((xx.map dcell)[0]? = some (dcell x0)))
    (HP : Hid (x0 % 2 = bif c then 1 else 0))
    (D1 : Hid ((kb.map cellOf)[31]? = some (cellOf q)))
    (HV : Hid (IntKind.u8.wrap ((q.toNat : Int) + 128) = (v.toNat : Int)))
    (HC : Hid (kc = kb.set 31 v))
    (CI : Hid (∀ W, Calls Tryd.prog 38 #[numD pz] W fun e w' => e = .returned (numD iv) ∧ Below W.heap.size W w'))
    (CX : Hid (∀ W, Calls Tryd.prog 34 #[numD px, numD iv] W fun e w' => e = .returned (numD xx) ∧ Below W.heap.size W w'))
    (CY : Hid (∀ W, Calls Tryd.prog 34 #[numD py, numD iv] W fun e w' => e = .returned (numD yy) ∧ Below W.heap.size W w'))
    (CE : Hid (∀ W, Calls Tryd.prog 46 #[numD yy] W fun e w' => e = .returned (hashVal kb) ∧ Below W.heap.size W w')) :
    Calls Tryd.prog 13 #[numD p] w fun e w' => e = .returned (hashVal (bif c then kc else kb)) ∧ Below w.heap.size w w' := by
  go_enter Tryd.func13, Tryd.ntmps13
  go_upto_region 1 with (first
    | (refine vtake_step rfl 40 (.tmp 0) rfl (p.map dcell) rfl ?_
       intro w1 hb1 hvp1
       have hB1 := hb1
       have hgep : w.heap.size ≤ w.heap.size := Nat.le_refl _
       clear  hb1
       try simp only [Act.put, List.setIfInBounds_toArray, List.set_cons_zero, List.set_cons_succ]
       skip)
    | (refine vzero_step (o := ⟨some 2, _, _, _, _, _⟩) rfl 22 rfl kzeros zero_b32 ?_
       intro w2 hb2 hvr2
       have hB2 := below_then hB1 hb2
       have hger : w.heap.size ≤ w1.heap.size := hB1.size
       have hvp2 := hvp1.on hb2
       have hnepr := Nat.ne_of_lt hvp1.lt
       clear hB1 hvp1 hb2
       try simp only [Act.put, List.setIfInBounds_toArray, List.set_cons_zero, List.set_cons_succ]
       skip))
  generalize hqr : w1.heap.size = gr at *
  clear hqr
  refine wp_region_flat (md := .any) (by kernel_rfl) ?_
  refine wpAny_flatM (L := [0, 1, 2, 3]) (by kernel_rfl) _ _ (bytes12Vs1 p w.heap.size gr pz iv) [(3, 3)] 38 (dzeros 8) [0, 1, 2, 4, 5, 6, 10, 11, 12, 13, 14, 15, 16, 17, 18, 19, 20, 21, 22, 23, 24, 25, 26, 27, 28] (by kernel_rfl) (by kernel_rfl) ?_ zero_ND ?_ (by rfl) ?_ 1 (by kernel_rfl) ?_
  · intro p hp
    rcases List.mem_cons.1 hp with rfl | hp
    · exact ⟨⟨_, rfl, rfl, rfl, rfl, by kernel_rfl, by kernel_rfl⟩⟩
    exact absurd hp List.not_mem_nil
  · repeat refine all_cons rfl ?_
    exact all_nil
  · refine all_cons (.inr (mStep _ 7 rfl rfl rfl rfl (by kernel_rfl) (fun a hv => wanted_all rfl _) (fun a w K hb hv hK => mPure _ (exec_field _ _ _ _ 2 rfl _ _ (hv 1 (by kernel_rfl) rfl) w (field_t2 _ w)) hK))) ?_
    refine all_cons (.inr (mStep _ 8 rfl rfl rfl rfl (by kernel_rfl) (fun a hv => wanted_all rfl _) (fun a w K hb hv hK => mPure (numD pz) (exec_load _ _ _ _ rfl _ _ (hv 7 (by kernel_rfl) rfl) w (load_t2 (hvp2.on hb) Fp.out Hpx.out Hpy.out Hpz.out)) hK))) ?_
    refine all_cons (.inr (mStep _ 9 rfl rfl rfl rfl (by kernel_rfl) (fun a hv => wanted_all rfl _) (fun a w K hb hv hK => mCall (numD iv) 38 _ _ rfl [numD pz] (cons_eq (hv 8 (by kernel_rfl) rfl) (rfl)) (enters Tryd.func38 rfl rfl) (CI.out w) hK))) ?_
    refine all_cons (.inl ⟨(3, 3), by simp, rfl⟩) ?_
    exact all_nil
  intro w3 g hb3 hN3 hap3
  obtain ⟨hgev, hvv3⟩ := hN3 (3, 3) (by simp)
  clear hN3 hap3
  have hB3 := below_then hB2 hb3
  have hltp : w.heap.size < w2.heap.size := hvp2.lt
  have hltr : gr < w2.heap.size := hvr2.lt
  have hvp3 := hvp2.on hb3
  have hvr3 := hvr2.on hb3
  rw [show withNew g [(3, 3)] (bytes12Vs1 p w.heap.size gr pz iv) = bytes12Vs1N p w.heap.size gr pz iv (g 3) from rfl]
  replace hgev : w2.heap.size ≤ g 3 := hgev
  replace hvv3 : Cells w3 (g 3) (dzeros 8) 38 := hvv3
  have hnepv : w.heap.size ≠ g 3 := Nat.ne_of_lt (Nat.lt_of_lt_of_le hltp hgev)
  have hnerv : gr ≠ g 3 := Nat.ne_of_lt (Nat.lt_of_lt_of_le hltr hgev)
  replace hgev : w.heap.size ≤ g 3 := Nat.le_trans (show w.heap.size ≤ w2.heap.size from hB2.size) hgev
  clear hltp hltr
  generalize g 3 = gv at *
  clear hB2 hvp2 hvr2 hb3
  refine wpAny_rest 4 rfl (by kernel_rfl) ?_
  refine vset_step rfl 38 (.tmp 3) (.tmp 9) rfl gv 8 (dzeros 8) (iv.map dcell) rfl rfl hvv3 rfl size_ND (by rw [List.length_map, Hiv.out]) (dcells_one _) ?_
  intro w4 hb4 hvv4 hz4
  have hB4 : Below w.heap.size w w4 := hB3.trans (hb4.below hgev hB3.size)
  have hvp4 := hvp3.but hb4 hnepv
  have hvr4 := hvr3.but hb4 hnerv
  clear hB3 hvv3 hb4 hz4 hvp3 hvr3
  rename_i K hKK
  show Exit.then K _ Exit.normal (⟨(bytes12Vs1N p w.heap.size gr pz iv gv).toArray, []⟩ : Act) w4
  simp only [Exit.then]
  refine hKK _ _ ?_
  clear hKK K g
  simp only [bytes12Vs1N]
  go_wp2_with fail
  replace hvp4 := hvp4.drew
  replace hvr4 := hvr4.drew
  replace hvv4 := hvv4.drew
  refine wp_region_any (by kernel_rfl) ?_
  refine wpAny_flatS (L := [0, 1, 2, 3, 4, 5, 6, 7, 8, 9, 10, 11]) (by kernel_rfl) _ _ (bytes12Vs2_1 p w.heap.size gr gv pz iv px xx py yy) [(8, 4), (9, 5)] (fun _ => 38) (fun _ => (dzeros 8)) (fun s => bif s == 4 then some (10, xx.map dcell) else bif s == 5 then some (11, yy.map dcell) else none) [0, 1, 2, 3, 6, 7, 8, 9, 18, 19, 20, 21, 22, 23, 24, 25, 26, 27, 28] (by kernel_rfl) (by kernel_rfl) ?_ (fun _ _ => zero_ND) ?_ ?_ ?_ (by rfl) ?_ 0 (by kernel_rfl) ?_
  · intro p hp
    rcases List.mem_cons.1 hp with rfl | hp
    · exact ⟨⟨_, rfl, rfl, rfl, rfl, by kernel_rfl, by kernel_rfl⟩⟩
    rcases List.mem_cons.1 hp with rfl | hp
    · exact ⟨⟨_, rfl, rfl, rfl, rfl, by kernel_rfl, by kernel_rfl⟩⟩
    exact absurd hp List.not_mem_nil
  · intro p hp j l h
    rcases List.mem_cons.1 hp with rfl | hp
    · change some (10, xx.map dcell) = some (j, l) at h
      cases h
      exact ⟨⟨_, 13, rfl, rfl, rfl, rfl, by kernel_rfl, by kernel_rfl, by kernel_rfl, rfl, by rw [List.length_map, Hxx.out]; exact size_ND, by rw [List.length_map, Hxx.out]; rfl, dcells_one _⟩, by decide⟩
    rcases List.mem_cons.1 hp with rfl | hp
    · change some (11, yy.map dcell) = some (j, l) at h
      cases h
      exact ⟨⟨_, 17, rfl, rfl, rfl, rfl, by kernel_rfl, by kernel_rfl, by kernel_rfl, rfl, by rw [List.length_map, Hyy.out]; exact size_ND, by rw [List.length_map, Hyy.out]; rfl, dcells_one _⟩, by decide⟩
    exact absurd hp List.not_mem_nil
  · intro p hp q hq j l l2 h1 h2
    rcases List.mem_cons.1 hp with rfl | hp
    · rcases List.mem_cons.1 hq with rfl | hq
      · rfl
      rcases List.mem_cons.1 hq with rfl | hq
      · change some (10, _) = some (j, l) at h1
        change some (11, _) = some (j, l2) at h2
        exact absurd ((Prod.mk.inj (Option.some.inj h1)).1.trans (Prod.mk.inj (Option.some.inj h2)).1.symm) (by decide)
      exact absurd hq List.not_mem_nil
    rcases List.mem_cons.1 hp with rfl | hp
    · rcases List.mem_cons.1 hq with rfl | hq
      · change some (11, _) = some (j, l) at h1
        change some (10, _) = some (j, l2) at h2
        exact absurd ((Prod.mk.inj (Option.some.inj h1)).1.trans (Prod.mk.inj (Option.some.inj h2)).1.symm) (by decide)
      rcases List.mem_cons.1 hq with rfl | hq
      · rfl
      exact absurd hq List.not_mem_nil
    exact absurd hp List.not_mem_nil
  · repeat refine all_cons rfl ?_
    exact all_nil
  · refine all_cons (.inr (.inl (mStep _ 10 rfl rfl rfl rfl (by kernel_rfl) (fun a hv => wanted_all rfl _) (fun a w K hb hv hK => mPure _ (exec_field _ _ _ _ 0 rfl _ _ (hv 1 (by kernel_rfl) rfl) w (field_t0 _ w)) hK)))) ?_
    refine all_cons (.inr (.inl (mStep _ 11 rfl rfl rfl rfl (by kernel_rfl) (fun a hv => wanted_all rfl _) (fun a w K hb hv hK => mPure (numD px) (exec_load _ _ _ _ rfl _ _ (hv 10 (by kernel_rfl) rfl) w (load_t0 (hvp4.on hb) Fp.out Hpx.out)) hK)))) ?_
    refine all_cons (.inr (.inl (mStep _ 12 rfl rfl rfl rfl (by kernel_rfl) (fun a hv => wanted_all rfl _) (fun a w K hb hv hK => mPure (numD iv) (exec_load _ _ _ _ rfl _ _ (hv 3 (by kernel_rfl) rfl) w (num_run (hvv4.on hb) Hiv.out)) hK)))) ?_
    refine all_cons (.inr (.inl (mStep _ 13 rfl rfl rfl rfl (by kernel_rfl) (fun a hv => wanted_all rfl _) (fun a w K hb hv hK => mCall (numD xx) 34 _ _ rfl [numD px, numD iv] (cons_eq (hv 11 (by kernel_rfl) rfl) (cons_eq (hv 12 (by kernel_rfl) rfl) (rfl))) (enters Tryd.func34 rfl rfl) (CX.out w) hK)))) ?_
    refine all_cons (.inr (.inl (mStep _ 14 rfl rfl rfl rfl (by kernel_rfl) (fun a hv => wanted_all rfl _) (fun a w K hb hv hK => mPure _ (exec_field _ _ _ _ 1 rfl _ _ (hv 1 (by kernel_rfl) rfl) w (field_t1 _ w)) hK)))) ?_
    refine all_cons (.inr (.inl (mStep _ 15 rfl rfl rfl rfl (by kernel_rfl) (fun a hv => wanted_all rfl _) (fun a w K hb hv hK => mPure (numD py) (exec_load _ _ _ _ rfl _ _ (hv 14 (by kernel_rfl) rfl) w (load_t1 (hvp4.on hb) Fp.out Hpx.out Hpy.out)) hK)))) ?_
    refine all_cons (.inr (.inl (mStep _ 16 rfl rfl rfl rfl (by kernel_rfl) (fun a hv => wanted_all rfl _) (fun a w K hb hv hK => mPure (numD iv) (exec_load _ _ _ _ rfl _ _ (hv 3 (by kernel_rfl) rfl) w (num_run (hvv4.on hb) Hiv.out)) hK)))) ?_
    refine all_cons (.inr (.inl (mStep _ 17 rfl rfl rfl rfl (by kernel_rfl) (fun a hv => wanted_all rfl _) (fun a w K hb hv hK => mCall (numD yy) 34 _ _ rfl [numD py, numD iv] (cons_eq (hv 15 (by kernel_rfl) rfl) (cons_eq (hv 16 (by kernel_rfl) rfl) (rfl))) (enters Tryd.func34 rfl rfl) (CY.out w) hK)))) ?_
    refine all_cons (.inl ⟨(8, 4), by simp, rfl⟩) ?_
    refine all_cons (.inl ⟨(9, 5), by simp, rfl⟩) ?_
    refine all_cons (.inr (.inr ⟨(8, 4), by simp, _, rfl⟩)) ?_
    refine all_cons (.inr (.inr ⟨(9, 5), by simp, _, rfl⟩)) ?_
    exact all_nil
  intro w5 g hb5 hN5 hap5
  obtain ⟨hgex, hvx5⟩ := hN5 (8, 4) (by simp)
  obtain ⟨hgey, hvy5⟩ := hN5 (9, 5) (by simp)
  have hnexy := hap5 (8, 4) (by simp) (9, 5) (by simp) (by decide)
  clear hN5 hap5
  have hB5 := below_then (show Below w.heap.size w w4.drew from hB4.drew) hb5
  have hltp : w.heap.size < w4.heap.size := hvp4.lt
  have hltr : gr < w4.heap.size := hvr4.lt
  have hltv : gv < w4.heap.size := hvv4.lt
  have hvp5 := hvp4.on hb5
  have hvr5 := hvr4.on hb5
  have hvv5 := hvv4.on hb5
  rw [show withNew g [(8, 4), (9, 5)] (bytes12Vs2_1 p w.heap.size gr gv pz iv px xx py yy) = bytes12Vs2_1N p w.heap.size gr gv pz iv px xx py yy (g 4) (g 5) from rfl]
  replace hgex : w4.heap.size ≤ g 4 := hgex
  replace hvx5 : Cells w5 (g 4) (xx.map dcell) 38 := hvx5
  replace hgey : w4.heap.size ≤ g 5 := hgey
  replace hvy5 : Cells w5 (g 5) (yy.map dcell) 38 := hvy5
  replace hnexy : g 4 ≠ g 5 := hnexy
  have hnepx : w.heap.size ≠ g 4 := Nat.ne_of_lt (Nat.lt_of_lt_of_le hltp hgex)
  have hnerx : gr ≠ g 4 := Nat.ne_of_lt (Nat.lt_of_lt_of_le hltr hgex)
  have hnevx : gv ≠ g 4 := Nat.ne_of_lt (Nat.lt_of_lt_of_le hltv hgex)
  replace hgex : w.heap.size ≤ g 4 := Nat.le_trans (show w.heap.size ≤ w4.heap.size from hB4.size) hgex
  have hnepy : w.heap.size ≠ g 5 := Nat.ne_of_lt (Nat.lt_of_lt_of_le hltp hgey)
  have hnery : gr ≠ g 5 := Nat.ne_of_lt (Nat.lt_of_lt_of_le hltr hgey)
  have hnevy : gv ≠ g 5 := Nat.ne_of_lt (Nat.lt_of_lt_of_le hltv hgey)
  replace hgey : w.heap.size ≤ g 5 := Nat.le_trans (show w.heap.size ≤ w4.heap.size from hB4.size) hgey
  clear hltp hltr hltv
  generalize g 4 = gx at *
  generalize g 5 = gy at *
  clear hB4 hvp4 hvr4 hvv4 hb5
  refine ⟨by kernel_rfl, ?_⟩
  rename_i K hKK
  show Exit.then K _ Exit.normal (⟨(bytes12Vs2_1N p w.heap.size gr gv pz iv px xx py yy gx gy).toArray, []⟩ : Act) w5
  simp only [Exit.then]
  refine hKK _ _ ?_
  clear hKK K g
  simp only [bytes12Vs2_1N]
  go_wp2_with (first
    | (refine sget_step rfl 38 (.tmp 5) rfl gy 8 (yy.map dcell) rfl hvy5 Tryd.underlying38 rfl size_ND (by rw [List.length_map, Hyy.out]) ?_
       try simp only [Act.put, List.setIfInBounds_toArray, List.set_cons_zero, List.set_cons_succ]
       skip))
  refine (CE.out w5).mono ?_
  rintro e w6 ⟨rfl, hb6⟩
  have hB6 := below_then hB5 hb6
  have hvp6 := hvp5.on hb6
  have hvr6 := hvr5.on hb6
  have hvv6 := hvv5.on hb6
  have hvx6 := hvx5.on hb6
  have hvy6 := hvy5.on hb6
  clear hB5 hvp5 hvr5 hvv5 hvx5 hvy5 hb6
  go_upto_region 4 with (first
    | (refine vput_step rfl rfl 22 (.tmp 6) (.tmp 19) rfl rfl 32 kzeros (kb.map cellOf) rfl rfl zero_b32 rfl size_b32 (by rw [List.length_map, Hkb.out]) (kcells_one _) ?_
       intro w7 hb7 hvo7
       have hB7 := below_then hB6 hb7
       have hgeo : w.heap.size ≤ w6.heap.size := hB6.size
       have hvp7 := hvp6.on hb7
       have hnepo := Nat.ne_of_lt hvp6.lt
       have hvr7 := hvr6.on hb7
       have hnero := Nat.ne_of_lt hvr6.lt
       have hvv7 := hvv6.on hb7
       have hnevo := Nat.ne_of_lt hvv6.lt
       have hvx7 := hvx6.on hb7
       have hnexo := Nat.ne_of_lt hvx6.lt
       have hvy7 := hvy6.on hb7
       have hneyo := Nat.ne_of_lt hvy6.lt
       clear hB6 hvp6 hvr6 hvv6 hvx6 hvy6 hb7
       try simp only [Act.put, List.setIfInBounds_toArray, List.set_cons_zero, List.set_cons_succ]
       skip))
  generalize hqo : w6.heap.size = go at *
  clear hqo
  have dx := hvx7.get D0.out
  have i1 : (0 : Int) ≤ (x0 : Int) := by omega
  cases c
  · have hq := HV.out
    have i2 : x0 % 2 = 0 := HP.out
    have i3 : (x0 : Int).tmod 2 = 0 := by rw [Int.tmod_eq_emod_of_nonneg i1]; omega
    have i4 : (x0 : Int) % 2 = 0 := by omega
    clear HP i2
    go_upto_region 6 with fail
    clear dx i1 i3 i4
    go_wp2_with (first
      | (refine sget_step rfl 22 (.tmp 6) rfl go 32 (kb.map cellOf) rfl hvo7 Tryd.underlying22 rfl size_b32 (by rw [List.length_map, Hkb.out]) ?_
         try simp only [Act.put, List.setIfInBounds_toArray, List.set_cons_zero, List.set_cons_succ]
         skip)
      | (refine vset_step rfl 22 (.tmp 2) (.tmp 28) rfl gr 32 kzeros (kb.map cellOf) rfl rfl hvr7 rfl size_b32 (by rw [List.length_map, Hkb.out]) (kcells_one _) ?_
         intro w8 hb8 hvr8 hz8
         have hB8 : Below w.heap.size w w8 := hB7.trans (hb8.below hger hB7.size)
         have hvp8 := hvp7.but hb8 hnepr
         have hvv8 := hvv7.but hb8 (Ne.symm hnerv)
         have hvx8 := hvx7.but hb8 (Ne.symm hnerx)
         have hvy8 := hvy7.but hb8 (Ne.symm hnery)
         have hvo8 := hvo7.but hb8 (Ne.symm hnero)
         clear hB7 hvr7 hb8 hz8 hvp7 hvv7 hvx7 hvy7 hvo7
         skip))
    exact sret Tryd.results13 gr (kb.map cellOf) rfl hvr8 Tryd.underlying22 rfl size_b32 (by rw [List.length_map, Hkb.out]) rfl ⟨rfl, hB8⟩
  · have hq := HV.out
    have i2 : x0 % 2 = 1 := HP.out
    have i3 : (x0 : Int).tmod 2 = 1 := by rw [Int.tmod_eq_emod_of_nonneg i1]; omega
    have i4 : (x0 : Int) % 2 = 1 := by omega
    clear HP i2
    go_upto_region 5 with fail
    clear dx i1 i3 i4
    have dq := hvo7.get D1.out
    have hT := hvo7.there 31 1 (by rw [List.length_map, Hkb.out]; decide)
    have hE := Lib.hid (hvo7.set 31 (cellOf v))
    go_upto_region 6 with (first
      | (refine store_step rfl 5 _ _ rfl go 31 .u8 (v.toNat : Int) rfl rfl size_u8 hT ?_
         intro w9 hw9
         have hB9 : Below w.heap.size w w9 := by rw [hw9]; exact hB7.setCell (p := ⟨go, 31, none⟩) hgeo _
         have hvo9 : Cells w9 go (kc.map cellOf) 22 := by rw [hw9, HC.out, List.map_set]; exact hE.out
         have hvr9 : Cells w9 gr kzeros 22 := by rw [hw9]; exact hvr7.other hnero _
         clear hw9 hT hE dq hB7 hvp7 hvr7 hvv7 hvx7 hvy7 hvo7
         skip))
    go_wp2_with (first
      | (refine sget_step rfl 22 (.tmp 6) rfl go 32 (kc.map cellOf) rfl hvo9 Tryd.underlying22 rfl size_b32 (by rw [List.length_map, Hkc.out]) ?_
         try simp only [Act.put, List.setIfInBounds_toArray, List.set_cons_zero, List.set_cons_succ]
         skip)
      | (refine vset_step rfl 22 (.tmp 2) (.tmp 28) rfl gr 32 kzeros (kc.map cellOf) rfl rfl hvr9 rfl size_b32 (by rw [List.length_map, Hkc.out]) (kcells_one _) ?_
         intro w10 hb10 hvr10 hz10
         have hB10 : Below w.heap.size w w10 := hB9.trans (hb10.below hger hB9.size)
         have hvo10 := hvo9.but hb10 (Ne.symm hnero)
         clear hB9 hvr9 hb10 hz10 hvo9
         skip))
    exact sret Tryd.results13 gr (kc.map cellOf) rfl hvr10 Tryd.underlying22 rfl size_b32 (by rw [List.length_map, Hkc.out]) rfl ⟨rfl, hB10⟩
end Go.Proofs.YtagjbdhelfickaaDoor
namespace Go.Proofs.YtagjbdhelfickaaDoor
open Go.RowKit
set_option maxRecDepth 100000 in
theorem bit8_all : ∀ (x : Fin 256) (k : Fin 8), bits .and .u8 ((x.val : Int) / 2 ^ k.val) 1 = ((x.val / 2 ^ k.val % 2 : Nat) : Int) := by decide +kernel
theorem bit8_at (x k : Nat) (b : Bool) (hx : x < 256) (hk : k < 8) (h : decide (x / 2 ^ k % 2 = 1) = b) : bits .and .u8 ((x : Int) / 2 ^ k) 1 = if b then 1 else 0 := by
  rw [bit8_all ⟨x, hx⟩ ⟨k, hk⟩, ← h]
  show ((x / 2 ^ k % 2 : Nat) : Int) = _
  rcases Nat.mod_two_eq_zero_or_one (x / 2 ^ k) with h | h <;> rw [h] <;> simp
/-- A key's bit i, from the low one on. -/
def kbit (k : List UInt8) (i : Nat) : Bool := decide ((k.getD (i / 8) 0).toNat / 2 ^ (i % 8) % 2 = 1)
end Go.Proofs.YtagjbdhelfickaaDoor
namespace Go.Proofs.YtagjbdhelfickaaDoor
open Go.RowKit
theorem zeroT_lt : TriLt (0, 1, 1) := ⟨by show 0 < pp; decide, by show 1 < pp; decide, by show 1 < pp; decide⟩
theorem baseT_lt : TriLt baseT := ⟨by show _ < pp; decide, by show _ < pp; decide, by show 1 < pp; decide⟩
theorem mulT_lt (b : Nat → Bool) (t : Tri) : ∀ j, TriLt (mulT b t j)
  | 0 => zeroT_lt
  | j + 1 => by
    show TriLt (bif b (255 - j) then _ else _)
    cases b (255 - j) <;> exact sumT_lt _ _
theorem withT_lt (h s : Nat → Bool) (p q both : Tri) : ∀ j, TriLt (withT h s p q both j)
  | 0 => zeroT_lt
  | j + 1 => by
    show TriLt (bif h (255 - j) then (bif s (255 - j) then _ else _) else (bif s (255 - j) then _ else _))
    cases h (255 - j) <;> cases s (255 - j) <;> exact sumT_lt _ _
theorem kbit_q (key : List UInt8) (hk : key.length = 32) (k : Nat) (h : k < 256) : (key.map cellOf)[k / 8]? = some (cellOf (key.getD (k / 8) 0)) ∧ bits .and .u8 (((key.getD (k / 8) 0).toNat : Int) / 2 ^ (k % 8)) 1 = if kbit key k then 1 else 0 :=
  ⟨by rw [List.getElem?_map, List.getD_eq_getElem?_getD, List.getElem?_eq_getElem (by omega)]; rfl, bit8_at _ _ _ (UInt8.toNat_lt _) (Nat.mod_lt _ (by decide)) rfl⟩
theorem times12_any (t : Tri) (key : List UInt8) (w : World) (hk : key.length = 32) (h : TriLt t) : Calls Tryd.prog 22 #[numD (triL t), hashVal key] w fun e w' => e = .returned (numD (triL (mulT (kbit key) t 256))) ∧ Below w.heap.size w w' := by
  refine times12_over key (triL t) (nD dNat) (triL (0, 1, 1)) (fun j => triL (mulT (kbit key) t (256 - j))) w rfl rfl rfl rfl (fun _ => rfl) ?_ refCurve_any zero12_any
  intro k hk2
  have e1 : 256 - k = (255 - k) + 1 := by omega
  have e2 : 256 - (k + 1) = 255 - k := by omega
  have e3 : 255 - (255 - k) = k := by omega
  have L := mulT_lt (kbit key) t (255 - k)
  refine ⟨triL (sumT (mulT (kbit key) t (255 - k)) (mulT (kbit key) t (255 - k))), kbit key k, _, ?_, rfl, ?_, ?_, kbit_q key hk k hk2⟩
  · intro W
    show Calls Tryd.prog 54 #[numD (triL (mulT (kbit key) t (256 - (k + 1)))), numD (triL (mulT (kbit key) t (256 - (k + 1)))), numD (nD dNat)] W _
    rw [e2]
    exact sum12_any _ _ W L L
  · intro hc
    show triL (mulT (kbit key) t (256 - k)) = _
    rw [e1]
    show triL (bif kbit key (255 - (255 - k)) then _ else _) = _
    rw [e3, hc]
    rfl
  · intro hc W
    show Calls Tryd.prog 54 _ W fun e w' => e = .returned (numD (triL (mulT (kbit key) t (256 - k)))) ∧ Below W.heap.size W w'
    rw [e1]
    show Calls Tryd.prog 54 _ W fun e w' => e = .returned (numD (triL (bif kbit key (255 - (255 - k)) then _ else _))) ∧ Below W.heap.size W w'
    rw [e3, hc]
    exact sum12_any _ _ W (sumT_lt _ _) h
theorem with12_any (t : Tri) (kh ks : List UInt8) (w : World) (hh : kh.length = 32) (hs : ks.length = 32) (h : TriLt t) : Calls Tryd.prog 24 #[numD (triL t), hashVal kh, hashVal ks] w fun e w' => e = .returned (numD (triL (withT (kbit kh) (kbit ks) t baseT (sumT t baseT) 256))) ∧ Below w.heap.size w w' := by
  refine with12_over kh ks (triL t) (nD dNat) (triL (0, 1, 1)) (triL baseT) (triL (sumT t baseT)) (fun j => triL (withT (kbit kh) (kbit ks) t baseT (sumT t baseT) (256 - j))) w rfl rfl rfl rfl rfl rfl (fun _ => rfl) ?_ refCurve_any base12_any (fun W => sum12_any t baseT W h baseT_lt) zero12_any
  intro k hk2
  have e1 : 256 - k = (255 - k) + 1 := by omega
  have e2 : 256 - (k + 1) = 255 - k := by omega
  have e3 : 255 - (255 - k) = k := by omega
  have L := withT_lt (kbit kh) (kbit ks) t baseT (sumT t baseT) (255 - k)
  have E : ∀ c b, kbit kh k = c → kbit ks k = b → withT (kbit kh) (kbit ks) t baseT (sumT t baseT) (256 - k) = bif c then (bif b then sumT (sumT (withT (kbit kh) (kbit ks) t baseT (sumT t baseT) (255 - k)) (withT (kbit kh) (kbit ks) t baseT (sumT t baseT) (255 - k))) (sumT t baseT) else sumT (sumT (withT (kbit kh) (kbit ks) t baseT (sumT t baseT) (255 - k)) (withT (kbit kh) (kbit ks) t baseT (sumT t baseT) (255 - k))) t)
      else (bif b then sumT (sumT (withT (kbit kh) (kbit ks) t baseT (sumT t baseT) (255 - k)) (withT (kbit kh) (kbit ks) t baseT (sumT t baseT) (255 - k))) baseT else sumT (withT (kbit kh) (kbit ks) t baseT (sumT t baseT) (255 - k)) (withT (kbit kh) (kbit ks) t baseT (sumT t baseT) (255 - k))) := by
    intro c b h1 h2
    rw [e1]
    show (bif kbit kh (255 - (255 - k)) then (bif kbit ks (255 - (255 - k)) then _ else _) else (bif kbit ks (255 - (255 - k)) then _ else _)) = _
    rw [e3, h1, h2]
  have Q1 := kbit_q kh hh k hk2
  have Q2 := kbit_q ks hs k hk2
  refine ⟨triL (sumT (withT (kbit kh) (kbit ks) t baseT (sumT t baseT) (255 - k)) (withT (kbit kh) (kbit ks) t baseT (sumT t baseT) (255 - k))), kbit kh k, kbit ks k, _, _, ?_, rfl, ?_, ?_, ?_, ?_, Q1.1, Q1.2, Q2.1, Q2.2⟩
  · intro W
    show Calls Tryd.prog 54 #[numD (triL (withT (kbit kh) (kbit ks) t baseT (sumT t baseT) (256 - (k + 1)))), numD (triL (withT (kbit kh) (kbit ks) t baseT (sumT t baseT) (256 - (k + 1)))), numD (nD dNat)] W _
    rw [e2]
    exact sum12_any _ _ W L L
  · intro h1 h2
    show triL (withT (kbit kh) (kbit ks) t baseT (sumT t baseT) (256 - k)) = _
    rw [E _ _ h1 h2]
    rfl
  · intro h1 h2 W
    show Calls Tryd.prog 54 _ W fun e w' => e = .returned (numD (triL (withT (kbit kh) (kbit ks) t baseT (sumT t baseT) (256 - k)))) ∧ Below W.heap.size W w'
    rw [E _ _ h1 h2]
    exact sum12_any _ _ W (sumT_lt _ _) baseT_lt
  · intro h1 h2 W
    show Calls Tryd.prog 54 _ W fun e w' => e = .returned (numD (triL (withT (kbit kh) (kbit ks) t baseT (sumT t baseT) (256 - k)))) ∧ Below W.heap.size W w'
    rw [E _ _ h1 h2]
    exact sum12_any _ _ W (sumT_lt _ _) h
  · intro h1 h2 W
    show Calls Tryd.prog 54 _ W fun e w' => e = .returned (numD (triL (withT (kbit kh) (kbit ks) t baseT (sumT t baseT) (256 - k)))) ∧ Below W.heap.size W w'
    rw [E _ _ h1 h2]
    exact sum12_any _ _ W (sumT_lt _ _) (sumT_lt _ _)
/-- A point's bytes: y, and x's parity as the highest bit. -/
def ptB (x y : Nat) : List UInt8 := putL (y + x % 2 * 57896044618658097711785492504343953926634992332820282019728792003956564819968) 32
theorem byteAt_top (y i : Nat) (h : i < 31) : byteAt (y + 57896044618658097711785492504343953926634992332820282019728792003956564819968) i = byteAt y i := by
  have e : (57896044618658097711785492504343953926634992332820282019728792003956564819968 : Nat) = 256 ^ i * (256 * (128 * 256 ^ (30 - i))) := by
    have e2 : 256 ^ i * (256 * (128 * 256 ^ (30 - i))) = 128 * (256 ^ i * 256 * 256 ^ (30 - i)) := by
      generalize 256 ^ i = a
      generalize 256 ^ (30 - i) = b
      grind
    rw [e2, ← Nat.pow_succ, ← Nat.pow_add, show i.succ + (30 - i) = 31 by omega]
  unfold byteAt
  rw [e, Nat.add_mul_div_left _ _ (Nat.pow_pos (by decide))]
  generalize 128 * 256 ^ (30 - i) = r
  generalize y / 256 ^ i = s
  apply UInt8.toNat_inj.1
  rw [UInt8.toNat_ofNat', UInt8.toNat_ofNat']
  omega
theorem byteAt_31 (y : Nat) : byteAt (y + 57896044618658097711785492504343953926634992332820282019728792003956564819968) 31 = byteAt y 31 + 128 := by
  have e : (57896044618658097711785492504343953926634992332820282019728792003956564819968 : Nat) = 256 ^ 31 * 128 := by decide +kernel
  unfold byteAt
  rw [e, Nat.add_mul_div_left _ _ (Nat.pow_pos (by decide))]
  generalize y / 256 ^ 31 = s
  apply UInt8.toNat_inj.1
  rw [UInt8.toNat_add, UInt8.toNat_ofNat', UInt8.toNat_ofNat']
  show _ = (s % 256 + 128) % 256
  omega
theorem putL_at (x k i : Nat) (h : i < k) : (putL x k)[i]? = some (byteAt x i) := by
  rw [putL, List.getElem?_map, List.getElem?_range h]; rfl
theorem ptB_one (x y : Nat) (h : x % 2 = 1) : ptB x y = (putL y 32).set 31 (byteAt y 31 + 128) := by
  rw [ptB, h, Nat.one_mul]
  apply List.ext_getElem?
  intro i
  by_cases h1 : i < 32
  · by_cases h2 : i = 31
    · subst h2
      rw [putL_at _ _ _ h1, List.getElem?_set_self (by rw [putL_length]; exact h1), byteAt_31]
    · rw [putL_at _ _ _ h1, List.getElem?_set_ne (Ne.symm h2), putL_at _ _ _ h1, byteAt_top y i (by omega)]
  · rw [List.getElem?_eq_none (by rw [putL_length]; omega), List.getElem?_eq_none (by rw [List.length_set, putL_length]; omega)]
theorem ptB_nought (x y : Nat) (h : x % 2 = 0) : ptB x y = putL y 32 := by
  rw [ptB, h, Nat.zero_mul, Nat.add_zero]
theorem ptB_length (x y : Nat) : (ptB x y).length = 32 := putL_length _ _
theorem byte31_lt (y : Nat) (h : y < pp) : (byteAt y 31).toNat < 128 := by
  unfold byteAt
  rw [UInt8.toNat_ofNat']
  have : y / 256 ^ 31 < 128 := by
    rw [Nat.div_lt_iff_lt_mul (Nat.pow_pos (by decide))]
    exact Nat.lt_trans h (by decide +kernel)
  omega
theorem bytes12_any (t : Tri) (w : World) (h : TriLt t) : Calls Tryd.prog 13 #[numD (triL t)] w fun e w' => e = .returned (hashVal (ptB (fM t.1 (ivN t.2.2)) (fM t.2.1 (ivN t.2.2)))) ∧ Below w.heap.size w w' := by
  have hi : ivN t.2.2 < pp := Nat.mod_lt _ (by decide)
  have hy := fM_lt t.2.1 (ivN t.2.2)
  have H := bytes12_over (triL t) (nD t.1) (nD t.2.1) (nD t.2.2) (nD (ivN t.2.2)) (nD (fM t.1 (ivN t.2.2))) (nD (fM t.2.1 (ivN t.2.2))) (putL (fM t.2.1 (ivN t.2.2)) 32) ((putL (fM t.2.1 (ivN t.2.2)) 32).set 31 (byteAt (fM t.2.1 (ivN t.2.2)) 31 + 128)) (fM t.1 (ivN t.2.2) % 4294967296) (byteAt (fM t.2.1 (ivN t.2.2)) 31) (byteAt (fM t.2.1 (ivN t.2.2)) 31 + 128) (decide (fM t.1 (ivN t.2.2) % 2 = 1)) w
    rfl rfl rfl rfl rfl rfl (putL_length _ _) (by show _ = _; rw [List.length_set, putL_length]) rfl rfl ?_ ?_ ?_ rfl (fun W => refInvert_any t.2.2 W (lt_mm h.2.2)) (fun W => tM_any _ _ W h.1 hi) (fun W => tM_any _ _ W h.2.1 hi) (fun W => refBytes_any _ W)
  · rcases Nat.mod_two_eq_zero_or_one (fM t.1 (ivN t.2.2)) with e | e
    · rw [show decide (fM t.1 (ivN t.2.2) % 2 = 1) = false from decide_eq_false (by omega)] at H
      rw [ptB_nought _ _ e]
      exact H
    · rw [show decide (fM t.1 (ivN t.2.2) % 2 = 1) = true from decide_eq_true e] at H
      rw [ptB_one _ _ e]
      exact H
  · show _ = _
    generalize fM t.1 (ivN t.2.2) = n
    by_cases e : n % 2 = 1
    · rw [decide_eq_true e]; show _ = 1; omega
    · rw [decide_eq_false e]; show _ = 0; omega
  · show _ = _
    rw [List.getElem?_map, putL_at _ _ _ (by decide)]
    rfl
  · show _ = _
    have hb := byte31_lt _ hy
    generalize byteAt (fM t.2.1 (ivN t.2.2)) 31 = q at *
    rw [IntKind.wrap_u8, UInt8.toNat_add]
    show _ = (((q.toNat + 128) % 256 : Nat) : Int)
    omega
end Go.Proofs.YtagjbdhelfickaaDoor
