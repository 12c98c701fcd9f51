/- The document's code. -/
import Derived.Test.YtdaieklimdhkoaaDoorERef
namespace Go.Proofs.YtdaieklimdhkoaaDoor
open Go.RowKit
/-- The code's key behind j of the block's bytes. -/
def keyTo (bl : List UInt8) (j : Nat) : List UInt8 := bl.take (min j 32) ++ List.replicate (32 - min j 32) 0
theorem keyTo_length (bl : List UInt8) (h : bl.length = 64) (j : Nat) : (keyTo bl j).length = 32 := by
  rw [keyTo, List.length_append, List.length_take, List.length_replicate, h]; omega
theorem keyTo_next (bl : List UInt8) (h : bl.length = 64) (j : Nat) (hj : j < 32) : (keyTo bl j).set j (bl[j]'(by omega)) = keyTo bl (j + 1) := by
  unfold keyTo
  rw [Nat.min_eq_left (by omega), Nat.min_eq_left (by omega), set_nextV (bl.take j) j 32 _ 0 (by rw [List.length_take]; omega) hj, take_snoc bl j (by omega)]
theorem keyTo_stay (bl : List UInt8) (j : Nat) (hj : 32 ≤ j) : keyTo bl (j + 1) = keyTo bl j := by
  unfold keyTo
  rw [Nat.min_eq_right (by omega), Nat.min_eq_right (by omega)]
theorem keyTo_end (bl : List UInt8) : keyTo bl 64 = bl.take 32 := by simp [keyTo]
theorem keyTo_zero (bl : List UInt8) : keyTo bl 0 = List.replicate 32 0 := by simp [keyTo]
theorem build_r32 (w : World) : (Instr.build 22 #[]).run Tryd.prog w = .ok (hashVal (List.replicate 32 0)) w := by kernel_rfl
/-- What a call answers that makes a row of these bytes, an array of its own. -/
def GivesArr (w : World) (bs : List UInt8) (e : Ending) (w' : World) : Prop :=
  ∃ g, e = .returned (.slice (some ⟨g, 0, none⟩) 16 16) ∧ w.heap.size ≤ g ∧ Cells w' g (bs.map cellOf) 45 ∧ Below w.heap.size w w'
set_option maxRecDepth 100000 in
set_option maxHeartbeats 2000000 in
theorem refCode_over (A B D : Option Addr) (d la ca L c N : Nat) (key bl once fa ft ua ut cod code : List UInt8) (KT : Nat → List UInt8) (w : World) (HK : Hid (key.length = 32)) (HBL : Hid (bl.length = 64)) (hla : la ≤ 16384) (hL : L ≤ 16384)
    (HK0 : Hid (∀ w, (Instr.build 22 #[]).run Tryd.prog w = .ok (hashVal (KT 0)) w)) (HKL : Hid (∀ j, (KT j).length = 32)) (HKN : Hid (∀ j (hj : j < 32), (KT j).set j (bl[j]'(by have := HBL.out; omega)) = KT (j + 1))) (HKS : Hid (∀ j, 32 ≤ j → KT (j + 1) = KT j)) (HKE : Hid (KT 64 = once)) (HOL : Hid (once.length = 32))
    (HFA : Hid (fa.length ≤ 16400)) (HFT : Hid (ft.length ≤ 16400)) (HUA : Hid (ua.length = 8)) (HUT : Hid (ut.length = 8)) (HCD : Hid (fa ++ ft ++ ua ++ ut = cod)) (HN : Hid (cod.length = N)) (HCL : Hid (code.length = 16))
    (CB : Hid (∀ W, Below w.heap.size w W → Calls Tryd.prog 32 #[hashVal key, .int .u32 0, .slice A 12 d] W (GivesAt W bl 64)))
    (CA : Hid (∀ W, Below w.heap.size w W → Calls Tryd.prog 33 #[.slice B la ca] W (Fills W fa)))
    (CT : Hid (∀ W, Below w.heap.size w W → Calls Tryd.prog 33 #[.slice D L c] W (Fills W ft)))
    (CU : Hid (∀ W, Calls Tryd.prog 34 #[.int .u64 (la : Int), .int .i64 8] W (GivesRowN W ua 8)))
    (CV : Hid (∀ W, Calls Tryd.prog 34 #[.int .u64 (L : Int), .int .i64 8] W (GivesRowN W ut 8)))
    (CS : Hid (∀ E ce W, Row W W.heap.size E cod → N ≤ ce → Calls Tryd.prog 35 #[hashVal once, .slice E N ce] W fun e w' => e = .returned (hashVal code) ∧ Below W.heap.size W w')) :
    Calls Tryd.prog 20 #[hashVal key, .slice A 12 d, .slice B la ca, .slice D L c] w (GivesArr w code) := by
  have j1 : IntKind.u64.wrap (la : Int) = (la : Int) := by rw [IntKind.wrap_u64]; omega
  have j2 : IntKind.u64.wrap (L : Int) = (L : Int) := by rw [IntKind.wrap_u64]; omega
  go_enter Tryd.func20, Tryd.ntmps20
  go_wp2_with (first
    | (refine take_step rfl 22 (.tmp 0) rfl key rfl ?_
       intro w1 hB1 hK1 hz1
       clear hz1)
    | (refine build_step rfl 22 [] rfl [] rfl _ HK0.out ?_)
    | (refine put_step rfl rfl 22 (.tmp 9) (.tmp 14) rfl rfl 32 (KT 0) rfl rfl zero_r32 size_r32 (HKL.out 0) ?_
       intro w2 hb2 hC2 hz2
       have hB2 := below_then hB1 hb2
       have hK2 := hK1.on hb2
       have hg1 := hK1.lt
       clear hz2 hB1 hK1 hb2)
    | (refine get_step rfl 22 (.tmp 4) rfl w.heap.size 32 key 5 rfl hK2 Tryd.underlying22 size_r32 HK.out ?_))
  generalize hgk : w1.heap.size = gk at *
  clear hgk
  refine (CB.out w2 hB2).mono ?_
  rintro e w3 ⟨gb, cb, rfl, hg3, hb1, hb2', r3, hb3⟩
  have hB3 := below_then hB2 hb3
  have hC3 := hC2.on hb3
  have hg4 := hC2.lt
  clear CB hB2 hK2 hC2 hb3
  go_wp2_with fail
  go_loopw [10, 11, 19] (fun _ _ i wr => ∃ k : Nat, k ≤ 64 ∧ i = .int .i64 k ∧ Below w.heap.size w wr ∧ Row wr wr.heap.size (some ⟨gb, 0, none⟩) bl ∧ Cells wr gk ((KT k).map cellOf) 22) (fun _ _ i _ => 64 - (intOf i).toNat)
  case atStart => exact ⟨0, Nat.zero_le _, rfl, hB3, r3, hC3⟩
  case round =>
    clear hB3 r3 hC3
    obtain ⟨k, hk, rfl, hB, hR, hC⟩ := hrel
    by_cases hlt : k < 64
    · have hlt2 : k < bl.length := by rw [HBL.out]; exact hlt
      obtain ⟨b', off', hA', _, hc⟩ := hR.at k hlt2
      cases hA'
      rw [Nat.zero_add] at hc
      clear CA CT CU CV CS
      by_cases h32 : k < 32
      · have f1 := hC.frozen k
        obtain ⟨v1, c1⟩ : ∃ v, wr.cell? ⟨gk, k, none⟩ = some v := ⟨_, hC.cell k (by rw [List.length_map, HKL.out]; exact h32)⟩
        have hC' := hC.set k (cellOf bl[k])
        rw [← List.map_set, HKN.out k h32] at hC'
        have HC' := Lib.hid hC'
        have HB' := Lib.hid ((But.refl gk wr).setCell k (cellOf bl[k]))
        clear hC'
        generalize bl[k] = u at *
        go_wp2
        go_roundw
        case rel => exact ⟨k + 1, by omega, by go_num, hB.trans (HB'.out.below (by omega) hB.size), hR.but HB'.out (fun _ p hp => by cases hp; show gb ≠ gk; omega), HC'.out⟩
        case measure => simp [intOf]; omega
      · have HS := Lib.hid (HKS.out k (by omega))
        generalize bl[k] = u at *
        go_wp2
        go_roundw
        case rel => exact ⟨k + 1, by omega, by go_num, hB, hR, by rw [HS.out]; exact hC⟩
        case measure => simp [intOf]; omega
    · obtain rfl : k = 64 := by omega
      rw [HKE.out] at hC
      clear hR HKN HKS HKE HKL HK0
      have hgw := hC.lt
      have hzw := hB.size
      go_wp2_with fail
      refine (CA.out wr hB).mono ?_
      rintro e w4 ⟨va, rfl, hO4, hb4⟩
      have hB4 := below_then hB hb4
      have hC4 := hC.on hb4
      have hz4 := hb4.size
      clear CA hB hC hb4
      go_wp2_with fail
      refine (CT.out w4 hB4).mono ?_
      rintro e w5 ⟨vt, rfl, hO5, hb5⟩
      have hB5 := below_then hB4 hb5
      have hC5 := hC4.on hb5
      have hA5 := hO4.on hb5
      have hz5 := hb5.size
      clear CT hB4 hC4 hO4 hb5
      obtain ⟨At, ct, rfl, ht1, ht2, ht3, rt⟩ := hO5.form2
      clear hO5
      go_wp2_with (first
        | (at_builtin
           refine append_row rfl (.tmp 31) (.tmp 33) rfl wr.heap.size va fa ft w5.heap.size At ct rfl hA5 rfl ht3 rt (by have := HFA.out; have := HFT.out; omega) (by omega) ?_
           intro v6 w6 hO6 hb6
           have hB6 := hB5.trans (hb6.mono hzw)
           have hC6 := hC5.below hb6 hgw
           have hz6 := hb6.size
           clear hB5 hC5 hA5 hb6 rt))
      refine (CU.out w6).mono ?_
      rintro e w7 ⟨Au, cu, rfl, hu1, hb7, ru⟩
      have hB7 := below_then hB6 hb7
      have hC7 := hC6.on hb7
      have hO7 := hO6.on hb7
      have hz7 := hb7.size
      clear CU hB6 hC6 hO6 hb7
      have HFF : Hid ((fa ++ ft).length ≤ 32800) := by show _ ≤ _; rw [List.length_append]; have := HFA.out; have := HFT.out; omega
      generalize hff : fa ++ ft = ff at *
      clear hff
      go_wp2_with (first
        | (at_builtin
           refine append_rowN rfl (.tmp 35) (.tmp 39) rfl wr.heap.size v6 ff ua w7.heap.size Au 8 cu rfl hO7 rfl HUA.out hu1 ru (by have := HFF.out; rw [HUA.out]; omega) (by omega) ?_
           intro v8 w8 hO8 hb8
           have hB8 := hB7.trans (hb8.mono hzw)
           have hC8 := hC7.below hb8 hgw
           have hz8 := hb8.size
           clear hB7 hC7 hO7 hb8 ru))
      refine (CV.out w8).mono ?_
      rintro e w9 ⟨Av, cv, rfl, hv1, hb9, rv⟩
      have hB9 := below_then hB8 hb9
      have hC9 := hC8.on hb9
      have hO9 := hO8.on hb9
      have hz9 := hb9.size
      clear CV hB8 hC8 hO8 hb9
      have HFG : Hid ((ff ++ ua).length ≤ 32808) := by show _ ≤ _; rw [List.length_append, HUA.out]; have := HFF.out; omega
      generalize hfg : ff ++ ua = fg at *
      clear hfg
      go_wp2_with (first
        | (at_builtin
           refine append_rowN rfl (.tmp 41) (.tmp 45) rfl wr.heap.size v8 fg ut w9.heap.size Av 8 cv rfl hO9 rfl HUT.out hv1 rv (by have := HFG.out; rw [HUT.out]; omega) (by omega) ?_
           intro v10 w10 hO10 hb10
           have hB10 := hB9.trans (hb10.mono hzw)
           have hC10 := hC9.below hb10 hgw
           rw [HCD.out] at hO10
           obtain ⟨Ac, cc, rfl, hq1, _, _, rc⟩ := hO10.form2
           rw [HN.out] at hq1 ⊢
           clear hB9 hC9 hO9 hb10 rv hO10)
        | (refine get_step rfl 22 (.tmp 9) rfl gk 32 once 5 rfl hC10 Tryd.underlying22 size_r32 HOL.out ?_))
      refine (CS.out Ac cc w10 rc hq1).mono ?_
      rintro e w11 ⟨rfl, hb11⟩
      have hB11 := below_then hB10 hb11
      clear CS hB10 hC10 rc hb11
      go_wp2_with (first
        | (refine put_step rfl rfl 45 (.tmp 13) (.tmp 49) rfl rfl 16 code rfl rfl zero_b16 size_b16 HCL.out ?_
           intro w12 hb12 hC12 hz12
           have hB12 := below_then hB11 hb12
           have hz13 := hB11.size
           clear hz12 hB11 hb12))
      go_ret
      exact ⟨_, rfl, hz13, hC12, hB12⟩
theorem refCode_any (A B D : Option Addr) (d la ca L c : Nat) (key nonce aas ts : List UInt8) (w : World) (hk : key.length = 32) (hn : nonce.length = 12) (rA : Row w w.heap.size A nonce) (hal : aas.length = la) (rB : Row w w.heap.size B aas) (hB : B = none → ca = 0) (hla : la ≤ 16384) (htl : ts.length = L) (rD : Row w w.heap.size D ts) (hD : D = none → c = 0) (hL : L ≤ 16384) :
    Calls Tryd.prog 20 #[hashVal key, .slice A 12 d, .slice B la ca, .slice D L c] w (GivesArr w (sealCode key nonce aas ts)) := by
  have g1 := wholeN_lt la
  have g2 := wholeN_lt L
  have lb : (chBlock key 0 nonce).length = 64 := chBlock_length _ _ _
  have hN : (codedL aas ts).length ≤ 100000 := by rw [codedL_length, hal, htl]; omega
  refine refCode_over A B D d la ca L c (codedL aas ts).length key (chBlock key 0 nonce) (onceL key nonce) (fillL aas) (fillL ts) (putL la 8) (putL L 8) (codedL aas ts) _ (keyTo (chBlock key 0 nonce)) w hk lb hla hL
    (fun w => by rw [keyTo_zero]; exact build_r32 w) (fun j => keyTo_length _ lb j) (fun j hj => keyTo_next _ lb j hj) (fun j hj => keyTo_stay _ j hj) (keyTo_end _) (onceL_length _ _)
    (show _ ≤ _ by rw [fillL_length, hal]; omega) (show _ ≤ _ by rw [fillL_length, htl]; omega) (putL_length _ _) (putL_length _ _) (show _ = _ by rw [codedL, hal, htl]) rfl (sealCode_length _ _ _ _)
    (fun W hW => refBlock_any A d key nonce 0 W hk hn (rA.on hW)) (fun W hW => refFill_any B la ca aas W hal (rB.on hW) hB (by omega)) (fun W hW => refFill_any D L c ts W htl (rD.on hW) hD (by omega))
    (fun W => refLittle_any la 8 W (by omega) (by omega)) (fun W => refLittle_any L 8 W (by omega) (by omega))
    (fun E ce W hR hc => refSum7_any E _ ce (onceL key nonce) (codedL aas ts) W (onceL_length _ _) rfl hR hc hN)
end Go.Proofs.YtdaieklimdhkoaaDoor
