/- Part 19 of what the laws of this seat share: KLaAlive, JTold. -/
import Derived.Deep.Cut
import Derived.Test.YtlhgabhjbnckkaaDoorPart18
namespace Go.Proofs.YtlhgabhjbnckkaaDoor
open Go.RowKit
def aliveVs2 (gx : Nat) (er : Value) (zr : List UInt8) (k1 : List UInt8) (kb : List UInt8) : List Value :=
  (.bool true) :: (.pointer (some ⟨gx, 0, none⟩)) :: (er) :: (.tuple #[hashVal zr, er]) :: (hashVal k1) :: (hashVal zr) :: (.tuple #[hashVal zr, er]) :: (hashVal zr) :: (er) :: (er) :: (.int .i64 5) :: (.bool true) :: (.bool true) :: (hashVal k1) :: (hashVal kb) :: (hashVal zr) :: (.bool true) :: (.bool true) :: []
set_option maxRecDepth 100000 in
set_option maxHeartbeats 1000000 in
theorem alive10_over (zr kb k1 : List UInt8) (er : Value) (es : List Addr) (w : World)
    (Hzr : Hid (zr.length = 32))
    (CS : Hid (∀ W, Errs W es → Calls Tryd.prog 8 #[hashVal k1, hashVal zr] W fun e w' => e = .returned (.tuple #[hashVal zr, er]) ∧ Below W.heap.size W w'))
    (CN : Hid (∀ W, Errs W es → Calls Tryd.prog 12 #[er] W fun e w' => e = .returned (.int .i64 5) ∧ Below W.heap.size W w'))
    (CB : Hid (∀ W, Calls Tryd.prog 13 #[hashVal k1] W fun e w' => e = .returned (hashVal kb) ∧ Below W.heap.size W w'))
    (BK : ∀ w, (Instr.build 23 #[(0, .int .u8 1)]).run Tryd.prog w = .ok (hashVal k1) w)
    (BZ : ∀ w, (Instr.build 23 #[]).run Tryd.prog w = .ok (hashVal zr) w)
    (EN : ∀ w, (binOp .neq 23 (hashVal kb) (hashVal zr)).run Tryd.prog w = .ok (.bool true) w)
    (hE : Errs w es) :
    Calls Tryd.prog 6 #[] w fun e w' => e = .returned (.bool true) ∧ Below w.heap.size w w' := by
  go_enter Tryd.func6, Tryd.ntmps6
  go_wp2_with (first
    | (refine build_step rfl 23 _ rfl [(0, .int .u8 1)] rfl _ BK ?_
       try simp only [Act.put, List.setIfInBounds_toArray, List.set_cons_zero, List.set_cons_succ]
       skip)
    | (refine build_step rfl 23 [] rfl [] rfl _ BZ ?_
       try simp only [Act.put, List.setIfInBounds_toArray, List.set_cons_zero, List.set_cons_succ]
       skip))
  refine (CS.out w hE).mono ?_
  rintro e w1 ⟨rfl, hb1⟩
  have hB1 := hb1
  clear  hb1
  go_upto_region 2 with (first
    | (refine vput_step rfl rfl 23 (.tmp 1) (.tmp 7) rfl rfl 32 kzeros (zr.map cellOf) rfl rfl zero_k32 rfl size_k32 (by rw [List.length_map, Hzr.out]) (kcells_one _) ?_
       intro w2 hb2 hvx2
       have hB2 := below_then hB1 hb2
       have hgex : w.heap.size ≤ w1.heap.size := hB1.size
       clear hB1 hb2
       try simp only [Act.put, List.setIfInBounds_toArray, List.set_cons_zero, List.set_cons_succ]
       skip))
  generalize hqx : w1.heap.size = gx at *
  clear hqx
  refine wp_region_flat (md := .any) (by kernel_rfl) ?_
  refine wpAny_flatM (L := [0, 1, 2, 3, 4, 5, 6, 7, 8, 9]) (by kernel_rfl) _ _ (aliveVs2 gx er zr k1 kb) [] 48 (nzeros 5) [1, 2, 3, 4, 5, 6, 7, 8] (by kernel_rfl) (by kernel_rfl) ?_ zero_elem ?_ (by rfl) ?_ 0 (by kernel_rfl) ?_
  · intro p hp
    exact absurd hp List.not_mem_nil
  · exact all_cons rfl (all_cons rfl (all_cons rfl (all_cons rfl (all_cons rfl (all_cons rfl (all_cons rfl (all_cons rfl (all_nil))))))))
  · refine all_cons (.inr (mStep _ 9 rfl rfl rfl rfl (by kernel_rfl) (fun a hv => wanted_all rfl _) (fun a w K hb hv hK => mPure (er) (exec_move _ _ _ (.inl rfl) _ (hv 2 (by kernel_rfl) rfl) w) hK))) ?_
    refine all_cons (.inr (mStep _ 10 rfl rfl rfl rfl (by kernel_rfl) (fun a hv => wanted_all rfl _) (fun a w K hb hv hK => mCall (.int .i64 5) 12 _ _ rfl [er] (cons_eq (hv 9 (by kernel_rfl) rfl) (rfl)) (enters Tryd.func12 rfl rfl) (CN.out w (hE.below (below_then hB2 hb))) hK))) ?_
    refine all_cons (.inr (mStep _ 11 rfl rfl rfl rfl (by kernel_rfl) (fun a hv => wanted_all rfl _) (fun a w K hb hv hK => mPure (.bool true) (exec_bin _ _ _ _ _ _ _ rfl (.int .i64 5) (.int .i64 5) _ (hv 10 (by kernel_rfl) rfl) (by rfl) w ((fun w => by kernel_rfl) w) ((fun w => by kernel_rfl) w)) hK))) ?_
    refine all_cons (.inr (mStep _ 12 rfl rfl rfl rfl (by kernel_rfl) (fun a hv => wanted_all rfl _) (fun a w K hb hv hK => mPure (.bool true) (exec_move _ _ _ (.inl rfl) _ (hv 11 (by kernel_rfl) rfl) w) hK))) ?_
    refine all_cons (.inr (mStep _ 13 rfl rfl rfl rfl (by kernel_rfl) (fun a hv => (wanted_is (j := 3) (b := true) (c := true) rfl rfl rfl (hv 12 (by kernel_rfl) rfl)).trans rfl) (fun a w K hb hv hK => mPure (hashVal k1) (exec_build _ _ _ [(0, .const (.int .u8 1))] rfl [(0, .int .u8 1)] rfl _ w (BK w)) hK))) ?_
    refine all_cons (.inr (mStep _ 14 rfl rfl rfl rfl (by kernel_rfl) (fun a hv => (wanted_is (j := 3) (b := true) (c := true) rfl rfl rfl (hv 12 (by kernel_rfl) rfl)).trans rfl) (fun a w K hb hv hK => mCall (hashVal kb) 13 _ _ rfl [hashVal k1] (cons_eq (hv 13 (by kernel_rfl) rfl) (rfl)) (enters Tryd.func13 rfl rfl) (CB.out w) hK))) ?_
    refine all_cons (.inr (mStep _ 15 rfl rfl rfl rfl (by kernel_rfl) (fun a hv => (wanted_is (j := 3) (b := true) (c := true) rfl rfl rfl (hv 12 (by kernel_rfl) rfl)).trans rfl) (fun a w K hb hv hK => mPure (hashVal zr) (exec_build _ _ _ [] rfl [] rfl _ w (BZ w)) hK))) ?_
    refine all_cons (.inr (mStep _ 16 rfl rfl rfl rfl (by kernel_rfl) (fun a hv => (wanted_is (j := 3) (b := true) (c := true) rfl rfl rfl (hv 12 (by kernel_rfl) rfl)).trans rfl) (fun a w K hb hv hK => mPure (.bool true) (exec_bin _ _ _ _ _ _ _ rfl (hashVal kb) (hashVal zr) _ (hv 14 (by kernel_rfl) rfl) (hv 15 (by kernel_rfl) rfl) w ((fun w => key_guard _ _ _ _ _ w) w) ((EN) w)) hK))) ?_
    refine all_cons (.inr (mStep _ 17 rfl rfl rfl rfl (by kernel_rfl) (fun a hv => wanted_all rfl _) (fun a w K hb hv hK => mPure (.bool true) (pick_true _ _ _ _ _ rfl (hv 12 (by kernel_rfl) rfl) (.bool true) (hv 16 (by kernel_rfl) rfl) w) hK))) ?_
    refine all_cons (.inr (mStep _ 0 rfl rfl rfl rfl (by kernel_rfl) (fun a hv => wanted_all rfl _) (fun a w K hb hv hK => mPure (.bool true) (exec_move _ _ _ (.inr rfl) _ (hv 17 (by kernel_rfl) rfl) w) hK))) ?_
    exact all_nil
  intro w3 g hb3 hN3 hap3
  clear hN3 hap3
  have hB3 := below_then hB2 hb3
  have hvx3 := hvx2.on hb3
  clear hB2 hvx2 hb3
  refine ⟨by kernel_rfl, ?_⟩
  rename_i K hKK
  show Exit.then K _ Exit.normal (⟨(aliveVs2 gx er zr k1 kb).toArray, []⟩ : Act) w3
  simp only [Exit.then]
  refine hKK _ _ ?_
  clear hKK K g
  simp only [aliveVs2]
  go_wp2
  go_ret
  exact ⟨rfl, hB3⟩
end Go.Proofs.YtlhgabhjbnckkaaDoor
namespace Go.Proofs.YtlhgabhjbnckkaaDoor
open Go.RowKit
/-- The base point's key, nought and one. -/
def nineL : List UInt8 := 9 :: List.replicate 31 0
def zeroL : List UInt8 := List.replicate 32 0
def oneL : List UInt8 := 1 :: List.replicate 31 0
theorem build_nineK (w : World) : (Instr.build 23 #[(0, .int .u8 9)]).run Tryd.prog w = .ok (hashVal nineL) w := by kernel_rfl
theorem build_nineB (w : World) : (Instr.build 22 #[(0, .int .u8 9)]).run Tryd.prog w = .ok (hashVal nineL) w := by kernel_rfl
theorem build_oneK (w : World) : (Instr.build 23 #[(0, .int .u8 1)]).run Tryd.prog w = .ok (hashVal oneL) w := by kernel_rfl
theorem build_zeroK (w : World) : (Instr.build 23 #[]).run Tryd.prog w = .ok (hashVal zeroL) w := by kernel_rfl
/-- A key times the base point. -/
def baseL (k : List UInt8) : List UInt8 := mulL k nineL
theorem base_any (k : List UInt8) (w : World) (hk : k.length = 32) : Calls Tryd.prog 13 #[hashVal k] w fun e w' => e = .returned (hashVal (baseL k)) ∧ Below w.heap.size w w' :=
  base_over k nineL (baseL k) w hk (mulL_length _ _) (fun W => mult_any k nineL W hk rfl) build_nineK
theorem refBase_any (k : List UInt8) (w : World) (hk : k.length = 32) : Calls Tryd.prog 14 #[hashVal k] w fun e w' => e = .returned (hashVal (baseL k)) ∧ Below w.heap.size w w' :=
  refBase_over k nineL (baseL k) w hk (mulL_length _ _) (fun W => refMult_any k nineL W hk rfl) build_nineB
theorem keyJ_neq (ds es : List UInt8) (hd : ds.length = 32) (he : es.length = 32) (w : World) : (binOp .neq 23 (hashVal ds) (hashVal es)).run Tryd.prog w = .ok (.bool (!(ds == es))) w := by
  have h := run_equalIn_bytes (P := Tryd.prog) w 9998 23 5 32 Tryd.underlying23 Tryd.underlying5 (fun w => by
    obtain ⟨i0, hi0, hs0⟩ := Option.map_eq_some_iff.1 size_u8
    simp [sizeOf, typeInfo, hi0, hs0]) ds es hd he
  have h2 := run_neq_struct (P := Tryd.prog) w 23 (ds.map cellOf).toArray (es.map cellOf).toArray
  unfold hashVal
  rw [h2]
  have h3 : (Op.equalIn 10000 23 (.agg (ds.map cellOf).toArray) (.agg (es.map cellOf).toArray)).run Tryd.prog w = .ok (ds == es) w := h
  rw [h3]
  rfl
theorem shared_any (k u : List UInt8) (w : World) (hk : k.length = 32) (hu : u.length = 32) (er : Value) (hE : w.cell? ⟨0, 0, none⟩ = some er) (z : Bool) (hz : (mulL k u == zeroL) = z) :
    Calls Tryd.prog 8 #[hashVal k, hashVal u] w fun e w' => e = .returned (.tuple #[hashVal (mulL k u), if z then er else .nilIface]) ∧ Below w.heap.size w w' := by
  refine shared_over k u (mulL k u) zeroL (mulL k u) er (if z then er else .nilIface) z w hk hu (mulL_length _ _) rfl (fun W => mult_any k u W hk hu) build_zeroK (fun W => by rw [← hz]; exact key_eql _ _ (mulL_length _ _) rfl W) (fun h => ⟨rfl, by rw [h]; rfl⟩) (fun h => ⟨?_, by rw [h]; rfl⟩) hE
  rw [h] at hz
  exact eq_of_beq hz
theorem lev_bit : ∀ (k : List UInt8) (i : Nat), lev k / 2 ^ i % 2 = (k.getD (i / 8) 0).toNat / 2 ^ (i % 8) % 2
  | [], i => by rw [show lev [] = 0 from rfl, Nat.zero_div]; simp
  | b :: t, i => by
    rw [lev_cons]
    rcases Nat.lt_or_ge i 8 with h | h
    · rw [Nat.div_eq_of_lt h, Nat.mod_eq_of_lt h]
      show _ = b.toNat / 2 ^ i % 2
      obtain ⟨j, hj⟩ : ∃ j, j + i = 7 := ⟨7 - i, by omega⟩
      have hp : (256 : Nat) = 2 ^ i * (2 ^ j * 2) := by
        rw [← Nat.pow_succ, ← Nat.pow_add, show i + (j + 1) = 8 by omega]
      rw [hp, Nat.mul_assoc, Nat.add_mul_div_left _ _ (Nat.pow_pos (by decide)), Nat.mul_comm (2 ^ j) 2, Nat.mul_assoc, Nat.add_mul_mod_self_left]
    · obtain ⟨j, rfl⟩ : ∃ j, i = j + 8 := ⟨i - 8, by omega⟩
      rw [show (j + 8) / 8 = j / 8 + 1 by omega, Nat.add_mod_right, List.getD_cons_succ, ← lev_bit t j, Nat.add_comm j 8, Nat.pow_add, ← Nat.div_div_eq_div_mul, show (2 : Nat) ^ 8 = 256 from rfl]
      have := b.toNat_lt
      congr 2
      omega
theorem kbit_is (k : List UInt8) (i : Nat) : kbit k i = decide (lev k / 2 ^ i % 2 = 1) := by rw [kbit, lev_bit]
/-- A clamped key's number. -/
theorem clamp_num (k : List UInt8) (hk : k.length = 32) : ∃ m, lev (clampL k) = 8 * m ∧ 0 < m ∧ m < 7237005577332262213973186563042994240829374041602535252466099000494570602496 := by
  have g0 : (clampL k).getD 0 0 = k.getD 0 0 / 8 * 8 := by
    rw [clampL, List.getD_eq_getElem?_getD, List.getElem?_set_ne (by decide), List.getElem?_set_self (by omega)]; rfl
  have g1 : (clampL k).getD 31 0 = k.getD 31 0 % 64 + 64 := by
    rw [clampL, List.getD_eq_getElem?_getD, List.getElem?_set_self (by rw [List.length_set]; omega)]; rfl
  have hl : (clampL k).length = 32 := by rw [clampL_length]; exact hk
  have h1 := lev_step (clampL k) 31 (by omega)
  have h2 := lev_take_lt (clampL k) 31 (by omega)
  rw [List.take_of_length_le (by omega), g1] at h1
  have h3 : lev (clampL k) % 8 = 0 := by
    generalize clampL k = c at *
    match c, hl with
    | b :: t, _ =>
      have g2 : b = k.getD 0 0 / 8 * 8 := g0
      rw [lev_cons, g2]
      generalize k.getD 0 0 = q
      have := q.toNat_lt
      rw [UInt8.toNat_mul, UInt8.toNat_div]
      show (q.toNat / 8 * 8 % 256 + _) % 8 = 0
      omega
  have h4 : (k.getD 31 0 % 64 + 64).toNat = (k.getD 31 0).toNat % 64 + 64 := by
    generalize k.getD 31 0 = q
    rw [UInt8.toNat_add, UInt8.toNat_mod]
    show (q.toNat % 64 + 64) % 256 = _
    omega
  rw [h4] at h1
  rw [show (8 * 31 : Nat) = 248 from rfl, show (2 : Nat) ^ 248 = 452312848583266388373324160190187140051835877600158453279131187530910662656 from by decide +kernel] at h1 h2
  generalize lev (clampL k) = A at *
  generalize lev ((clampL k).take 31) = B at *
  exact ⟨A / 8, by omega, by omega, by omega⟩
theorem keyN_keyB (n : Nat) (h : n < pp) : keyN (keyB n) = n := by
  rw [keyN, keyB, lev_putL, show (256 : Nat) ^ 32 = 115792089237316195423570985008687907853269984665640564039457584007913129639936 from by decide +kernel, Nat.mod_eq_of_lt (a := n) (Nat.lt_trans h (by decide)), Nat.mod_eq_of_lt (a := n) (Nat.lt_trans h (by decide)), Nat.mod_eq_of_lt h]
theorem keyN_nine : keyN nineL = 9 := by decide +kernel
theorem keyN_zero : keyN zeroL = 0 := by decide +kernel
theorem clamp_bits (k : List UInt8) (hk : k.length = 32) : ∃ A, ¬ NP.LL ∣ A ∧ A < 57896044618658097711785492504343953926634992332820282019728792003956564819968 ∧ ∀ i, i < 255 → kbit (clampL k) i = decide (A / 2 ^ i % 2 = 1) := by
  obtain ⟨m, h1, h2, h3⟩ := clamp_num k hk
  refine ⟨8 * m, NP.clamped_apart h2 h3, by omega, fun i _ => ?_⟩
  rw [← h1]
  exact kbit_is _ _
namespace NP
theorem base_not {A : Nat} (hA : ¬ LL ∣ A) (lA : A < 57896044618658097711785492504343953926634992332820282019728792003956564819968) {a : Nat → Bool} (ha : ∀ i, i < 255 → a i = decide (A / 2 ^ i % 2 = 1)) : multN a 9 ≠ 0 := fun h0 => by
  have r9 : RepU (edw.mul bE 1) ((9 : Nat) : Int) 1 := by rw [edw.mul_one]; exact bE_u
  have rA := mult_rep (show ¬ LL ∣ 1 by decide +kernel) hA lA ha (by decide) r9
  rw [Nat.one_mul, h0] at rA
  exact base_u hA rA ⟨0, rfl⟩
end NP
theorem key_not (n : Nat) (hn : n < pp) (h0 : n ≠ 0) : (keyB n == zeroL) = false := by
  cases hq : keyB n == zeroL with
  | false => rfl
  | true =>
    have h3 := congrArg keyN (eq_of_beq hq)
    rw [keyN_zero, keyN_keyB n hn] at h3
    exact absurd h3 h0
/-- What two have in common is the same on both sides, and isn't nought. -/
theorem mulL_meets (a b : List UInt8) (ha : a.length = 32) (hb : b.length = 32) : mulL a (baseL b) = mulL b (baseL a) ∧ (mulL a (baseL b) == zeroL) = false := by
  obtain ⟨A, a1, a2, a3⟩ := clamp_bits a ha
  obtain ⟨B, b1, b2, b3⟩ := clamp_bits b hb
  obtain ⟨h1, h2⟩ := NP.meets a1 a2 b1 b2 a3 b3
  have e : ∀ k u : List UInt8, mulL k (baseL u) = keyB (multN (kbit (clampL k)) (multN (kbit (clampL u)) 9)) := fun k u => by
    rw [mulL, baseL, mulL, keyN_keyB _ (multN_lt _ _), keyN_nine]
  rw [e, e]
  refine ⟨by rw [h1], ?_⟩
  exact key_not _ (multN_lt _ _) h2
theorem baseL_not (a : List UInt8) (ha : a.length = 32) : (baseL a == zeroL) = false := by
  obtain ⟨A, a1, a2, a3⟩ := clamp_bits a ha
  have e : baseL a = keyB (multN (kbit (clampL a)) 9) := by rw [baseL, mulL, keyN_nine]
  rw [e]
  exact key_not _ (multN_lt _ _) (NP.base_not a1 a2 a3)
theorem mul_zero : mulL oneL zeroL = zeroL := by
  have h : (ladN 0 (kbit (clampL oneL)) 255).1.2 = 0 := by decide +kernel
  have h0 : ivN 0 = 0 := by
    rw [ivN, Nat.zero_pow (by decide), Nat.zero_mod]
  rw [mulL, keyN_zero, multN, h, h0, fM, Nat.mul_zero, Nat.zero_mod]
  decide +kernel
/-- The package is there. -/
theorem alive10 (es : List Addr) (w : World) (hE : Errs w es) : Calls Tryd.prog 6 #[] w fun e w' => e = .returned (.bool true) ∧ Below w.heap.size w w' := by
  obtain ⟨aK, haK, _⟩ := hE.var 4 (g := 0) rfl
  refine alive10_over zeroL (baseL oneL) oneL (errAt aK) es w rfl (fun W hW => ?_) (fun W hW => num_is es 4 5 aK W hW haK rfl) (fun W => base_any oneL W rfl) build_oneK build_zeroK (fun W => ?_) hE
  · obtain ⟨aV, haV, hcV⟩ := hW.var 4 (g := 0) rfl
    obtain rfl : aV = aK := Option.some.inj (haV.symm.trans haK)
    have h := shared_any oneL zeroL W rfl rfl (errAt aV) hcV true (by rw [mul_zero]; exact beq_self_eq_true _)
    rw [mul_zero] at h
    exact h
  · have h := keyJ_neq (baseL oneL) zeroL (mulL_length _ _) rfl W
    rw [baseL_not oneL rfl] at h
    exact h
theorem base_clamp (k : List UInt8) (h : k.length = 32) : baseL (clampL k) = baseL k := by rw [baseL, mulL, clampL_twice k h, baseL, mulL]
end Go.Proofs.YtlhgabhjbnckkaaDoor
