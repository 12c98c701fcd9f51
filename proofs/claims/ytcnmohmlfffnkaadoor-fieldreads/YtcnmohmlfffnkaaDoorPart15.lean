/- Part 15 of what the laws of this seat share: GRooted. -/
import Derived.Test.YtcnmohmlfffnkaaDoorPart14
namespace Go.Proofs.YtcnmohmlfffnkaaDoor
open Go.RowKit
theorem num_neq (n m : Nat) (hn : n < mm) (hm : m < mm) (w : World) : (binOp .neq 27 (numD (nD n)) (numD (nD m))).run Tryd.prog w = .ok (.bool (!decide (n = m))) w := by
  have h := run_equalIn_nats (P := Tryd.prog) w .u32 9998 27 25 8 Tryd.underlying27 Tryd.underlying25 (fun w => by
    obtain ⟨i0, hi0, hs0⟩ := Option.map_eq_some_iff.1 size_w32
    simp [sizeOf, typeInfo, hi0, hs0]) (nD n) (nD m) rfl rfl
  have e : (nD n == nD m) = decide (n = m) := by
    by_cases h : n = m
    · rw [h, beq_self_eq_true]; simp
    · rw [decide_eq_false h, beq_eq_false_iff_ne]
      intro h2
      exact h (by rw [← pre_nD n hn, ← pre_nD m hm, h2])
  rw [e] at h
  have h2 := run_neq_struct (P := Tryd.prog) w 27 ((nD n).map dcell).toArray ((nD m).map dcell).toArray
  unfold numD
  rw [h2]
  have h3 : (Op.equalIn 10000 27 (.agg ((nD n).map dcell).toArray) (.agg ((nD m).map dcell).toArray)).run Tryd.prog w = .ok (decide (n = m)) w := h
  rw [h3]
  rfl
theorem build_ND1 (w : World) : (Instr.build 27 #[(0, dcell 1)]).run Tryd.prog w = .ok (numD (nD 1)) w := by kernel_rfl
theorem build_ND5 (w : World) : (Instr.build 27 #[(0, dcell 5)]).run Tryd.prog w = .ok (numD (nD 5)) w := by kernel_rfl
theorem build_NDz (w : World) : (Instr.build 27 #[]).run Tryd.prog w = .ok (numD (nD 0)) w := by kernel_rfl
theorem rtN_is (k : Nat) (hk : k + 1 = 7237005577332262213973186563042994240829374041602535252466099000494570602494) (n : Nat) : rtN n = NP.rt pp k ttN n := by
  have e : ∀ q, pwN n q = n ^ q % pp := fun _ => rfl
  rw [NP.rt, hk, rtN, e]
theorem isSN_is (k : Nat) (hk : k + 1 = 7237005577332262213973186563042994240829374041602535252466099000494570602494) (n : Nat) : isSN n = NP.isS pp k ttN n := by
  rw [isSN, NP.isS, rtN_is k hk]
theorem turn_power (e : Nat) (he : e = 14474011154664524427946373126085988481658748083205070504932198000989141204987) : 2 ^ e % pp = ttN := by
  have h := NP.pw_eq pp 256 2 e (by rw [he]; decide +kernel)
  rw [← h, he]
  decide +kernel
theorem turn_divides : ((pp : Nat) : Int) ∣ ((ttN : Nat) : Int) * ttN + 1 := by decide +kernel
theorem low_odd (n : Nat) : n % 4294967296 % 2 = n % 2 := by omega
theorem nD_low (n : Nat) : (nD n).getD 0 0 = n % 4294967296 := rfl
/-- What Root answers. -/
def rootN (n : Nat) : Nat := if isSN n = true then evenN (rtN n) else 0
theorem rootN_lt (n : Nat) : rootN n < pp := by
  rw [rootN]
  split
  · rw [evenN]
    split
    · exact Nat.mod_lt _ (by decide)
    · exact rtN_lt n
  · decide
theorem even_is (r b : Nat) (hr : r < pp) (h : r % 4294967296 % 2 = b) : evenN r = if b = 1 then pp - r else r := by
  rw [low_odd] at h
  rw [evenN, h]
  split
  · rename_i hb
    rw [Nat.mod_eq_of_lt]
    simp only [pp] at *
    omega
  · rfl
theorem low_even (x : Nat) (h : decide (x % 2 = 1) = false) : x % 2 = 0 := by
  have := of_decide_eq_false h
  omega
theorem rootHalves (P k : Nat) (h : P = 8 * k + 5) : (P - 1) / 2 = 4 * k + 2 ∧ (P - 5) / 2 = 4 * k ∧ 4 * k / 2 = 2 * k ∧ 2 * k / 2 = k ∧ (4 * k + 2) / 2 = 2 * k + 1 ∧ 4 * k + 2 < P ∧ 4 * k < P ∧ 2 * k < P ∧ k < P ∧ 2 * k + 1 < P ∧ 5 ≤ P ∧ 1 ≤ P := by omega
set_option maxRecDepth 100000 in
theorem refRoot_any (n : Nat) (w : World) (hn : n < pp) : Calls Tryd.prog 30 #[numD (nD n)] w fun e w' => e = .returned (.tuple #[numD (nD (rootN n)), .bool (isSN n)]) ∧ Below w.heap.size w w' := by
  obtain ⟨k, hk⟩ : ∃ k, k + 1 = 7237005577332262213973186563042994240829374041602535252466099000494570602494 := ⟨7237005577332262213973186563042994240829374041602535252466099000494570602493, by decide⟩
  have hp : pp = 8 * k + 5 := by simp only [pp]; omega
  have hm : ∀ x : Nat, x % pp < pp := fun x => Nat.mod_lt _ (by decide)
  have hpm : pp < mm := by decide
  have lm : ∀ x : Nat, x < pp → x < mm := fun x h => Nat.lt_trans h hpm
  have e0 := isSN_is k hk n
  have e1 := rtN_is k hk n
  have iff := NP.isS_iff (k := k) (t := ttN) NP.pr_P turn_divides hn
  have pe : NP.PP = pp := rfl
  rw [pe, ← e0] at iff
  obtain ⟨a1, a2, a3, a4, a5, l1, l2, l3, l4, l5, l6, l7⟩ := rootHalves pp k hp
  have kl : k < mm := lm k l4
  have hl2 : 4 * k + 2 < mm := lm _ l1
  have hl3 : 4 * k < mm := lm _ l2
  have hl4 : 2 * k < mm := lm _ l3
  have hl5 : 2 * k + 1 < mm := lm _ l5
  have lp1 : pp - 1 < mm := Nat.lt_of_le_of_lt (Nat.sub_le _ _) hpm
  have lp5 : pp - 5 < mm := Nat.lt_of_le_of_lt (Nat.sub_le _ _) hpm
  have m0 : 0 < mm := by decide
  have m1 : 1 < mm := by decide
  have hr0 : n ^ k % pp * n % pp = n ^ (k + 1) % pp := by rw [Nat.mod_mul_mod, ← Nat.pow_succ]
  have htt := turn_power (2 * k + 1) (by omega)
  have rtv : rtN n = if n ^ k % pp * n % pp * (n ^ k % pp * n % pp) % pp = n then n ^ k % pp * n % pp else n ^ k % pp * n % pp * ttN % pp := by rw [e1, NP.rt, hr0]
  generalize hA : n ^ k % pp = A at *
  have hAl : A < pp := by rw [← hA]; exact hm _
  generalize hE : n ^ (4 * k + 2) % pp = E at *
  have hEl : E < pp := by rw [← hE]; exact hm _
  have hPow : ∀ W, Calls Tryd.prog 54 #[numD (nD n), numD (nD k)] W fun e w' => e = .returned (numD (nD A)) ∧ Below W.heap.size W w' := fun W => by rw [← hA]; exact refPower_any n k W (lm n hn) kl
  have hEul : ∀ W, Calls Tryd.prog 54 #[numD (nD n), numD (nD (4 * k + 2))] W fun e w' => e = .returned (numD (nD E)) ∧ Below W.heap.size W w' := fun W => by rw [← hE]; exact refPower_any n (4 * k + 2) W (lm n hn) hl2
  have hTurn : ∀ W, Calls Tryd.prog 54 #[numD (nD 2), numD (nD (2 * k + 1))] W fun e w' => e = .returned (numD (nD ttN)) ∧ Below W.heap.size W w' := fun W => by rw [← htt]; exact refPower_any 2 (2 * k + 1) W (by decide) hl5
  have hmin : ∀ a b : Nat, a < mm → b ≤ a → ∀ W, Calls Tryd.prog 49 #[numD (nD a), numD (nD b)] W fun e w' => e = .returned (numD (nD (a - b))) ∧ Below W.heap.size W w' := fun a b ha hb W => refMinus_any a b W ha hb
  have hhalf : ∀ a b : Nat, a < mm → a / 2 = b → ∀ W, Calls Tryd.prog 55 #[numD (nD a)] W fun e w' => e = .returned (numD (nD b)) ∧ Below W.heap.size W w' := fun a b ha hb W => by rw [← hb]; exact refHalf_any a W ha
  have hleast : ∀ W, Calls Tryd.prog 40 #[numD (nD n)] W fun e w' => e = .returned (numD (nD n)) ∧ Below W.heap.size W w' := fun W => by have h := refLeast_any n W (lm n hn); rw [Nat.mod_eq_of_lt hn] at h; exact h
  clear hA hE htt e0 e1
  generalize hR : A * n % pp = R at *
  have hRl : R < pp := by rw [← hR]; exact hm _
  generalize hT : R * ttN % pp = T at *
  have hTl : T < pp := by rw [← hT]; exact hm _
  have hRm : ∀ W, Calls Tryd.prog 24 #[numD (nD A), numD (nD n)] W fun e w' => e = .returned (numD (nD R)) ∧ Below W.heap.size W w' := fun W => by rw [← hR]; exact refTimes_any A n W (lm A hAl) (lm n hn)
  have hTm : ∀ W, Calls Tryd.prog 24 #[numD (nD R), numD (nD ttN)] W fun e w' => e = .returned (numD (nD T)) ∧ Below W.heap.size W w' := fun W => by rw [← hT]; exact refTimes_any R ttN W (lm R hRl) (by decide)
  refine refRoot_over (nD n) (nD 0) (nD 1) (nD pp) (nD (pp - 1)) (nD (4 * k + 2)) (nD E) (nD 5) (nD (pp - 5)) (nD (4 * k)) (nD (2 * k)) (nD k) (nD A) (nD R) (nD (R * R % pp)) (nD 2) (nD (2 * k + 1)) (nD ttN) (nD T) (nD (pp - R)) (nD (pp - T)) (nD (rootN n)) (R % 4294967296) (T % 4294967296)
    (decide (n = 0)) (!decide (E = 1)) (!decide (R * R % pp = n)) (decide (R % 4294967296 % 2 = 1)) (decide (T % 4294967296 % 2 = 1)) (isSN n) w rfl rfl rfl rfl rfl rfl rfl rfl
    hleast refP_any (hmin pp 1 hpm l7) (hhalf (pp - 1) (4 * k + 2) lp1 a1) hEul (hmin pp 5 hpm l6) (hhalf (pp - 5) (4 * k) lp5 a2) (hhalf (4 * k) (2 * k) hl3 a3) (hhalf (2 * k) k hl4 a4)
    hPow hRm (fun W => refTimes_any R R W (lm R hRl) (lm R hRl)) (hhalf (4 * k + 2) (2 * k + 1) hl2 a5) hTurn hTm (hmin pp R hpm (Nat.le_of_lt hRl)) (hmin pp T hpm (Nat.le_of_lt hTl))
    build_NDz build_ND1 build_ND5 build_ND2 (num_eql n 0 (lm n hn) m0) (num_neq E 1 (lm E hEl) m1) (num_neq (R * R % pp) n (lm _ (hm _)) (lm n hn)) (nD_low R) (nD_low T)
    (low_even _) (fun h => of_decide_eq_true h) (low_even _) (fun h => of_decide_eq_true h)
    (fun h => ?_) (fun h1 h2 => ?_) (fun h1 h2 h3 h4 => ?_) (fun h1 h2 h3 h4 => ?_) (fun h1 h2 h3 h4 => ?_) (fun h1 h2 h3 h4 => ?_)
  · have h0 := of_decide_eq_true h
    have hs : isSN n = true := iff.2 (.inl h0)
    refine ⟨?_, hs⟩
    have hR0 : R = 0 := by rw [← hR, h0, Nat.mul_zero, Nat.zero_mod]
    have h6 : rtN n = 0 := by
      rw [rtv]
      split
      · exact hR0
      · rw [← hT, hR0, Nat.zero_mul, Nat.zero_mod]
    rw [rootN, if_pos hs, h6, h0]
    rfl
  all_goals have hz := of_decide_eq_false h1
  all_goals simp only [Bool.not_eq_true', Bool.not_eq_false', decide_eq_false_iff_not, decide_eq_true_eq] at *
  · have hs : isSN n = false := by
      rw [Bool.eq_false_iff]
      intro hs
      rcases iff.1 hs with h | h
      · exact hz h
      · exact h2 h
    refine ⟨?_, hs⟩
    rw [rootN, if_neg (by rw [hs]; decide)]
  all_goals
    have hs : isSN n = true := iff.2 (.inr h2)
    refine ⟨?_, hs⟩
    rw [rootN, if_pos hs]
  · rw [rtv, if_pos h3, even_is R 0 hRl (by omega), if_neg (by decide)]
  · rw [rtv, if_pos h3, even_is R 1 hRl h4, if_pos rfl]
  · rw [rtv, if_neg h3, even_is T 0 hTl (by omega), if_neg (by decide)]
  · rw [rtv, if_neg h3, even_is T 1 hTl h4, if_pos rfl]
theorem refInvert_e (n e : Nat) (he : pp - 2 = e) (w : World) (hn : n < mm) : Calls Tryd.prog 28 #[numD (nD n)] w fun x w' => x = .returned (numD (nD (pwN n e))) ∧ Below w.heap.size w w' := by
  subst he
  exact refInvert_any n w hn
theorem refInvert_at (n : Nat) (w : World) (hn : n < pp) : Calls Tryd.prog 28 #[numD (nD n)] w fun x w' => x = .returned (numD (nD (pwN n 57896044618658097711785492504343953926634992332820282019728792003956564819947))) ∧ Below w.heap.size w w' :=
  refInvert_e n _ (by decide) w (Nat.lt_trans hn (by decide))
theorem rootE_any (n : Nat) (w : World) (hn : n < pp) (hU : Tab w 19 ((limb5 ttN).map ncell)) :
    Calls Tryd.prog 29 #[elV n] w fun e w' => e = .returned (.tuple #[elV (rootN n), .bool (isSN n)]) ∧ Below w.heap.size w w' := by
  refine (root_any n w hn hU).mono fun e w' ⟨h1, h2⟩ => ?_
  cases h : isSN n
  · rw [rootN, if_neg (by rw [h]; decide)]; exact h2 h
  · rw [rootN, if_pos h]; exact h1 h
end Go.Proofs.YtcnmohmlfffnkaaDoor
