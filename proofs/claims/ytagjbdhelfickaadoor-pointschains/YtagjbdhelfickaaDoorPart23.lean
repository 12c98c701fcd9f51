/- Part 23 of what the laws of this seat share: BReadN, UTold, UShare, URadix, UOf, UMany. -/
import Derived.Great.BuildSlice
import Derived.Deep.Cut
import Derived.IntWalk
import Derived.Test.YtagjbdhelfickaaDoorPart22
namespace Go.Proofs.YtagjbdhelfickaaDoor
open Go.RowKit
/-- What the bytes say of y, whether x is odd, x's square, x; whether they are a point's; and the point. -/
def readY (b : List UInt8) : Nat := lev (b.set 31 (b.getD 31 0 % 128))
def readO (b : List UInt8) : Bool := decide (128 ≤ (b.getD 31 0).toNat)
def ratN (y : Nat) : Nat := fM (fS (fM y y) 1) (ivN (fA (fM dNat (fM y y)) 1))
def readX (b : List UInt8) : Nat := rootN (ratN (readY b))
def readGood (b : List UInt8) : Bool := (decide (readY b < pp) && isSN (ratN (readY b))) && !(readO b && decide (readX b = 0))
def readT (b : List UInt8) : Tri := bif readGood b then (bif readO b then fS 0 (readX b) else readX b, readY b, 1) else (0, 0, 0)
theorem read12_num (b : List UInt8) (y yy s1 t1 a1 iv pr x xn : Nat) (ok : Bool) (res : List Nat) (err : Int) (w : World) (hb : b.length = 32) (Ey : readY b = y) (Eyy : fM y y = yy) (Es : fS yy 1 = s1) (Et : fM dNat yy = t1) (Ea : fA t1 1 = a1) (Ei : ivN a1 = iv) (Ep : fM s1 iv = pr) (Ex : rootN pr = x) (Eo : isSN pr = ok) (En : fS 0 x = xn)
    (H0 : (!decide (y % pp = y)) = true → res = triL (0, 0, 0) ∧ err = 4) (H1 : (!decide (y % pp = y)) = false → ok = false → res = triL (0, 0, 0) ∧ err = 4) (H2 : (!decide (y % pp = y)) = false → ok = true → readO b = false → res = triL (x, y, 1) ∧ err = 0)
    (H3 : (!decide (y % pp = y)) = false → ok = true → readO b = true → decide (x = 0) = true → res = triL (0, 0, 0) ∧ err = 4) (H4 : (!decide (y % pp = y)) = false → ok = true → readO b = true → decide (x = 0) = false → res = triL (xn, y, 1) ∧ err = 0) :
    Calls Tryd.prog 10 #[hashVal b] w fun e w' => e = .returned (.tuple #[numD res, .int .i64 err]) ∧ Below w.heap.size w w' := by
  have hl : (b.set 31 (b.getD 31 0 % 128)).length = 32 := by rw [List.length_set]; exact hb
  have hy : y < mm := by rw [← Ey]; exact lev_lt32 _ hl
  have hyy : yy < pp := by rw [← Eyy]; exact fM_lt _ _
  have hs : s1 < pp := by rw [← Es]; exact fS_lt _ _
  have ht : t1 < pp := by rw [← Et]; exact fM_lt _ _
  have ha : a1 < pp := by rw [← Ea]; exact fA_lt _ _
  have hi : iv < pp := by rw [← Ei]; exact Nat.mod_lt _ (by decide)
  have hp : pr < pp := by rw [← Ep]; exact fM_lt _ _
  have hx : x < pp := by rw [← Ex]; exact rootN_lt _
  have h1 : 1 < pp := by decide
  have hd : dNat < pp := by decide
  have h0 : 0 < pp := by decide
  have C1 : ∀ W, Calls Tryd.prog 32 #[hashVal (b.set 31 (b.getD 31 0 % 128))] W fun e w' => e = .returned (numD (nD y)) ∧ Below W.heap.size W w' := fun W => by rw [← Ey]; exact refRead_any _ W hl
  have C2 : ∀ W, Calls Tryd.prog 34 #[numD (nD y), numD (nD y)] W fun e w' => e = .returned (numD (nD yy)) ∧ Below W.heap.size W w' := fun W => by rw [← Eyy]; exact refTimes_any y y W hy hy
  have C3 : ∀ W, Calls Tryd.prog 36 #[numD (nD yy), numD (nD 1)] W fun e w' => e = .returned (numD (nD s1)) ∧ Below W.heap.size W w' := fun W => by rw [← Es]; exact tS_any yy 1 W hyy h1
  have C4 : ∀ W, Calls Tryd.prog 34 #[numD (nD dNat), numD (nD yy)] W fun e w' => e = .returned (numD (nD t1)) ∧ Below W.heap.size W w' := fun W => by rw [← Et]; exact tM_any dNat yy W hd hyy
  have C5 : ∀ W, Calls Tryd.prog 39 #[numD (nD t1), numD (nD 1)] W fun e w' => e = .returned (numD (nD a1)) ∧ Below W.heap.size W w' := fun W => by rw [← Ea]; exact tA_any t1 1 W ht h1
  have C6 : ∀ W, Calls Tryd.prog 38 #[numD (nD a1)] W fun e w' => e = .returned (numD (nD iv)) ∧ Below W.heap.size W w' := fun W => by rw [← Ei]; exact refInvert_any a1 W (lt_mm ha)
  have C7 : ∀ W, Calls Tryd.prog 34 #[numD (nD s1), numD (nD iv)] W fun e w' => e = .returned (numD (nD pr)) ∧ Below W.heap.size W w' := fun W => by rw [← Ep]; exact tM_any s1 iv W hs hi
  have C8 : ∀ W, Calls Tryd.prog 35 #[numD (nD pr)] W fun e w' => e = .returned (.tuple #[numD (nD x), .bool ok]) ∧ Below W.heap.size W w' := fun W => by rw [← Ex, ← Eo]; exact refRoot_any pr W hp
  have C9 : ∀ W, Calls Tryd.prog 36 #[numD (nD 0), numD (nD x)] W fun e w' => e = .returned (numD (nD xn)) ∧ Below W.heap.size W w' := fun W => by rw [← En]; exact tS_any 0 x W h0 hx
  have hyp : y % pp < mm := lt_mm (Nat.mod_lt _ h0)
  clear Eyy Es Et Ea Ei Ep Ex Eo En
  refine read12_over (nD y) (nD (y % pp)) (nD yy) (nD s1) (nD dNat) (nD t1) (nD a1) (nD iv) (nD pr) (nD x) (nD xn) (nD 1) (nD 0) (triL (0, 0, 0)) (triL (x, y, 1)) (triL (xn, y, 1)) b (b.set 31 (b.getD 31 0 % 128)) (b.getD 31 0) (b.getD 31 0 % 128) (readO b) (!decide (y % pp = y)) ok (decide (x = 0)) res err w
    rfl rfl rfl rfl rfl rfl rfl hb hl ?_ rfl ?_ rfl C1 (fun W => refLeast_any y W hy) C2 one12_any C3 refCurve_any C4 C5 C6 C7 C8 C9 (fun w => by kernel_rfl) build_NDz (build_tri (nD x) (nD y) (nD 1) rfl rfl rfl) (build_tri (nD xn) (nD y) (nD 1) rfl rfl rfl) (num_neq (y % pp) y hyp hy) (num_eql x 0 (lt_mm hx) (by decide)) H0 H1 H2 H3 H4
  · show _ = _
    rw [List.getElem?_map, List.getD_eq_getElem?_getD, List.getElem?_eq_getElem (by omega)]; rfl
  · show _ = _
    rw [UInt8.toNat_mod]; rfl
theorem read_cases (nq ok od xz : Bool) (x xn y : Nat) (g : Bool) (hg : g = ((!nq && ok) && !(od && xz))) (T : Tri) (hT : T = bif g then (bif od then xn else x, y, 1) else (0, 0, 0)) :
    (nq = true → triL T = triL (0, 0, 0) ∧ (bif g then (0 : Int) else 4) = 4) ∧ (nq = false → ok = false → triL T = triL (0, 0, 0) ∧ (bif g then (0 : Int) else 4) = 4) ∧ (nq = false → ok = true → od = false → triL T = triL (x, y, 1) ∧ (bif g then (0 : Int) else 4) = 0) ∧
    (nq = false → ok = true → od = true → xz = true → triL T = triL (0, 0, 0) ∧ (bif g then (0 : Int) else 4) = 4) ∧ (nq = false → ok = true → od = true → xz = false → triL T = triL (xn, y, 1) ∧ (bif g then (0 : Int) else 4) = 0) := by
  subst hT
  cases nq <;> cases ok <;> cases od <;> cases xz <;> subst hg <;> refine ⟨?_, ?_, ?_, ?_, ?_⟩ <;> intros <;> first | contradiction | exact ⟨rfl, rfl⟩
theorem read12_any (b : List UInt8) (w : World) (hb : b.length = 32) : Calls Tryd.prog 10 #[hashVal b] w fun e w' => e = .returned (.tuple #[numD (triL (readT b)), .int .i64 (bif readGood b then 0 else 4)]) ∧ Below w.heap.size w w' := by
  have hnq : decide (readY b < pp) = !(!decide (readY b % pp = readY b)) := by
    by_cases h : readY b < pp
    · rw [decide_eq_true h, decide_eq_true (Nat.mod_eq_of_lt h)]; rfl
    · rw [decide_eq_false h, decide_eq_false (fun e => h (by rw [← e]; exact Nat.mod_lt _ (by decide)))]; rfl
  have hG : readGood b = ((!(!decide (readY b % pp = readY b)) && isSN (ratN (readY b))) && !(readO b && decide (readX b = 0))) := by rw [readGood, hnq]
  have hT : readT b = bif readGood b then (bif readO b then fS 0 (readX b) else readX b, readY b, 1) else (0, 0, 0) := rfl
  obtain ⟨h0, h1, h2, h3, h4⟩ := read_cases (!decide (readY b % pp = readY b)) (isSN (ratN (readY b))) (readO b) (decide (readX b = 0)) (readX b) (fS 0 (readX b)) (readY b) (readGood b) hG (readT b) hT
  exact read12_num b (readY b) (fM (readY b) (readY b)) _ _ _ _ (ratN (readY b)) (readX b) (fS 0 (readX b)) (isSN (ratN (readY b))) _ _ w hb rfl rfl rfl rfl rfl rfl rfl rfl rfl rfl h0 h1 h2 h3 h4
end Go.Proofs.YtagjbdhelfickaaDoor
namespace Go.Proofs.YtagjbdhelfickaaDoor
open Go.RowKit
theorem fM_any (n m : Nat) (W : World) (hn : n < pp) (hm : m < pp) : Calls Tryd.prog 43 #[numVal (limb5 n), numVal (limb5 m)] W fun e w' => e = .returned (numVal (limb5 (fM n m))) ∧ Below W.heap.size W w' := eTimes_any n m W hn hm
theorem fA_any (n m : Nat) (W : World) (hn : n < pp) (hm : m < pp) : Calls Tryd.prog 50 #[numVal (limb5 n), numVal (limb5 m)] W fun e w' => e = .returned (numVal (limb5 (fA n m))) ∧ Below W.heap.size W w' := eAdd_any n m W hn hm
theorem fS_any (n m : Nat) (W : World) (hn : n < pp) (hm : m < pp) : Calls Tryd.prog 47 #[numVal (limb5 n), numVal (limb5 m)] W fun e w' => e = .returned (numVal (limb5 (fS n m))) ∧ Below W.heap.size W w' := eSub_any n m W hn hm
theorem fQ_any (n : Nat) (W : World) (hn : n < pp) : Calls Tryd.prog 51 #[numVal (limb5 n)] W fun e w' => e = .returned (numVal (limb5 (fM n n))) ∧ Below W.heap.size W w' := eSquare_any n W hn
theorem ivU_pw (n : Nat) : ivN n = pwN n 57896044618658097711785492504343953926634992332820282019728792003956564819947 := by
  have h : pp - 2 = 57896044618658097711785492504343953926634992332820282019728792003956564819947 := by decide
  unfold ivN pwN
  rw [h]
theorem ivN_lt (n : Nat) : ivN n < pp := Nat.mod_lt _ (by decide)
theorem fI_any (n : Nat) (W : World) (hn : n < pp) : Calls Tryd.prog 42 #[numVal (limb5 n)] W fun e w' => e = .returned (numVal (limb5 (ivN n))) ∧ Below W.heap.size W w' := by
  rw [ivU_pw]
  exact invert_any n W hn
theorem uat_any (x y : Nat) (w : World) : Calls Tryd.prog 31 #[numVal (limb5 x), numVal (limb5 y)] w fun e w' => e = .returned (numVal (triU (x, y, 1))) ∧ Below w.heap.size w w' :=
  uat_over (limb5 x) (limb5 y) (limb5 1) (triU (x, y, 1)) w rfl rfl rfl oneU_any (build_up _ _ _ rfl rfl rfl)
theorem uzero_any (w : World) : Calls Tryd.prog 20 #[] w fun e w' => e = .returned (numVal (triU (0, 1, 1))) ∧ Below w.heap.size w w' :=
  uzero_over (limb5 0) (limb5 1) (triU (0, 1, 1)) w rfl oneU_any (uat_any 0 1) build_none
theorem ubase_any (E : Value) (w : World) (hS : TabsU E w) : Calls Tryd.prog 25 #[] w fun e w' => e = .returned (numVal (triU baseT)) ∧ Below w.heap.size w w' :=
  ubase_over (limb5 baseXN) (limb5 baseYN) (triU baseT) E w rfl (baseXU_any E) (baseYU_any E) (uat_any baseXN baseYN) hS
theorem uquo_any (a b c d : Nat) (w : World) (ha : a < pp) (hb : b < pp) (hc : c < pp) (hd : d < pp) : Calls Tryd.prog 53 #[numVal (limb5 a), numVal (limb5 b), numVal (limb5 c), numVal (limb5 d)] w fun e w' => e = .returned (numVal (triU (quoT a b c d))) ∧ Below w.heap.size w w' :=
  uquo_over (limb5 a) (limb5 b) (limb5 c) (limb5 d) (limb5 (fM a d)) (limb5 (fM c b)) (limb5 (fM b d)) (triU (quoT a b c d)) w rfl rfl rfl rfl rfl (fun W => fM_any a d W ha hd) (fun W => fM_any c b W hc hb) (fun W => fM_any b d W hb hd) (build_up _ _ _ rfl rfl rfl)
theorem utw_any (t : Tri) (w : World) (h : TriLt t) : Calls Tryd.prog 90 #[numVal (triU t)] w fun e w' => e = .returned (numVal (triU (twT t))) ∧ Below w.heap.size w w' := by
  refine utwice_over (triU t) (limb5 t.1) (limb5 t.2.1) (limb5 t.2.2) (limb5 (twXX t)) (limb5 (twYY t)) (limb5 (twZZ t)) (limb5 (twXY t)) (limb5 (twLess t)) (limb5 (fA (twXY t) (twXY t))) (limb5 (fA (twYY t) (twXX t))) (limb5 (fA (twZZ t) (twZZ t))) (limb5 (fS (fA (twZZ t) (twZZ t)) (twLess t))) (triU (twT t)) w rfl rfl rfl rfl rfl rfl rfl rfl rfl rfl
    ?_ ?_ ?_ ?_ ?_ ?_ ?_ ?_ ?_ ?_
  · exact fun W => fQ_any t.1 W h.1
  · exact fun W => fQ_any t.2.1 W h.2.1
  · exact fun W => fQ_any t.2.2 W h.2.2
  · exact fun W => fM_any t.1 t.2.1 W h.1 h.2.1
  · exact fun W => fS_any (twYY t) (twXX t) W (fM_lt _ _) (fM_lt _ _)
  · exact fun W => fA_any (twXY t) (twXY t) W (fM_lt _ _) (fM_lt _ _)
  · exact fun W => fA_any (twYY t) (twXX t) W (fM_lt _ _) (fM_lt _ _)
  · exact fun W => fA_any (twZZ t) (twZZ t) W (fM_lt _ _) (fM_lt _ _)
  · exact fun W => fS_any _ (twLess t) W (fA_lt _ _) (fS_lt _ _)
  · exact fun W => uquo_any _ (twLess t) _ _ W (fA_lt _ _) (fS_lt _ _) (fA_lt _ _) (fS_lt _ _)
theorem uadd_any (E : Value) (s t : Tri) (w : World) (h1 : TriLt s) (h2 : TriLt t) (hS : TabsU E w) : Calls Tryd.prog 17 #[numVal (triU s), numVal (triU t)] w fun e w' => e = .returned (numVal (triU (addT s t))) ∧ Below w.heap.size w w' := by
  refine uadd_over (triU s) (limb5 s.1) (limb5 s.2.1) (limb5 s.2.2) (triU t) (limb5 t.1) (limb5 t.2.1) (limb5 t.2.2) (limb5 (addX s t)) (limb5 (addY s t)) (limb5 (addZ s t)) (limb5 (fM s.1 t.2.1)) (limb5 (fM s.2.1 t.1)) (limb5 (addCross s t)) (limb5 (addAlong s t)) (limb5 (addOver s t)) (limb5 dNat) (limb5 (fM dNat (addX s t))) (limb5 (addBent s t)) (limb5 (fM (addCross s t) (addZ s t))) (limb5 (fA (addOver s t) (addBent s t))) (limb5 (fM (addAlong s t) (addZ s t))) (limb5 (fS (addOver s t) (addBent s t))) (triU (addT s t)) E w rfl rfl rfl rfl rfl rfl rfl rfl rfl rfl rfl rfl rfl rfl rfl rfl
    (fun W => fM_any s.1 t.1 W h1.1 h2.1) (fun W => fM_any s.2.1 t.2.1 W h1.2.1 h2.2.1) (fun W => fM_any s.2.2 t.2.2 W h1.2.2 h2.2.2) (fun W => fM_any s.1 t.2.1 W h1.1 h2.2.1) (fun W => fM_any s.2.1 t.1 W h1.2.1 h2.1)
    (fun W => fA_any (fM s.1 t.2.1) (fM s.2.1 t.1) W (fM_lt _ _) (fM_lt _ _)) (fun W => fA_any (addY s t) (addX s t) W (fM_lt _ _) (fM_lt _ _)) (fun W => fQ_any (addZ s t) W (fM_lt _ _)) (fun W => fM_any dNat (addX s t) W (by decide) (fM_lt _ _)) (fun W => fM_any (fM dNat (addX s t)) (addY s t) W (fM_lt _ _) (fM_lt _ _))
    (fun W => fM_any (addCross s t) (addZ s t) W (fA_lt _ _) (fM_lt _ _)) (fun W => fA_any (addOver s t) (addBent s t) W (fM_lt _ _) (fM_lt _ _)) (fun W => fM_any (addAlong s t) (addZ s t) W (fA_lt _ _) (fM_lt _ _)) (fun W => fS_any (addOver s t) (addBent s t) W (fM_lt _ _) (fM_lt _ _))
    (curveU_any E) (fun W => uquo_any _ _ _ _ W (fM_lt _ _) (fA_lt _ _) (fM_lt _ _) (fS_lt _ _)) hS
theorem usame_any (s t : Tri) (w : World) (h1 : TriLt s) (h2 : TriLt t) : Calls Tryd.prog 15 #[numVal (triU s), numVal (triU t)] w fun e w' => e = .returned (.bool (sameT s t)) ∧ Below w.heap.size w w' := by
  refine usame_over (triU s) (limb5 s.1) (limb5 s.2.1) (limb5 s.2.2) (triU t) (limb5 t.1) (limb5 t.2.1) (limb5 t.2.2) (limb5 (fM s.1 t.2.2)) (limb5 (fM t.1 s.2.2)) (limb5 (fM s.2.1 t.2.2)) (limb5 (fM t.2.1 s.2.2)) (decide (fM s.1 t.2.2 = fM t.1 s.2.2)) (decide (fM s.2.1 t.2.2 = fM t.2.1 s.2.2)) w rfl rfl rfl rfl rfl rfl rfl rfl ?_ ?_ ?_ ?_ ?_ ?_
  · exact fun W => fM_any s.1 t.2.2 W h1.1 h2.2.2
  · exact fun W => fM_any t.1 s.2.2 W h2.1 h1.2.2
  · exact fun W => same_any _ _ W (fM_lt _ _) (fM_lt _ _)
  · exact fun W => fM_any s.2.1 t.2.2 W h1.2.1 h2.2.2
  · exact fun W => fM_any t.2.1 s.2.2 W h2.2.1 h1.2.2
  · exact fun W => same_any _ _ W (fM_lt _ _) (fM_lt _ _)
theorem uneg_any (t : Tri) (w : World) (h : TriLt t) : Calls Tryd.prog 14 #[numVal (triU t)] w fun e w' => e = .returned (numVal (triU (negT t))) ∧ Below w.heap.size w w' := by
  refine uneg_over (triU t) (limb5 t.1) (limb5 t.2.1) (limb5 t.2.2) (limb5 0) (limb5 (fS 0 t.1)) (triU (negT t)) w rfl rfl rfl rfl rfl (splice_head (limb5 (fS 0 t.1)) (limb5 t.1) (limb5 t.2.1) (limb5 t.2.2) rfl) build_none ?_
  exact fun W => fS_any 0 t.1 W (by decide) h.1
theorem or_top (q : UInt8) (h : q.toNat < 128) : bits .or .u8 (q.toNat : Int) 128 = ((q + 128).toNat : Int) := by
  have key : ∀ n : Fin 128, bits .or .u8 ((n.val : Nat) : Int) 128 = ((n.val + 128 : Nat) : Int) := by decide +kernel
  have h2 := key ⟨q.toNat, h⟩
  have e : (q + 128).toNat = q.toNat + 128 := by
    rw [UInt8.toNat_add]
    show (q.toNat + 128) % 256 = _
    omega
  rw [e]
  exact h2
theorem ubytes_any (t : Tri) (w : World) (h : TriLt t) : Calls Tryd.prog 12 #[numVal (triU t)] w fun e w' => e = .returned (hashVal (ptB (fM t.1 (ivN t.2.2)) (fM t.2.1 (ivN t.2.2)))) ∧ Below w.heap.size w w' := by
  have hy := fM_lt t.2.1 (ivN t.2.2)
  have H := ubytes_over (triU t) (limb5 t.1) (limb5 t.2.1) (limb5 t.2.2) (limb5 (ivN t.2.2)) (limb5 (fM t.2.1 (ivN t.2.2))) (limb5 (fM t.1 (ivN t.2.2))) (putL (fM t.2.1 (ivN t.2.2)) 32) ((putL (fM t.2.1 (ivN t.2.2)) 32).set 31 (byteAt (fM t.2.1 (ivN t.2.2)) 31 + 128)) (byteAt (fM t.2.1 (ivN t.2.2)) 31) (byteAt (fM t.2.1 (ivN t.2.2)) 31 + 128) (decide (fM t.1 (ivN t.2.2) % 2 = 1)) w
    rfl rfl rfl rfl (putL_length _ _) (by show _ = _; rw [List.length_set]; exact putL_length _ _) rfl (by show _ = _; rw [List.getElem?_map, putL_at _ _ _ (by decide)]; rfl) (or_top _ (byte31_lt _ hy)) rfl (fun W => fI_any _ W h.2.2) (fun W => fM_any _ _ W h.1 (ivN_lt _)) (fun W => fM_any _ _ W h.2.1 (ivN_lt _)) (fun W => bytesE_any _ W hy) (fun W => odd_any _ W)
  have e : (bif decide (fM t.1 (ivN t.2.2) % 2 = 1) then (putL (fM t.2.1 (ivN t.2.2)) 32).set 31 (byteAt (fM t.2.1 (ivN t.2.2)) 31 + 128) else putL (fM t.2.1 (ivN t.2.2)) 32) = ptB (fM t.1 (ivN t.2.2)) (fM t.2.1 (ivN t.2.2)) := by
    rcases Nat.mod_two_eq_zero_or_one (fM t.1 (ivN t.2.2)) with e | e
    · rw [decide_eq_false (by omega), cond_false, ptB_nought _ _ e]
    · rw [decide_eq_true e, cond_true, ptB_one _ _ e]
  rw [e] at H
  exact H
theorem ueven_any (E : Value) (y : Nat) (w : World) (hy : y < pp) (hS : TabsU E w) : Calls Tryd.prog 29 #[numVal (limb5 y)] w fun e w' => e = .returned (.tuple #[numVal (limb5 (rootN (ratN y))), .bool (isSN (ratN y))]) ∧ Below w.heap.size w w' := by
  refine ueven_over (limb5 y) (limb5 1) (limb5 (fM y y)) (limb5 dNat) (limb5 (fM dNat (fM y y))) (limb5 (fA (fM dNat (fM y y)) 1)) (limb5 (ivN (fA (fM dNat (fM y y)) 1))) (limb5 (fS (fM y y) 1)) (limb5 (ratN y)) (limb5 (rootN (ratN y))) (isSN (ratN y)) E w rfl rfl rfl rfl rfl oneU_any (fun W => fQ_any y W hy) (curveU_any E) (fun W => fM_any dNat (fM y y) W (by decide) (fM_lt _ _)) (fun W => fA_any (fM dNat (fM y y)) 1 W (fM_lt _ _) (by decide)) (fun W => fI_any _ W (fA_lt _ _)) (fun W => fS_any (fM y y) 1 W (fM_lt _ _) (by decide)) (fun W => fM_any (fS (fM y y) 1) (ivN (fA (fM dNat (fM y y)) 1)) W (fS_lt _ _) (ivN_lt _)) (fun W hW => rootE_any (ratN y) W (fM_lt _ _) hW.2.2.2.1) hS
end Go.Proofs.YtagjbdhelfickaaDoor
namespace Go.Proofs.YtagjbdhelfickaaDoor
open Go.RowKit
/-- Cells of any kind, as a value. -/
abbrev vcell (v : Value) : Value := v
def valsV (l : List Value) : Value := .agg (l.map vcell).toArray
abbrev zshare : List Value := nzeros 240 ++ kzeros
theorem zero_share : ∀ w, (zeroValue 88).run Tryd.prog w = .ok (.agg zshare.toArray) w := (zero_of_info (P := Tryd.prog) (t := 88) (v := .agg zshare.toArray) (n := 272) (by kernel_rfl)).1
theorem size_share : (Tryd.prog.info? 88).map (·.size) = some 272 := by kernel_rfl
theorem list32 {l : List UInt8} (h : l.length = 32) : ∃ a0 a1 a2 a3 a4 a5 a6 a7 a8 a9 a10 a11 a12 a13 a14 a15 a16 a17 a18 a19 a20 a21 a22 a23 a24 a25 a26 a27 a28 a29 a30 a31, l = [a0, a1, a2, a3, a4, a5, a6, a7, a8, a9, a10, a11, a12, a13, a14, a15, a16, a17, a18, a19, a20, a21, a22, a23, a24, a25, a26, a27, a28, a29, a30, a31] := by
  match l, h with
  | [a0, a1, a2, a3, a4, a5, a6, a7, a8, a9, a10, a11, a12, a13, a14, a15, a16, a17, a18, a19, a20, a21, a22, a23, a24, a25, a26, a27, a28, a29, a30, a31], _ => exact ⟨a0, a1, a2, a3, a4, a5, a6, a7, a8, a9, a10, a11, a12, a13, a14, a15, a16, a17, a18, a19, a20, a21, a22, a23, a24, a25, a26, a27, a28, a29, a30, a31, rfl⟩
theorem build_share (key : List UInt8) (hk : key.length = 32) (w : World) : (Instr.build 88 #[(1, hashVal key)]).run Tryd.prog w = .ok (valsV (nzeros 240 ++ key.map cellOf)) w := by
  obtain ⟨a0, a1, a2, a3, a4, a5, a6, a7, a8, a9, a10, a11, a12, a13, a14, a15, a16, a17, a18, a19, a20, a21, a22, a23, a24, a25, a26, a27, a28, a29, a30, a31, rfl⟩ := list32 hk
  kernel_rfl
theorem field_s0 (g o : Nat) (w : World) : (Instr.fieldAt 88 (.pointer (some ⟨g, o, none⟩)) 0).run Tryd.prog w = .ok (.pointer (some ⟨g, o, none⟩)) w := by kernel_rfl
theorem field_z0 (g : Nat) (w : World) : (Instr.fieldAt 88 (.pointer (some ⟨g, 0, none⟩)) 0).run Tryd.prog w = .ok (.pointer (some ⟨g, 0, none⟩)) w := field_s0 g 0 w
theorem index_s (g o k : Nat) (ik : IntKind) (hk : k < 16) (w : World) : (Instr.indexAt 86 (.pointer (some ⟨g, o, none⟩)) (.int ik (k : Int))).run Tryd.prog w = .ok (.pointer (some ⟨g, o + k * 15, none⟩)) w :=
  index_run (by kernel_rfl) size_up g o k hk w
theorem index_sl (g o m k : Nat) (ik : IntKind) (hk : k < m) (w : World) : (Instr.indexAt 103 (.slice (some ⟨g, o, none⟩) m m) (.int ik (k : Int))).run Tryd.prog w = .ok (.pointer (some ⟨g, o + k * 272, none⟩)) w :=
  index_slice (by kernel_rfl) size_share g o k hk w
/-- A point out of the middle of cells. -/
theorem load_mid {w : World} {g : Nat} {vs : List Value} {t' : TypeId} (hC : Cells w g vs t') (o : Nat) (x : List Nat) (hx : x.length = 15) (hv : (vs.drop o).take 15 = x.map ncell) : (Instr.loadAt 31 (.pointer (some ⟨g, o, none⟩))).run Tryd.prog w = .ok (numVal x) w := by
  have hr := hC.range o 15
  rw [hv] at hr
  exact run_loadAt_mid w g o 31 (x.map ncell) _ hr Tryd.underlying31 rfl (by rw [List.length_map, hx]; exact size_up)
/-- Slices of one share and of two. -/
theorem fold_cells : ∀ (cs : List Value) (k off : Nat) (A : List Value), off + k + cs.length ≤ A.length →
    (cs.zipIdx k).foldl (fun a (p : Value × Nat) => a.setIfInBounds (off + p.2) p.1) A.toArray = (splice A (off + k) cs).toArray
  | [], k, off, A, _ => by simp [splice]
  | c :: cs, k, off, A, h => by
    rw [List.length_cons] at h
    rw [List.zipIdx_cons, List.foldl_cons]
    simp only [List.setIfInBounds_toArray]
    rw [fold_cells cs (k + 1) off (A.set (off + k) c) (by rw [List.length_set]; omega)]
    rw [show off + (k + 1) = off + k + 1 by omega, set_splice _ _ _ _ (by omega)]
theorem fold_agg (l : List Value) (off : Nat) (A : List Value) (h : off + l.length ≤ A.length) :
    (l.toArray.zipIdx).foldl (fun a (p : Value × Nat) => a.setIfInBounds (off + p.2) p.1) A.toArray = (splice A off l).toArray := by
  have e := fold_cells l 0 off A (by omega)
  simpa using e
theorem valsV_cells (l : List Value) : (valsV l).cells = l.toArray := by
  show (l.map vcell).toArray = l.toArray
  rw [show l.map vcell = l from List.map_id l]
theorem info_share : ∃ i0, Tryd.prog.info? 88 = some i0 ∧ i0.size = 272 ∧ i0.zero = some (.agg zshare.toArray) := by
  have h : (Tryd.prog.info? 88).map (fun i => (i.size, i.zero)) = some (272, some (.agg zshare.toArray)) := by kernel_rfl
  obtain ⟨i0, h1, h2⟩ := Option.map_eq_some_iff.1 h
  exact ⟨i0, h1, (Prod.mk.inj h2).1, (Prod.mk.inj h2).2⟩
theorem zero_row (n : Nat) : ∃ A : List Value, A.length = n ∧ A.toArray = (Array.range n).map (fun x => (Value.cells (.agg zshare.toArray))[x % (Value.cells (.agg zshare.toArray)).size]!) :=
  ⟨((Array.range n).map (fun x => (Value.cells (.agg zshare.toArray))[x % (Value.cells (.agg zshare.toArray)).size]!)).toList, by simp, Array.toArray_toList⟩
theorem slice_one (s : List Value) (hs : s.length = 272) (w : World) : (Instr.buildSlice 103 1 #[(0, valsV s)]).run Tryd.prog w = .ok (.slice (some ⟨w.heap.size, 0, none⟩) 1 1) (w.alloc (.cells (s.map vcell).toArray 88)) := by
  obtain ⟨i0, hi0, hs0, hz0⟩ := info_share
  refine run_buildSlice w _ _ 1 _ _ i0 _ (by kernel_rfl) hi0 hz0 (by rw [hs0]; decide) (by rw [hs0]; decide) ?_
  rw [hs0]
  obtain ⟨A, hl, hA⟩ := zero_row (1 * 272)
  rw [← hA]
  simp only [Instr.fill, valsV_cells]
  rw [if_neg (by simp [hs, hl])]
  rw [Nat.zero_mul, fold_agg s 0 A (by omega), splice_all _ _ (by omega), show s.map vcell = s from List.map_id s]
theorem slice_two (s t : List Value) (hs : s.length = 272) (ht : t.length = 272) (w : World) : (Instr.buildSlice 103 2 #[(0, valsV s), (1, valsV t)]).run Tryd.prog w = .ok (.slice (some ⟨w.heap.size, 0, none⟩) 2 2) (w.alloc (.cells ((s ++ t).map vcell).toArray 88)) := by
  obtain ⟨i0, hi0, hs0, hz0⟩ := info_share
  refine run_buildSlice w _ _ 2 _ _ i0 _ (by kernel_rfl) hi0 hz0 (by rw [hs0]; decide) (by rw [hs0]; decide) ?_
  rw [hs0]
  obtain ⟨A, hl, hA⟩ := zero_row (2 * 272)
  rw [← hA]
  simp only [Instr.fill, valsV_cells]
  rw [if_neg (by simp [hs, hl])]
  rw [Nat.zero_mul, fold_agg s 0 A (by omega)]
  have l1 : (splice A 0 s).length = 544 := by rw [splice_length _ _ _ (by omega)]; omega
  rw [if_neg (by simp [ht, l1])]
  rw [fold_agg t _ _ (by omega), show (s ++ t).map vcell = s ++ t from List.map_id _]
  have e : splice (splice A 0 s) (1 * 272) t = s ++ t := by
    have e1 : splice A 0 s = s ++ A.drop 272 := by rw [splice, List.take_zero, List.nil_append, Nat.zero_add, hs]
    rw [e1] at l1 ⊢
    rw [splice, show List.drop (1 * 272 + t.length) (s ++ List.drop 272 A) = [] from List.drop_eq_nil_of_le (by omega), List.append_nil, List.take_append_of_le_length (by omega), List.take_of_length_le (by omega)]
  rw [e]
section
variable {P : Program} {w : World} {ops : Array Oper} {rest : List Oper} {o : Oper} {a : Act} {Q : Exit → Act → World → Prop}
/-- A literal of a slice of shares. -/
theorem ulit_step (hgd : o.guard = none) (t : TypeId) (n : Nat) (parts : List (Nat × Operand)) (ho : o.op = .buildSlice t n parts.toArray) (ps : List (Nat × Value)) (hp : (parts.map fun (i, x) => (i, a.eval x)) = ps) (e : TypeId) (vs : List Value)
    (hr : ∀ w, (Instr.buildSlice t n ps.toArray).run P w = .ok (.slice (some ⟨w.heap.size, 0, none⟩) n n) (w.alloc (.cells vs.toArray e)))
    (h : ∀ w', Below w.heap.size w w' → Cells w' w.heap.size vs e → wpList P ops Q rest (a.put o.dst (.slice (some ⟨w.heap.size, 0, none⟩) n n)) w') : wpList P ops Q (o :: rest) a w :=
  slice_step hgd t n parts ho ps hp e _ hr fun w' hw => h w' (by rw [hw]; exact (Below.refl _ _).alloc (Nat.le_refl _) _) (by rw [hw]; exact Cells.new w _ _)
end
end Go.Proofs.YtagjbdhelfickaaDoor
namespace Go.Proofs.YtagjbdhelfickaaDoor
open Go.RowKit
set_option maxRecDepth 100000 in
set_option maxHeartbeats 1000000 in
theorem urad_over (p : List Nat) (X : Nat → List Nat) (w : World)
    (HX0 : Hid (X 0 = p))
    (HL : Hid (∀ j, (X j).length = 15))
    (HT : Hid (∀ j : Nat, j < 4 → ∀ W, Calls Tryd.prog 90 #[numVal (X j)] W fun e w' => e = .returned (numVal (X (j + 1))) ∧ Below W.heap.size W w')) :
    Calls Tryd.prog 81 #[numVal p] w fun e w' => e = .returned (numVal (X 4)) ∧ Below w.heap.size w w' := by
  go_enter Tryd.func81, Tryd.ntmps81
  go_wp2_with (first
    | (refine vtake_step rfl 31 (.tmp 0) rfl (p.map ncell) rfl ?_
       intro w1 hb1 hvp1
       have hB1 := hb1
       have hgep : w.heap.size ≤ w.heap.size := Nat.le_refl _
       clear  hb1
       try simp only [Act.put, List.setIfInBounds_toArray, List.set_cons_zero, List.set_cons_succ]
       skip)
    | (refine vzero_step (o := ⟨some 2, _, _, _, _, _⟩) rfl 31 rfl (nzeros 15) zero_up ?_
       intro w2 hb2 hvr2
       have hB2 := below_then hB1 hb2
       have hger : w.heap.size ≤ w1.heap.size := hB1.size
       have hvp2 := hvp1.on hb2
       have hnepr := Nat.ne_of_lt hvp1.lt
       clear hB1 hvp1 hb2
       try simp only [Act.put, List.setIfInBounds_toArray, List.set_cons_zero, List.set_cons_succ]
       skip))
  generalize hqr : w1.heap.size = gr at *
  clear hqr
  go_loopw [3] (fun t wr => ∃ j : Nat, j ≤ 4 ∧ t = .int .i64 (j : Int) ∧ Below w.heap.size w wr ∧ Cells wr (w.heap.size) ((X j).map ncell) 31 ∧ Cells wr gr (nzeros 15) 31) (fun t _ => (4 - intOf t).toNat)
  case atStart => exact ⟨0, by decide, rfl, hB2, by rw [HX0.out]; exact hvp2, hvr2⟩
  case round =>
    clear hB2 hvp2 hvr2
    obtain ⟨j, hj, rfl, hBl, hvpl, hvrl⟩ := hrel
    by_cases h0 : j < 4
    · have i1 : (0 : Int) ≤ (j : Int) := by omega
      have i2 : (j : Int) < 4 := by omega
      have i3 : IntKind.i64.wrap ((j : Int) + 1) = (j : Int) + 1 := IntWalk.i64_in _ (by omega)
      have CT := Lib.hid (HT.out j h0)
      have Hx := Lib.hid (HL.out j)
      have Hy := Lib.hid (HL.out (j + 1))
      clear HT HL HX0
      obtain ⟨x, HXx⟩ := namedF (X j)
      obtain ⟨y, HXy⟩ := namedF (X (j + 1))
      rw [HXx.out] at CT Hx hvpl
      rw [HXy.out] at CT Hy
      go_wp2_with (first
        | (refine sget_step rfl 31 (.tmp 1) rfl w.heap.size 15 (x.map ncell) rfl hvpl Tryd.underlying31 rfl size_up (by rw [List.length_map, Hx.out]) ?_
           try simp only [Act.put, List.setIfInBounds_toArray, List.set_cons_zero, List.set_cons_succ]
           skip))
      refine (CT.out wr).mono ?_
      rintro e w3 ⟨rfl, hb3⟩
      have hB3 := below_then hBl hb3
      have hvp3 := hvpl.on hb3
      have hvr3 := hvrl.on hb3
      clear hBl hvpl hvrl hb3
      go_wp2_with (first
        | (refine vset_step rfl 31 (.tmp 1) (.tmp 6) rfl w.heap.size 15 (x.map ncell) (y.map ncell) rfl rfl hvp3 (by rw [List.length_map, Hx.out]) size_up (by rw [List.length_map, Hy.out]) (ncells_one _) ?_
           intro w4 hb4 hvp4 hz4
           have hB4 : Below w.heap.size w w4 := hB3.trans (hb4.below hgep hB3.size)
           have hvr4 := hvr3.but hb4 (Ne.symm hnepr)
           clear hB3 hvp3 hb4 hz4 hvr3
           skip))
      go_roundw
      case rel => exact ⟨j + 1, by omega, rfl, hB4, by rw [HXy.out]; exact hvp4, hvr4⟩
      case measure => simp [intOf] <;> omega
    · obtain rfl : j = 4 := by omega
      rw [show (((4 : Nat)) : Int) = 4 from rfl]
      have Hx := Lib.hid (HL.out 4)
      clear HT HL HX0
      go_wp2_with (first
        | (refine sget_step rfl 31 (.tmp 1) rfl w.heap.size 15 ((X 4).map ncell) rfl hvpl Tryd.underlying31 rfl size_up (by rw [List.length_map, Hx.out]) ?_
           try simp only [Act.put, List.setIfInBounds_toArray, List.set_cons_zero, List.set_cons_succ]
           skip)
        | (refine vset_step rfl 31 (.tmp 2) (.tmp 8) rfl gr 15 (nzeros 15) ((X 4).map ncell) rfl rfl hvrl rfl size_up (by rw [List.length_map, Hx.out]) (ncells_one _) ?_
           intro w5 hb5 hvr5 hz5
           have hB5 : Below w.heap.size w w5 := hBl.trans (hb5.below hger hBl.size)
           have hvp5 := hvpl.but hb5 hnepr
           clear hBl hvrl hb5 hz5 hvpl
           skip))
      exact sret Tryd.results81 gr ((X 4).map ncell) rfl hvr5 Tryd.underlying31 rfl size_up (by rw [List.length_map, Hx.out]) rfl ⟨rfl, hB5⟩
end Go.Proofs.YtagjbdhelfickaaDoor
namespace Go.Proofs.YtagjbdhelfickaaDoor
open Go.RowKit
set_option maxRecDepth 100000 in
set_option maxHeartbeats 1000000 in
theorem uof_over (g o i d : Nat) (vs : List Value) (q : UInt8) (m : List Nat) (t' : TypeId) (w : World) (hi : i < 64) (hd : d < 16) (hC : Cells w g vs t')
    (HQ : Hid (vs[o + 240 + i / 2]? = some (cellOf q)))
    (HD : Hid ((q.toNat : Int) / 2 ^ (i % 2 * 4) % 16 = (d : Int)))
    (Hm : Hid (m.length = 15))
    (HM : Hid ((vs.drop (o + d * 15)).take 15 = m.map ncell)) :
    Calls Tryd.prog 82 #[.pointer (some ⟨g, o, none⟩), .int .i64 (i : Int)] w fun e w' => e = .returned (numVal m) ∧ Below w.heap.size w w' := by
  go_enter Tryd.func82, Tryd.ntmps82
  go_upto_region 1 with (first
    | (refine vzero_step (o := ⟨some 4, _, _, _, _, _⟩) rfl 31 rfl (nzeros 15) zero_up ?_
       intro w1 hb1 hvr1
       have hB1 := hb1
       have hger : w.heap.size ≤ w.heap.size := Nat.le_refl _
       clear  hb1
       try simp only [Act.put, List.setIfInBounds_toArray, List.set_cons_zero, List.set_cons_succ]
       skip))
  have hC1 := hC.on hB1
  have dq := hC1.get HQ.out
  have hD := HD.out
  have i1 : (0 : Int) ≤ (i : Int) := by omega
  have i2 : (i : Int) < 64 := by omega
  have i3 : (i : Int).tdiv 2 = (i : Int) / 2 := Int.tdiv_eq_ediv_of_nonneg i1
  have i4 : (i : Int).tmod 2 = (i : Int) % 2 := Int.tmod_eq_emod_of_nonneg i1
  have i5 : IntKind.i64.wrap ((i : Int) / 2) = (i : Int) / 2 := IntWalk.i64_in _ (by omega)
  have i6 : IntKind.i64.wrap ((i : Int) % 2) = (i : Int) % 2 := IntWalk.i64_in _ (by omega)
  have i7 : IntKind.i64.wrap ((i : Int) % 2 * 4) = (i : Int) % 2 * 4 := IntWalk.i64_in _ (by omega)
  have i8 : (0 : Int) ≤ (i : Int) / 2 := by omega
  have i9 : (i : Int) / 2 < 32 := by omega
  have i10 : ((i : Int) / 2).toNat = i / 2 := by omega
  have i11 : (0 : Int) ≤ (i : Int) % 2 * 4 := by omega
  have i12 : ((i : Int) % 2 * 4).toNat = i % 2 * 4 := by omega
  have i13 : (0 : Int) ≤ (q.toNat : Int) / 2 ^ (i % 2 * 4) := Int.ediv_nonneg (by omega) (Int.pow_nonneg (by decide))
  have i14 : ((q.toNat : Int) / 2 ^ (i % 2 * 4)).tmod 16 = (d : Int) := by rw [Int.tmod_eq_emod_of_nonneg i13]; exact hD
  have i15 : (0 : Int) ≤ (d : Int) := by omega
  have i16 : (d : Int) < 16 := by omega
  have hR : w1.rangeAt g (o + d * 15) (m.map ncell) := by rw [← HM.out]; exact hC1.range (o + d * 15) 15
  clear hD i13
  go_wp2_with (first
    | (refine wpList_load_mid rfl 31 (.tmp 22) rfl g (o + d * 15) rfl (m.map ncell) _ hR Tryd.underlying31 rfl (by rw [List.length_map, Hm.out]; exact size_up) ?_
       try simp only [Act.put, List.setIfInBounds_toArray, List.set_cons_zero, List.set_cons_succ]
       skip)
    | (refine vset_step rfl 31 (.tmp 4) (.tmp 23) rfl (w.heap.size) 15 (nzeros 15) (m.map ncell) rfl rfl hvr1 rfl size_up (by rw [List.length_map, Hm.out]) (ncells_one _) ?_
       intro w2 hb2 hvr2 hz2
       have hB2 : Below w.heap.size w w2 := hB1.trans (hb2.below hger hB1.size)
       clear hB1 hvr1 hb2 hz2
       skip))
  exact sret Tryd.results82 (w.heap.size) (m.map ncell) rfl hvr2 Tryd.underlying31 rfl size_up (by rw [List.length_map, Hm.out]) rfl ⟨rfl, hB2⟩
end Go.Proofs.YtagjbdhelfickaaDoor
namespace Go.Proofs.YtagjbdhelfickaaDoor
open Go.RowKit
theorem less_one (k : Nat) (hk : k < 15) (w : World) : (binOp .sub 3 (.int .i64 ((k + 1 : Nat) : Int)) (.int .i64 1)).run Tryd.prog w = .ok (.int .i64 (k : Int)) w := by
  have h : IntKind.i64.wrap (k : Int) = (k : Int) := IntWalk.i64_in _ (by omega)
  go_simp
def umanyVs2 (p : List Nat) (key : List UInt8) (g_base : Nat) (gk : Nat) (gr : Nat) (gs : Nat) (T : Nat → List Value) (z : List Nat) : List Value :=
  (numVal p) :: (hashVal key) :: (.pointer (some ⟨g_base, 0, none⟩)) :: (.pointer (some ⟨gk, 0, none⟩)) :: (.pointer (some ⟨gr, 0, none⟩)) :: (.pointer (some ⟨gs, 0, none⟩)) :: undef :: (hashVal key) :: (valsV (T 0)) :: (numVal z) :: (.pointer (some ⟨gs, 0, none⟩)) :: (.pointer (some ⟨gs, 0, none⟩)) :: undef :: undef :: undef :: undef :: undef :: undef :: undef :: undef :: undef :: undef :: undef :: undef :: undef :: undef :: undef :: []
def umanyVs6_1 (p : List Nat) (key : List UInt8) (g_base : Nat) (gk : Nat) (gr : Nat) (gs : Nat) (k : Nat) (T : Nat → List Value) (z : List Nat) (u14 : Value) (u15 : Value) (x : List Nat) (y : List Nat) : List Value :=
  (numVal p) :: (hashVal key) :: (.pointer (some ⟨g_base, 0, none⟩)) :: (.pointer (some ⟨gk, 0, none⟩)) :: (.pointer (some ⟨gr, 0, none⟩)) :: (.pointer (some ⟨gs, 0, none⟩)) :: (.int .i64 ((k + 1 : Nat) : Int)) :: (hashVal key) :: (valsV (T 0)) :: (numVal z) :: (.pointer (some ⟨gs, 0, none⟩)) :: (.pointer (some ⟨gs, 0, none⟩)) :: (.int .i64 ((k + 1 : Nat) : Int)) :: (.bool (decide ((k : Int) + 1 < 16))) :: (u14) :: (u15) :: (.int .i64 ((k + 1 : Nat) : Int)) :: (.int .i64 ((k + 1 : Nat) : Int)) :: (.int .i64 (k : Int)) :: (.pointer (some ⟨gs, 0, none⟩)) :: (.pointer (some ⟨gs, 0 + k * 15, none⟩)) :: (numVal x) :: (numVal p) :: (numVal y) :: (.pointer (some ⟨gs, 0, none⟩)) :: (.pointer (some ⟨gs, 0 + (k + 1) * 15, none⟩)) :: undef :: []
set_option maxRecDepth 100000 in
set_option maxHeartbeats 2000000 in
theorem umany_over (p z : List Nat) (key : List UInt8) (X : Nat → List Nat) (T : Nat → List Value) (E : Value) (w : World)
    (Hp : Hid (p.length = 15))
    (Hz : Hid (z.length = 15))
    (Hkey : Hid (key.length = 32))
    (HTl : Hid (∀ k, (T k).length = 272))
    (HOne : Hid (∀ k, ((T k).map vcell).toArray.all (·.oneCell') = true))
    (HS0 : Hid (splice ((T 0).map vcell) 0 (z.map ncell) = ((T 1).map vcell)))
    (HR : Hid (∀ k : Nat, k < 15 → (X k).length = 15 ∧ (X (k + 1)).length = 15 ∧ (∀ W, TabsU E W → Calls Tryd.prog 17 #[numVal (X k), numVal p] W fun e w' => e = .returned (numVal (X (k + 1))) ∧ Below W.heap.size W w') ∧ (((T (k + 1)).map vcell).drop (0 + k * 15)).take 15 = (X k).map ncell ∧ splice ((T (k + 1)).map vcell) (0 + (k + 1) * 15) ((X (k + 1)).map ncell) = ((T (k + 1 + 1)).map vcell)))
    (CZ : Hid (∀ W, Calls Tryd.prog 20 #[] W fun e w' => e = .returned (numVal z) ∧ Below W.heap.size W w'))
    (BS : ∀ w, (Instr.build 88 #[(1, hashVal key)]).run Tryd.prog w = .ok (valsV (T 0)) w)
    (hS : TabsU E w) :
    Calls Tryd.prog 57 #[numVal p, hashVal key] w fun e w' => e = .returned (valsV (T 16)) ∧ Below w.heap.size w w' := by
  go_enter Tryd.func57, Tryd.ntmps57
  go_upto_region 2 with (first
    | (refine vtake_step rfl 31 (.tmp 0) rfl (p.map ncell) rfl ?_
       intro w1 hb1 hvp1
       have hB1 := hb1
       have hgep : w.heap.size ≤ w.heap.size := Nat.le_refl _
       clear  hb1
       try simp only [Act.put, List.setIfInBounds_toArray, List.set_cons_zero, List.set_cons_succ]
       skip)
    | (refine take_step rfl 23 (.tmp 1) rfl key rfl ?_
       intro w2 hb2 hvk2 hz
       clear hz
       have hB2 := below_then hB1 hb2
       have hgek : w.heap.size ≤ w1.heap.size := hB1.size
       have hvp2 := hvp1.on hb2
       have hnepk := Nat.ne_of_lt hvp1.lt
       clear hB1 hvp1 hb2
       try simp only [Act.put, List.setIfInBounds_toArray, List.set_cons_zero, List.set_cons_succ]
       skip)
    | (refine vzero_step (o := ⟨some 4, _, _, _, _, _⟩) rfl 88 rfl zshare zero_share ?_
       intro w3 hb3 hvr3
       have hB3 := below_then hB2 hb3
       have hger : w.heap.size ≤ w2.heap.size := hB2.size
       have hvp3 := hvp2.on hb3
       have hnepr := Nat.ne_of_lt hvp2.lt
       have hvk3 := hvk2.on hb3
       have hnekr := Nat.ne_of_lt hvk2.lt
       clear hB2 hvp2 hvk2 hb3
       try simp only [Act.put, List.setIfInBounds_toArray, List.set_cons_zero, List.set_cons_succ]
       skip)
    | (refine get_step rfl 23 (.tmp 3) rfl w1.heap.size 32 key 5 rfl hvk3 Tryd.underlying23 size_k32 Hkey.out ?_
       try simp only [Act.put, List.setIfInBounds_toArray, List.set_cons_zero, List.set_cons_succ]
       skip)
    | (refine build_step rfl 88 _ rfl [(1, hashVal key)] rfl _ BS ?_
       try simp only [Act.put, List.setIfInBounds_toArray, List.set_cons_zero, List.set_cons_succ]
       skip)
    | (refine vput_step rfl rfl 88 (.tmp 5) (.tmp 8) rfl rfl 272 zshare ((T 0).map vcell) rfl rfl zero_share rfl size_share (by rw [List.length_map, (HTl.out 0)]) (HOne.out _) ?_
       intro w4 hb4 hvs4
       have hB4 := below_then hB3 hb4
       have hges : w.heap.size ≤ w3.heap.size := hB3.size
       have hvp4 := hvp3.on hb4
       have hneps := Nat.ne_of_lt hvp3.lt
       have hvk4 := hvk3.on hb4
       have hneks := Nat.ne_of_lt hvk3.lt
       have hvr4 := hvr3.on hb4
       have hners := Nat.ne_of_lt hvr3.lt
       clear hB3 hvp3 hvk3 hvr3 hb4
       try simp only [Act.put, List.setIfInBounds_toArray, List.set_cons_zero, List.set_cons_succ]
       skip))
  generalize hqk : w1.heap.size = gk at *
  clear hqk
  generalize hqr : w2.heap.size = gr at *
  clear hqr
  generalize hqs : w3.heap.size = gs at *
  clear hqs
  refine wp_region_flat (md := .any) (by kernel_rfl) ?_
  refine wpAny_flatM (L := [0, 1, 2]) (by kernel_rfl) _ _ (umanyVs2 p key w.heap.size gk gr gs T z) [] 31 (nzeros 15) [0, 1, 2, 3, 4, 5, 6, 7, 8, 12, 13, 14, 15, 16, 17, 18, 19, 20, 21, 22, 23, 24, 25, 26] (by kernel_rfl) (by kernel_rfl) ?_ zero_up ?_ (by rfl) ?_ 1 (by kernel_rfl) ?_
  · intro p hp
    exact absurd hp List.not_mem_nil
  · repeat refine all_cons rfl ?_
    exact all_nil
  · refine all_cons (.inr (mStep _ 9 rfl rfl rfl rfl (by kernel_rfl) (fun a hv => wanted_all rfl _) (fun a w K hb hv hK => mCall (numVal z) 20 _ _ rfl [] (rfl) (enters Tryd.func20 rfl rfl) (CZ.out w) hK))) ?_
    refine all_cons (.inr (mStep _ 10 rfl rfl rfl rfl (by kernel_rfl) (fun a hv => wanted_all rfl _) (fun a w K hb hv hK => mPure _ (exec_field _ _ _ _ 0 rfl _ _ (hv 5 (by kernel_rfl) rfl) w (field_z0 _ w)) hK))) ?_
    refine all_cons (.inr (mStep _ 11 rfl rfl rfl rfl (by kernel_rfl) (fun a hv => wanted_all rfl _) (fun a w K hb hv hK => mPure (.pointer (some ⟨gs, 0, none⟩)) (exec_index _ _ _ _ _ rfl _ _ _ (hv 10 (by kernel_rfl) rfl) rfl w (index_s _ 0 0 .i64 (by decide) w)) hK))) ?_
    exact all_nil
  intro w5 g hb5 hN5 hap5
  clear hN5 hap5
  have hB5 := below_then hB4 hb5
  have hvp5 := hvp4.on hb5
  have hvk5 := hvk4.on hb5
  have hvr5 := hvr4.on hb5
  have hvs5 := hvs4.on hb5
  clear hB4 hvp4 hvk4 hvr4 hvs4 hb5
  refine wpAny_rest 3 rfl (by kernel_rfl) ?_
  refine smid_step rfl 31 (.tmp 11) (.tmp 9) rfl gs (0) 15 ((T 0).map vcell) (z.map ncell) ((T 1).map vcell) rfl rfl hvs5 (by rw [List.length_map, HTl.out 0]; decide) size_up (by rw [List.length_map, Hz.out]) (ncells_one _) HS0.out ?_
  intro w6 hb6 hvs6 hz6
  have hB6 : Below w.heap.size w w6 := hB5.trans (hb6.below hges hB5.size)
  have hvp6 := hvp5.but hb6 hneps
  have hvk6 := hvk5.but hb6 hneks
  have hvr6 := hvr5.but hb6 hners
  clear hB5 hvs5 hb6 hz6 hvp5 hvk5 hvr5
  rename_i K hKK
  show Exit.then K _ Exit.normal (⟨(umanyVs2 p key w.heap.size gk gr gs T z).toArray, []⟩ : Act) w6
  simp only [Exit.then]
  refine hKK _ _ ?_
  clear hKK K g
  simp only [umanyVs2]
  go_wp2_with fail
  replace hnepk := Lib.hid hnepk
  replace hnepr := Lib.hid hnepr
  replace hnekr := Lib.hid hnekr
  replace hneps := Lib.hid hneps
  replace hneks := Lib.hid hneks
  replace hners := Lib.hid hners
  go_loopw [6] (fun t wr => ∃ j : Nat, 1 ≤ j ∧ j ≤ 16 ∧ t = .int .i64 (j : Int) ∧ Below w.heap.size w wr ∧ Cells wr (w.heap.size) (p.map ncell) 31 ∧ Cells wr gk (key.map cellOf) 23 ∧ Cells wr gr zshare 88 ∧ Cells wr gs ((T j).map vcell) 88) (fun t _ => (16 - intOf t).toNat)
  case atStart => exact ⟨1, Nat.le_refl _, by decide, rfl, hB6, hvp6, hvk6, hvr6, hvs6⟩
  case round =>
    clear hB6 hvp6 hvk6 hvr6 hvs6
    obtain ⟨j, hj1, hj, rfl, hBl, hvpl, hvkl, hvrl, hvsl⟩ := hrel
    by_cases h0 : j < 16
    · obtain ⟨k, rfl⟩ : ∃ k, j = k + 1 := ⟨j - 1, by omega⟩
      have hk : k < 15 := by omega
      have i1 : (0 : Int) ≤ ((k + 1 : Nat) : Int) := by omega
      have i2 : ((k + 1 : Nat) : Int) < 16 := by omega
      have i3 : IntKind.i64.wrap (((k + 1 : Nat) : Int) + 1) = ((k + 1 : Nat) : Int) + 1 := IntWalk.i64_in _ (by omega)
      obtain ⟨hx1, hx2, hx3, hx4, hx5⟩ := HR.out k hk
      have CA := Lib.hid hx3
      have Hx := Lib.hid hx1
      have Hy := Lib.hid hx2
      have HXx := Lib.hid hx4
      have HSk := Lib.hid hx5
      clear HR HS0 hx1 hx2 hx3 hx4 hx5
      obtain ⟨x, HXz⟩ := namedF (X k)
      obtain ⟨y, HYz⟩ := namedF (X (k + 1))
      rw [HXz.out] at CA Hx HXx
      rw [HYz.out] at CA Hy HSk
      go_upto_region 6 with fail
      go_wp2_with fail
      replace hvpl := hvpl.drew
      replace hvkl := hvkl.drew
      replace hvrl := hvrl.drew
      replace hvsl := hvsl.drew
      have hBq := (show Below w.heap.size w wr.drew from hBl.drew)
      refine wp_region_any (by kernel_rfl) ?_
      refine wpAny_flatM (L := [0, 1, 2, 3, 4, 5, 6, 7, 8, 9]) (by kernel_rfl) _ _ (umanyVs6_1 p key w.heap.size gk gr gs k T z u14 u15 x y) [] 31 (nzeros 15) [0, 1, 2, 3, 4, 5, 6, 7, 8, 9, 10, 11, 12, 13, 14, 15, 26] (by kernel_rfl) (by kernel_rfl) ?_ zero_up ?_ (by rfl) ?_ 1 (by kernel_rfl) ?_
      · intro p hp
        exact absurd hp List.not_mem_nil
      · repeat refine all_cons rfl ?_
        exact all_nil
      · refine all_cons (.inr (mStep _ 16 rfl rfl rfl rfl (by kernel_rfl) (fun a hv => wanted_all rfl _) (fun a w K hb hv hK => mPure (.int .i64 ((k + 1 : Nat) : Int)) (exec_move _ _ _ (.inl rfl) _ (hv 6 (by kernel_rfl) rfl) w) hK))) ?_
        refine all_cons (.inr (mStep _ 17 rfl rfl rfl rfl (by kernel_rfl) (fun a hv => wanted_all rfl _) (fun a w K hb hv hK => mPure (.int .i64 ((k + 1 : Nat) : Int)) (exec_move _ _ _ (.inl rfl) _ (hv 6 (by kernel_rfl) rfl) w) hK))) ?_
        refine all_cons (.inr (mStep _ 18 rfl rfl rfl rfl (by kernel_rfl) (fun a hv => wanted_all rfl _) (fun a w K hb hv hK => mPure (.int .i64 (k : Int)) (exec_bin _ _ _ _ _ _ _ rfl (.int .i64 ((k + 1 : Nat) : Int)) (.int .i64 1) _ (hv 17 (by kernel_rfl) rfl) (by rfl) w (by kernel_rfl) (less_one k hk w)) hK))) ?_
        refine all_cons (.inr (mStep _ 19 rfl rfl rfl rfl (by kernel_rfl) (fun a hv => wanted_all rfl _) (fun a w K hb hv hK => mPure _ (exec_field _ _ _ _ 0 rfl _ _ (hv 5 (by kernel_rfl) rfl) w (field_z0 _ w)) hK))) ?_
        refine all_cons (.inr (mStep _ 20 rfl rfl rfl rfl (by kernel_rfl) (fun a hv => wanted_all rfl _) (fun a w K hb hv hK => mPure (.pointer (some ⟨gs, 0 + k * 15, none⟩)) (exec_index _ _ _ _ _ rfl _ _ _ (hv 19 (by kernel_rfl) rfl) (hv 18 (by kernel_rfl) rfl) w (index_s _ 0 k .i64 (by omega) w)) hK))) ?_
        refine all_cons (.inr (mStep _ 21 rfl rfl rfl rfl (by kernel_rfl) (fun a hv => wanted_all rfl _) (fun a w K hb hv hK => mPure (numVal x) (exec_load _ _ _ _ rfl _ _ (hv 20 (by kernel_rfl) rfl) w (load_mid (hvsl.on hb) (0 + k * 15) x Hx.out HXx.out)) hK))) ?_
        refine all_cons (.inr (mStep _ 22 rfl rfl rfl rfl (by kernel_rfl) (fun a hv => wanted_all rfl _) (fun a w K hb hv hK => mPure (numVal p) (exec_load _ _ _ _ rfl _ _ (hv 2 (by kernel_rfl) rfl) w (up_run (hvpl.on hb) Hp.out)) hK))) ?_
        refine all_cons (.inr (mStep _ 23 rfl rfl rfl rfl (by kernel_rfl) (fun a hv => wanted_all rfl _) (fun a w K hb hv hK => mCall (numVal y) 17 _ _ rfl [numVal x, numVal p] (cons_eq (hv 21 (by kernel_rfl) rfl) (cons_eq (hv 22 (by kernel_rfl) rfl) (rfl))) (enters Tryd.func17 rfl rfl) (CA.out w (hS.below (below_then hBq hb))) hK))) ?_
        refine all_cons (.inr (mStep _ 24 rfl rfl rfl rfl (by kernel_rfl) (fun a hv => wanted_all rfl _) (fun a w K hb hv hK => mPure _ (exec_field _ _ _ _ 0 rfl _ _ (hv 5 (by kernel_rfl) rfl) w (field_z0 _ w)) hK))) ?_
        refine all_cons (.inr (mStep _ 25 rfl rfl rfl rfl (by kernel_rfl) (fun a hv => wanted_all rfl _) (fun a w K hb hv hK => mPure (.pointer (some ⟨gs, 0 + (k + 1) * 15, none⟩)) (exec_index _ _ _ _ _ rfl _ _ _ (hv 24 (by kernel_rfl) rfl) (hv 16 (by kernel_rfl) rfl) w (index_s _ 0 (k + 1) .i64 (by omega) w)) hK))) ?_
        exact all_nil
      intro w7 g hb7 hN7 hap7
      clear hN7 hap7
      have hB7 := below_then (show Below w.heap.size w wr.drew from hBl.drew) hb7
      have hvp7 := hvpl.on hb7
      have hvk7 := hvkl.on hb7
      have hvr7 := hvrl.on hb7
      have hvs7 := hvsl.on hb7
      clear hBl hvpl hvkl hvrl hvsl hb7 hBq
      refine wpAny_rest 10 rfl (by kernel_rfl) ?_
      refine smid_step rfl 31 (.tmp 25) (.tmp 23) rfl gs (0 + (k + 1) * 15) 15 ((T (k + 1)).map vcell) (y.map ncell) ((T (k + 1 + 1)).map vcell) rfl rfl hvs7 (by rw [List.length_map, HTl.out (k + 1)]; omega) size_up (by rw [List.length_map, Hy.out]) (ncells_one _) HSk.out ?_
      intro w8 hb8 hvs8 hz8
      have hB8 : Below w.heap.size w w8 := hB7.trans (hb8.below hges hB7.size)
      have hvp8 := hvp7.but hb8 hneps.out
      have hvk8 := hvk7.but hb8 hneks.out
      have hvr8 := hvr7.but hb8 hners.out
      clear hB7 hvs7 hb8 hz8 hvp7 hvk7 hvr7
      rename_i K hKK
      show Exit.inBlock _ (Exit.then K _) Exit.normal (⟨(umanyVs6_1 p key w.heap.size gk gr gs k T z u14 u15 x y).toArray, []⟩ : Act) w8
      simp only [Exit.inBlock, Exit.then]
      refine hKK _ _ ?_
      clear hKK K g
      simp only [umanyVs6_1]
      go_wp2_with fail
      go_roundw
      case rel => exact ⟨k + 1 + 1, by omega, by omega, rfl, hB8, hvp8, hvk8, hvr8, hvs8⟩
      case measure => simp [intOf] <;> omega
    · obtain rfl : j = 16 := by omega
      rw [show (((16 : Nat)) : Int) = 16 from rfl]
      clear HR HS0
      go_wp2_with (first
        | (refine sget_step rfl 88 (.tmp 5) rfl gs 272 ((T 16).map vcell) rfl hvsl Tryd.underlying88 rfl size_share (by rw [List.length_map, (HTl.out 16)]) ?_
           try simp only [Act.put, List.setIfInBounds_toArray, List.set_cons_zero, List.set_cons_succ]
           skip)
        | (refine vset_step rfl 88 (.tmp 4) (.tmp 26) rfl gr 272 zshare ((T 16).map vcell) rfl rfl hvrl rfl size_share (by rw [List.length_map, (HTl.out 16)]) (HOne.out _) ?_
           intro w9 hb9 hvr9 hz9
           have hB9 : Below w.heap.size w w9 := hBl.trans (hb9.below hger hBl.size)
           have hvp9 := hvpl.but hb9 hnepr.out
           have hvk9 := hvkl.but hb9 hnekr.out
           have hvs9 := hvsl.but hb9 (Ne.symm hners.out)
           clear hBl hvrl hb9 hz9 hvpl hvkl hvsl
           skip))
      exact sret Tryd.results57 gr ((T 16).map vcell) rfl hvr9 Tryd.underlying88 rfl size_share (by rw [List.length_map, (HTl.out 16)]) rfl ⟨rfl, hB9⟩
end Go.Proofs.YtagjbdhelfickaaDoor
