/- Part 18 of what the laws of this seat share: BCurve, JBits, BPts, UMult, YGroup, XClamp, YMath, ZMem. -/
import Derived.Test.YtoggkhjaghkpnaaDoorPart17
namespace Go.Proofs.YtoggkhjaghkpnaaDoor
open Go.RowKit
theorem one_pp : 1 < pp := by decide
theorem pp_is : pp = NP.PP := rfl
namespace NP
/-- Numbers on the curve are a point's. -/
theorem point_at {x y : Nat} (hx : x < pp) (hy : y < pp) (h : On PP dE (x : Int) (y : Int)) : ∃ p : Pt PP dE, Pt.X p = x ∧ Pt.Y p = y ∧ RepN p (x, y, 1) := by
  have ex : (x : Int) % ((PP : Nat) : Int) = x := Int.emod_eq_of_lt (by omega) (by have : x < PP := hx; omega)
  have ey : (y : Int) % ((PP : Nat) : Int) = y := Int.emod_eq_of_lt (by omega) (by have : y < PP := hy; omega)
  refine ⟨⟨x, y, h, ex, ey⟩, Int.toNat_natCast x, Int.toNat_natCast y, ⟨edw.prime.not_one, ?_, ?_⟩, hx, hy, one_pp⟩
  · show Cg _ (x : Int) ((x : Int) * ((1 : Nat) : Int))
    rw [show ((1 : Nat) : Int) = 1 from rfl, Int.mul_one]; exact Cg.refl _
  · show Cg _ (y : Int) ((y : Int) * ((1 : Nat) : Int))
    rw [show ((1 : Nat) : Int) = 1 from rfl, Int.mul_one]; exact Cg.refl _
/-- A point's own numbers stand for it. -/
theorem Pt.own (p : Pt PP dE) : RepN p (Pt.X p, Pt.Y p, 1) := by
  obtain ⟨h1, h2⟩ := Pt.X_is p
  obtain ⟨h3, h4⟩ := Pt.Y_is p
  refine ⟨⟨edw.prime.not_one, ?_, ?_⟩, h2, h4, one_pp⟩
  · show Cg _ ((Pt.X p : Nat) : Int) (p.x * ((1 : Nat) : Int))
    rw [h1, show ((1 : Nat) : Int) = 1 from rfl, Int.mul_one]; exact Cg.refl _
  · show Cg _ ((Pt.Y p : Nat) : Int) (p.y * ((1 : Nat) : Int))
    rw [h3, show ((1 : Nat) : Int) = 1 from rfl, Int.mul_one]; exact Cg.refl _
/-- d y^2 + 1 isn't nought. -/
theorem den_not (y : Int) : ¬ ((PP : Nat) : Int) ∣ dE * (y * y) + 1 := fun h => by
  obtain ⟨c, hc⟩ := h
  obtain ⟨j, hj⟩ := edw.root
  have h1 := edw.non iE y ⟨j - c, by rw [Int.mul_sub, ← hc, ← hj]; omega⟩
  obtain ⟨v, hv⟩ := h1
  refine edw.prime.not_one ⟨c - dE * (v * y), ?_⟩
  rw [Int.mul_sub, ← hc]
  have : ((PP : Nat) : Int) * ((dE : Int) * (v * y)) = dE * (y * y) := by
    rw [Int.mul_left_comm, ← Int.mul_assoc ((PP : Nat) : Int), ← hv]
  omega
/-- What isn't nought times its power p - 2 is one. -/
theorem iv_one {n : Nat} (h : ¬ ((PP : Nat) : Int) ∣ (n : Int)) : Cg ((PP : Nat) : Int) ((ivN n : Nat) * (n : Int)) 1 := by
  have hn : ¬ PP ∣ n := fun hd => h (Int.natCast_dvd_natCast.2 hd)
  have hl := pr_P.little hn
  obtain ⟨k, hk⟩ : ∃ k, pp - 2 = k := ⟨_, rfl⟩
  have hk2 : k + 2 = PP := by rw [← hk]; decide
  rw [show PP - 1 = k + 1 by omega, Nat.pow_succ] at hl
  have hi : ivN n = n ^ k % PP := by rw [ivN, hk, pp_is]
  have h3 : (ivN n * n) % PP = 1 := by rw [hi, Nat.mod_mul_mod]; exact hl
  have h4 := (cgM PP (ivN n) n).swap
  rw [h3] at h4
  exact h4
/-- y's quotient: times the denominator it is the numerator. -/
theorem rat_is (y : Nat) : Cg ((PP : Nat) : Int) (((ratN y : Nat) : Int) * (dE * ((y : Int) * y) + 1)) ((y : Int) * y - 1) := by
  have hyy := cg_M y y
  have hn := (cg_S (fM y y) 1 (by decide)).trans (hyy.sub (Cg.refl ((1 : Nat) : Int)))
  have hd := (cg_A (fM dNat (fM y y)) 1).trans (((cg_M dNat (fM y y)).trans ((Cg.refl (dNat : Int)).mul hyy)).add (Cg.refl ((1 : Nat) : Int)))
  rw [dNat_is] at hd
  rw [show ((1 : Nat) : Int) = 1 from rfl] at hn hd
  have nz : ¬ ((PP : Nat) : Int) ∣ ((fA (fM dNat (fM y y)) 1 : Nat) : Int) := fun h => den_not y (hd.dvd h)
  have h1 := iv_one nz
  have h2 := (cg_M (fS (fM y y) 1) (ivN (fA (fM dNat (fM y y)) 1))).mul hd.swap
  refine h2.trans ?_
  rw [Int.mul_assoc]
  have h3 := hn.mul h1
  rw [Int.mul_one] at h3
  exact h3
theorem rat_on {x y : Nat} (h : x * x % pp = ratN y) : On PP dE (x : Int) (y : Int) := by
  have h1 := rat_is y
  rw [← h] at h1
  have h2 := ((cgM PP x x).swap.mul (Cg.refl (dE * ((y : Int) * y) + 1))).trans h1
  obtain ⟨c, hc⟩ := h2
  exact ⟨-c, by rw [Int.mul_neg, ← hc]; grind⟩
theorem on_rat {x y : Nat} (h : On PP dE (x : Int) (y : Int)) : x * x % pp = ratN y := by
  have h1 := rat_is y
  obtain ⟨c, hc⟩ := h
  have h2 : Cg ((PP : Nat) : Int) (((x * x % pp : Nat) : Int) * (dE * ((y : Int) * y) + 1)) ((y : Int) * y - 1) := by
    refine ((cgM PP x x).mul (Cg.refl _)).trans ⟨-c, ?_⟩
    rw [Int.mul_neg, ← hc]
    grind
  have h3 := h2.trans h1.swap
  have hl : ratN y < pp := fM_lt _ _
  have hm : x * x % pp < pp := Nat.mod_lt _ (by decide)
  generalize x * x % pp = u at *
  generalize ratN y = v at *
  have h4 : ((PP : Nat) : Int) ∣ ((u : Int) - v) * (dE * ((y : Int) * y) + 1) := by rw [Int.sub_mul]; exact h3
  rcases pr_P.int h4 with h5 | h5
  · have h6 := (cg u v PP).2 h5
    rw [← pp_is, Nat.mod_eq_of_lt hm, Nat.mod_eq_of_lt hl] at h6
    exact h6
  · exact absurd h5 (den_not y)
/-- On the curve x may be turned round. -/
theorem on_neg {x y : Nat} (hx : x ≤ pp) (h : On PP dE (x : Int) (y : Int)) : On PP dE ((pp - x : Nat) : Int) (y : Int) := by
  refine rat_on ?_
  rw [square_neg pp x hx]
  exact on_rat h
end NP
/-- The highest bit apart. -/
theorem lev_top (b : List UInt8) (hb : b.length = 32) : lev b = readY b + (readO b).toNat * 57896044618658097711785492504343953926634992332820282019728792003956564819968 ∧ readY b < 57896044618658097711785492504343953926634992332820282019728792003956564819968 := by
  have h1 := lev_step b 31 (by omega)
  have h2 := lev_take_lt b 31 (by omega)
  have h3 := lev_mask b hb
  rw [List.take_of_length_le (by omega)] at h1
  rw [show (8 * 31 : Nat) = 248 from rfl, show (2 : Nat) ^ 248 = 452312848583266388373324160190187140051835877600158453279131187530910662656 from by decide +kernel] at h1 h2
  rw [readY, readO, h3]
  have hq := (b.getD 31 0).toNat_lt
  generalize (b.getD 31 0).toNat = q at *
  generalize lev b = n at *
  generalize lev (b.take 31) = m at *
  by_cases h : 128 ≤ q
  · rw [decide_eq_true h, Bool.toNat_true]; omega
  · rw [decide_eq_false h, Bool.toNat_false]; omega
theorem lev_ptB (x y : Nat) (hy : y < 57896044618658097711785492504343953926634992332820282019728792003956564819968) : lev (ptB x y) = y + x % 2 * 57896044618658097711785492504343953926634992332820282019728792003956564819968 := by
  rw [ptB, lev_putL, show (256 : Nat) ^ 32 = 115792089237316195423570985008687907853269984665640564039457584007913129639936 from by decide +kernel, Nat.mod_eq_of_lt]
  omega
theorem pp_lt {n : Nat} (h : n < pp) : n < 57896044618658097711785492504343953926634992332820282019728792003956564819968 := Nat.lt_trans h (by decide)
/-- A point's bytes are read as it. -/
theorem read_ptB (p : NP.Pt NP.PP NP.dE) : readGood (ptB (NP.Pt.X p) (NP.Pt.Y p)) = true ∧ readT (ptB (NP.Pt.X p) (NP.Pt.Y p)) = (NP.Pt.X p, NP.Pt.Y p, 1) := by
  obtain ⟨hx1, hx⟩ := NP.Pt.X_is p
  obtain ⟨hy1, hy⟩ := NP.Pt.Y_is p
  have hon := p.on
  rw [← hx1, ← hy1] at hon
  have hr := NP.on_rat hon
  generalize NP.Pt.X p = x at *
  generalize NP.Pt.Y p = y at *
  have hl : (ptB x y).length = 32 := ptB_length x y
  obtain ⟨h1, h2⟩ := lev_top (ptB x y) hl
  rw [lev_ptB x y (pp_lt hy)] at h1
  have hy2 : readY (ptB x y) = y := by
    have := pp_lt hy
    generalize readY (ptB x y) = r at *
    generalize readO (ptB x y) = o at *
    cases o
    · rw [Bool.toNat_false] at h1; omega
    · rw [Bool.toNat_true] at h1; omega
  have ho : readO (ptB x y) = decide (x % 2 = 1) := by
    rw [hy2] at h1
    generalize readO (ptB x y) = o at *
    cases o
    · rw [Bool.toNat_false] at h1; exact (decide_eq_false (by omega)).symm
    · rw [Bool.toNat_true] at h1; exact (decide_eq_true (by omega)).symm
  have hX : readX (ptB x y) = if x % 2 = 1 then pp - x else x := by rw [readX, hy2, ← hr]; exact rootN_of x hx
  have hs : isSN (ratN y) = true := by rw [← hr]; exact root_there x hx
  have hg : readGood (ptB x y) = true := by
    rw [readGood, hy2, ho, hX, hs, decide_eq_true hy]
    by_cases h : x % 2 = 1
    · rw [if_pos h, decide_eq_true h, decide_eq_false (by omega)]; rfl
    · rw [decide_eq_false h]; rfl
  refine ⟨hg, ?_⟩
  rw [readT, hg, ho, hX, hy2, cond_true]
  by_cases h : x % 2 = 1
  · rw [if_pos h, decide_eq_true h, cond_true]
    have e : fS 0 (pp - x) = x := by
      rw [fS, Nat.zero_add, Nat.mod_eq_of_lt] <;> omega
    rw [e]
  · rw [if_neg h, decide_eq_false h, cond_false]
theorem neg_even (x : Nat) (h0 : x ≠ 0) (hx : x < pp) (he : x % 2 = 0) : fS 0 x = pp - x ∧ pp - x < pp ∧ (pp - x) % 2 = 1 := by
  have hp : pp % 2 = 1 := by decide
  rw [fS, Nat.zero_add]
  generalize pp = P at *
  exact ⟨Nat.mod_eq_of_lt (by omega), by omega, by omega⟩
/-- Bytes that are read are a point's. -/
theorem read_good (b : List UInt8) (hb : b.length = 32) (hg : readGood b = true) : ∃ p : NP.Pt NP.PP NP.dE, readT b = (NP.Pt.X p, NP.Pt.Y p, 1) ∧ ptB (NP.Pt.X p) (NP.Pt.Y p) = b := by
  obtain ⟨h1, h2⟩ := lev_top b hb
  have hg2 := hg
  rw [readGood, Bool.and_eq_true, Bool.and_eq_true, decide_eq_true_eq, Bool.not_eq_true', Bool.and_eq_false_iff] at hg
  obtain ⟨⟨hy, hs⟩, hxo⟩ := hg
  have hsq := rootN_sq hs
  have hev := rootN_ev (ratN (readY b))
  have hlt := rootN_lt (ratN (readY b))
  have hon := NP.rat_on hsq
  rw [show rootN (ratN (readY b)) = readX b from rfl] at hev hlt hon
  have hne : readX b ≤ pp := Nat.le_of_lt hlt
  have hp2 : pp % 2 = 1 := by decide
  cases ho : readO b with
  | false =>
    rw [ho, Bool.toNat_false, Nat.zero_mul, Nat.add_zero] at h1
    obtain ⟨p, hX, hY, -⟩ := NP.point_at hlt hy hon
    refine ⟨p, ?_, ?_⟩
    · rw [hX, hY, readT, hg2, ho, cond_true, cond_false]
    · rw [hX, hY]
      refine lev_same _ _ (by rw [ptB_length, hb]) ?_
      rw [lev_ptB _ _ h2, hev, h1, Nat.zero_mul, Nat.add_zero]
  | true =>
    rw [ho, Bool.toNat_true, Nat.one_mul] at h1
    have hx0 : readX b ≠ 0 := by
      rcases hxo with h | h
      · rw [ho] at h; cases h
      · exact of_decide_eq_false h
    have hon2 := NP.on_neg hne hon
    obtain ⟨e, hlt2, hodd⟩ := neg_even (readX b) hx0 hlt hev
    obtain ⟨p, hX, hY, -⟩ := NP.point_at hlt2 hy hon2
    refine ⟨p, ?_, ?_⟩
    · rw [hX, hY, readT, hg2, ho, cond_true, cond_true, e]
    · rw [hX, hY]
      refine lev_same _ _ (by rw [ptB_length, hb]) ?_
      rw [lev_ptB _ _ h2, h1]
      rw [hodd, Nat.one_mul]
end Go.Proofs.YtoggkhjaghkpnaaDoor
namespace Go.Proofs.YtoggkhjaghkpnaaDoor
open Go.RowKit
theorem lev_256 (b : List UInt8) (hb : b.length = 32) : lev b < 115792089237316195423570985008687907853269984665640564039457584007913129639936 := lev_lt32 b hb
namespace NP
end NP
/-- A point's bytes. -/
def bytesOf (p : NP.Pt NP.PP NP.dE) : List UInt8 := ptB (NP.Pt.X p) (NP.Pt.Y p)
theorem bytesOf_length (p : NP.Pt NP.PP NP.dE) : (bytesOf p).length = 32 := ptB_length _ _
theorem bytesOf_inj {p q : NP.Pt NP.PP NP.dE} (h : bytesOf p = bytesOf q) : p = q := by
  have h1 := (read_ptB p).2
  have h2 := (read_ptB q).2
  rw [show ptB (NP.Pt.X p) (NP.Pt.Y p) = bytesOf p from rfl, h] at h1
  rw [show ptB (NP.Pt.X q) (NP.Pt.Y q) = bytesOf q from rfl, h1] at h2
  have h3 := Prod.mk.inj h2
  exact NP.Pt.eq_of h3.1 (Prod.mk.inj h3.2).1
/-- Rows of fifteen cells, one behind the other. -/
def rowsV (f : Nat → List Value) : Nat → List Value
  | 0 => []
  | n + 1 => rowsV f n ++ f n
theorem rowsV_length (f : Nat → List Value) (h : ∀ i, (f i).length = 15) : ∀ n, (rowsV f n).length = n * 15
  | 0 => rfl
  | n + 1 => by rw [rowsV, List.length_append, rowsV_length f h n, h]; omega
theorem rowsV_get (f : Nat → List Value) (h : ∀ i, (f i).length = 15) (k : Nat) : ∀ (n : Nat) (T : List Value), k < n → ((rowsV f n ++ T).drop (k * 15)).take 15 = f k
  | n + 1, T, hk => by
    rw [rowsV, List.append_assoc]
    by_cases e : k < n
    · exact rowsV_get f h k n _ e
    · obtain rfl : k = n := by omega
      rw [List.drop_left' (rowsV_length f h k), List.take_left' (h k)]
theorem splice_far (A B c : List Value) (o : Nat) (h : A.length ≤ o) : splice (A ++ B) o c = A ++ splice B (o - A.length) c := by
  rw [splice, splice, List.take_append, List.take_of_length_le h, List.drop_append, List.drop_eq_nil_of_le (by omega), List.nil_append, show o + c.length - A.length = o - A.length + c.length by omega]
  simp only [List.append_assoc]
theorem splice_near (A B c : List Value) (o : Nat) (h : o + c.length ≤ A.length) : splice (A ++ B) o c = splice A o c ++ B := by
  rw [splice, splice, List.take_append_of_le_length (by omega), List.drop_append_of_le_length h]
  simp only [List.append_assoc]
theorem rowsV_set (f : Nat → List Value) (h : ∀ i, (f i).length = 15) (k : Nat) (c : List Value) (hc : c.length = 15) : ∀ (n : Nat), k < n → splice (rowsV f n) (k * 15) c = rowsV (fun i => if i = k then c else f i) n
  | n + 1, hk => by
    have hl := rowsV_length f h n
    rw [rowsV, rowsV]
    by_cases e : k < n
    · rw [splice_near _ _ _ _ (by rw [hl, hc]; omega), rowsV_set f h k c hc n e, if_neg (by omega)]
    · obtain rfl : k = n := by omega
      rw [splice_far _ _ _ _ (by omega), hl, Nat.sub_self, splice_all _ _ (by rw [hc, h]), if_pos rfl]
      congr 1
      have key : ∀ m, m ≤ k → rowsV f m = rowsV (fun i => if i = k then c else f i) m := by
        intro m
        induction m with
        | zero => intro _; rfl
        | succ m ih => intro hm; rw [rowsV, rowsV, ih (by omega), if_neg (by omega)]
      exact key k (Nat.le_refl k)
/-- A share's cells while its multiples are made: those below k are. -/
def mrow (t : Tri) (k i : Nat) : List Value := if i < k then (triU (manyT t i)).map ncell else nzeros 15
theorem mrow_length (t : Tri) (k i : Nat) : (mrow t k i).length = 15 := by
  rw [mrow]
  split
  · rw [List.length_map, triU_length]
  · rfl
def shC (t : Tri) (key : List UInt8) (k : Nat) : List Value := rowsV (mrow t k) 16 ++ key.map cellOf
theorem shC_length (t : Tri) (key : List UInt8) (hk : key.length = 32) (k : Nat) : (shC t key k).length = 272 := by
  rw [shC, List.length_append, rowsV_length _ (mrow_length t k), List.length_map, hk]
theorem map_vcell (l : List Value) : l.map anyc = l := List.map_id l
theorem rowsV_one (f : Nat → List Value) (h : ∀ i, ∀ v ∈ f i, v.oneCell' = true) : ∀ n, ∀ v ∈ rowsV f n, v.oneCell' = true
  | 0, v, hv => absurd hv List.not_mem_nil
  | n + 1, v, hv => by
    rw [rowsV, List.mem_append] at hv
    rcases hv with hv | hv
    · exact rowsV_one f h n v hv
    · exact h n v hv
theorem shC_one (t : Tri) (key : List UInt8) (k : Nat) : ((shC t key k).map anyc).toArray.all (·.oneCell') = true := by
  rw [map_vcell]
  refine all_oneCell_toArray fun v hv => ?_
  rw [shC, List.mem_append] at hv
  rcases hv with hv | hv
  · refine rowsV_one _ (fun i u hu => ?_) 16 v hv
    rw [mrow] at hu
    split at hu
    · obtain ⟨x, _, rfl⟩ := List.mem_map.1 hu; rfl
    · rw [List.eq_of_mem_replicate hu]; rfl
  · exact cells8_one key v hv
theorem shC_zero (t : Tri) (key : List UInt8) : shC t key 0 = nzeros 240 ++ key.map cellOf := by
  have h : mrow t 0 = fun _ => nzeros 15 := by funext i; rw [mrow, if_neg (Nat.not_lt_zero i)]
  rw [shC, h, show rowsV (fun _ => nzeros 15) 16 = nzeros 240 from by kernel_rfl]
theorem shC_set (t : Tri) (key : List UInt8) (k : Nat) (hk : k < 16) : splice (shC t key k) (k * 15) ((triU (manyT t k)).map ncell) = shC t key (k + 1) := by
  have hl := rowsV_length _ (mrow_length t k) 16
  have hc : ((triU (manyT t k)).map ncell).length = 15 := by rw [List.length_map, triU_length]
  rw [shC, splice_near _ _ _ _ (by rw [hl, hc]; omega), rowsV_set _ (mrow_length t k) k _ hc 16 hk, shC]
  congr 2
  funext i
  rw [mrow, mrow]
  by_cases e : i = k
  · subst e; rw [if_pos rfl, if_pos (by omega)]
  · rw [if_neg e]
    by_cases e2 : i < k
    · rw [if_pos e2, if_pos (by omega)]
    · rw [if_neg e2, if_neg (by omega)]
theorem shC_get (t : Tri) (key : List UInt8) (k i : Nat) (hi : i < k) (hk : k ≤ 16) (T : List Value) : ((shC t key k ++ T).drop (i * 15)).take 15 = (triU (manyT t i)).map ncell := by
  rw [shC, List.append_assoc, rowsV_get _ (mrow_length t k) i 16 _ (by omega), mrow, if_pos hi]
theorem umany_any (E : Value) (t : Tri) (key : List UInt8) (w : World) (hk : key.length = 32) (h : TriLt t) (hS : TabsU E w) : Calls Tryd.prog 41 #[numVal (triU t), hashVal key] w (gvn (valsV (shC t key 16)) w) := by
  refine umany_over (triU t) (triU (0, 1, 1)) key (fun k => triU (manyT t k)) (shC t key) E w rfl rfl hk (shC_length t key hk) (shC_one t key) ?_ ?_ uzero_any ?_ hS
  · show _ = _
    rw [map_vcell, map_vcell]
    have h := shC_set t key 0 (by decide)
    rw [Nat.zero_mul] at h
    exact h
  · intro k hk15
    refine ⟨rfl, rfl, fun W hW => uadd_any E (manyT t k) t W (manyT_lt t k) h hW, ?_, ?_⟩
    · rw [map_vcell, Nat.zero_add]
      have h2 := shC_get t key (k + 1) k (by omega) (by omega) []
      rw [List.append_nil] at h2
      exact h2
    · rw [map_vcell, map_vcell, Nat.zero_add]
      exact shC_set t key (k + 1) (by omega)
  · rw [shC_zero]
    exact build_share key hk
theorem dig_cast (q : UInt8) (i : Nat) : (q.toNat : Int) / 2 ^ (i % 2 * 4) % 16 = ((q.toNat / 16 ^ (i % 2) % 16 : Nat) : Int) := by
  rcases Nat.mod_two_eq_zero_or_one i with e | e <;> rw [e]
  · show (q.toNat : Int) / 1 % 16 = ((q.toNat / 1 % 16 : Nat) : Int); omega
  · show (q.toNat : Int) / 16 % 16 = ((q.toNat / 16 % 16 : Nat) : Int); omega
theorem uof_any (g i o : Nat) (A B : List Value) (t : Tri) (key : List UInt8) (t' : TypeId) (w : World) (hk : key.length = 32) (hi : i < 64) (ho : A.length = o) (hC : Cells w g (A ++ (shC t key 16 ++ B)) t') : Calls Tryd.prog 69 #[.pointer (some ⟨g, o, none⟩), .int .i64 (i : Int)] w (gvn (numVal (triU (manyT t (dig key i)))) w) := by
  refine uof_over g o i (dig key i) _ (key.getD (i / 2) 0) (triU (manyT t (dig key i))) t' w hi (dig_lt key i) hC ?_ (dig_cast _ i) rfl ?_
  · show _ = _
    have hl := rowsV_length _ (mrow_length t 16) 16
    rw [List.getElem?_append_right (by omega), ho, show o + 240 + i / 2 - o = 240 + i / 2 by omega, shC, List.append_assoc, List.getElem?_append_right (by omega), hl, show 240 + i / 2 - 16 * 15 = i / 2 by omega, List.getElem?_append_left (by rw [List.length_map, hk]; omega), List.getElem?_map, List.getD_eq_getElem?_getD, List.getElem?_eq_getElem (by omega)]
    rfl
  · show _ = _
    rw [List.drop_append, List.drop_eq_nil_of_le (by omega), List.nil_append, ho, show o + dig key i * 15 - o = dig key i * 15 by omega]
    exact shC_get t key 16 _ (dig_lt key i) (Nat.le_refl _) B
def twN (t : Tri) : Nat → Tri
  | 0 => t
  | j + 1 => twT (twN t j)
theorem urad_any (t : Tri) (w : World) (h : TriLt t) : Calls Tryd.prog 67 #[numVal (triU t)] w (gvn (numVal (triU (radT t))) w) := by
  have hl : ∀ j, TriLt (twN t j) := fun j => by
    cases j with
    | zero => exact h
    | succ j => exact twT_lt _
  exact urad_over (triU t) (fun j => triU (twN t j)) w rfl (fun _ => rfl) (fun j _ W => utw_any _ W (hl j))
/-- The shares' sum, where the j-th's multiple by digit i is f i j. -/
theorem usum_any (E : Value) (m gs : Nat) (vs : List Value) (f : Nat → Nat → Tri) (w : World) (hm : m ≤ 1000000) (hC : Cells w gs (vs.map anyc) 81) (hf : ∀ i j, TriLt (f i j))
    (hF : ∀ i j : Nat, i < 64 → j < m → ∀ W, Cells W gs (vs.map anyc) 81 → Calls Tryd.prog 69 #[.pointer (some ⟨gs, 0 + j * 272, none⟩), .int .i64 (i : Int)] W (gvn (numVal (triU (f i j))) W)) (hS : TabsU E w) :
    Calls Tryd.prog 40 #[.slice (some ⟨gs, 0, none⟩) m m] w (gvn (numVal (triU (outT m f 64))) w) := by
  refine usum_over m gs vs (triU (0, 1, 1)) (fun k => triU (outT m f (64 - k))) (fun k j => triU (innT (f k) (radT (outT m f (63 - k))) j)) E w hm hC rfl rfl (fun _ => rfl) ?_ uzero_any hS
  intro k hk
  have e : 64 - k = 63 - k + 1 := by omega
  have e2 : 64 - (k + 1) = 63 - k := by omega
  have e3 : 63 - (63 - k) = k := by omega
  refine ⟨fun W => ?_, fun _ => rfl, fun j hj => ⟨triU (f k j), rfl, hF k j hk hj, fun W hW => uadd_any E _ _ W (innT_lt _ _ (radT_lt _) j) (hf k j) hW⟩, ?_⟩
  · show Calls Tryd.prog 67 #[numVal (triU (outT m f (64 - (k + 1))))] W _
    rw [e2]
    exact urad_any _ W (outT_lt m f _)
  · show triU (innT (f k) (radT (outT m f (63 - k))) m) = triU (outT m f (64 - k))
    rw [e, outT, e3]
/-- So many times a point. -/
def oneF (t : Tri) (key : List UInt8) (i _j : Nat) : Tri := manyT t (dig key i)
def timesU (t : Tri) (key : List UInt8) : Tri := outT 1 (oneF t key) 64
theorem utimes_any (E : Value) (t : Tri) (key : List UInt8) (w : World) (hk : key.length = 32) (h : TriLt t) (hS : TabsU E w) : Calls Tryd.prog 25 #[numVal (triU t), hashVal key] w (gvn (numVal (triU (timesU t key))) w) := by
  refine utimes_over (triU t) (triU (timesU t key)) key (shC t key 16) E w rfl rfl hk (shC_length t key hk 16) (fun W hW => umany_any E t key W hk h hW) ?_ hS
  intro g W hC hW
  refine usum_any E 1 g _ (oneF t key) W (by decide) hC (fun i j => manyT_lt _ _) ?_ hW
  intro i j hi hj V hV
  obtain rfl : j = 0 := by omega
  rw [map_vcell] at hV
  refine uof_any g i (0 + 0 * 272) [] [] t key 81 V hk hi rfl ?_
  rw [List.nil_append, List.append_nil]
  exact hV
/-- So many times a point, and so many times another. -/
def twoF (t u : Tri) (kh ks : List UInt8) (i j : Nat) : Tri := if j = 0 then manyT t (dig kh i) else manyT u (dig ks i)
def withU (t u : Tri) (kh ks : List UInt8) : Tri := outT 2 (twoF t u kh ks) 64
theorem twoF_lt (t u : Tri) (kh ks : List UInt8) (i j : Nat) : TriLt (twoF t u kh ks i j) := by
  rw [twoF]
  split <;> exact manyT_lt _ _
theorem uwith_any (E : Value) (t : Tri) (kh ks : List UInt8) (w : World) (hh : kh.length = 32) (hs : ks.length = 32) (h : TriLt t) (hS : TabsU E w) : Calls Tryd.prog 18 #[numVal (triU t), hashVal kh, hashVal ks] w (gvn (numVal (triU (withU t baseT kh ks))) w) := by
  have l1 := shC_length t kh hh 16
  have l2 := shC_length baseT ks hs 16
  refine uwith_over (triU t) (triU baseT) (triU (withU t baseT kh ks)) kh ks (shC t kh 16) (shC baseT ks 16) E w rfl rfl hh hs l1 l2 (fun W hW => umany_any E t kh W hh h hW) (fun W hW => umany_any E baseT ks W hs baseT_lt hW) (ubase_any E) ?_ hS
  intro g W hC hW
  refine usum_any E 2 g _ (twoF t baseT kh ks) W (by decide) hC (twoF_lt _ _ _ _) ?_ hW
  intro i j hi hj V hV
  rw [map_vcell] at hV
  obtain rfl | rfl : j = 0 ∨ j = 1 := by omega
  · refine uof_any g i (0 + 0 * 272) [] (shC baseT ks 16) t kh 81 V hh hi rfl ?_
    rw [List.nil_append]
    exact hV
  · refine uof_any g i (0 + 1 * 272) (shC t kh 16) [] baseT ks 81 V hs hi (by rw [l1]) ?_
    rw [List.append_nil]
    exact hV
namespace NP
theorem timesU_rep {p : Pt PP dE} {t : Tri} (r : RepN p t) (key : List UInt8) (hk : key.length = 32) : RepN (edw.mul p (lev key)) (timesU t key) := by
  have h := one_rep r key (oneF t key) (fun _ => rfl) 64
  rw [preD_is (lev_256 key hk) 64 0 rfl, Nat.pow_zero, Nat.div_one] at h
  exact h
theorem withU_rep {p : Pt PP dE} {t : Tri} (r : RepN p t) (kh ks : List UInt8) (hh : kh.length = 32) (hs : ks.length = 32) : RepN (edw.add (edw.mul p (lev kh)) (edw.mul bE (lev ks))) (withU t baseT kh ks) := by
  have h := two_rep r baseT_rep kh ks (twoF t baseT kh ks) (fun _ => rfl) (fun _ => rfl) 64
  rw [preD_is (lev_256 kh hh) 64 0 rfl, preD_is (lev_256 ks hs) 64 0 rfl, Nat.pow_zero, Nat.div_one, Nat.div_one] at h
  exact h
end NP
theorem ubytes_pt {p : NP.Pt NP.PP NP.dE} {t : Tri} (r : NP.RepN p t) (w : World) : Calls Tryd.prog 19 #[numVal (triU t)] w (gvn (hashVal (bytesOf p)) w) := by
  have h := ubytes_any t w r.lt
  rw [r.over.1, r.over.2] at h
  exact h
end Go.Proofs.YtoggkhjaghkpnaaDoor
namespace Go.Proofs.YtoggkhjaghkpnaaDoor.NP
theorem mul_nought {P : Nat} {d i : Int} (h : Edw P d i) : ∀ n, h.mul h.zero n = h.zero
  | 0 => rfl
  | n + 1 => by show h.add (h.mul h.zero n) h.zero = h.zero; rw [h.add_zero, mul_nought h n]
theorem sum_four {P : Nat} {d i : Int} (h : Edw P d i) (a b c e : Pt P d) : h.add (h.add a b) (h.add c e) = h.add (h.add a c) (h.add b e) := by
  rw [h.add_assoc, ← h.add_assoc b c e, h.add_comm b c, h.add_assoc c b e, ← h.add_assoc]
/-- So often the opposite is the opposite of so often. -/
theorem neg_often {P : Nat} {d i : Int} (h : Edw P d i) (p : Pt P d) : ∀ n, h.add (h.mul p.neg n) (h.mul p n) = h.zero
  | 0 => h.add_zero _
  | n + 1 => by
    show h.add (h.add (h.mul p.neg n) p.neg) (h.add (h.mul p n) p) = h.zero
    rw [sum_four, neg_often h p n, h.neg_add, h.add_zero]
theorem add_cancel {P : Nat} {d i : Int} (h : Edw P d i) {p a b : Pt P d} (e : h.add p a = h.add p b) : a = b := by
  have h2 := congrArg (h.add p.neg) e
  rw [← h.add_assoc, ← h.add_assoc, h.neg_add, h.zero_add, h.zero_add] at h2
  exact h2
/-- Multiples of the base point go by the order. -/
theorem base_mod (n : Nat) : edw.mul bE (n % LL) = edw.mul bE n := by
  have e := Nat.div_add_mod n LL
  have h : edw.mul bE (LL * (n / LL) + n % LL) = edw.mul bE (n % LL) := by
    rw [edw.mul_add, ← edw.mul_mul, order_zero, mul_nought, edw.zero_add]
  rw [e] at h
  exact h.symm
theorem base_inj {m n : Nat} (hm : m < LL) (hn : n < LL) (e : edw.mul bE m = edw.mul bE n) : m = n := by
  have key : ∀ {m n : Nat}, n < LL → m ≤ n → edw.mul bE m = edw.mul bE n → m = n := fun {m n} hn hmn e => by
    have h1 : edw.add (edw.mul bE m) (edw.mul bE (n - m)) = edw.add (edw.mul bE m) edw.zero := by
      rw [← edw.mul_add, Nat.add_sub_cancel' hmn, edw.add_zero, e]
    have h2 := add_cancel edw h1
    by_cases h3 : LL ∣ n - m
    · have := Nat.eq_zero_of_dvd_of_lt h3 (by omega)
      omega
    · exact absurd h2 (base_mul _ h3)
  rcases Nat.le_total m n with h | h
  · exact key hn h e
  · exact (key hm h e.symm).symm
/-- What a signature's second half makes: less the challenge so often the key's point, the first half's. -/
theorem sign_point (r k a : Nat) : edw.add (edw.mul (edw.mul bE a).neg k) (edw.mul bE ((r + k * a) % LL)) = edw.mul bE r := by
  rw [base_mod, Nat.add_comm, edw.mul_add, ← edw.add_assoc, Nat.mul_comm, ← edw.mul_mul, neg_often, edw.zero_add]
/-- A point by its numbers over one denominator. -/
theorem pt_coords {p : Pt PP dE} {X Y Z : Int} (r : Rep p X Y Z) (x y : Nat) (hx : x < PP) (hy : y < PP) (ex : (X - x * Z) % ((PP : Nat) : Int) = 0) (ey : (Y - y * Z) % ((PP : Nat) : Int) = 0) : p.x = x ∧ p.y = y := by
  have key : ∀ {u U : Int} {v : Nat}, u % ((PP : Nat) : Int) = u → v < PP → Cg ((PP : Nat) : Int) U (u * Z) → (U - v * Z) % ((PP : Nat) : Int) = 0 → u = v := fun {u U v} hu hv hU he => by
    have h1 : ((PP : Nat) : Int) ∣ (u - v) * Z := by
      have h2 := Int.dvd_sub (Int.dvd_of_emod_eq_zero he) hU
      rwa [show U - (v : Int) * Z - (U - u * Z) = (u - v) * Z by rw [Int.sub_mul]; omega] at h2
    have h3 := (pr_P.int h1).resolve_right r.nz
    rw [← hu, ← Int.emod_eq_of_lt (show (0 : Int) ≤ (v : Int) by omega) (show (v : Int) < ((PP : Nat) : Int) by omega)]
    exact Int.emod_eq_emod_iff_emod_sub_eq_zero.2 (Int.emod_eq_zero_of_dvd h3)
  exact ⟨key p.xl hx r.hx ex, key p.yl hy r.hy ey⟩
/-- A multiple of the base point, run. -/
theorem base_at (n x y : Nat) (hn : n < 2 ^ 256) (hx : x < PP) (hy : y < PP)
    (h : ((mulR PP dE (bxE, byE, 1) 256 n).1 - x * (mulR PP dE (bxE, byE, 1) 256 n).2.2) % ((PP : Nat) : Int) = 0 ∧ ((mulR PP dE (bxE, byE, 1) 256 n).2.1 - y * (mulR PP dE (bxE, byE, 1) 256 n).2.2) % ((PP : Nat) : Int) = 0) :
    (edw.mul bE n).x = x ∧ (edw.mul bE n).y = y :=
  pt_coords (Rep.mulR edw (b := (bxE, byE, 1)) bE_rep 256 n hn) x y hx hy h.1 h.2
end Go.Proofs.YtoggkhjaghkpnaaDoor.NP
namespace Go.Proofs.YtoggkhjaghkpnaaDoor
open Go.RowKit
/-- A clamped key. -/
def clampL (k : List UInt8) : List UInt8 := (k.set 0 (k.getD 0 0 / 8 * 8)).set 31 (k.getD 31 0 % 64 + 64)
theorem clampL_length (k : List UInt8) : (clampL k).length = k.length := by rw [clampL, List.length_set, List.length_set]
theorem cell_at (k : List UInt8) (j : Nat) (h : j < k.length) : (k.map cellOf)[j]? = some (cellOf (k.getD j 0)) := by
  rw [List.getElem?_map, List.getD_eq_getElem?_getD, List.getElem?_eq_getElem h]; rfl
theorem andnot_7 : ∀ x : Fin 256, bits .andNot .u8 (x.val : Int) 7 = ((x.val / 8 * 8 : Nat) : Int) := by decide +kernel
theorem andnot_128 : ∀ x : Fin 256, bits .andNot .u8 (x.val : Int) 128 = ((x.val % 128 : Nat) : Int) := by decide +kernel
theorem or_64 : ∀ x : Fin 256, bits .or .u8 ((x.val % 128 : Nat) : Int) 64 = ((x.val % 64 + 64 : Nat) : Int) := by decide +kernel
set_option maxRecDepth 100000 in
set_option maxHeartbeats 2000000 in
theorem clamp_over (b c0 c1 c : List UInt8) (q0 q1 v0 v1 v2 : UInt8) (w : World) (HB : Hid (b.length = 32)) (HC0 : Hid (c0 = b.set 0 v0)) (HC1 : Hid (c1 = c0.set 31 v1)) (HC : Hid (c = c1.set 31 v2)) (D0 : Hid ((b.map cellOf)[0]? = some (cellOf q0))) (D1 : Hid ((c0.map cellOf)[31]? = some (cellOf q1))) (D2 : Hid ((c1.map cellOf)[31]? = some (cellOf v1)))
    (e1 : bits .andNot .u8 (q0.toNat : Int) 7 = (v0.toNat : Int)) (e2 : bits .andNot .u8 (q1.toNat : Int) 128 = (v1.toNat : Int)) (e3 : bits .or .u8 (v1.toNat : Int) 64 = (v2.toNat : Int)) :
    Calls Tryd.prog 21 #[hashVal b] w (gvn (hashVal c) w) := by
  have HL0 : Hid (c0.length = 32) := by show _ = _; rw [HC0.out, List.length_set]; exact HB.out
  have HL1 : Hid (c1.length = 32) := by show _ = _; rw [HC1.out, List.length_set]; exact HL0.out
  have HLC : Hid (c.length = 32) := by show _ = _; rw [HC.out, List.length_set]; exact HL1.out
  go_enter Tryd.func21, Tryd.ntmps21
  go_wp2_with (first
    | (refine take_step rfl 23 (.tmp 0) rfl b rfl ?_
       intro w1 hB1 hA1 hz
       clear hz
       try simp only [putS]
       skip)
    | (refine vzero_step rfl 23 rfl (List.replicate 32 (cellOf 0)) zero_k32 ?_
       intro w3 hb3 hZ3
       have hB3 := below_then hB1 hb3
       have hA3 := hA1.on hb3
       have hg2 := hA1.lt
       clear hB1 hA1 hb3
       have d1 := hA3.get D0.out
       have hT := hA3.there 0 1 (by rw [List.length_map, HB.out]; decide)
       have hE := Lib.hid (hA3.set 0 (cellOf v0))
       try simp only [putS]
       skip)
    | (refine store_step rfl 5 _ _ rfl w.heap.size 0 .u8 (v0.toNat : Int) rfl rfl size_u8 hT ?_
       intro w5 hw5
       have hB5 : Below w.heap.size w w5 := by rw [hw5]; exact hB3.setCell (p := ⟨w.heap.size, 0, none⟩) (Nat.le_refl _) _
       have hA5 : Cells w5 w.heap.size (c0.map cellOf) 23 := by rw [hw5, HC0.out, List.map_set]; exact hE.out
       have hZ5 : Cells w5 w1.heap.size (List.replicate 32 (cellOf 0)) 23 := by rw [hw5]; exact hZ3.other (by show w1.heap.size ≠ w.heap.size; omega) _
       clear hw5 hT hE hB3 hA3 hZ3 d1 D0 HC0
       have d1 := hA5.get D1.out
       have hT := hA5.there 31 1 (by rw [List.length_map, HL0.out]; decide)
       have hE := Lib.hid (hA5.set 31 (cellOf v1)))
    | (refine store_step rfl 5 _ _ rfl w.heap.size 31 .u8 (v1.toNat : Int) rfl rfl size_u8 hT ?_
       intro w6 hw6
       have hB6 : Below w.heap.size w w6 := by rw [hw6]; exact hB5.setCell (p := ⟨w.heap.size, 31, none⟩) (Nat.le_refl _) _
       have hA6 : Cells w6 w.heap.size (c1.map cellOf) 23 := by rw [hw6, HC1.out, List.map_set]; exact hE.out
       have hZ6 : Cells w6 w1.heap.size (List.replicate 32 (cellOf 0)) 23 := by rw [hw6]; exact hZ5.other (by show w1.heap.size ≠ w.heap.size; omega) _
       clear hw6 hT hE hB5 hA5 hZ5 d1 D1 HC1
       have d1 := hA6.get D2.out
       have hT := hA6.there 31 1 (by rw [List.length_map, HL1.out]; decide)
       have hE := Lib.hid (hA6.set 31 (cellOf v2)))
    | (refine store_step rfl 5 _ _ rfl w.heap.size 31 .u8 (v2.toNat : Int) rfl rfl size_u8 hT ?_
       intro w7 hw7
       have hB7 : Below w.heap.size w w7 := by rw [hw7]; exact hB6.setCell (p := ⟨w.heap.size, 31, none⟩) (Nat.le_refl _) _
       have hA7 : Cells w7 w.heap.size (c.map cellOf) 23 := by rw [hw7, HC.out, List.map_set]; exact hE.out
       have hZ7 : Cells w7 w1.heap.size (List.replicate 32 (cellOf 0)) 23 := by rw [hw7]; exact hZ6.other (by show w1.heap.size ≠ w.heap.size; omega) _
       clear hw7 hT hE hB6 hA6 hZ6 d1 D2 HC)
    | (refine get_step rfl 23 (.tmp 1) rfl w.heap.size 32 c _ rfl hA7 Tryd.underlying23 size_k32 HLC.out ?_
       try simp only [putS]
       skip)
    | (refine set_step rfl 23 _ _ rfl w1.heap.size 32 (List.replicate 32 (cellOf 0)) c rfl rfl hZ7 (by simp) size_k32 HLC.out ?_
       intro w8 hb8 hC8 _))
  exact ret_hash Tryd.results21 w1.heap.size c rfl hC8 Tryd.underlying23 size_k32 HLC.out rfl ⟨rfl, hB7.trans (hb8.below (by omega) hB7.size)⟩
theorem clamp_any (b : List UInt8) (w : World) (hb : b.length = 32) : Calls Tryd.prog 21 #[hashVal b] w (gvn (hashVal (clampL b)) w) := by
  have h1 : ∀ q : UInt8, (q / 8 * 8).toNat = q.toNat / 8 * 8 := fun q => by
    have := q.toNat_lt
    rw [UInt8.toNat_mul, UInt8.toNat_div]
    show q.toNat / 8 * 8 % 256 = _
    omega
  have h2 : ∀ q : UInt8, (q % 64 + 64).toNat = q.toNat % 64 + 64 := fun q => by
    rw [UInt8.toNat_add, UInt8.toNat_mod]
    show (q.toNat % 64 + 64) % 256 = _
    omega
  have h3 : ∀ q : UInt8, (q % 128).toNat = q.toNat % 128 := fun q => by rw [UInt8.toNat_mod]; rfl
  refine clamp_over b (b.set 0 (b.getD 0 0 / 8 * 8)) ((b.set 0 (b.getD 0 0 / 8 * 8)).set 31 (b.getD 31 0 % 128)) _ (b.getD 0 0) (b.getD 31 0) _ (b.getD 31 0 % 128) (b.getD 31 0 % 64 + 64) w hb rfl rfl ?_ (cell_at b 0 (by omega)) ?_ ?_ ?_ ?_ ?_
  · show _ = _
    rw [List.set_set, clampL]
  · show _ = _
    rw [List.getElem?_map, List.getElem?_set_ne (by decide), ← List.getElem?_map]
    exact cell_at b 31 (by omega)
  · show _ = _
    rw [List.getElem?_map, List.getElem?_set_self (by rw [List.length_set]; omega)]
    rfl
  · rw [h1]; exact andnot_7 ⟨_, (b.getD 0 0).toNat_lt⟩
  · rw [h3]; exact andnot_128 ⟨_, (b.getD 31 0).toNat_lt⟩
  · rw [h2, h3]; exact or_64 ⟨_, (b.getD 31 0).toNat_lt⟩
/-- A seed's number's bytes, and its prefix. -/
def sgA (seed : List UInt8) : List UInt8 := clampL ((widSum seed).take 32)
def sgPre (seed : List UInt8) : List UInt8 := (widSum seed).drop 32
/-- A digest modulo l. -/
def sgMod (b : List UInt8) : Nat := lev (widSum b) % NP.LL
noncomputable def sgPub (seed : List UInt8) : List UInt8 := bytesOf (NP.edw.mul NP.bE (lev (sgA seed)))
def sgNum (seed text : List UInt8) : Nat := sgMod (sgPre seed ++ text)
/-- A signature's first half, its second half's number, and the signature. -/
noncomputable def sgR (seed text : List UInt8) : List UInt8 := bytesOf (NP.edw.mul NP.bE (sgNum seed text))
noncomputable def sgS (seed text : List UInt8) : Nat := (sgNum seed text + sgMod (sgR seed text ++ sgPub seed ++ text) * lev (sgA seed)) % NP.LL
noncomputable def sgSign (seed text : List UInt8) : List UInt8 := sgR seed text ++ putL (sgS seed text) 32
/-- The point of a key's bytes. -/
noncomputable def sgPt (pub : List UInt8) : NP.Pt NP.PP NP.dE := if h : pub.length = 32 ∧ readGood pub = true then Classical.choose (read_good pub h.1 h.2) else NP.edw.zero
/-- Is a signature right? -/
noncomputable def sgOk (pub sig text : List UInt8) : Bool := decide (lev (sig.drop 32) < NP.LL) && (readGood pub && (bytesOf (NP.edw.add (NP.edw.mul (sgPt pub).neg (sgMod (sig.take 32 ++ pub ++ text))) (NP.edw.mul NP.bE (lev (sig.drop 32)))) == sig.take 32))
theorem sgPub_length (seed : List UInt8) : (sgPub seed).length = 32 := bytesOf_length _
theorem sgR_length (seed text : List UInt8) : (sgR seed text).length = 32 := bytesOf_length _
theorem sgSign_length (seed text : List UInt8) : (sgSign seed text).length = 64 := by rw [sgSign, List.length_append, sgR_length, putL_length]
theorem sgPt_of (pub : List UInt8) (hl : pub.length = 32) (hg : readGood pub = true) : readT pub = (NP.Pt.X (sgPt pub), NP.Pt.Y (sgPt pub), 1) ∧ bytesOf (sgPt pub) = pub := by
  have h := Classical.choose_spec (read_good pub hl hg)
  have e : sgPt pub = Classical.choose (read_good pub hl hg) := by rw [sgPt, dif_pos ⟨hl, hg⟩]
  rw [e]
  exact h
theorem sgPt_is (p : NP.Pt NP.PP NP.dE) : readGood (bytesOf p) = true ∧ sgPt (bytesOf p) = p := by
  have hg : readGood (bytesOf p) = true := (read_ptB p).1
  exact ⟨hg, bytesOf_inj (sgPt_of (bytesOf p) (bytesOf_length p) hg).2⟩
theorem LL_pos : 0 < NP.LL := by decide +kernel
theorem sgS_lt (seed text : List UInt8) : sgS seed text < NP.LL := Nat.mod_lt _ LL_pos
theorem lev_putLL (n : Nat) (h : n < NP.LL) : lev (putL n 32) = n := by
  rw [lev_putL, Nat.mod_eq_of_lt (Nat.lt_trans h (by decide +kernel))]
theorem sgA_length (seed : List UInt8) : (sgA seed).length = 32 := by rw [sgA, clampL_length, List.length_take, widSum_length]; rfl
theorem sgPre_length (seed : List UInt8) : (sgPre seed).length = 32 := by rw [sgPre, List.length_drop, widSum_length]
theorem sgMod_lt (b : List UInt8) : sgMod b < NP.LL := Nat.mod_lt _ LL_pos
theorem sgNum_lt (seed text : List UInt8) : sgNum seed text < NP.LL := Nat.mod_lt _ LL_pos
/-- A first half with whatever second half is right just where that is the signature's. -/
theorem sg_right (seed text other : List UInt8) (ho : other.length = 32) : sgOk (sgPub seed) (sgR seed text ++ other) text = (other == putL (sgS seed text) 32) := by
  obtain ⟨hg, hp⟩ := sgPt_is (NP.edw.mul NP.bE (lev (sgA seed)))
  have hS := sgS_lt seed text
  rw [sgOk, List.drop_left' (sgR_length seed text), List.take_left' (sgR_length seed text), show readGood (sgPub seed) = true from hg, show sgPt (sgPub seed) = _ from hp, Bool.true_and]
  have hpt := NP.sign_point (sgNum seed text) (sgMod (sgR seed text ++ sgPub seed ++ text)) (lev (sgA seed))
  rw [show (sgNum seed text + sgMod (sgR seed text ++ sgPub seed ++ text) * lev (sgA seed)) % NP.LL = sgS seed text from rfl] at hpt
  by_cases h : lev other < NP.LL
  · rw [decide_eq_true h, Bool.true_and, Bool.eq_iff_iff, beq_iff_eq, beq_iff_eq]
    constructor
    · intro h2
      have h3 := bytesOf_inj (show bytesOf _ = bytesOf (NP.edw.mul NP.bE (sgNum seed text)) from h2)
      rw [← hpt] at h3
      have h4 := NP.base_inj h hS (NP.add_cancel NP.edw h3)
      exact lev_same _ _ (by rw [ho, putL_length]) (by rw [lev_putLL _ hS]; exact h4)
    · intro h2
      rw [h2, lev_putLL _ hS, hpt]
      rfl
  · rw [decide_eq_false h, Bool.false_and]
    refine (beq_eq_false_iff_ne.2 fun h2 => h ?_).symm
    rw [h2, lev_putLL _ hS]
    exact hS
theorem sg_verifies (seed text : List UInt8) : sgOk (sgPub seed) (sgSign seed text) text = true := by
  rw [sgSign, sg_right seed text _ (putL_length _ _), beq_self_eq_true]
/-- Where another seed's key verifies it, the challenges' products are the same modulo l. -/
theorem sg_numbers (seed other text : List UInt8) (h : sgOk (sgPub other) (sgSign seed text) text = true) :
    (sgNum seed text + sgMod (sgR seed text ++ sgPub seed ++ text) * lev (sgA seed)) % NP.LL = (sgNum seed text + sgMod (sgR seed text ++ sgPub other ++ text) * lev (sgA other)) % NP.LL := by
  obtain ⟨-, hp⟩ := sgPt_is (NP.edw.mul NP.bE (lev (sgA other)))
  have hS := sgS_lt seed text
  rw [sgOk, sgSign, List.drop_left' (sgR_length seed text), List.take_left' (sgR_length seed text), show sgPt (sgPub other) = _ from hp, Bool.and_eq_true, Bool.and_eq_true, lev_putLL _ hS, beq_iff_eq] at h
  have h2 := bytesOf_inj (show bytesOf _ = bytesOf (NP.edw.mul NP.bE (sgNum seed text)) from h.2.2)
  have hpt := NP.sign_point (sgNum seed text) (sgMod (sgR seed text ++ sgPub other ++ text)) (lev (sgA other))
  rw [← hpt] at h2
  exact NP.base_inj hS (Nat.mod_lt _ LL_pos) (NP.add_cancel NP.edw h2)
/-- What package sign's calls read stands: shawide's tables, scalar's, field's and api.ErrForm. -/
def SgTabs (E : Value) (w : World) : Prop := TabsW w ∧ TabsS w ∧ TabsU E w
theorem SgTabs.below {E : Value} {w w' : World} (h : SgTabs E w) (hb : Below w.heap.size w w') : SgTabs E w' := ⟨h.1.below hb, h.2.1.below hb, h.2.2.below hb⟩
/-- So many parts stand at an address. -/
def PartsAt (D : Option Addr) (ps : List (List UInt8)) (w : World) : Prop := Parts w w.heap.size D ps
theorem PartsAt.below {D : Option Addr} {ps : List (List UInt8)} {w w' : World} (h : PartsAt D ps w) (hb : Below w.heap.size w w') : PartsAt D ps w' := (Parts.below h hb).more hb.size
theorem parts_cells {w : World} {g : Nat} {vs : List Value} {t : TypeId} {ps : List (List UInt8)} (hC : Cells w g vs t) (h : ∀ (j : Nat) (us : List UInt8), ps[j]? = some us → ∃ v, vs[j]? = some v ∧ Part w w.heap.size v us) : Parts w w.heap.size (some ⟨g, 0, none⟩) ps :=
  .inr ⟨g, 0, rfl, hC.lt, fun j us hu => by
    obtain ⟨v, h1, h2⟩ := h j us hu
    exact ⟨v, by rw [Nat.zero_add]; exact hC.get h1, h2⟩⟩
theorem part_cells {w : World} {g : Nat} {l : List UInt8} {t : TypeId} (hC : Cells w g (l.map cellOf) t) (n c : Nat) (hn : l.length = n) (hc : n ≤ c) (hm : c ≤ maxLen) : Part w w.heap.size (.slice (some ⟨g, 0, none⟩) n c) l :=
  ⟨_, c, by rw [hn], Cells.row (m := l.length) hC (by rw [List.take_of_length_le (by rw [List.length_map]; exact Nat.le_refl _)]), by rw [hn]; exact hc, hm, fun h => by cases h⟩
abbrev zsig : List Value := List.replicate 64 (cellOf 0)
theorem zero_sig : ∀ w, (zeroValue 27).run Tryd.prog w = .ok (.agg zsig.toArray) w := (zero_of_info (P := Tryd.prog) (t := 27) (v := .agg zsig.toArray) (n := 64) (by kernel_rfl)).1
theorem size_sig : (Tryd.prog.info? 27).map (·.size) = some 64 := by kernel_rfl
theorem k64_low (g : Nat) (w : World) : (Instr.sliceAt 26 (.pointer (some ⟨g, 0, none⟩)) none (some (.int .i64 32)) none).run Tryd.prog w = .ok (.slice (some ⟨g, 0, none⟩) 32 64) w := by kernel_rfl
theorem k64_high (g : Nat) (w : World) : (Instr.sliceAt 26 (.pointer (some ⟨g, 0, none⟩)) (some (.int .i64 32)) none none).run Tryd.prog w = .ok (.slice (some ⟨g, 32, none⟩) 32 32) w := by kernel_rfl
theorem lit_parts1 (A : Option Addr) (n c : Nat) (w : World) : (Instr.buildSlice 32 1 #[(0, .slice A n c)]).run Tryd.prog w = .ok (.slice (some ⟨w.heap.size, 0, none⟩) 1 1) (w.alloc (.cells ([.slice A n c].map anyc).toArray 24)) := by kernel_rfl
theorem lit_parts2 (A B : Option Addr) (n c m d : Nat) (w : World) : (Instr.buildSlice 32 2 #[(0, .slice A n c), (1, .slice B m d)]).run Tryd.prog w = .ok (.slice (some ⟨w.heap.size, 0, none⟩) 2 2) (w.alloc (.cells ([.slice A n c, .slice B m d].map anyc).toArray 24)) := by kernel_rfl
theorem lit_rows2 (A B : Option Addr) (n c m d : Nat) (w : World) : (Instr.buildSlice 93 2 #[(0, .slice A n c), (1, .slice B m d)]).run Tryd.prog w = .ok (.slice (some ⟨w.heap.size, 0, none⟩) 2 2) (w.alloc (.cells ([.slice A n c, .slice B m d].map anyc).toArray 32)) := by kernel_rfl
theorem info_key : ∃ i0, Tryd.prog.info? 23 = some i0 ∧ i0.size = 32 ∧ i0.zero = some (.agg kzeros.toArray) := by
  have h : (Tryd.prog.info? 23).map (fun i => (i.size, i.zero)) = some (32, some (.agg kzeros.toArray)) := by kernel_rfl
  obtain ⟨i0, h1, h2⟩ := Option.map_eq_some_iff.1 h
  exact ⟨i0, h1, (Prod.mk.inj h2).1, (Prod.mk.inj h2).2⟩
theorem zero_rowK (n : Nat) : ∃ A : List Value, A.length = n ∧ A.toArray = (Array.range n).map (fun x => (Value.cells (.agg kzeros.toArray))[x % (Value.cells (.agg kzeros.toArray)).size]!) :=
  ⟨((Array.range n).map (fun x => (Value.cells (.agg kzeros.toArray))[x % (Value.cells (.agg kzeros.toArray)).size]!)).toList, by simp, Array.toArray_toList⟩
theorem hash_cells (l : List UInt8) : (hashVal l).cells = (l.map cellOf).toArray := Eq.trans (b := (l.map cellOf).toArray) rfl rfl
theorem lit_keys1 (a : List UInt8) (ha : a.length = 32) (w : World) : (Instr.buildSlice 56 1 #[(0, hashVal a)]).run Tryd.prog w = .ok (.slice (some ⟨w.heap.size, 0, none⟩) 1 1) (w.alloc (.cells (a.map cellOf).toArray 23)) := by
  obtain ⟨i0, hi0, hs0, hz0⟩ := info_key
  refine run_buildSlice w _ _ 1 _ _ i0 _ (by kernel_rfl) hi0 hz0 (by rw [hs0]; decide) (by rw [hs0]; decide) ?_
  rw [hs0]
  obtain ⟨A, hl, hA⟩ := zero_rowK (1 * 32)
  rw [← hA]
  have hla : (a.map cellOf).length = 32 := by rw [List.length_map, ha]
  simp only [Instr.fill, hash_cells]
  rw [if_neg (by simp [ha, hl])]
  rw [Nat.zero_mul, fold_agg (a.map cellOf) 0 A (by omega), splice_all _ _ (by omega)]
theorem lit_keys2 (a b : List UInt8) (ha : a.length = 32) (hb : b.length = 32) (w : World) : (Instr.buildSlice 56 2 #[(0, hashVal a), (1, hashVal b)]).run Tryd.prog w = .ok (.slice (some ⟨w.heap.size, 0, none⟩) 2 2) (w.alloc (.cells ((a ++ b).map cellOf).toArray 23)) := by
  obtain ⟨i0, hi0, hs0, hz0⟩ := info_key
  refine run_buildSlice w _ _ 2 _ _ i0 _ (by kernel_rfl) hi0 hz0 (by rw [hs0]; decide) (by rw [hs0]; decide) ?_
  rw [hs0]
  obtain ⟨A, hl, hA⟩ := zero_rowK (2 * 32)
  rw [← hA]
  have hla : (a.map cellOf).length = 32 := by rw [List.length_map, ha]
  have hlb : (b.map cellOf).length = 32 := by rw [List.length_map, hb]
  simp only [Instr.fill, hash_cells]
  rw [if_neg (by simp [ha, hl])]
  rw [Nat.zero_mul, fold_agg (a.map cellOf) 0 A (by omega)]
  have l1 : (splice A 0 (a.map cellOf)).length = 64 := by rw [splice_length _ _ _ (by omega)]; omega
  rw [if_neg (by simp [hb, l1])]
  rw [fold_agg (b.map cellOf) _ _ (by omega), List.map_append]
  generalize a.map cellOf = s at *
  generalize b.map cellOf = t at *
  have e : splice (splice A 0 s) (1 * 32) t = s ++ t := by
    have e1 : splice A 0 s = s ++ A.drop 32 := by rw [splice, List.take_zero, List.nil_append, Nat.zero_add, hla]
    rw [e1] at l1 ⊢
    rw [splice, show List.drop (1 * 32 + t.length) (s ++ List.drop 32 A) = [] from List.drop_eq_nil_of_le (by omega), List.append_nil, List.take_append_of_le_length (by omega), List.take_of_length_le (by omega)]
  rw [e]
end Go.Proofs.YtoggkhjaghkpnaaDoor
