/- Sums and products of many numbers modulo p go together, in whatever order: the law fellowshiplaw09.FieldChains answers true at every input. -/
import Derived.Test.YtcnmohmlfffnkaaDoorKFiChains
import Derived.Test.YtcnmohmlfffnkaaDoorPart3
import Derived.Test.YtcnmohmlfffnkaaDoorWKey
import Derived.Test.YtcnmohmlfffnkaaDoorFrame
namespace Go.Proofs.YtcnmohmlfffnkaaDoor.fieldChains
open Go.ChangeShapes Go.WideShapes Go.ChangeAt Go.RowKit
def chS (x y z : Nat) : Nat → Nat
  | 0 => x
  | k + 1 => ((chS x y z k + y) % pp + (pp - z)) % pp
def chM (x y z : Nat) : Nat → Nat
  | 0 => x
  | k + 1 => (chM x y z k * y % pp + z) % pp
def chD (s y z : Nat) : Nat → Nat
  | 0 => s
  | k + 1 => ((chD s y z k + (pp - y)) % pp + z) % pp
theorem chS_lt {x : Nat} (hx : x < pp) (y z : Nat) : ∀ k, chS x y z k < pp
  | 0 => hx
  | _ + 1 => Nat.mod_lt _ (by decide)
theorem chM_lt {x : Nat} (hx : x < pp) (y z : Nat) : ∀ k, chM x y z k < pp
  | 0 => hx
  | _ + 1 => Nat.mod_lt _ (by decide)
theorem chD_lt {x : Nat} (hx : x < pp) (y z : Nat) : ∀ k, chD x y z k < pp
  | 0 => hx
  | _ + 1 => Nat.mod_lt _ (by decide)
theorem back_step (a y z : Nat) (ha : a < pp) (hy : y < pp) (hz : z < pp) : ((((a + y) % pp + (pp - z)) % pp + (pp - y)) % pp + z) % pp = a := by
  simp only [pp] at *
  omega
theorem chD_back {x y z : Nat} (hx : x < pp) (hy : y < pp) (hz : z < pp) (n : Nat) : ∀ j, j ≤ n → chD (chS x y z n) y z j = chS x y z (n - j)
  | 0, _ => rfl
  | j + 1, h => by
    obtain ⟨m, hm⟩ : ∃ m, n - j = m + 1 := ⟨n - j - 1, by omega⟩
    have e : n - (j + 1) = m := by omega
    rw [chD, chD_back hx hy hz n j (by omega), hm, e, chS]
    exact back_step _ _ _ (chS_lt hx y z m) hy hz
theorem left_right (x y z : Nat) : (x + y) % pp * z % pp = (z * y % pp + x * z % pp) % pp := by
  rw [← Nat.add_mod, Nat.mod_mul_mod]
  congr 1
  rw [Nat.add_mul, Nat.mul_comm z y, Nat.add_comm]
theorem turned_round (x y : Nat) (hx : x < pp) (hy : y < pp) : (0 + (pp - (y + (pp - x)) % pp)) % pp = (x + (pp - y)) % pp := by
  simp only [pp] at *
  omega
theorem inverse_over (P x e : Nat) (he : 1 + e = P - 1) (hx : x < P) (h0 : x ≠ 0) (hP : NP.Pr P) : x * (x ^ e % P) % P = 1 := by
  have h := hP.little (a := x) (fun h => by
    have := Nat.le_of_dvd (by omega) h
    omega)
  rw [← he, Nat.pow_add, Nat.pow_one] at h
  rw [Nat.mul_mod_mod]
  exact h
theorem inverse_at (x e : Nat) (he : 1 + e = pp - 1) (hx : x < pp) (h0 : x ≠ 0) : x * pwN x e % pp = 1 := by
  rw [pwN]
  exact inverse_over pp x e he hx h0 NP.pr_P
theorem times_inverse (x : Nat) (hx : x < pp) (h0 : x ≠ 0) : x * pwN x 57896044618658097711785492504343953926634992332820282019728792003956564819947 % pp = 1 := inverse_at x _ (by decide) hx h0
theorem small_0 : smallN 0 = 0 := by decide +kernel
theorem small_1 : smallN 1 = 1 := by decide +kernel

set_option maxRecDepth 100000 in
theorem contract (H : Type) (enc : TypeId × Value → H) (W : World) (base : Nat) (args : Array Value) (ds gs : List (DataW H)) (before : List MemPlace)
    (hval : ∀ (j : Nat) t v, Tryd.f6.params[j]? = some t → args[j]? = some v → Value.okWide Tryd.prog W .any base t v)
    (hW : DataW.Whole enc Tryd.prog Tryd.f6.params.toList Rows.fieldChainsSpec.vars false W args.toList ds gs before) (_hL : laidMetH Tryd.prog Rows.fieldChainsRow.laid W) :
    Calls Tryd.prog 6 args W fun e W' => ∃ v, e = .returned v ∧ Rows.fieldChainsSpec.post enc Tryd.prog Tryd.f6 false true false false W args v W' := by
  have hW' := hW
  obtain ⟨p, q, hA0, hV, rfl, hfz, hnd⟩ := hW
  have hA : DataW.TrodAll enc Tryd.prog W 0 (fun _ => true) true Tryd.f6.params.toList args.toList ds p := hA0
  rw [Tryd.params6] at hA hval
  obtain ⟨v0, vs0, d0, ds0, p0, q0, hargs, rfl, rfl, h0, r0⟩ := trodAll_cons hA
  obtain ⟨v1, vs1, d1, ds1, p1, q1, rfl, rfl, rfl, h1, r1⟩ := trodAll_cons r0
  obtain ⟨v2, vs2, d2, ds2, p2, q2, rfl, rfl, rfl, h2, r2⟩ := trodAll_cons r1
  obtain ⟨rfl, rfl, rfl⟩ := trodAll_nil r2
  obtain rfl : args = #[v0, v1, v2] := by cases args; simp_all
  have fin : ∀ W' : World, Below W.heap.size W W' → ∃ v, Ending.returned (.bool true) = .returned v ∧ Rows.fieldChainsSpec.post enc Tryd.prog Tryd.f6 false true false false W #[v0, v1, v2] v W' := fun W' hb =>
    ⟨_, rfl, law_post laidOut Tryd.underlying4 (by kernel_rfl) (by kernel_rfl) rfl ⟨rfl, rfl, rfl⟩ hW' hb⟩
  obtain ⟨a, rfl, ha⟩ := open_key (hval 0 23 v0 rfl rfl) h0
  obtain ⟨b, rfl, hb⟩ := open_key (hval 1 23 v1 rfl rfl) h1
  obtain ⟨c, rfl, hc⟩ := open_key (hval 2 23 v2 rfl rfl) h2
  have hx := keyN_lt a
  have hy := keyN_lt b
  have hz := keyN_lt c
  generalize hx0 : keyN a = x at *
  generalize hy0 : keyN b = y at *
  generalize hz0 : keyN c = z at *
  have rd : ∀ (k : List UInt8) (n : Nat), keyN k = n → k.length = 32 → ∀ V, Calls Tryd.prog 10 #[hashVal k] V fun e w' => e = .returned (elV n) ∧ Below V.heap.size V w' := fun k n h hk V => by rw [← h]; exact readE_any k V hk
  have hm : ∀ n : Nat, n % pp < pp := fun n => Nat.mod_lt _ (by decide)
  have st : ∀ n m : Nat, n = m → n < pp → m < pp → ∀ V, Calls Tryd.prog 26 #[elV n, elV m] V fun e w' => e = .returned (.bool true) ∧ Below V.heap.size V w' := fun n m h hn hm V => by have h2 := same_any n m V hn hm; rw [decide_eq_true h] at h2; exact h2
  refine (walk_over a b c (limb5 x) (limb5 y) (limb5 z) (limb5 (chS x y z 40)) (limb5 (chM x y z 40)) (limb5 x) (limb5 ((x + y) % pp)) (limb5 ((x + y) % pp * z % pp)) (limb5 (z * y % pp)) (limb5 (x * z % pp)) (limb5 ((z * y % pp + x * z % pp) % pp))
    (limb5 ((x + (pp - y)) % pp)) (limb5 0) (limb5 ((y + (pp - x)) % pp)) (limb5 ((0 + (pp - (y + (pp - x)) % pp)) % pp)) (limb5 (chM x y z 40 * z % pp)) (limb5 (z * chM x y z 40 % pp))
    (limb5 (pwN x 57896044618658097711785492504343953926634992332820282019728792003956564819947)) (limb5 (x * pwN x 57896044618658097711785492504343953926634992332820282019728792003956564819947 % pp)) (limb5 1)
    (fun k => limb5 (chS x y z k)) (fun k => limb5 ((chS x y z k + y) % pp)) (fun k => limb5 (chM x y z k)) (fun k => limb5 (chM x y z k * y % pp)) (fun k => limb5 (chD (chS x y z 40) y z k)) (fun k => limb5 ((chD (chS x y z 40) y z k + (pp - y)) % pp)) (decide (x = 0)) W
    ha hb hc rfl rfl rfl rfl rfl (fun _ => ⟨rfl, rfl, rfl, rfl, rfl, rfl⟩) rfl rfl rfl rfl rfl (congrArg limb5 (chD_back hx hy hz 40 40 (Nat.le_refl _)))
    (rd a x hx0 ha) (rd b y hy0 hb) (rd c z hz0 hc)
    (fun k V => eAdd_any _ _ V (chS_lt hx y z k) hy) (fun k V => eSub_any _ _ V (hm _) hz) (fun k V => eTimes_any _ _ V (chM_lt hx y z k) hy) (fun k V => eAdd_any _ _ V (hm _) hz) (fun k V => eSub_any _ _ V (chD_lt (chS_lt hx y z 40) y z k) hy) (fun k V => eAdd_any _ _ V (hm _) hz)
    (fun V => eAdd_any _ _ V hx hy) (fun V => eTimes_any _ _ V (hm _) hz) (fun V => eTimes_any _ _ V hz hy) (fun V => eTimes_any _ _ V hx hz) (fun V => eAdd_any _ _ V (hm _) (hm _)) (st _ _ rfl hx hx) (st _ _ (left_right x y z) (hm _) (hm _))
    (fun V => eSub_any _ _ V hx hy) (fun V => eSub_any _ _ V hy hx) (fun V => eSub_any _ _ V (by decide) (hm _)) (st _ _ (turned_round x y hx hy).symm (hm _) (hm _)) (fun V => eTimes_any _ _ V (chM_lt hx y z 40) hz) (fun V => eTimes_any _ _ V hz (chM_lt hx y z 40)) (st _ _ (by rw [Nat.mul_comm]) (hm _) (hm _))
    (fun V => zeroE_any x V hx) (fun V => invert_any x V hx) (fun V => eTimes_any _ _ V hx (pwN_lt _ _)) (fun V => by have h := smallE_any 0 V (by decide) (by decide); rw [small_0] at h; exact h) (fun V => by have h := smallE_any 1 V (by decide) (by decide); rw [small_1] at h; exact h)
    (fun h => st _ _ (times_inverse x hx (of_decide_eq_false h)) (hm _) (by decide))).mono fun e W' ⟨he, hbl⟩ => ?_
  subst he
  exact fin W' hbl

theorem laid_met (os : Os) (args : Array Value) : laidMetH Tryd.prog Rows.fieldChainsRow.laid ((World.doorLaid Tryd.prog 400 os).forCall (fun _ _ => 0) ⟨#[], args, []⟩).memory :=
  laidMetH_of_parts3 (fuel := 8) (laidMet_of_run' 8 (by kernel_rfl) (by kernel_rfl)) (by kernel_rfl) (by kernel_rfl)
theorem reads (os : Os) {H : Type} (enc : TypeId × Value → H) : ∃ places, DataW.whole enc Tryd.prog ((World.doorLaid Tryd.prog 400 os).forCall (fun _ _ => 0) ⟨#[], #[.agg #[.int .u8 0, .int .u8 0, .int .u8 0, .int .u8 0, .int .u8 0, .int .u8 0, .int .u8 0, .int .u8 0, .int .u8 0, .int .u8 0, .int .u8 0, .int .u8 0, .int .u8 0, .int .u8 0, .int .u8 0, .int .u8 0, .int .u8 0, .int .u8 0, .int .u8 0, .int .u8 0, .int .u8 0, .int .u8 0, .int .u8 0, .int .u8 0, .int .u8 0, .int .u8 0, .int .u8 0, .int .u8 0, .int .u8 0, .int .u8 0, .int .u8 0, .int .u8 0], .agg #[.int .u8 0, .int .u8 0, .int .u8 0, .int .u8 0, .int .u8 0, .int .u8 0, .int .u8 0, .int .u8 0, .int .u8 0, .int .u8 0, .int .u8 0, .int .u8 0, .int .u8 0, .int .u8 0, .int .u8 0, .int .u8 0, .int .u8 0, .int .u8 0, .int .u8 0, .int .u8 0, .int .u8 0, .int .u8 0, .int .u8 0, .int .u8 0, .int .u8 0, .int .u8 0, .int .u8 0, .int .u8 0, .int .u8 0, .int .u8 0, .int .u8 0, .int .u8 0], .agg #[.int .u8 0, .int .u8 0, .int .u8 0, .int .u8 0, .int .u8 0, .int .u8 0, .int .u8 0, .int .u8 0, .int .u8 0, .int .u8 0, .int .u8 0, .int .u8 0, .int .u8 0, .int .u8 0, .int .u8 0, .int .u8 0, .int .u8 0, .int .u8 0, .int .u8 0, .int .u8 0, .int .u8 0, .int .u8 0, .int .u8 0, .int .u8 0, .int .u8 0, .int .u8 0, .int .u8 0, .int .u8 0, .int .u8 0, .int .u8 0, .int .u8 0, .int .u8 0]], []⟩).memory Tryd.f6.params.toList Rows.fieldChainsSpec.vars false (#[.agg #[.int .u8 0, .int .u8 0, .int .u8 0, .int .u8 0, .int .u8 0, .int .u8 0, .int .u8 0, .int .u8 0, .int .u8 0, .int .u8 0, .int .u8 0, .int .u8 0, .int .u8 0, .int .u8 0, .int .u8 0, .int .u8 0, .int .u8 0, .int .u8 0, .int .u8 0, .int .u8 0, .int .u8 0, .int .u8 0, .int .u8 0, .int .u8 0, .int .u8 0, .int .u8 0, .int .u8 0, .int .u8 0, .int .u8 0, .int .u8 0, .int .u8 0, .int .u8 0], .agg #[.int .u8 0, .int .u8 0, .int .u8 0, .int .u8 0, .int .u8 0, .int .u8 0, .int .u8 0, .int .u8 0, .int .u8 0, .int .u8 0, .int .u8 0, .int .u8 0, .int .u8 0, .int .u8 0, .int .u8 0, .int .u8 0, .int .u8 0, .int .u8 0, .int .u8 0, .int .u8 0, .int .u8 0, .int .u8 0, .int .u8 0, .int .u8 0, .int .u8 0, .int .u8 0, .int .u8 0, .int .u8 0, .int .u8 0, .int .u8 0, .int .u8 0, .int .u8 0], .agg #[.int .u8 0, .int .u8 0, .int .u8 0, .int .u8 0, .int .u8 0, .int .u8 0, .int .u8 0, .int .u8 0, .int .u8 0, .int .u8 0, .int .u8 0, .int .u8 0, .int .u8 0, .int .u8 0, .int .u8 0, .int .u8 0, .int .u8 0, .int .u8 0, .int .u8 0, .int .u8 0, .int .u8 0, .int .u8 0, .int .u8 0, .int .u8 0, .int .u8 0, .int .u8 0, .int .u8 0, .int .u8 0, .int .u8 0, .int .u8 0, .int .u8 0, .int .u8 0]] : Array Value).toList 8 = some ([.agg [.lit (.int .u8 0), .lit (.int .u8 0), .lit (.int .u8 0), .lit (.int .u8 0), .lit (.int .u8 0), .lit (.int .u8 0), .lit (.int .u8 0), .lit (.int .u8 0), .lit (.int .u8 0), .lit (.int .u8 0), .lit (.int .u8 0), .lit (.int .u8 0), .lit (.int .u8 0), .lit (.int .u8 0), .lit (.int .u8 0), .lit (.int .u8 0), .lit (.int .u8 0), .lit (.int .u8 0), .lit (.int .u8 0), .lit (.int .u8 0), .lit (.int .u8 0), .lit (.int .u8 0), .lit (.int .u8 0), .lit (.int .u8 0), .lit (.int .u8 0), .lit (.int .u8 0), .lit (.int .u8 0), .lit (.int .u8 0), .lit (.int .u8 0), .lit (.int .u8 0), .lit (.int .u8 0), .lit (.int .u8 0)], .agg [.lit (.int .u8 0), .lit (.int .u8 0), .lit (.int .u8 0), .lit (.int .u8 0), .lit (.int .u8 0), .lit (.int .u8 0), .lit (.int .u8 0), .lit (.int .u8 0), .lit (.int .u8 0), .lit (.int .u8 0), .lit (.int .u8 0), .lit (.int .u8 0), .lit (.int .u8 0), .lit (.int .u8 0), .lit (.int .u8 0), .lit (.int .u8 0), .lit (.int .u8 0), .lit (.int .u8 0), .lit (.int .u8 0), .lit (.int .u8 0), .lit (.int .u8 0), .lit (.int .u8 0), .lit (.int .u8 0), .lit (.int .u8 0), .lit (.int .u8 0), .lit (.int .u8 0), .lit (.int .u8 0), .lit (.int .u8 0), .lit (.int .u8 0), .lit (.int .u8 0), .lit (.int .u8 0), .lit (.int .u8 0)], .agg [.lit (.int .u8 0), .lit (.int .u8 0), .lit (.int .u8 0), .lit (.int .u8 0), .lit (.int .u8 0), .lit (.int .u8 0), .lit (.int .u8 0), .lit (.int .u8 0), .lit (.int .u8 0), .lit (.int .u8 0), .lit (.int .u8 0), .lit (.int .u8 0), .lit (.int .u8 0), .lit (.int .u8 0), .lit (.int .u8 0), .lit (.int .u8 0), .lit (.int .u8 0), .lit (.int .u8 0), .lit (.int .u8 0), .lit (.int .u8 0), .lit (.int .u8 0), .lit (.int .u8 0), .lit (.int .u8 0), .lit (.int .u8 0), .lit (.int .u8 0), .lit (.int .u8 0), .lit (.int .u8 0), .lit (.int .u8 0), .lit (.int .u8 0), .lit (.int .u8 0), .lit (.int .u8 0), .lit (.int .u8 0)]], [], places) :=
  ⟨[], by kernel_rfl⟩

set_option maxRecDepth 100000 in
theorem lifted (os : Os) (started : os.Started) (H : Type) (enc : TypeId × Value → H) (F : Stop.Interp) :
    ReturnsInHanded {} Tryd.checked os 6 .any ((OpenSpec.ofChange Rows.fieldChainsSpec).preRow enc Tryd.prog Tryd.f6 Rows.fieldChainsRow.domain false Rows.fieldChainsRow.laid) (((OpenSpec.ofChange Rows.fieldChainsSpec).at F).post enc Tryd.prog Tryd.f6 false true false false) := by
  obtain ⟨places, hx⟩ := reads os enc
  refine returnsInHanded_of_row (C := Tryd.checked) (s := OpenSpec.ofChange Rows.fieldChainsSpec) own started (by kernel_rfl) Tryd.func6
    (witness_row_atRef (enc := enc) (C := Tryd.checked) false (World.doorLaid Tryd.prog 400 os) #[.agg #[.int .u8 0, .int .u8 0, .int .u8 0, .int .u8 0, .int .u8 0, .int .u8 0, .int .u8 0, .int .u8 0, .int .u8 0, .int .u8 0, .int .u8 0, .int .u8 0, .int .u8 0, .int .u8 0, .int .u8 0, .int .u8 0, .int .u8 0, .int .u8 0, .int .u8 0, .int .u8 0, .int .u8 0, .int .u8 0, .int .u8 0, .int .u8 0, .int .u8 0, .int .u8 0, .int .u8 0, .int .u8 0, .int .u8 0, .int .u8 0, .int .u8 0, .int .u8 0], .agg #[.int .u8 0, .int .u8 0, .int .u8 0, .int .u8 0, .int .u8 0, .int .u8 0, .int .u8 0, .int .u8 0, .int .u8 0, .int .u8 0, .int .u8 0, .int .u8 0, .int .u8 0, .int .u8 0, .int .u8 0, .int .u8 0, .int .u8 0, .int .u8 0, .int .u8 0, .int .u8 0, .int .u8 0, .int .u8 0, .int .u8 0, .int .u8 0, .int .u8 0, .int .u8 0, .int .u8 0, .int .u8 0, .int .u8 0, .int .u8 0, .int .u8 0, .int .u8 0], .agg #[.int .u8 0, .int .u8 0, .int .u8 0, .int .u8 0, .int .u8 0, .int .u8 0, .int .u8 0, .int .u8 0, .int .u8 0, .int .u8 0, .int .u8 0, .int .u8 0, .int .u8 0, .int .u8 0, .int .u8 0, .int .u8 0, .int .u8 0, .int .u8 0, .int .u8 0, .int .u8 0, .int .u8 0, .int .u8 0, .int .u8 0, .int .u8 0, .int .u8 0, .int .u8 0, .int .u8 0, .int .u8 0, .int .u8 0, .int .u8 0, .int .u8 0, .int .u8 0]] rfl (by kernel_rfl) (by kernel_rfl) (by kernel_rfl)
      (OpenSpec.preRow_of_cond 8 hx (by kernel_rfl) (fun k hk => by cases hk) (by kernel_rfl) (laid_met os _))) ?_
  intro W base args ds gs before hval hW _ _ _ hL _ _
  exact contract H enc W base args ds gs before hval hW hL

theorem said : Rows.FieldChainsSaid :=
  OpenClaim.holds_of_cond 6 Tryd.f6 rfl rfl rfl rfl rfl rfl rfl ⟨rfl, rfl, rfl, rfl, rfl⟩ rfl rfl rfl rfl rfl (by kernel_rfl) Tryd.func6 (by kernel_rfl)
    (of_decide_eq_true (by kernel_rfl)) (by unfold Func.isWrapper; first | (rw [if_pos (by decide +kernel)]; kernel_rfl) | (rw [if_neg (by decide +kernel)]; exact ⟨rfl, rfl⟩))
    (fun os started H enc _ F => by rw [OpenClaim.pre_eq_preRow]; exact lifted os started H enc F)

theorem plain (f : FuncId) (fn : Func) (hf : Tryd.pinned.checked.prog.funcNamed "fellowship/fellowshiplaw09.FieldChains" = some f) (hfn : Tryd.pinned.checked.prog.funcs[f]? = some fn) :
    true = Tryd.pinned.checked.prog.looks [] ∧ ∀ (j : Nat) t, fn.params[j]? = some t → Tryd.pinned.checked.prog.wantsStandIn t = false := by
  obtain rfl : f = 6 := Option.some.inj ((show Tryd.prog.funcNamed "fellowship/fellowshiplaw09.FieldChains" = some 6 by kernel_rfl).symm.trans hf) |>.symm
  obtain rfl : fn = Tryd.f6 := (Option.some.inj (Tryd.func6.symm.trans hfn)).symm
  refine ⟨by kernel_rfl, fun j t ht => ?_⟩
  rw [Tryd.params6] at ht
  have hm : t ∈ [23, 23, 23] := by simpa using Array.mem_of_getElem? ht
  have hall : ([23, 23, 23].all fun u => !Tryd.prog.wantsStandIn u) = true := by kernel_rfl
  exact (show Tryd.prog.wantsStandIn t = false by simpa using List.all_eq_true.1 hall t hm)
end Go.Proofs.YtcnmohmlfffnkaaDoor.fieldChains
namespace Go.Proofs.YtcnmohmlfffnkaaDoor
theorem fieldChains_card : Rows.FieldChainsCardSaid :=
  Claim7.holds_tied_plain_at .later [] _ _ _ _ fieldChains.said (fun _ h => by cases h) (by kernel_rfl) (fun _ h => by cases h) fieldChains_row_tie rfl ⟨rfl, rfl⟩ (by kernel_rfl) rfl fieldChains.plain (by kernel_rfl)
#print axioms fieldChains_card
end Go.Proofs.YtcnmohmlfffnkaaDoor
