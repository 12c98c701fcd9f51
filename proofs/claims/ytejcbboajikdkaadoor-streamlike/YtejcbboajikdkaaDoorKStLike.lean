/- The walks of the law fellowshiplaw06.StreamLike. -/
import Derived.Test.YtejcbboajikdkaaDoorPart7
import Derived.Deep.RegionHeld3
import Derived.BigQuiet
import Derived.Deep.QuietTactic
namespace Go.Proofs.YtejcbboajikdkaaDoor.streamLike
open Go.ChangeShapes Go.WideShapes Go.ChangeAt Go.RowKit
set_option maxRecDepth 100000 in
set_option maxHeartbeats 1000000 in
theorem long_walk (A B D : Option Addr) (d n L c M m : Nat) (key : List UInt8) (x : BitVec 32) (w : World) (HK : Hid (key.length = 32)) (hn : n ≠ 12 ∨ 300 < L ∨ 300 < M) :
    Calls Tryd.prog 6 #[caseVal key x A n d, .slice B L c, .slice D M m] w fun e w' => e = .returned (.bool true) ∧ Below w.heap.size w w' := by
  by_cases h1 : (n : Int) = 12
  · by_cases h2 : (300 : Int) < (L : Int)
    all_goals
      try have h3 : (300 : Int) < (M : Int) := by omega
      clear hn
      go_enter Tryd.func6, Tryd.ntmps6
      go_wp2_with (first
        | (refine vtake_step rfl 40 _ rfl (caseCells key x A n d) rfl ?_
           intro w1 hB1 hC1)
        | (go_at_call 7
           refine (alive6 _).mono ?_
           rintro e w2 ⟨rfl, rfl⟩
           have c33 := case_nonce HK.out hC1
           have c32 := case_word HK.out hC1
           have hrg := case_range hC1)
        | (refine range_step rfl 25 _ rfl w.heap.size 0 32 key 5 rfl hrg Tryd.underlying25 size_key HK.out ?_))
      go_ret
      exact ⟨rfl, hB1⟩
  · clear hn
    go_enter Tryd.func6, Tryd.ntmps6
    go_wp2_with (first
      | (refine vtake_step rfl 40 _ rfl (caseCells key x A n d) rfl ?_
         intro w1 hB1 hC1)
      | (go_at_call 7
         refine (alive6 _).mono ?_
         rintro e w2 ⟨rfl, rfl⟩
         have c33 := case_nonce HK.out hC1
         have c32 := case_word HK.out hC1
         have hrg := case_range hC1)
      | (refine range_step rfl 25 _ rfl w.heap.size 0 32 key 5 rfl hrg Tryd.underlying25 size_key HK.out ?_))
    go_ret
    exact ⟨rfl, hB1⟩
/-- No key. (Named, so that a walk leaves it whole.) -/
def nokey : List UInt8 := List.replicate 32 0
theorem build_nokey (w : World) : (Instr.build 25 ([] : List (Nat × Value)).toArray).run Tryd.prog w = .ok (hashVal nokey) w := by kernel_rfl
set_option maxRecDepth 100000 in
set_option maxHeartbeats 2000000 in
theorem in_over (A B D : Option Addr) (d L c M m : Nat) (key xs bs tp tq : List UInt8) (x : BitVec 32) (a : Addr) (w : World) (HK : Hid (key.length = 32)) (hL : L ≤ 300) (hM : M ≤ 300) (HAL : Hid (xs.length = L)) (HBL : Hid (bs.length = M)) (HPL : Hid (tp.length = L)) (HQL : Hid (tq.length = M)) (hra : Row w w.heap.size B xs) (hrb : Row w w.heap.size D bs)
    (HX : Hid (∀ k, k < L → k < M → tp.getD k 0 ^^^ tq.getD k 0 = xs.getD k 0 ^^^ bs.getD k 0))
    (C1 : Hid (∀ W, Below w.heap.size w W → Calls Tryd.prog 14 #[hashVal key, wcell x, .slice A 12 d, .slice B L c] W (GivesOk W tp L)))
    (C2 : Hid (∀ W, Below w.heap.size w W → Calls Tryd.prog 14 #[hashVal key, wcell x, .slice A 12 d, .slice D M m] W (GivesOk W tq M)))
    (C3 : Hid (∀ W, Below w.heap.size w W → Calls Tryd.prog 10 #[hashVal nokey, .int .u32 0, .slice none 0 0] W fun e w' => e = .returned (.tuple #[.slice none 0 0, errAt a]) ∧ Below W.heap.size W w')) :
    Calls Tryd.prog 6 #[caseVal key x A 12 d, .slice B L c, .slice D M m] w fun e w' => e = .returned (.bool true) ∧ Below w.heap.size w w' := by
  have i2 : ¬ (300 : Int) < (L : Int) := by omega
  have i3 : ¬ (300 : Int) < (M : Int) := by omega
  go_enter Tryd.func6, Tryd.ntmps6
  go_wp2_with (first
    | (refine vtake_step rfl 40 _ rfl (caseCells key x A 12 d) rfl ?_
       intro w1 hB1 hC1)
    | (go_at_call 7
       refine (alive6 _).mono ?_
       rintro e w2 ⟨rfl, rfl⟩
       have c33 := case_nonce HK.out hC1
       have c32 := case_word HK.out hC1
       have hrg := case_range hC1)
    | (refine range_step rfl 25 _ rfl w.heap.size 0 32 key 5 rfl hrg Tryd.underlying25 size_key HK.out ?_))
  refine (C1.out w1 hB1).mono ?_
  rintro e w3 ⟨A3, c3, rfl, _, _, _, r3, hb3⟩
  have hB3 := below_then hB1 hb3
  have hC3 := hC1.on hb3
  clear C1 hB1 hC1 hb3 c32 c33 hrg
  have c33 := case_nonce HK.out hC3
  have c32 := case_word HK.out hC3
  have hrg := case_range hC3
  go_wp2_with (first
    | (refine range_step rfl 25 _ rfl w.heap.size 0 32 key 5 rfl hrg Tryd.underlying25 size_key HK.out ?_))
  refine (C2.out w3 hB3).mono ?_
  rintro e w4 ⟨A4, c4, rfl, _, _, _, r4, hb4⟩
  have hB4 := below_then hB3 hb4
  have hP4 := r3.on hb4
  clear C2 hB3 hC3 hb4 c32 c33 hrg r3
  obtain ⟨q, hq⟩ : ∃ q, min L M = q := ⟨_, rfl⟩
  have HQ := Lib.hid hq
  clear hq
  go_wp2_with (first
    | (refine min_step rfl (.tmp 73) (.tmp 75) rfl (L : Int) (M : Int) q rfl rfl ?_ ?_
       · have := HQ.out; omega))
  go_loopw [77] (fun i wr => ∃ k : Nat, k ≤ q ∧ i = .int .i64 k ∧ Below w.heap.size w wr ∧ Row wr wr.heap.size A3 tp ∧ Row wr wr.heap.size A4 tq) (fun i _ => q - (intOf i).toNat)
  case atStart => exact ⟨0, Nat.zero_le _, rfl, hB4, hP4, r4⟩
  case round =>
    clear hB4 hP4 r4
    obtain ⟨k, hk, rfl, hB, hP, hQ⟩ := hrel
    by_cases hlt : k < q
    · have hkL : k < L := by have := HQ.out; omega
      have hkM : k < M := by have := HQ.out; omega
      obtain ⟨b1, o1, rfl, _, e1⟩ := hP.atD k (by rw [HPL.out]; exact hkL)
      obtain ⟨b2, o2, rfl, _, e2⟩ := hQ.atD k (by rw [HQL.out]; exact hkM)
      obtain ⟨b3, o3, rfl, _, e3⟩ := (hra.on hB).atD k (by rw [HAL.out]; exact hkL)
      obtain ⟨b4, o4, rfl, _, e4⟩ := (hrb.on hB).atD k (by rw [HBL.out]; exact hkM)
      have HXk := HX.out k hkL hkM
      generalize tp.getD k 0 = x1 at *
      generalize tq.getD k 0 = x2 at *
      generalize xs.getD k 0 = x3 at *
      generalize bs.getD k 0 = x4 at *
      have hxx : bits .xor .u8 (x1.toNat : Int) (x2.toNat : Int) = bits .xor .u8 (x3.toNat : Int) (x4.toNat : Int) := by rw [xor8, xor8, HXk]
      clear HXk
      have i4 : (0 : Int) ≤ (k : Int) := by omega
      have i5 : (k : Int) < (L : Int) := by omega
      have i6 : (k : Int) < (M : Int) := by omega
      have i7 : (k : Int) < (q : Int) := by omega
      go_wp2_with fail
      go_quiet (fail)
      go_wp2
      go_roundw
      case rel => exact ⟨k + 1, by omega, by go_num, below_drewN hB nq, hP.drewN nq, hQ.drewN nq⟩
      case measure => simp [intOf]; omega
    · obtain rfl : k = q := by omega
      go_wp2_with (first
        | (refine build_step rfl 25 [] rfl [] rfl (hashVal nokey) build_nokey ?_))
      refine (C3.out _ hB).mono ?_
      rintro e w5 ⟨rfl, hb5⟩
      go_wp2
      go_ret
      exact ⟨rfl, below_then hB hb5⟩
end Go.Proofs.YtejcbboajikdkaaDoor.streamLike
