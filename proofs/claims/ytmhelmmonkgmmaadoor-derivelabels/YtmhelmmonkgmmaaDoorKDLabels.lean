/- The walks of the law fellowshiplaw05.DeriveLabels. -/
import Derived.Test.YtmhelmmonkgmmaaDoorPart8
import Derived.Test.YtmhelmmonkgmmaaDoorMLaw
import Derived.Deep.RegionHeld
namespace Go.Proofs.YtmhelmmonkgmmaaDoor.deriveLabels
open Go.ChangeShapes Go.WideShapes Go.ChangeAt Go.RowKit
theorem long_walk (B : Option Addr) (d m n : Nat) (sec lb : List UInt8) (w : World) (hl : lb.length = n) (hn : 400 < n ∨ 17000 < m) :
    Calls Tryd.prog 4 #[hashVal sec, .string (str lb), .slice B m d] w fun e w' => e = .returned (.bool true) ∧ Below w.heap.size w w' := by
  have hsz : (str lb).size = n := by rw [str_size, hl]
  clear hl
  by_cases h1 : (400 : Int) < (n : Int)
  all_goals
    try have h2 : (17000 : Int) < (m : Int) := by omega
    clear hn
    go_enter Tryd.func4, Tryd.ntmps4
    go_wp2_with (first
      | (refine take_step rfl 30 _ rfl sec rfl ?_
         intro w0 hB0 hC0 hz0
         clear hz0)
      | (go_at_call 6
         refine (alive5 _).mono ?_
         rintro e w1 ⟨rfl, hb1⟩))
    go_ret
    exact ⟨rfl, below_then hB0 hb1⟩
set_option maxRecDepth 100000 in
set_option maxHeartbeats 2000000 in
theorem bad_walk (B : Option Addr) (d m n : Nat) (sec lb ctx : List UInt8) (es : List Addr) (a : Addr) (w : World) (hE : Errs w es) (ha : es[2]? = some a) (hs : sec.length = 32) (hl : lb.length = n) (hn : n ≤ 400) (hbl : ctx.length = m) (hb : Row w w.heap.size B ctx) (hB : B = none → d = 0) (hd : m ≤ d) (hd2 : d ≤ maxLen) (hm : m ≤ 17000) (hbad : 200 < n ∨ 16384 < m) :
    Calls Tryd.prog 4 #[hashVal sec, .string (str lb), .slice B m d] w fun e w' => e = .returned (.bool true) ∧ Below w.heap.size w w' := by
  have hsz : (str lb).size = n := by rw [str_size, hl]
  have i1 : ¬ (400 : Int) < (n : Int) := by omega
  have i2 : ¬ (17000 : Int) < (m : Int) := by omega
  have HL := Lib.hid hl
  have HBL := Lib.hid hbl
  have HSL := Lib.hid hs
  have HEI : Hid (es[2]? = some a) := ha
  have HJL : Hid ((joinL [ctx]).length = min 16385 m) := by show _ = _; rw [joinL_length]; simp [hbl]
  clear hl hbl hs ha
  have hq : ∀ w, (binOp .eql 30 (hashVal nought32) (hashVal nought32)).run Tryd.prog w = .ok (.bool true) w := fun w => by
    have h := code_eql nought32 nought32 rfl rfl w
    rw [beq_self_eq_true] at h
    exact h
  have hgd := hash_guard
  have HBD := Lib.hid noughts_hash
  have HNO := Lib.hid (show nought32.length = 32 from rfl)
  have HSN := Lib.hid (fun w4 (h4 : Below w.heap.size w w4) D (hP : Parts w4 w4.heap.size D [ctx]) => secret_none D 1 1 n (min 16385 m) sec lb [ctx] a w4 HSL.out HL.out rfl hP (by omega) HJL.out (by omega) (((hE.below h4).2.2 2 1 a rfl HEI.out).1))
  generalize nought32 = no at *
  by_cases hn2 : (200 : Int) < (n : Int)
  all_goals
    try have hm2 : (16384 : Int) < (m : Int) := by omega
    go_enter Tryd.func4, Tryd.ntmps4
    go_wp2_with (first
      | (refine take_step rfl 30 _ rfl sec rfl ?_
         intro w0 hB0 hC0 hz0
         clear hz0)
      | (go_at_call 6
         refine (alive5 _).mono ?_
         rintro e w1 ⟨rfl, hb1⟩
         have hB1 := below_then hB0 hb1
         have hC1 := hC0.on hb1
         clear hB0 hC0 hb1)
      | (go_at_call 14
         refine (info_long B d m n 40 lb (errAt a) w1 HL.out hbad (by omega) (((hE.below hB1).2.2 2 1 a rfl HEI.out).1)).mono ?_
         rintro e w2 ⟨rfl, nk, hw2⟩
         have hb2 : Below w1.heap.size w1 w2 := by rw [hw2]; exact below_drewN (Below.refl _ _) nk
         have hB2 := below_then hB1 hb2
         have hC2 := hC1.on hb2
         clear hw2 hB1 hC1 hb2)
      | (refine get_step rfl 30 (.tmp 3) rfl w.heap.size 32 sec _ rfl hC2 Tryd.underlying30 size_h32 HSL.out ?_)
      | (go_at_call 15
         refine (label_long B d m n 40 sec lb a w2 HL.out hbad (by omega) (((hE.below hB2).2.2 2 1 a rfl HEI.out).1)).mono ?_
         rintro e w3 ⟨rfl, hb3⟩
         have hB3 := below_then hB2 hb3
         have hC3 := hC2.on hb3
         have HP3 := Lib.hid (parts_one w3 B m d ctx HBL.out (hb.on hB3) hB hd hd2)
         have HB3 : Hid (Below w3.heap.size w3 (w3.alloc (.cells #[.slice B m d] 22))) := (Below.refl _ _).alloc (Nat.le_refl _) _
         clear hB2 hC2 hb3)
      | (refine get_step rfl 30 (.tmp 3) rfl w.heap.size 32 sec _ rfl hC3 Tryd.underlying30 size_h32 HSL.out ?_))
    generalize w3.alloc (.cells #[.slice B m d] 22) = w4 at *
    have hB4 := below_then hB3 HB3.out
    refine (HSN.out w4 hB4 _ HP3.out).mono ?_
    rintro e w5 ⟨rfl, hb5⟩
    have hB5 := below_then hB4 hb5
    clear hB3 hC3 HP3 HB3 hB4 hb5 HSN
    go_wp2_with (first
      | (refine put_step rfl rfl 30 (.tmp 11) (.tmp 39) rfl rfl 32 no rfl rfl zero_h32 size_h32 HNO.out ?_
         intro w6 hb6 hC6 hz6
         clear hz6
         have hB6 := below_then hB5 hb6
         have hE6 := hE.below hB6
         generalize w5.heap.size = go at *
         clear hb6 hB5)
      | (go_at_call 12
         refine (num_is es 2 3 a w6 hE6 HEI.out rfl).mono ?_
         rintro e w7 ⟨rfl, hb7⟩
         have hB7 := below_then hB6 hb7
         have hC7 := hC6.on hb7
         have hE7 := hE.below hB7
         clear hb7 hB6 hC6 hE6)
      | (go_at_call 12
         refine (num_is es 2 3 a w7 hE7 HEI.out rfl).mono ?_
         rintro e w8 ⟨rfl, hb8⟩
         have hB8 := below_then hB7 hb8
         have hC8 := hC7.on hb8
         clear hb8 hB7 hC7 hE7)
      | (refine unguard rfl ?_
         refine get_step rfl 30 (.tmp 11) rfl go 32 no _ rfl hC8 Tryd.underlying30 size_h32 HNO.out ?_)
      | (refine unguard rfl ?_
         refine build_step rfl 30 [] rfl [] rfl _ HBD.out ?_))
    go_ret
    exact ⟨rfl, hB8⟩
end Go.Proofs.YtmhelmmonkgmmaaDoor.deriveLabels
