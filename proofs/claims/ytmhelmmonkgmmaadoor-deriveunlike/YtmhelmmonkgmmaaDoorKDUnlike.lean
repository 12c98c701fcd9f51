/- The walks of the law fellowshiplaw05.DeriveUnlike. -/
import Derived.Test.YtmhelmmonkgmmaaDoorPart8
import Derived.Deep.RegionHeld3
import Derived.BigQuiet
import Derived.Deep.QuietTactic
namespace Go.Proofs.YtmhelmmonkgmmaaDoor.deriveUnlike
open Go.ChangeShapes Go.WideShapes Go.ChangeAt Go.RowKit
/-- Two texts as one value. -/
def twoTexts (a b : List UInt8) : Value := .agg #[.string (str a), .string (str b)]
set_option maxRecDepth 100000 in
/-- An array of two texts that comes in by value. -/
theorem open_two {H : Type} {enc : TypeId × Value → H} {W : World} {r : Reach} {b0 : Nat} {v : Value} {d : DataW H} {p : List MemPlace} (hv : Value.okWide Tryd.prog W r b0 44 v) (h : DataW.Trod enc Tryd.prog W 0 (fun _ => true) true 44 v d p) : ∃ a b : List UInt8, v = twoTexts a b := by
  have ht := Tryd.underlying44
  simp only [Value.okWide, ht] at hv
  obtain ⟨⟨cs⟩, rfl, hsz, _⟩ := hv
  obtain ⟨fuel, hf⟩ := h
  obtain ⟨xs, m, rfl, hx, hl, hn, hel⟩ := DataW.trod_array ht hf
  simp only [Value.cells] at hl hel
  have hc : Tryd.prog.cellsOf 9 = 1 := by kernel_rfl
  have hC : Tryd.prog.cellsOf 44 = 2 := by kernel_rfl
  rw [hC] at hl
  have hi : ∀ i, i < 2 → ∃ s : List UInt8, cs[i]? = some (.string (str s)) := by
    intro i hi
    have h1 := hel i hi
    rw [hc, Nat.mul_one, List.getElem?_eq_getElem (by omega)] at h1
    obtain ⟨s, e1, _, _⟩ := DataW.trod_string Tryd.underlying9 h1
    refine ⟨s.data.toList, ?_⟩
    rw [← str_of s]
    have e4 : ((cs.drop i).take 1)[0]? = some (.string s) := by rw [e1]; rfl
    simpa using e4
  obtain ⟨a, ha⟩ := hi 0 (by omega)
  obtain ⟨b, hb⟩ := hi 1 (by omega)
  refine ⟨a, b, ?_⟩
  have hl2 : cs.length = 2 := by simpa using hl
  match cs, hl2, ha, hb with
  | [x, y], _, ha, hb =>
    have ha2 : x = .string (str a) := by simpa using ha
    have hb2 : y = .string (str b) := by simpa using hb
    rw [ha2, hb2]
    rfl
set_option maxRecDepth 100000 in
set_option maxHeartbeats 1000000 in
theorem long_walk (A B : Option Addr) (c n d m p q : Nat) (a b : List UInt8) (w : World) (ha : a.length = p) (hb : b.length = q) (hn : 200 < p ∨ 200 < q ∨ 300 < n ∨ 300 < m) :
    Calls Tryd.prog 5 #[twoTexts a b, .slice A n c, .slice B m d] w fun e w' => e = .returned (.bool true) ∧ Below w.heap.size w w' := by
  have hsa : (str a).size = p := by rw [str_size, ha]
  have hsb : (str b).size = q := by rw [str_size, hb]
  clear ha hb
  by_cases h1 : (200 : Int) < (p : Int)
  · clear hn
    go_enter Tryd.func5, Tryd.ntmps5
    go_wp2_with (first
      | (refine box_step rfl 44 _ rfl #[.string (str a), .string (str b)] rfl ?_
         intro w0 hw0
         have hB0 : Below w.heap.size w w0 := by rw [hw0]; exact (Below.refl _ _).alloc (Nat.le_refl _) _
         have hC0 : Cells w0 w.heap.size [.string (str a), .string (str b)] 44 := by rw [hw0]; exact Cells.new w _ _
         clear hw0)
      | (go_at_call 6
         refine (alive5 _).mono ?_
         rintro e w1 ⟨rfl, hb1⟩
         have hB1 := below_then hB0 hb1
         have hC1 := hC0.on hb1
         have c0 := hC1.get (j := 0) rfl
         have c1 := hC1.get (j := 1) rfl
         clear hB0 hC0 hb1 hC1))
    go_quiet (fail)
    go_wp2
    go_ret
    exact ⟨rfl, below_drewN hB1 _⟩
  · by_cases h2 : (200 : Int) < (q : Int)
    · clear hn
      go_enter Tryd.func5, Tryd.ntmps5
      go_wp2_with (first
        | (refine box_step rfl 44 _ rfl #[.string (str a), .string (str b)] rfl ?_
           intro w0 hw0
           have hB0 : Below w.heap.size w w0 := by rw [hw0]; exact (Below.refl _ _).alloc (Nat.le_refl _) _
           have hC0 : Cells w0 w.heap.size [.string (str a), .string (str b)] 44 := by rw [hw0]; exact Cells.new w _ _
           clear hw0)
        | (go_at_call 6
           refine (alive5 _).mono ?_
           rintro e w1 ⟨rfl, hb1⟩
           have hB1 := below_then hB0 hb1
           have hC1 := hC0.on hb1
           have c0 := hC1.get (j := 0) rfl
           have c1 := hC1.get (j := 1) rfl
           clear hB0 hC0 hb1 hC1))
      go_quiet (fail)
      go_wp2
      go_ret
      exact ⟨rfl, below_drewN hB1 _⟩
    · by_cases h3 : (300 : Int) < (n : Int)
      · clear hn
        go_enter Tryd.func5, Tryd.ntmps5
        go_wp2_with (first
          | (refine box_step rfl 44 _ rfl #[.string (str a), .string (str b)] rfl ?_
             intro w0 hw0
             have hB0 : Below w.heap.size w w0 := by rw [hw0]; exact (Below.refl _ _).alloc (Nat.le_refl _) _
             have hC0 : Cells w0 w.heap.size [.string (str a), .string (str b)] 44 := by rw [hw0]; exact Cells.new w _ _
             clear hw0)
          | (go_at_call 6
             refine (alive5 _).mono ?_
             rintro e w1 ⟨rfl, hb1⟩
             have hB1 := below_then hB0 hb1
             have hC1 := hC0.on hb1
             have c0 := hC1.get (j := 0) rfl
             have c1 := hC1.get (j := 1) rfl
             clear hB0 hC0 hb1 hC1))
        go_quiet (fail)
        go_wp2
        go_ret
        exact ⟨rfl, below_drewN hB1 _⟩
      · have h4 : (300 : Int) < (m : Int) := by omega
        clear hn
        go_enter Tryd.func5, Tryd.ntmps5
        go_wp2_with (first
          | (refine box_step rfl 44 _ rfl #[.string (str a), .string (str b)] rfl ?_
             intro w0 hw0
             have hB0 : Below w.heap.size w w0 := by rw [hw0]; exact (Below.refl _ _).alloc (Nat.le_refl _) _
             have hC0 : Cells w0 w.heap.size [.string (str a), .string (str b)] 44 := by rw [hw0]; exact Cells.new w _ _
             clear hw0)
          | (go_at_call 6
             refine (alive5 _).mono ?_
             rintro e w1 ⟨rfl, hb1⟩
             have hB1 := below_then hB0 hb1
             have hC1 := hC0.on hb1
             have c0 := hC1.get (j := 0) rfl
             have c1 := hC1.get (j := 1) rfl
             clear hB0 hC0 hb1 hC1))
        go_quiet (fail)
        go_wp2
        go_ret
        exact ⟨rfl, below_drewN hB1 _⟩
set_option maxRecDepth 100000 in
set_option maxHeartbeats 2000000 in
/-- The walk over the calls' contracts, what they make being letters. -/
theorem over_contracts (A B : Option Addr) (c n d m p q : Nat) (a b x y i1 i2 i3 e20 e70 : List UInt8) (w : World) (ha : a.length = p) (hb : b.length = q) (hp : p ≤ 200) (hq : q ≤ 200) (hx : x.length = n) (hrx : Row w w.heap.size A x) (hn : n ≤ 300) (hy : y.length = m) (hry : Row w w.heap.size B y) (hm : m ≤ 300)
    (l1 : i1.length = 16 + p + n) (l2 : i2.length = 16 + q + m) (l3 : i3.length = 16 + p + n) (l4 : e20.length = 20) (l5 : e70.length = 70) (f1 : (i1 == i2) = ((a == b) && (x == y))) (f2 : (i1 == i3) = false) (f3 : e70.take 20 = e20)
    (C1 : Hid (∀ W, Below w.heap.size w W → Calls Tryd.prog 14 #[.string (str a), .slice A n c, .int .i64 32] W (GivesOk W i1 (16 + p + n))))
    (C2 : Hid (∀ W, Below w.heap.size w W → Calls Tryd.prog 14 #[.string (str b), .slice B m d, .int .i64 32] W (GivesOk W i2 (16 + q + m))))
    (C3 : Hid (∀ W, Below w.heap.size w W → Calls Tryd.prog 14 #[.string (str a), .slice A n c, .int .i64 33] W (GivesOk W i3 (16 + p + n))))
    (C4 : Hid (∀ W, Below w.heap.size w W → Calls Tryd.prog 8 #[.slice A n c, .slice B m d, .int .i64 20] W (GivesOk W e20 20)))
    (C5 : Hid (∀ W, Below w.heap.size w W → Calls Tryd.prog 8 #[.slice A n c, .slice B m d, .int .i64 70] W (GivesOk W e70 70))) :
    Calls Tryd.prog 5 #[twoTexts a b, .slice A n c, .slice B m d] w fun e w' => e = .returned (.bool true) ∧ Below w.heap.size w w' := by
  have hsa : (str a).size = p := by rw [str_size, ha]
  have hsb : (str b).size = q := by rw [str_size, hb]
  have j1 : ¬ (200 : Int) < (p : Int) := by omega
  have j2 : ¬ (200 : Int) < (q : Int) := by omega
  have j3 : ¬ (300 : Int) < (n : Int) := by omega
  have j4 : ¬ (300 : Int) < (m : Int) := by omega
  have HX := Lib.hid hx
  have HY := Lib.hid hy
  have L1 := Lib.hid l1
  have L2 := Lib.hid l2
  have L3 := Lib.hid l3
  have L4 := Lib.hid l4
  have L5 := Lib.hid l5
  have F1 := Lib.hid f1
  have F2 := Lib.hid f2
  have F3 := Lib.hid f3
  clear ha hb hx hy l1 l2 l3 l4 l5 f1 f2 f3
  go_enter Tryd.func5, Tryd.ntmps5
  go_wp2_with (first
    | (refine box_step rfl 44 _ rfl #[.string (str a), .string (str b)] rfl ?_
       intro w0 hw0
       have hB0 : Below w.heap.size w w0 := by rw [hw0]; exact (Below.refl _ _).alloc (Nat.le_refl _) _
       have hC0 : Cells w0 w.heap.size [.string (str a), .string (str b)] 44 := by rw [hw0]; exact Cells.new w _ _
       clear hw0)
    | (go_at_call 6
       refine (alive5 _).mono ?_
       rintro e w1 ⟨rfl, hb1⟩
       have hB1 := below_then hB0 hb1
       have hC1 := hC0.on hb1
       have c0 := hC1.get (j := 0) rfl
       have c1 := hC1.get (j := 1) rfl
       clear hB0 hC0 hb1 hC1))
  go_quiet (fail)
  go_wp2_with fail
  refine (C1.out _ (below_drewN hB1 _)).mono ?_
  rintro e w3 ⟨A3, c3, rfl, a1, a2, a3, r3, hb3⟩
  have hB3 := below_then (below_drewN hB1 _) hb3
  clear hB1 hb3 c0 c1 C1
  go_wp2_with fail
  refine (C2.out w3 hB3).mono ?_
  rintro e w4 ⟨A4, c4, rfl, b1, b2, b3, r4, hb4⟩
  have hB4 := below_then hB3 hb4
  have q4 := r3.on hb4
  clear hB3 hb4 r3 C2
  go_wp2_with fail
  refine (C3.out w4 hB4).mono ?_
  rintro e w5 ⟨A5, c5, rfl, d1, d2, d3, r5, hb5⟩
  have hB5 := below_then hB4 hb5
  have p5 := q4.on hb5
  have q5 := r4.on hb5
  clear hB4 hb5 q4 r4 C3
  have kP := conv_n L1.out p5 c3 w5 (Below.refl _ _)
  have kQ := conv_n L2.out q5 c4 w5 (Below.refl _ _)
  have kR := conv_n L3.out r5 c5 w5 (Below.refl _ _)
  have kX := conv_n HX.out (hrx.on hB5) c w5 (Below.refl _ _)
  have kY := conv_n HY.out (hry.on hB5) d w5 (Below.refl _ _)
  have sb := str_beq
  have g13 := F2.out
  have hcases : ∃ ra rx rp : Bool, (a == b) = ra ∧ (x == y) = rx ∧ (i1 == i2) = rp ∧ rp = (ra && rx) := ⟨_, _, _, rfl, rfl, rfl, F1.out⟩
  obtain ⟨ra, rx, rp, gab, gxy, gpq, hrp⟩ := hcases
  clear p5 q5 r5 F1 F2
  cases ra <;> cases rx <;> cases rp <;> first | exact absurd hrp (by decide) | skip
  all_goals
    clear hrp
    go_wp2_with fail
    clear kP kQ kR kX kY g13 gab gxy gpq
  all_goals
    refine (C4.out w5 hB5).mono ?_
    rintro e w6 ⟨A6, c6, rfl, e1, e2, e3, r6, hb6⟩
    have hB6 := below_then hB5 hb6
    clear hB5 hb6 C4
    go_wp2_with fail
    refine (C5.out w6 hB6).mono ?_
    rintro e w7 ⟨A7, c7, rfl, h1, h2, h3, r7, hb7⟩
    have hB7 := below_then hB6 hb7
    have q7 := r6.on hb7
    obtain ⟨b7, o7, rfl⟩ := r7.some (by rw [L5.out]; omega)
    have t7 := r7.take 20
    rw [F3.out] at t7
    have kS := conv_n L4.out q7 c6
    have kT := conv_n L4.out t7 c7
    have j5 : (20 : Int) ≤ (c7 : Int) := by omega
    have j6 : 20 ≤ c7 := by omega
    have j7 : ¬ c7 = 0 := by omega
    clear hB6 hb7 C5 r6 r7 t7 q7 h1
    go_wp2_with fail
    go_region_held3 (fun w' => Below w7.heap.size w7 w') (first | exact Below.refl _ _ | exact (Below.refl _ _).drew | assumption) (fail)
    go_wp2
    go_ret
    exact ⟨rfl, hB7.drew⟩
theorem walk (A B : Option Addr) (c n d m p q : Nat) (a b x y : List UInt8) (w : World) (hK : Tabs w) (hg : 21 ≤ w.heap.size) (ha : a.length = p) (hb : b.length = q) (hp : p ≤ 200) (hq : q ≤ 200) (hx : x.length = n) (hrx : Row w w.heap.size A x) (hA : A = none → c = 0) (hc : n ≤ c) (hc2 : c ≤ maxLen) (hn : n ≤ 300) (hy : y.length = m) (hry : Row w w.heap.size B y) (hB : B = none → d = 0) (hd : m ≤ d) (hd2 : d ≤ maxLen) (hm : m ≤ 300) :
    Calls Tryd.prog 5 #[twoTexts a b, .slice A n c, .slice B m d] w fun e w' => e = .returned (.bool true) ∧ Below w.heap.size w w' :=
  over_contracts A B c n d m p q a b x y (infoL a x 32) (infoL b y 32) (infoL a x 33) (hkdf x y 20) (hkdf x y 70) w ha hb hp hq hx hrx hn hy hry hm
    (by rw [infoL_length, ha, hx]) (by rw [infoL_length, hb, hy]) (by rw [infoL_length, ha, hx]) (hkdf_length _ _ _ (by omega)) (hkdf_length _ _ _ (by omega)) (infoL_beq a b x y 32 (by omega) (by omega)) (infoL_other a x) (hkdf_take x y 20 70 (by omega))
    (fun W hW => info_any A c n p 32 a x W ha hp hx (hrx.on hW) hA hc hc2 (by omega) (by omega))
    (fun W hW => info_any B d m q 32 b y W hb hq hy (hry.on hW) hB hd hd2 (by omega) (by omega))
    (fun W hW => info_any A c n p 33 a x W ha hp hx (hrx.on hW) hA hc hc2 (by omega) (by omega))
    (fun W hW => expand_any A B c n d m 20 x y W (hK.below hW) (Nat.le_trans hg hW.size) hx (hrx.on hW) hA hc hc2 (by omega) hy (hry.on hW) hB hd hd2 (by omega) (by omega))
    (fun W hW => expand_any A B c n d m 70 x y W (hK.below hW) (Nat.le_trans hg hW.size) hx (hrx.on hW) hA hc hc2 (by omega) hy (hry.on hW) hB hd hd2 (by omega) (by omega))
end Go.Proofs.YtmhelmmonkgmmaaDoor.deriveUnlike
