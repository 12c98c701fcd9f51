/- The walks of the law fellowshiplaw05.DeriveExpands. -/
import Derived.Test.YtmhelmmonkgmmaaDoorPart8
import Derived.Deep.RegionHeld
namespace Go.Proofs.YtmhelmmonkgmmaaDoor.deriveExpands
open Go.ChangeShapes Go.WideShapes Go.ChangeAt Go.RowKit
theorem long_walk (A B : Option Addr) (c n d m : Nat) (z : Int) (w : World) (hn : 200 < n ∨ 300 < m) :
    Calls Tryd.prog 3 #[.slice A n c, .slice B m d, .int .i64 z] w fun e w' => e = .returned (.bool true) ∧ Below w.heap.size w w' := by
  by_cases h1 : 200 < n
  · have i1 : (200 : Int) < (n : Int) := by omega
    clear hn
    go_enter Tryd.func3, Tryd.ntmps3
    go_wp2_with fail
    refine (alive5 w).mono ?_
    rintro e w1 ⟨rfl, hB⟩
    go_wp2
    go_ret
    exact ⟨rfl, hB⟩
  · have i1 : ¬ (200 : Int) < (n : Int) := by omega
    have i2 : (300 : Int) < (m : Int) := by omega
    clear hn
    go_enter Tryd.func3, Tryd.ntmps3
    go_wp2_with fail
    refine (alive5 w).mono ?_
    rintro e w1 ⟨rfl, hB⟩
    go_wp2
    go_ret
    exact ⟨rfl, hB⟩
set_option maxRecDepth 100000 in
set_option maxHeartbeats 2000000 in
theorem in_walk (A B : Option Addr) (c n d m : Nat) (z : Int) (x : Nat) (key info : List UInt8) (w : World) (hK : Tabs w) (hg : 21 ≤ w.heap.size) (hx : x ≤ 8160) (hz : (z = (x : Int) ∧ x ≤ 500) ∨ (z = (x : Int) ∧ x = 8160) ∨ (500 < z ∧ z < 8160 ∧ z % 500 = (x : Int))) (hl : key.length = n) (hr : Row w w.heap.size A key) (hA : A = none → c = 0) (hc : n ≤ c) (hc2 : c ≤ maxLen) (hn : n ≤ 200)
    (hbl : info.length = m) (hb : Row w w.heap.size B info) (hBn : B = none → d = 0) (hd : m ≤ d) (hd2 : d ≤ maxLen) (hm : m ≤ 300) :
    Calls Tryd.prog 3 #[.slice A n c, .slice B m d, .int .i64 z] w fun e w' => e = .returned (.bool true) ∧ Below w.heap.size w w' := by
  have i1 : ¬ (200 : Int) < (n : Int) := by omega
  have i2 : ¬ (300 : Int) < (m : Int) := by omega
  have HL := Lib.hid hl
  have HBL := Lib.hid hbl
  have HXL := Lib.hid (hkdf_length key info x hx)
  clear hl hbl
  have i3 : ¬ (x : Int) < 0 := by omega
  have i4 : ¬ (8160 : Int) < (x : Int) := by omega
  rcases hz with ⟨rfl, h5⟩ | ⟨rfl, h5⟩ | ⟨h5, h6, h7⟩
  · have i5 : ¬ (500 : Int) < (x : Int) := by omega
    clear h5
    go_enter Tryd.func3, Tryd.ntmps3
    go_wp2_with fail
    refine (alive5 w).mono ?_
    rintro e w1 ⟨rfl, hB1⟩
    go_wp2_with fail
    refine (bytes_n HBL.out (hb.on hB1) hBn (by omega)).mono ?_
    rintro e w2 ⟨g, cap, rfl, h3, h4, hgg, hR2, hb2⟩
    have hB2 := below_then hB1 hb2
    clear hB1 hb2
    go_wp2_with fail
    refine (expand_any A _ c n cap m x key info w2 (hK.below hB2) (by have := hB2.size; omega) HL.out (hr.on hB2) hA hc hc2 (by omega) HBL.out hR2.head (fun h => by cases h) (by omega) h4 (by omega) hx).mono ?_
    rintro e w3 ⟨A3, c3, rfl, a1, a2, a3, a4, hb3⟩
    have hB3 := below_then hB2 hb3
    have hR3 := hR2.on hb3
    clear hB2 hb3 hR2
    go_wp2_with fail
    refine (extract_any A B c n d m key info w3 (hK.below hB3) (by have := hB3.size; omega) HL.out (hr.on hB3) hA hc hc2 (by omega) HBL.out (hb.on hB3) hBn hd hd2 (by omega)).mono ?_
    rintro e w4 ⟨rfl, hb4⟩
    have hB4 := below_then hB3 hb4
    have hR4 := hR3.on hb4
    have b4 := a4.on hb4
    clear hB3 hb4 hR3 a4
    go_wp2_with fail
    refine (macRef_any A B c n d m key info w4 HL.out (hr.on hB4) hA (by omega) HBL.out (hb.on hB4) hBn (by omega)).mono ?_
    rintro e w5 ⟨rfl, hb5⟩
    have hB5 := below_then hB4 hb5
    have hR5 := hR4.on hb5
    have b5 := b4.on hb5
    clear hB4 hb5 hR4 b4
    have hq := mac_neq
    have hgd := hash_guard
    go_wp2_with fail
    clear hq hgd
    refine (kept_n HBL.out hR5 (hb.on hB5) h3 h4 (by omega)).mono ?_
    rintro e w6 ⟨rfl, nk, rfl⟩
    have hB6 := below_drewN hB5 nk
    have b6 := b5.on (below_drewN (Below.refl w5.heap.size w5) nk)
    generalize w5.drewN nk = w6 at *
    clear hR5 hB5 b5
    go_wp2_with fail
    have kB := conv_n HXL.out b6 c3
    have HQ := Lib.hid (fun W (hW : Below w6.heap.size w6 W) => expandRef_any A B c n d m x key info W HL.out ((hr.on hB6).on hW) hA (by omega) HBL.out ((hb.on hB6).on hW) hBn (by omega) hx)
    clear b6
    go_region_held (fun w' => Below w6.heap.size w6 w') (first | exact Below.refl _ _ | exact (Below.refl _ _).drew | assumption)
      (first
        | (go_at_call 13
           refine (HQ.out _ (by first | exact (Below.refl _ _).drew | exact (Below.refl _ _))).mono ?_
           clear HQ
           rintro e w7 ⟨g7, c7, rfl, e1, e2, e3, e4, hb7⟩
           replace hb7 : Below w6.heap.size w6 w7 := Below.trans (Below.refl w6.heap.size w6).drew hb7
           have kR := conv_n HXL.out e4 c7 _ (Below.refl _ _)
           clear e4))
    all_goals
      go_wp2
      go_ret
      exact ⟨rfl, below_then hB6 hb7⟩
  · have i5 : (500 : Int) < (x : Int) := by omega
    have i6 : ¬ (x : Int) < 8160 := by omega
    clear h5
    go_enter Tryd.func3, Tryd.ntmps3
    go_wp2_with fail
    refine (alive5 w).mono ?_
    rintro e w1 ⟨rfl, hB1⟩
    go_wp2_with fail
    refine (bytes_n HBL.out (hb.on hB1) hBn (by omega)).mono ?_
    rintro e w2 ⟨g, cap, rfl, h3, h4, hgg, hR2, hb2⟩
    have hB2 := below_then hB1 hb2
    clear hB1 hb2
    go_wp2_with fail
    refine (expand_any A _ c n cap m x key info w2 (hK.below hB2) (by have := hB2.size; omega) HL.out (hr.on hB2) hA hc hc2 (by omega) HBL.out hR2.head (fun h => by cases h) (by omega) h4 (by omega) hx).mono ?_
    rintro e w3 ⟨A3, c3, rfl, a1, a2, a3, a4, hb3⟩
    have hB3 := below_then hB2 hb3
    have hR3 := hR2.on hb3
    clear hB2 hb3 hR2
    go_wp2_with fail
    refine (extract_any A B c n d m key info w3 (hK.below hB3) (by have := hB3.size; omega) HL.out (hr.on hB3) hA hc hc2 (by omega) HBL.out (hb.on hB3) hBn hd hd2 (by omega)).mono ?_
    rintro e w4 ⟨rfl, hb4⟩
    have hB4 := below_then hB3 hb4
    have hR4 := hR3.on hb4
    have b4 := a4.on hb4
    clear hB3 hb4 hR3 a4
    go_wp2_with fail
    refine (macRef_any A B c n d m key info w4 HL.out (hr.on hB4) hA (by omega) HBL.out (hb.on hB4) hBn (by omega)).mono ?_
    rintro e w5 ⟨rfl, hb5⟩
    have hB5 := below_then hB4 hb5
    have hR5 := hR4.on hb5
    have b5 := b4.on hb5
    clear hB4 hb5 hR4 b4
    have hq := mac_neq
    have hgd := hash_guard
    go_wp2_with fail
    clear hq hgd
    refine (kept_n HBL.out hR5 (hb.on hB5) h3 h4 (by omega)).mono ?_
    rintro e w6 ⟨rfl, nk, rfl⟩
    have hB6 := below_drewN hB5 nk
    have b6 := b5.on (below_drewN (Below.refl w5.heap.size w5) nk)
    generalize w5.drewN nk = w6 at *
    clear hR5 hB5 b5
    go_wp2_with fail
    have kB := conv_n HXL.out b6 c3
    have HQ := Lib.hid (fun W (hW : Below w6.heap.size w6 W) => expandRef_any A B c n d m x key info W HL.out ((hr.on hB6).on hW) hA (by omega) HBL.out ((hb.on hB6).on hW) hBn (by omega) hx)
    clear b6
    go_region_held (fun w' => Below w6.heap.size w6 w') (first | exact Below.refl _ _ | exact (Below.refl _ _).drew | assumption)
      (first
        | (go_at_call 13
           refine (HQ.out _ (by first | exact (Below.refl _ _).drew | exact (Below.refl _ _))).mono ?_
           clear HQ
           rintro e w7 ⟨g7, c7, rfl, e1, e2, e3, e4, hb7⟩
           replace hb7 : Below w6.heap.size w6 w7 := Below.trans (Below.refl w6.heap.size w6).drew hb7
           have kR := conv_n HXL.out e4 c7 _ (Below.refl _ _)
           clear e4))
    all_goals
      go_wp2
      go_ret
      exact ⟨rfl, below_then hB6 hb7⟩
  · go_enter Tryd.func3, Tryd.ntmps3
    go_wp2_with fail
    refine (alive5 w).mono ?_
    rintro e w1 ⟨rfl, hB1⟩
    go_wp2_with fail
    refine (bytes_n HBL.out (hb.on hB1) hBn (by omega)).mono ?_
    rintro e w2 ⟨g, cap, rfl, h3, h4, hgg, hR2, hb2⟩
    have hB2 := below_then hB1 hb2
    clear hB1 hb2
    go_wp2_with fail
    refine (expand_any A _ c n cap m x key info w2 (hK.below hB2) (by have := hB2.size; omega) HL.out (hr.on hB2) hA hc hc2 (by omega) HBL.out hR2.head (fun h => by cases h) (by omega) h4 (by omega) hx).mono ?_
    rintro e w3 ⟨A3, c3, rfl, a1, a2, a3, a4, hb3⟩
    have hB3 := below_then hB2 hb3
    have hR3 := hR2.on hb3
    clear hB2 hb3 hR2
    go_wp2_with fail
    refine (extract_any A B c n d m key info w3 (hK.below hB3) (by have := hB3.size; omega) HL.out (hr.on hB3) hA hc hc2 (by omega) HBL.out (hb.on hB3) hBn hd hd2 (by omega)).mono ?_
    rintro e w4 ⟨rfl, hb4⟩
    have hB4 := below_then hB3 hb4
    have hR4 := hR3.on hb4
    have b4 := a4.on hb4
    clear hB3 hb4 hR3 a4
    go_wp2_with fail
    refine (macRef_any A B c n d m key info w4 HL.out (hr.on hB4) hA (by omega) HBL.out (hb.on hB4) hBn (by omega)).mono ?_
    rintro e w5 ⟨rfl, hb5⟩
    have hB5 := below_then hB4 hb5
    have hR5 := hR4.on hb5
    have b5 := b4.on hb5
    clear hB4 hb5 hR4 b4
    have hq := mac_neq
    have hgd := hash_guard
    go_wp2_with fail
    clear hq hgd
    refine (kept_n HBL.out hR5 (hb.on hB5) h3 h4 (by omega)).mono ?_
    rintro e w6 ⟨rfl, nk, rfl⟩
    have hB6 := below_drewN hB5 nk
    have b6 := b5.on (below_drewN (Below.refl w5.heap.size w5) nk)
    generalize w5.drewN nk = w6 at *
    clear hR5 hB5 b5
    go_wp2_with fail
    have kB := conv_n HXL.out b6 c3
    have HQ := Lib.hid (fun W (hW : Below w6.heap.size w6 W) => expandRef_any A B c n d m x key info W HL.out ((hr.on hB6).on hW) hA (by omega) HBL.out ((hb.on hB6).on hW) hBn (by omega) hx)
    clear b6
    go_region_held (fun w' => Below w6.heap.size w6 w') (first | exact Below.refl _ _ | exact (Below.refl _ _).drew | assumption)
      (first
        | (go_at_call 13
           refine (HQ.out _ (by first | exact (Below.refl _ _).drew | exact (Below.refl _ _))).mono ?_
           clear HQ
           rintro e w7 ⟨g7, c7, rfl, e1, e2, e3, e4, hb7⟩
           replace hb7 : Below w6.heap.size w6 w7 := Below.trans (Below.refl w6.heap.size w6).drew hb7
           have kR := conv_n HXL.out e4 c7 _ (Below.refl _ _)
           clear e4))
    all_goals
      go_wp2
      go_ret
      exact ⟨rfl, below_then hB6 hb7⟩
set_option maxRecDepth 100000 in
set_option maxHeartbeats 2000000 in
theorem out_walk (A B : Option Addr) (c n d m : Nat) (z : Int) (key info : List UInt8) (es : List Addr) (a : Addr) (w : World) (hK : Tabs w) (hg : 21 ≤ w.heap.size) (hE : Errs w es) (ha : es[0]? = some a) (hl : key.length = n) (hr : Row w w.heap.size A key) (hA : A = none → c = 0) (hc : n ≤ c) (hc2 : c ≤ maxLen) (hn : n ≤ 200)
    (hbl : info.length = m) (hb : Row w w.heap.size B info) (hBn : B = none → d = 0) (hd : m ≤ d) (hd2 : d ≤ maxLen) (hm : m ≤ 300) (hz : z < 0 ∨ 8160 < z) :
    Calls Tryd.prog 3 #[.slice A n c, .slice B m d, .int .i64 z] w fun e w' => e = .returned (.bool true) ∧ Below w.heap.size w w' := by
  have i1 : ¬ (200 : Int) < (n : Int) := by omega
  have i2 : ¬ (300 : Int) < (m : Int) := by omega
  have HL := Lib.hid hl
  have HBL := Lib.hid hbl
  have HEI : Hid (es[0]? = some a) := ha
  clear hl hbl ha
  by_cases hneg : z < 0
  · have i5 : ¬ (500 : Int) < z := by omega
    go_enter Tryd.func3, Tryd.ntmps3
    go_wp2_with fail
    refine (alive5 w).mono ?_
    rintro e w1 ⟨rfl, hB1⟩
    go_wp2_with fail
    refine (bytes_n HBL.out (hb.on hB1) hBn (by omega)).mono ?_
    rintro e w2 ⟨g, cap, rfl, h3, h4, hgg, hR2, hb2⟩
    have hB2 := below_then hB1 hb2
    clear hB1 hb2
    go_wp2_with fail
    refine (expand_out A _ c n cap m z (errAt a) w2 hz (((hE.below hB2).2.2 0 0 a rfl HEI.out).1)).mono ?_
    rintro e w3 ⟨rfl, nk3, hw3⟩
    have hb3 : Below w2.heap.size w2 w3 := by rw [hw3]; exact below_drewN (Below.refl _ _) nk3
    clear hw3
    have hB3 := below_then hB2 hb3
    have hR3 := hR2.on hb3
    clear hB2 hb3 hR2
    go_wp2_with fail
    refine (extract_any A B c n d m key info w3 (hK.below hB3) (by have := hB3.size; omega) HL.out (hr.on hB3) hA hc hc2 (by omega) HBL.out (hb.on hB3) hBn hd hd2 (by omega)).mono ?_
    rintro e w4 ⟨rfl, hb4⟩
    have hB4 := below_then hB3 hb4
    have hR4 := hR3.on hb4
    clear hB3 hb4 hR3
    go_wp2_with fail
    refine (macRef_any A B c n d m key info w4 HL.out (hr.on hB4) hA (by omega) HBL.out (hb.on hB4) hBn (by omega)).mono ?_
    rintro e w5 ⟨rfl, hb5⟩
    have hB5 := below_then hB4 hb5
    have hR5 := hR4.on hb5
    clear hB4 hb5 hR4
    have hq := mac_neq
    have hgd := hash_guard
    go_wp2_with fail
    clear hq hgd
    refine (kept_n HBL.out hR5 (hb.on hB5) h3 h4 (by omega)).mono ?_
    rintro e w6 ⟨rfl, nk, rfl⟩
    have hB6 := below_drewN hB5 nk
    have hE6 := hE.below hB6
    generalize w5.drewN nk = w6 at *
    clear hR5 hB5
    go_wp2_with (first
      | (go_at_call 12
         refine (num_is es 0 1 a w6 hE6 HEI.out rfl).mono ?_
         rintro e w7 ⟨rfl, hb7⟩))
    go_ret
    exact ⟨rfl, below_then hB6 hb7⟩
  · have i4 : (8160 : Int) < z := by omega
    have i5 : (500 : Int) < z := by omega
    have i6 : ¬ z < 8160 := by omega
    go_enter Tryd.func3, Tryd.ntmps3
    go_wp2_with fail
    refine (alive5 w).mono ?_
    rintro e w1 ⟨rfl, hB1⟩
    go_wp2_with fail
    refine (bytes_n HBL.out (hb.on hB1) hBn (by omega)).mono ?_
    rintro e w2 ⟨g, cap, rfl, h3, h4, hgg, hR2, hb2⟩
    have hB2 := below_then hB1 hb2
    clear hB1 hb2
    go_wp2_with fail
    refine (expand_out A _ c n cap m z (errAt a) w2 hz (((hE.below hB2).2.2 0 0 a rfl HEI.out).1)).mono ?_
    rintro e w3 ⟨rfl, nk3, hw3⟩
    have hb3 : Below w2.heap.size w2 w3 := by rw [hw3]; exact below_drewN (Below.refl _ _) nk3
    clear hw3
    have hB3 := below_then hB2 hb3
    have hR3 := hR2.on hb3
    clear hB2 hb3 hR2
    go_wp2_with fail
    refine (extract_any A B c n d m key info w3 (hK.below hB3) (by have := hB3.size; omega) HL.out (hr.on hB3) hA hc hc2 (by omega) HBL.out (hb.on hB3) hBn hd hd2 (by omega)).mono ?_
    rintro e w4 ⟨rfl, hb4⟩
    have hB4 := below_then hB3 hb4
    have hR4 := hR3.on hb4
    clear hB3 hb4 hR3
    go_wp2_with fail
    refine (macRef_any A B c n d m key info w4 HL.out (hr.on hB4) hA (by omega) HBL.out (hb.on hB4) hBn (by omega)).mono ?_
    rintro e w5 ⟨rfl, hb5⟩
    have hB5 := below_then hB4 hb5
    have hR5 := hR4.on hb5
    clear hB4 hb5 hR4
    have hq := mac_neq
    have hgd := hash_guard
    go_wp2_with fail
    clear hq hgd
    refine (kept_n HBL.out hR5 (hb.on hB5) h3 h4 (by omega)).mono ?_
    rintro e w6 ⟨rfl, nk, rfl⟩
    have hB6 := below_drewN hB5 nk
    have hE6 := hE.below hB6
    generalize w5.drewN nk = w6 at *
    clear hR5 hB5
    go_wp2_with (first
      | (go_at_call 12
         refine (num_is es 0 1 a w6 hE6 HEI.out rfl).mono ?_
         rintro e w7 ⟨rfl, hb7⟩))
    go_ret
    exact ⟨rfl, below_then hB6 hb7⟩
end Go.Proofs.YtmhelmmonkgmmaaDoor.deriveExpands
