/- The walks of the law fellowshiplaw08.SealSeals. -/
import Derived.Test.YtdaieklimdhkoaaDoorPart12
import Derived.Test.YtdaieklimdhkoaaDoorERef3
namespace Go.Proofs.YtdaieklimdhkoaaDoor.sealSeals
open Go.ChangeShapes Go.WideShapes Go.ChangeAt Go.RowKit
set_option maxRecDepth 100000 in
set_option maxHeartbeats 1000000 in
theorem long_walk (A B D : Option Addr) (d n la ca L c : Nat) (key : List UInt8) (w : World) (HK : Hid (key.length = 32)) (hn : 50 < n ∨ 17000 < la ∨ 17000 < L)
    (CA : Hid (∀ W, Below w.heap.size w W → Calls Tryd.prog 7 #[] W fun e w' => e = .returned (.bool true) ∧ Below W.heap.size W w')) :
    Calls Tryd.prog 3 #[caseVal8 key A n d B la ca, .slice D L c] w fun e w' => e = .returned (.bool true) ∧ Below w.heap.size w w' := by
  by_cases h1 : (50 : Int) < (n : Int)
  · clear hn
    go_enter Tryd.func3, Tryd.ntmps3
    go_wp2_with (first
      | (refine vtake_step rfl 26 _ rfl (caseCells8 key A n d B la ca) rfl ?_
         intro w1 hB1 hC1))
    refine (CA.out w1 hB1).mono ?_
    rintro e w2 ⟨rfl, hb2⟩
    have hB2 := below_then hB1 hb2
    have hC2 := hC1.on hb2
    have c32 := case8_nonce HK.out hC2
    have c33 := case8_with HK.out hC2
    clear CA hB1 hC1 hb2
    go_wp2
    go_ret
    exact ⟨rfl, hB2⟩
  · by_cases h2 : (17000 : Int) < (la : Int)
    all_goals
      try have h3 : (17000 : Int) < (L : Int) := by omega
      clear hn
      go_enter Tryd.func3, Tryd.ntmps3
      go_wp2_with (first
        | (refine vtake_step rfl 26 _ rfl (caseCells8 key A n d B la ca) rfl ?_
           intro w1 hB1 hC1))
      refine (CA.out w1 hB1).mono ?_
      rintro e w2 ⟨rfl, hb2⟩
      have hB2 := below_then hB1 hb2
      have hC2 := hC1.on hb2
      have c32 := case8_nonce HK.out hC2
      have c33 := case8_with HK.out hC2
      clear CA hB1 hC1 hb2
      go_wp2
      go_ret
      exact ⟨rfl, hB2⟩
set_option maxRecDepth 100000 in
set_option maxHeartbeats 2000000 in
/-- Where both answer with an error. -/
theorem bad_over (A B D : Option Addr) (d n la ca L c i : Nat) (z : Int) (key bs : List UInt8) (es : List Addr) (a : Addr) (w : World) (HK : Hid (key.length = 32)) (hn : n ≤ 50) (hla : la ≤ 17000) (hL : L ≤ 17000) (HBL : Hid (bs.length = L)) (hb : Row w w.heap.size D bs) (hDn : D = none → c = 0) (HE : Hid (Errs w es)) (HA : Hid (es[i]? = some a)) (HZ : Hid ((i : Int) + 1 = z)) (hz : ¬ z = 0)
    (CA : Hid (∀ W, Below w.heap.size w W → Calls Tryd.prog 7 #[] W fun e w' => e = .returned (.bool true) ∧ Below W.heap.size W w'))
    (CS : Hid (∀ gi ci W, Below w.heap.size w W → Calls Tryd.prog 9 #[hashVal key, .slice A n d, .slice B la ca, .slice (some ⟨gi, 0, none⟩) L ci] W fun e w' => e = .returned (.tuple #[.slice none 0 0, errAt a]) ∧ Below W.heap.size W w'))
    (CR : Hid (∀ W, Below w.heap.size w W → Calls Tryd.prog 10 #[hashVal key, .slice A n d, .slice B la ca, .slice D L c] W fun e w' => e = .returned (.tuple #[.slice none 0 0, .int .i64 z]) ∧ Below W.heap.size W w')) :
    Calls Tryd.prog 3 #[caseVal8 key A n d B la ca, .slice D L c] w fun e w' => e = .returned (.bool true) ∧ Below w.heap.size w w' := by
  have i1 : ¬ (50 : Int) < (n : Int) := by omega
  have i2 : ¬ (17000 : Int) < (la : Int) := by omega
  have i3 : ¬ (17000 : Int) < (L : Int) := by omega
  go_enter Tryd.func3, Tryd.ntmps3
  go_wp2_with (first
    | (refine vtake_step rfl 26 _ rfl (caseCells8 key A n d B la ca) rfl ?_
       intro w1 hB1 hC1))
  refine (CA.out w1 hB1).mono ?_
  rintro e w2 ⟨rfl, hb2⟩
  have hB2 := below_then hB1 hb2
  have hC2 := hC1.on hb2
  clear CA hB1 hC1 hb2
  have c32 := case8_nonce HK.out hC2
  have c33 := case8_with HK.out hC2
  go_wp2_with fail
  refine (bytes_n HBL.out (hb.on hB2) hDn (by omega)).mono ?_
  rintro e w3 ⟨gi, ci, rfl, hc3, hc4, _, hR3, hb3⟩
  have hB3 := below_then hB2 hb3
  have hC3 := hC2.on hb3
  clear hB2 hC2 hb3 c32 c33
  have c32 := case8_nonce HK.out hC3
  have c33 := case8_with HK.out hC3
  have hrg := case8_range hC3
  go_wp2_with (first
    | (refine range_step rfl 23 _ rfl w.heap.size 0 32 key 5 rfl hrg Tryd.underlying23 size_key HK.out ?_))
  refine (CS.out gi ci w3 hB3).mono ?_
  rintro e w4 ⟨rfl, hb4⟩
  have hB4 := below_then hB3 hb4
  have hC4 := hC3.on hb4
  have hR4 := hR3.on hb4
  clear CS hB3 hC3 hb4 c32 c33 hrg hR3
  have c32 := case8_nonce HK.out hC4
  have c33 := case8_with HK.out hC4
  have hrg := case8_range hC4
  go_wp2_with (first
    | (refine range_step rfl 23 _ rfl w.heap.size 0 32 key 5 rfl hrg Tryd.underlying23 size_key HK.out ?_))
  refine (CR.out w4 hB4).mono ?_
  rintro e w5 ⟨rfl, hb5⟩
  have hB5 := below_then hB4 hb5
  have hR5 := hR4.on hb5
  clear CR hB4 hC4 hb5 c32 c33 hrg hR4
  have k0 : (convert 24 9 (.slice none 0 0)).run Tryd.prog w5 = .ok (.string (str [])) w5 := conv_n (xs := []) rfl (Row.nil (w := w5) (B := w5.heap.size)) 0 w5 (Below.refl _ _)
  go_wp2_with fail
  refine (num_is es i z a w5 (HE.out.below hB5) HA.out HZ.out).mono ?_
  rintro e w6 ⟨rfl, hb6⟩
  have hB6 := below_then hB5 hb6
  have hR6 := hR5.on hb6
  clear hB5 hR5 hb6 k0
  go_wp2_with fail
  refine (kept_n HBL.out hR6 (hb.on hB6) hc3 hc4 (by omega)).mono ?_
  rintro e w7 ⟨rfl, nk, rfl⟩
  go_wp2
  go_ret
  exact ⟨rfl, below_drewN hB6 nk⟩
set_option maxRecDepth 100000 in
set_option maxHeartbeats 2000000 in
theorem ok_over (A B D : Option Addr) (d la ca L c : Nat) (key bs ss : List UInt8) (w : World) (HK : Hid (key.length = 32)) (hla : la ≤ 16384) (hL : L ≤ 16384) (HBL : Hid (bs.length = L)) (HSL : Hid (ss.length = L + 16)) (hb : Row w w.heap.size D bs) (hDn : D = none → c = 0)
    (CA : Hid (∀ W, Below w.heap.size w W → Calls Tryd.prog 7 #[] W fun e w' => e = .returned (.bool true) ∧ Below W.heap.size W w'))
    (CS : Hid (∀ gi ci W, Below w.heap.size w W → Row W W.heap.size (some ⟨gi, 0, none⟩) bs → Calls Tryd.prog 9 #[hashVal key, .slice A 12 d, .slice B la ca, .slice (some ⟨gi, 0, none⟩) L ci] W (GivesOk W ss (L + 16))))
    (CR : Hid (∀ W, Below w.heap.size w W → Calls Tryd.prog 10 #[hashVal key, .slice A 12 d, .slice B la ca, .slice D L c] W (GivesNum W ss (L + 16) 0)))
    (CO : Hid (∀ E ce W, Below w.heap.size w W → Row W W.heap.size E ss → L + 16 ≤ ce → Calls Tryd.prog 13 #[hashVal key, .slice A 12 d, .slice B la ca, .slice E (L + 16) ce] W (GivesOk W bs L))) :
    Calls Tryd.prog 3 #[caseVal8 key A 12 d B la ca, .slice D L c] w fun e w' => e = .returned (.bool true) ∧ Below w.heap.size w w' := by
  have i2 : ¬ (17000 : Int) < (la : Int) := by omega
  have i3 : ¬ (17000 : Int) < (L : Int) := by omega
  go_enter Tryd.func3, Tryd.ntmps3
  go_wp2_with (first
    | (refine vtake_step rfl 26 _ rfl (caseCells8 key A 12 d B la ca) rfl ?_
       intro w1 hB1 hC1))
  refine (CA.out w1 hB1).mono ?_
  rintro e w2 ⟨rfl, hb2⟩
  have hB2 := below_then hB1 hb2
  have hC2 := hC1.on hb2
  clear CA hB1 hC1 hb2
  have c32 := case8_nonce HK.out hC2
  have c33 := case8_with HK.out hC2
  go_wp2_with fail
  refine (bytes_n HBL.out (hb.on hB2) hDn (by omega)).mono ?_
  rintro e w3 ⟨gi, ci, rfl, hc3, hc4, _, hR3, hb3⟩
  have hB3 := below_then hB2 hb3
  have hC3 := hC2.on hb3
  clear hB2 hC2 hb3 c32 c33
  have c32 := case8_nonce HK.out hC3
  have c33 := case8_with HK.out hC3
  have hrg := case8_range hC3
  go_wp2_with (first
    | (refine range_step rfl 23 _ rfl w.heap.size 0 32 key 5 rfl hrg Tryd.underlying23 size_key HK.out ?_))
  refine (CS.out gi ci w3 hB3 hR3.head).mono ?_
  rintro e w4 ⟨A4, c4, rfl, _, hle4, _, r4, hb4⟩
  have hB4 := below_then hB3 hb4
  have hC4 := hC3.on hb4
  have hR4 := hR3.on hb4
  clear CS hB3 hC3 hb4 c32 c33 hrg hR3
  have c32 := case8_nonce HK.out hC4
  have c33 := case8_with HK.out hC4
  have hrg := case8_range hC4
  generalize hNL : L + 16 = NL at *
  replace hNL := Lib.hid hNL
  go_wp2_with (first
    | (refine range_step rfl 23 _ rfl w.heap.size 0 32 key 5 rfl hrg Tryd.underlying23 size_key HK.out ?_))
  refine (CR.out w4 hB4).mono ?_
  rintro e w5 ⟨A5, c5, rfl, _, _, _, r5, hb5⟩
  have hB5 := below_then hB4 hb5
  have hC5 := hC4.on hb5
  have hR5 := hR4.on hb5
  have s5 := r4.on hb5
  have k1 := conv_n HSL.out s5 c4 w5 (Below.refl _ _)
  have k2 := conv_n HSL.out r5 c5 w5 (Below.refl _ _)
  clear CR hB4 hC4 hb5 c32 c33 hrg hR4 r4 r5
  go_wp2_with fail
  refine (num_nil w5).mono ?_
  rintro e w6 ⟨rfl, rfl⟩
  clear k1 k2
  go_wp2_with fail
  refine (kept_n HBL.out hR5 (hb.on hB5) hc3 hc4 (by omega)).mono ?_
  rintro e w6 ⟨rfl, nk, rfl⟩
  have hB6 := below_drewN hB5 nk
  have hC6 := hC5.drewN nk
  have s6 : Row (w5.drewN nk) (w5.drewN nk).heap.size A4 ss := s5.drewN nk
  clear hB5 hC5 hR5 s5
  generalize w5.drewN nk = w6 at *
  have c32 := case8_nonce HK.out hC6
  have c33 := case8_with HK.out hC6
  have hrg := case8_range hC6
  go_wp2_with (first
    | (refine range_step rfl 23 _ rfl w.heap.size 0 32 key 5 rfl hrg Tryd.underlying23 size_key HK.out ?_))
  refine (CO.out A4 c4 w6 hB6 s6 hle4).mono ?_
  rintro e w7 ⟨A7, c7, rfl, _, _, _, r7, hb7⟩
  have hB7 := below_then hB6 hb7
  have k3 := conv_n HBL.out r7 c7 w7 (Below.refl _ _)
  have k4 := conv_n HBL.out (hb.on hB7) c w7 (Below.refl _ _)
  clear CO hB6 hC6 s6 hb7 c32 c33 hrg r7
  go_wp2
  go_ret
  exact ⟨rfl, hB7⟩
end Go.Proofs.YtdaieklimdhkoaaDoor.sealSeals
