/- The walks of the law fellowshiplaw06.StreamTurns. -/
import Derived.Test.YtejcbboajikdkaaDoorPart7
import Derived.Deep.RegionHeld3
namespace Go.Proofs.YtejcbboajikdkaaDoor.streamTurns
open Go.ChangeShapes Go.WideShapes Go.ChangeAt Go.RowKit
set_option maxRecDepth 100000 in
set_option maxHeartbeats 1000000 in
theorem long_walk (A B : Option Addr) (d n L c : Nat) (key : List UInt8) (x : BitVec 32) (w : World) (HK : Hid (key.length = 32)) (hn : 50 < n ∨ 1000 < L) :
    Calls Tryd.prog 4 #[caseVal key x A n d, .slice B L c] w fun e w' => e = .returned (.bool true) ∧ Below w.heap.size w w' := by
  by_cases h1 : (50 : Int) < (n : Int)
  all_goals
    try have h2 : (1000 : Int) < (L : Int) := by omega
    clear hn
    go_enter Tryd.func4, Tryd.ntmps4
    go_wp2_with (first
      | (refine vtake_step rfl 40 _ rfl (caseCells key x A n d) rfl ?_
         intro w1 hB1 hC1)
      | (go_at_call 7
         refine (alive6 _).mono ?_
         rintro e w2 ⟨rfl, rfl⟩
         have c33 := case_nonce HK.out hC1))
    go_ret
    exact ⟨rfl, hB1⟩
set_option maxRecDepth 100000 in
set_option maxHeartbeats 2000000 in
theorem out_over (A B : Option Addr) (d n L c : Nat) (key bs : List UInt8) (x : BitVec 32) (es : List Addr) (a : Addr) (w : World) (HK : Hid (key.length = 32)) (hn : n ≤ 50) (hn2 : n ≠ 12) (hL : L ≤ 1000) (HBL : Hid (bs.length = L)) (hb : Row w w.heap.size B bs) (hBn : B = none → c = 0) (HE : Hid (Errs w es)) (HA : Hid (es[3]? = some a))
    (CT : Hid (∀ gi ci W, Below w.heap.size w W → Calls Tryd.prog 14 #[hashVal key, wcell x, .slice A n d, .slice (some ⟨gi, 0, none⟩) L ci] W fun e w' => e = .returned (.tuple #[.slice none 0 0, errAt a]) ∧ Below W.heap.size W w')) :
    Calls Tryd.prog 4 #[caseVal key x A n d, .slice B L c] w fun e w' => e = .returned (.bool true) ∧ Below w.heap.size w w' := by
  have i1 : ¬ (50 : Int) < (n : Int) := by omega
  have i2 : ¬ (1000 : Int) < (L : Int) := by omega
  have i3 : ¬ (n : Int) = 12 := by omega
  go_enter Tryd.func4, Tryd.ntmps4
  go_wp2_with (first
    | (refine vtake_step rfl 40 _ rfl (caseCells key x A n d) rfl ?_
       intro w1 hB1 hC1)
    | (go_at_call 7
       refine (alive6 _).mono ?_
       rintro e w2 ⟨rfl, rfl⟩
       have c33 := case_nonce HK.out hC1))
  refine (bytes_n HBL.out (hb.on hB1) hBn (by omega)).mono ?_
  rintro e w3 ⟨gi, ci, rfl, hc3, hc4, _, hR3, hb3⟩
  have hB3 := below_then hB1 hb3
  have hC3 := hC1.on hb3
  clear hB1 hC1 hb3 c33
  have c32 := case_word HK.out hC3
  have c33 := case_nonce HK.out hC3
  have hrg := case_range hC3
  go_wp2_with (first
    | (refine range_step rfl 25 _ rfl w.heap.size 0 32 key 5 rfl hrg Tryd.underlying25 size_key HK.out ?_))
  refine (CT.out gi ci w3 hB3).mono ?_
  rintro e w4 ⟨rfl, hb4⟩
  have hB4 := below_then hB3 hb4
  have hC4 := hC3.on hb4
  clear CT hB3 hC3 hb4 c32 c33 hrg hR3
  have c33 := case_nonce HK.out hC4
  go_wp2_with fail
  refine (num_is es 3 4 a w4 (HE.out.below hB4) HA.out rfl).mono ?_
  rintro e w8 ⟨rfl, hb8⟩
  go_wp2
  go_ret
  exact ⟨rfl, below_then hB4 hb8⟩
set_option maxRecDepth 100000 in
set_option maxHeartbeats 2000000 in
theorem in_over (A B : Option Addr) (d L c : Nat) (key bs tt : List UInt8) (x : BitVec 32) (w : World) (HK : Hid (key.length = 32)) (hL : L ≤ 1000) (HBL : Hid (bs.length = L)) (HTL : Hid (tt.length = L)) (hb : Row w w.heap.size B bs) (hBn : B = none → c = 0)
    (CT1 : Hid (∀ gi ci W, Below w.heap.size w W → Row W W.heap.size (some ⟨gi, 0, none⟩) bs → Calls Tryd.prog 14 #[hashVal key, wcell x, .slice A 12 d, .slice (some ⟨gi, 0, none⟩) L ci] W (GivesOk W tt L)))
    (CT2 : Hid (∀ D cd W, Below w.heap.size w W → Row W W.heap.size D tt → Calls Tryd.prog 14 #[hashVal key, wcell x, .slice A 12 d, .slice D L cd] W (GivesOk W bs L)))
    (CF : Hid (∀ W, Below w.heap.size w W → Calls Tryd.prog 15 #[hashVal key, wcell x, .slice A 12 d, .slice B L c] W (Gives W tt L))) :
    Calls Tryd.prog 4 #[caseVal key x A 12 d, .slice B L c] w fun e w' => e = .returned (.bool true) ∧ Below w.heap.size w w' := by
  have i2 : ¬ (1000 : Int) < (L : Int) := by omega
  go_enter Tryd.func4, Tryd.ntmps4
  go_wp2_with (first
    | (refine vtake_step rfl 40 _ rfl (caseCells key x A 12 d) rfl ?_
       intro w1 hB1 hC1)
    | (go_at_call 7
       refine (alive6 _).mono ?_
       rintro e w2 ⟨rfl, rfl⟩
       have c33 := case_nonce HK.out hC1))
  refine (bytes_n HBL.out (hb.on hB1) hBn (by omega)).mono ?_
  rintro e w3 ⟨gi, ci, rfl, hc3, hc4, _, hR3, hb3⟩
  have hB3 := below_then hB1 hb3
  have hC3 := hC1.on hb3
  clear hB1 hC1 hb3 c33
  have c32 := case_word HK.out hC3
  have c33 := case_nonce HK.out hC3
  have hrg := case_range hC3
  go_wp2_with (first
    | (refine range_step rfl 25 _ rfl w.heap.size 0 32 key 5 rfl hrg Tryd.underlying25 size_key HK.out ?_))
  refine (CT1.out gi ci w3 hB3 hR3.head).mono ?_
  rintro e w4 ⟨A4, c4, rfl, _, _, _, r4, hb4⟩
  have hB4 := below_then hB3 hb4
  have hC4 := hC3.on hb4
  have hR4 := hR3.on hb4
  clear CT1 hB3 hC3 hb4 c32 c33 hrg hR3
  have c32 := case_word HK.out hC4
  have c33 := case_nonce HK.out hC4
  have hrg := case_range hC4
  have hu := Tryd.underlying25
  have hi : (Tryd.prog.info? 25).map (·.size) = some (key.map cellOf).length := by rw [List.length_map, HK.out]; exact size_key
  have kX := conv_n HTL.out r4 c4
  have HC4 := Lib.hid hC4
  have HR4 := Lib.hid hR4
  have H4 := Lib.hid r4
  clear r4 hC4 hR4
  go_wp2_with fail
  go_region_held (fun w' => Below w4.heap.size w4 w' ∧ w'.rangeAt w.heap.size 0 (key.map cellOf) ∧ w'.cell? ⟨w.heap.size, 32, none⟩ = some (wcell x) ∧ w'.cell? ⟨w.heap.size, 33, none⟩ = some (.slice A 12 d)) (first | exact ⟨(Below.refl _ _), hrg, c32, c33⟩ | exact ⟨(Below.refl _ _).drew, hrg, c32, c33⟩ | exact ⟨‹_›, case_range (HC4.out.on ‹_›), case_word HK.out (HC4.out.on ‹_›), case_nonce HK.out (HC4.out.on ‹_›)⟩)
    (first
      | (go_at_call 15
         refine (CF.out _ (hB4.drew)).mono ?_
         clear CF
         rintro e w5 ⟨A5, c5, rfl, e1, e2, e3, e4, hb5⟩
         replace hb5 : Below w4.heap.size w4 w5 := Below.trans (Below.refl w4.heap.size w4).drew hb5
         have kR := conv_n HTL.out e4 c5 _ (Below.refl _ _)
         clear e4)
      | (go_at_call 16
         refine (kept_n HBL.out (HR4.out.on hb5) (hb.on (below_then hB4 hb5)) hc3 hc4 (by omega)).mono ?_
         rintro e w6 ⟨rfl, nk, rfl⟩
         have hb6 := below_drewN hb5 nk
         clear kR hb5))
  have hB6 := below_then hB4 hb6
  have hC6 := HC4.out.on hb6
  have h6 := H4.out.on hb6
  clear hB4 HC4 HR4 H4 c32 c33 hrg hu hi kX hb6
  generalize w5.drewN nk = w6 at *
  have c32 := case_word HK.out hC6
  have c33 := case_nonce HK.out hC6
  have hrg := case_range hC6
  go_wp2_with (first
    | (refine range_step rfl 25 _ rfl w.heap.size 0 32 key 5 rfl hrg Tryd.underlying25 size_key HK.out ?_))
  refine (CT2.out A4 c4 w6 hB6 h6).mono ?_
  rintro e w7 ⟨A7, c7, rfl, _, _, _, r7, hb7⟩
  have hB7 := below_then hB6 hb7
  have kP := conv_n HBL.out r7 c7 w7 (Below.refl _ _)
  have kQ := conv_n HBL.out (hb.on hB7) c w7 (Below.refl _ _)
  clear CT2 hB6 hC6 h6 hb7 c32 c33 hrg r7
  go_wp2
  go_ret
  exact ⟨rfl, hB7⟩
end Go.Proofs.YtejcbboajikdkaaDoor.streamTurns
