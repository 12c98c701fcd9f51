/- The walk of the law fellowshiplaw05.DeriveLabels where nothing is too long. -/
import Derived.Test.YtmhelmmonkgmmaaDoorPart8
import Derived.Test.YtmhelmmonkgmmaaDoorMLaw
import Derived.Deep.RegionHeld
import Derived.Test.YtmhelmmonkgmmaaDoorPart5
namespace Go.Proofs.YtmhelmmonkgmmaaDoor.deriveLabels
open Go.ChangeShapes Go.WideShapes Go.ChangeAt Go.RowKit
set_option maxRecDepth 100000 in
theorem frame102 (a : Act) (hs : a.tmps.size = 102) (hd : a.defers = []) : ∃ u : Nat → Value, a = ⟨(u 0 :: u 1 :: u 2 :: u 3 :: u 4 :: u 5 :: u 6 :: u 7 :: u 8 :: u 9 :: u 10 :: u 11 :: u 12 :: u 13 :: u 14 :: u 15 :: u 16 :: u 17 :: u 18 :: u 19 :: u 20 :: u 21 :: u 22 :: u 23 :: u 24 :: u 25 :: u 26 :: u 27 :: u 28 :: u 29 :: u 30 :: u 31 :: u 32 :: u 33 :: u 34 :: u 35 :: u 36 :: u 37 :: u 38 :: u 39 :: u 40 :: u 41 :: u 42 :: u 43 :: u 44 :: u 45 :: u 46 :: u 47 :: u 48 :: u 49 :: u 50 :: u 51 :: u 52 :: u 53 :: u 54 :: u 55 :: u 56 :: u 57 :: u 58 :: u 59 :: u 60 :: u 61 :: u 62 :: u 63 :: u 64 :: u 65 :: u 66 :: u 67 :: u 68 :: u 69 :: u 70 :: u 71 :: u 72 :: u 73 :: u 74 :: u 75 :: u 76 :: u 77 :: u 78 :: u 79 :: u 80 :: u 81 :: u 82 :: u 83 :: u 84 :: u 85 :: u 86 :: u 87 :: u 88 :: u 89 :: u 90 :: u 91 :: u 92 :: u 93 :: u 94 :: u 95 :: u 96 :: u 97 :: u 98 :: u 99 :: u 100 :: u 101 :: []).toArray, []⟩ := by
  obtain ⟨u, h⟩ := frame_of 102 a hs hd
  exact ⟨u, h⟩
/-- Of a frame only some slots are told. -/
theorem told {P : Program} {c : Code} {Q : Exit → Act → World → Prop} {a : Act} {w : World} (n : Nat) (l : List (Nat × Value)) (hF : Fr n l a) (h : ∀ a', Fr n l a' → c.wp P Q a' w) : c.wp P Q a w := h a hF
theorem hash_guard2 (op : BinOp) (x y : Operand) (vs : Array Value) (es : List UInt8) (w : World) : (eqGuard op 30 x y (.agg vs) (hashVal es)).run Tryd.prog w = .ok () w := run_eqGuard_agg w op 30 x y _ _ (by kernel_rfl)
set_option maxRecDepth 100000 in
set_option maxHeartbeats 2000000 in
/-- The walk over the calls' contracts, what they make being letters. -/
theorem over_contracts (B : Option Addr) (d m n : Nat) (sec lb ctx ii bb ss : List UInt8) (w : World) (hs : sec.length = 32) (hl : lb.length = n) (hn : n ≤ 200) (hbl : ctx.length = m) (hb : Row w w.heap.size B ctx) (hB : B = none → d = 0) (hd : m ≤ d) (hd2 : d ≤ maxLen) (hm : m ≤ 16384)
    (hii : ii.length = 16 + n + m) (hbb : bb.length = 40) (hss : ss.length = 32)
    (HI : Hid (∀ W, Below w.heap.size w W → Calls Tryd.prog 14 #[.string (str lb), .slice B m d, .int .i64 40] W (GivesOk W ii (16 + n + m))))
    (HA : Hid (∀ W, Below w.heap.size w W → Calls Tryd.prog 15 #[hashVal sec, .string (str lb), .slice B m d, .int .i64 40] W (GivesOk W bb 40)))
    (HS : Hid (∀ W D, Below w.heap.size w W → Parts W W.heap.size D [ctx] → Calls Tryd.prog 16 #[hashVal sec, .string (str lb), .slice D 1 1] W fun e w' => e = .returned (hashVal ss) ∧ Below W.heap.size W w'))
    (RI : Hid (∀ W, Below w.heap.size w W → Calls Tryd.prog 17 #[.string (str lb), .slice B m d, .int .i64 40] W (Gives W ii (16 + n + m))))
    (RA : Hid (∀ W, Below w.heap.size w W → Calls Tryd.prog 18 #[hashVal sec, .string (str lb), .slice B m d, .int .i64 40] W (GivesF W bb 40)))
    (RS : Hid (∀ W, Below w.heap.size w W → Calls Tryd.prog 19 #[hashVal sec, .string (str lb), .slice B m d] W fun e w' => e = .returned (hashVal ss) ∧ Below W.heap.size W w')) :
    Calls Tryd.prog 4 #[hashVal sec, .string (str lb), .slice B m d] w fun e w' => e = .returned (.bool true) ∧ Below w.heap.size w w' := by
  have hsz : (str lb).size = n := by rw [str_size, hl]
  have i1 : ¬ (400 : Int) < (n : Int) := by omega
  have i2 : ¬ (17000 : Int) < (m : Int) := by omega
  have i3 : ¬ (200 : Int) < (n : Int) := by omega
  have i4 : ¬ (16384 : Int) < (m : Int) := by omega
  have HBL := Lib.hid hbl
  have HSL := Lib.hid hs
  have HIL := Lib.hid hii
  have HXL := Lib.hid hbb
  have HYL := Lib.hid hss
  clear hl hbl hs hii hbb hss
  go_enter Tryd.func4, Tryd.ntmps4
  go_wp2_with (first
    | (refine take_step rfl 30 _ rfl sec rfl ?_
       intro w0 hB0 hC0 hz0
       clear hz0)
    | (go_at_call 6
       refine (alive5 _).mono ?_
       rintro e w1 ⟨rfl, hb1⟩
       have hB1 := below_then hB0 hb1
       have hC1 := hC0.on hb1
       clear hB0 hC0 hb1)
    | (go_at_call 14
       refine (HI.out w1 hB1).mono ?_
       rintro e w2 ⟨A2, c2, rfl, a1, a2, a3, r2, hb2⟩
       have hB2 := below_then hB1 hb2
       have hC2 := hC1.on hb2
       clear hB1 hC1 hb2 HI)
    | (refine get_step rfl 30 (.tmp 3) rfl w.heap.size 32 sec _ rfl hC2 Tryd.underlying30 size_h32 HSL.out ?_)
    | (go_at_call 15
       refine (HA.out w2 hB2).mono ?_
       rintro e w3 ⟨A3, c3, rfl, b1, b2, b3, q3, hb3⟩
       have hB3 := below_then hB2 hb3
       have hC3 := hC2.on hb3
       have r3 := r2.on hb3
       have HP3 := Lib.hid (parts_one w3 B m d ctx HBL.out (hb.on hB3) hB hd hd2)
       have HB3 : Hid (Below w3.heap.size w3 (w3.alloc (.cells #[.slice B m d] 22))) := (Below.refl _ _).alloc (Nat.le_refl _) _
       clear hB2 hC2 hb3 r2 HA)
    | (refine get_step rfl 30 (.tmp 3) rfl w.heap.size 32 sec _ rfl hC3 Tryd.underlying30 size_h32 HSL.out ?_))
  generalize w3.alloc (.cells #[.slice B m d] 22) = w4 at *
  have hB4 := below_then hB3 HB3.out
  have hC4 := hC3.on HB3.out
  have r4 := r3.on HB3.out
  have q4 := q3.on HB3.out
  refine (HS.out w4 _ hB4 HP3.out).mono ?_
  rintro e w5 ⟨rfl, hb5⟩
  have hB5 := below_then hB4 hb5
  have hC5 := hC4.on hb5
  have r5 := r4.on hb5
  have q5 := q4.on hb5
  clear hB3 hC3 HP3 HB3 hB4 hC4 hb5 r3 r4 q3 q4 HS
  go_wp2_with (first
    | (refine put_step rfl rfl 30 (.tmp 11) (.tmp 39) rfl rfl 32 ss rfl rfl zero_h32 size_h32 HYL.out ?_
       intro w6 hb6 hC6 hz6
       clear hz6
       have hB6 := below_then hB5 hb6
       have hD6 := hC5.on hb6
       have r6 := r5.on hb6
       have q6 := q5.on hb6
       generalize w5.heap.size = go at *
       clear hb6 hB5 hC5 r5 q5))
  have kI := conv_n HIL.out r6 c2
  have kB := conv_n HXL.out q6 c3
  have hrg1 := hD6.rangeAll
  have hrg2 := hC6.rangeAll
  have hu := Tryd.underlying30
  have hi1 : (Tryd.prog.info? 30).map (·.size) = some (sec.map cellOf).length := by rw [List.length_map, HSL.out]; exact size_h32
  have hi2 : (Tryd.prog.info? 30).map (·.size) = some (ss.map cellOf).length := by rw [List.length_map, HYL.out]; exact size_h32
  have hq : ∀ w, (binOp .eql 30 (.agg (ss.map cellOf).toArray) (hashVal ss)).run Tryd.prog w = .ok (.bool true) w := fun w => by
    have h := code_eql ss ss HYL.out HYL.out w
    rw [beq_self_eq_true] at h
    exact h
  have hgd := hash_guard2
  have RI6 := Lib.hid (fun W (hW : Below w6.heap.size w6 W) => RI.out W (below_then hB6 hW))
  have RA6 := Lib.hid (fun W (hW : Below w6.heap.size w6 W) => RA.out W (below_then hB6 hW))
  have RS6 := Lib.hid (fun W (hW : Below w6.heap.size w6 W) => RS.out W (below_then hB6 hW))
  clear r6 q6 hD6 hC6 RI RA RS
  refine told 102 [(1, .string (str lb)), (2, .slice B m d), (3, .pointer (some ⟨w.heap.size, 0, none⟩)), (7, .slice A2 (16 + n + m) c2), (8, .nilIface), (9, .slice A3 40 c3), (10, .nilIface), (11, .pointer (some ⟨go, 0, none⟩))] ⟨rfl, rfl, rfl, rfl, rfl, rfl, rfl, rfl, rfl, rfl, trivial⟩ ?_
  rintro a' ⟨hs0, hd0, s1, s2, s3, s7, s8, s9, s10, s11, _⟩
  obtain ⟨u, rfl⟩ := frame102 a' hs0 hd0
  change u 1 = _ at s1
  change u 2 = _ at s2
  change u 3 = _ at s3
  change u 7 = _ at s7
  change u 8 = _ at s8
  change u 9 = _ at s9
  change u 10 = _ at s10
  change u 11 = _ at s11
  rw [s1, s2, s3, s7, s8, s9, s10, s11]
  clear hs0 hd0 s1 s2 s3 s7 s8 s9 s10 s11
  refine wp_region_held_drew (S := fun w' => Below w6.heap.size w6 w' ∧ w'.rangeAt w.heap.size 0 (sec.map cellOf) ∧ w'.rangeAt go 0 (ss.map cellOf)) (by kernel_rfl) ⟨(Below.refl _ _).drew, hrg1, hrg2⟩ (fun hHeld => ?_)
  refine wpAnyH_take (i := 0) (oi := ⟨some 69, _, _, _, _, _⟩) (v := ?_) rfl (by kernel_rfl) (by kernel_rfl) (by kernel_rfl) (fun _ _ _ h => h) (Or.inl ⟨by rfl, ?_⟩) hHeld ?_
  rotate_left
  · (intro w hSw; (try dsimp only at hSw); go_simp; try with_reducible rfl)
  simp only [Act.put, List.setIfInBounds_toArray, List.set_cons_zero, List.set_cons_succ]
  refine wpAnyH_take (i := 1) (oi := ⟨some 70, _, _, _, _, _⟩) (v := ?_) rfl (by kernel_rfl) (by kernel_rfl) (by kernel_rfl) (fun _ _ _ h => h) (Or.inl ⟨by rfl, ?_⟩) hHeld ?_
  rotate_left
  · (intro w hSw; (try dsimp only at hSw); go_simp; try with_reducible rfl)
  simp only [Act.put, List.setIfInBounds_toArray, List.set_cons_zero, List.set_cons_succ]
  refine wpAnyH_take (i := 2) (oi := ⟨some 71, _, _, _, _, _⟩) (v := ?_) rfl (by kernel_rfl) (by kernel_rfl) (by kernel_rfl) (fun _ _ _ h => h) (Or.inl ⟨by rfl, ?_⟩) hHeld ?_
  rotate_left
  · (intro w hSw; (try dsimp only at hSw); go_simp; try with_reducible rfl)
  simp only [Act.put, List.setIfInBounds_toArray, List.set_cons_zero, List.set_cons_succ]
  refine wpAnyH_take (i := 3) (oi := ⟨some 72, _, _, _, _, _⟩) (v := ?_) rfl (by kernel_rfl) (by kernel_rfl) (by kernel_rfl) (fun _ _ _ h => h) (Or.inl ⟨by rfl, ?_⟩) hHeld ?_
  rotate_left
  · (intro w hSw; (try dsimp only at hSw); go_simp; try with_reducible rfl)
  simp only [Act.put, List.setIfInBounds_toArray, List.set_cons_zero, List.set_cons_succ]
  refine wpAnyH_take (i := 4) (oi := ⟨some 73, _, _, _, _, _⟩) (v := ?_) rfl (by kernel_rfl) (by kernel_rfl) (by kernel_rfl) (fun _ _ _ h => h) (Or.inl ⟨by rfl, ?_⟩) hHeld ?_
  rotate_left
  · (intro w hSw; (try dsimp only at hSw); go_simp; try with_reducible rfl)
  simp only [Act.put, List.setIfInBounds_toArray, List.set_cons_zero, List.set_cons_succ]
  refine wpAnyH_take (i := 5) (oi := ⟨some 74, _, _, _, _, _⟩) (v := ?_) rfl (by kernel_rfl) (by kernel_rfl) (by kernel_rfl) (fun _ _ _ h => h) (Or.inl ⟨by rfl, ?_⟩) hHeld ?_
  rotate_left
  · (intro w hSw; (try dsimp only at hSw); go_simp; try with_reducible rfl)
  simp only [Act.put, List.setIfInBounds_toArray, List.set_cons_zero, List.set_cons_succ]
  refine wpAnyH_take (i := 6) (oi := ⟨some 75, _, _, _, _, _⟩) (v := ?_) rfl (by kernel_rfl) (by kernel_rfl) (by kernel_rfl) (fun _ _ _ h => h) (Or.inl ⟨by rfl, ?_⟩) hHeld ?_
  rotate_left
  · (intro w hSw; (try dsimp only at hSw); go_simp; try with_reducible rfl)
  simp only [Act.put, List.setIfInBounds_toArray, List.set_cons_zero, List.set_cons_succ]
  refine wpAnyH_take (i := 7) (oi := ⟨some 76, _, _, _, _, _⟩) (v := ?_) rfl (by kernel_rfl) (by kernel_rfl) (by kernel_rfl) (fun _ _ _ h => h) (Or.inl ⟨by rfl, ?_⟩) hHeld ?_
  rotate_left
  · (intro w hSw; (try dsimp only at hSw); go_simp; try with_reducible rfl)
  simp only [Act.put, List.setIfInBounds_toArray, List.set_cons_zero, List.set_cons_succ]
  refine wpAnyH_take (i := 8) (oi := ⟨some 77, _, _, _, _, _⟩) (v := ?_) rfl (by kernel_rfl) (by kernel_rfl) (by kernel_rfl) (fun _ _ _ h => h) (Or.inl ⟨by rfl, ?_⟩) hHeld ?_
  rotate_left
  · (intro w hSw; (try dsimp only at hSw); go_simp; try with_reducible rfl)
  simp only [Act.put, List.setIfInBounds_toArray, List.set_cons_zero, List.set_cons_succ]
  refine wpAnyH_take (i := 9) (oi := ⟨some 78, _, _, _, _, _⟩) (v := ?_) rfl (by kernel_rfl) (by kernel_rfl) (by kernel_rfl) (fun _ _ _ h => h) (Or.inl ⟨by rfl, ?_⟩) hHeld ?_
  rotate_left
  · (intro w hSw; (try dsimp only at hSw); go_simp; try with_reducible rfl)
  simp only [Act.put, List.setIfInBounds_toArray, List.set_cons_zero, List.set_cons_succ]
  refine wpAnyH_take (i := 10) (oi := ⟨some 79, _, _, _, _, _⟩) (v := ?_) rfl (by kernel_rfl) (by kernel_rfl) (by kernel_rfl) (fun _ _ _ h => h) (Or.inl ⟨by rfl, ?_⟩) hHeld ?_
  rotate_left
  · (intro w hSw; (try dsimp only at hSw); go_simp; try with_reducible rfl)
  simp only [Act.put, List.setIfInBounds_toArray, List.set_cons_zero, List.set_cons_succ]
  refine wpAnyH_ready (rs := [11]) (by kernel_rfl) (by simp) (AllReadyH.cons rfl (fun K hK => ?_) AllReadyH.nil)
  go_simp
  go_wp2_with (first
    | (go_at_call 17
       refine (RI6.out _ hHeld.1).mono ?_
       clear RI6
       rintro e w7 ⟨A7, c7, rfl, e1, e2, e3, e4, hb7⟩
       replace hb7 : Below w6.heap.size w6 w7 := Below.trans (Below.refl w6.heap.size w6).drew hb7
       have kR1 := conv_n HIL.out e4 c7 _ (Below.refl _ _)
       clear e4))
  refine hK.out _ _ ?_ (fun hHeld => ?_)
  · first | exact hHeld | exact ⟨‹_›, rangeAt_below hrg1 ‹_›, rangeAt_below hrg2 ‹_›⟩
  clear hK K
  refine wpAnyH_ready (rs := [12]) (by kernel_rfl) (by simp) (AllReadyH.cons rfl (fun K hK => ?_) AllReadyH.nil)
  go_simp
  refine hK.out _ _ ?_ (fun hHeld => ?_)
  · first | exact hHeld | exact ⟨‹_›, rangeAt_below hrg1 ‹_›, rangeAt_below hrg2 ‹_›⟩
  clear hK K
  refine wpAnyH_take (i := 13) (oi := ⟨some 82, _, _, _, _, _⟩) (v := ?_) rfl (by kernel_rfl) (by kernel_rfl) (by kernel_rfl) (fun _ _ _ h => h) (Or.inl ⟨by rfl, ?_⟩) hHeld ?_
  rotate_left
  · (intro w hSw; (try dsimp only at hSw); go_simp; try with_reducible rfl)
  simp only [Act.put, List.setIfInBounds_toArray, List.set_cons_zero, List.set_cons_succ]
  refine wpAnyH_take (i := 14) (oi := ⟨some 83, _, _, _, _, _⟩) (v := ?_) rfl (by kernel_rfl) (by kernel_rfl) (by kernel_rfl) (fun _ _ _ h => h) (Or.inl ⟨by rfl, ?_⟩) hHeld ?_
  rotate_left
  · (intro w hSw; (try dsimp only at hSw); go_simp; try with_reducible rfl)
  simp only [Act.put, List.setIfInBounds_toArray, List.set_cons_zero, List.set_cons_succ]
  refine wpAnyH_take (i := 15) (oi := ⟨some 84, _, _, _, _, _⟩) (v := ?_) rfl (by kernel_rfl) (by kernel_rfl) (by kernel_rfl) (fun _ _ _ h => h) (Or.inl ⟨by rfl, ?_⟩) hHeld ?_
  rotate_left
  · (intro w hSw; (try dsimp only at hSw); go_simp; try with_reducible rfl)
  simp only [Act.put, List.setIfInBounds_toArray, List.set_cons_zero, List.set_cons_succ]
  refine wpAnyH_take (i := 16) (oi := ⟨some 85, _, _, _, _, _⟩) (v := ?_) rfl (by kernel_rfl) (by kernel_rfl) (by kernel_rfl) (fun _ _ _ h => h) (Or.inl ⟨by rfl, ?_⟩) hHeld ?_
  rotate_left
  · (intro w hSw; (try dsimp only at hSw); go_simp; try with_reducible rfl)
  simp only [Act.put, List.setIfInBounds_toArray, List.set_cons_zero, List.set_cons_succ]
  refine wpAnyH_take (i := 17) (oi := ⟨some 86, _, _, _, _, _⟩) (v := ?_) rfl (by kernel_rfl) (by kernel_rfl) (by kernel_rfl) (fun _ _ _ h => h) (Or.inl ⟨by rfl, ?_⟩) hHeld ?_
  rotate_left
  · (intro w hSw; (try dsimp only at hSw); go_simp; try with_reducible rfl)
  simp only [Act.put, List.setIfInBounds_toArray, List.set_cons_zero, List.set_cons_succ]
  refine wpAnyH_take (i := 18) (oi := ⟨some 87, _, _, _, _, _⟩) (v := _) rfl (by kernel_rfl) (by kernel_rfl) (by kernel_rfl) (fun _ _ _ h => h) (yieldsIf_load_mid (by rfl) _ _ rfl w.heap.size 0 rfl (sec.map cellOf) _ (fun _ h => h.2.1) hu rfl hi1) hHeld ?_
  simp only [Act.put, List.setIfInBounds_toArray, List.set_cons_zero, List.set_cons_succ]
  refine wpAnyH_take (i := 19) (oi := ⟨some 88, _, _, _, _, _⟩) (v := ?_) rfl (by kernel_rfl) (by kernel_rfl) (by kernel_rfl) (fun _ _ _ h => h) (Or.inl ⟨by rfl, ?_⟩) hHeld ?_
  rotate_left
  · (intro w hSw; (try dsimp only at hSw); go_simp; try with_reducible rfl)
  simp only [Act.put, List.setIfInBounds_toArray, List.set_cons_zero, List.set_cons_succ]
  refine wpAnyH_take (i := 20) (oi := ⟨some 89, _, _, _, _, _⟩) (v := ?_) rfl (by kernel_rfl) (by kernel_rfl) (by kernel_rfl) (fun _ _ _ h => h) (Or.inl ⟨by rfl, ?_⟩) hHeld ?_
  rotate_left
  · (intro w hSw; (try dsimp only at hSw); go_simp; try with_reducible rfl)
  simp only [Act.put, List.setIfInBounds_toArray, List.set_cons_zero, List.set_cons_succ]
  refine wpAnyH_ready (rs := [21]) (by kernel_rfl) (by simp) (AllReadyH.cons rfl (fun K hK => ?_) AllReadyH.nil)
  go_simp
  go_wp2_with (first
    | (go_at_call 18
       refine (RA6.out _ hb7).mono ?_
       clear RA6
       rintro e w8 ⟨g8, c8, rfl, f1, f2, f3, f4, hb8⟩
       replace hb8 : Below w6.heap.size w6 w8 := below_then hb7 hb8
       have kR2 := conv_n HXL.out f4 c8 _ (Below.refl _ _)
       clear f4 hb7 kR1))
  refine hK.out _ _ ?_ (fun hHeld => ?_)
  · first | exact hHeld | exact ⟨‹_›, rangeAt_below hrg1 ‹_›, rangeAt_below hrg2 ‹_›⟩
  clear hK K
  refine wpAnyH_ready (rs := [22]) (by kernel_rfl) (by simp) (AllReadyH.cons rfl (fun K hK => ?_) AllReadyH.nil)
  go_simp
  refine hK.out _ _ ?_ (fun hHeld => ?_)
  · first | exact hHeld | exact ⟨‹_›, rangeAt_below hrg1 ‹_›, rangeAt_below hrg2 ‹_›⟩
  clear hK K
  refine wpAnyH_take (i := 23) (oi := ⟨some 92, _, _, _, _, _⟩) (v := ?_) rfl (by kernel_rfl) (by kernel_rfl) (by kernel_rfl) (fun _ _ _ h => h) (Or.inl ⟨by rfl, ?_⟩) hHeld ?_
  rotate_left
  · (intro w hSw; (try dsimp only at hSw); go_simp; try with_reducible rfl)
  simp only [Act.put, List.setIfInBounds_toArray, List.set_cons_zero, List.set_cons_succ]
  refine wpAnyH_take (i := 24) (oi := ⟨some 93, _, _, _, _, _⟩) (v := ?_) rfl (by kernel_rfl) (by kernel_rfl) (by kernel_rfl) (fun _ _ _ h => h) (Or.inl ⟨by rfl, ?_⟩) hHeld ?_
  rotate_left
  · (intro w hSw; (try dsimp only at hSw); go_simp; try with_reducible rfl)
  simp only [Act.put, List.setIfInBounds_toArray, List.set_cons_zero, List.set_cons_succ]
  refine wpAnyH_take (i := 25) (oi := ⟨some 94, _, _, _, _, _⟩) (v := ?_) rfl (by kernel_rfl) (by kernel_rfl) (by kernel_rfl) (fun _ _ _ h => h) (Or.inl ⟨by rfl, ?_⟩) hHeld ?_
  rotate_left
  · (intro w hSw; (try dsimp only at hSw); go_simp; try with_reducible rfl)
  simp only [Act.put, List.setIfInBounds_toArray, List.set_cons_zero, List.set_cons_succ]
  refine wpAnyH_take (i := 28) (oi := ⟨some 97, _, _, _, _, _⟩) (v := ?_) rfl (by kernel_rfl) (by kernel_rfl) (by kernel_rfl) (fun _ _ _ h => h) (Or.inl ⟨by rfl, ?_⟩) hHeld ?_
  rotate_left
  · (intro w hSw; (try dsimp only at hSw); go_simp; try with_reducible rfl)
  simp only [Act.put, List.setIfInBounds_toArray, List.set_cons_zero, List.set_cons_succ]
  refine wpAnyH_take (i := 29) (oi := ⟨some 98, _, _, _, _, _⟩) (v := ?_) rfl (by kernel_rfl) (by kernel_rfl) (by kernel_rfl) (fun _ _ _ h => h) (Or.inl ⟨by rfl, ?_⟩) hHeld ?_
  rotate_left
  · (intro w hSw; (try dsimp only at hSw); go_simp; try with_reducible rfl)
  simp only [Act.put, List.setIfInBounds_toArray, List.set_cons_zero, List.set_cons_succ]
  refine wpAnyH_take (i := 26) (oi := ⟨some 95, _, _, _, _, _⟩) (v := _) rfl (by kernel_rfl) (by kernel_rfl) (by kernel_rfl) (fun _ _ _ h => h) (yieldsIf_load_mid (by rfl) _ _ rfl go 0 rfl (ss.map cellOf) _ (fun _ h => h.2.2) hu rfl hi2) hHeld ?_
  simp only [Act.put, List.setIfInBounds_toArray, List.set_cons_zero, List.set_cons_succ]
  refine wpAnyH_take (i := 27) (oi := ⟨some 96, _, _, _, _, _⟩) (v := _) rfl (by kernel_rfl) (by kernel_rfl) (by kernel_rfl) (fun _ _ _ h => h) (yieldsIf_load_mid (by rfl) _ _ rfl w.heap.size 0 rfl (sec.map cellOf) _ (fun _ h => h.2.1) hu rfl hi1) hHeld ?_
  simp only [Act.put, List.setIfInBounds_toArray, List.set_cons_zero, List.set_cons_succ]
  refine wpAnyH_ready (rs := [30]) (by kernel_rfl) (by simp) (AllReadyH.cons rfl (fun K hK => ?_) AllReadyH.nil)
  go_simp
  go_wp2_with (first
    | (go_at_call 19
       refine (RS6.out _ hb8).mono ?_
       clear RS6
       rintro e w9 ⟨rfl, hb9⟩
       replace hb9 : Below w6.heap.size w6 w9 := below_then hb8 hb9
       clear hb8 kR2))
  refine hK.out _ _ ?_ (fun hHeld => ?_)
  · first | exact hHeld | exact ⟨‹_›, rangeAt_below hrg1 ‹_›, rangeAt_below hrg2 ‹_›⟩
  clear hK K
  refine wpAnyH_take (i := 31) (oi := ⟨some 100, _, _, _, _, _⟩) (v := ?_) rfl (by kernel_rfl) (by kernel_rfl) (by kernel_rfl) (fun _ _ _ h => h) (Or.inl ⟨by rfl, ?_⟩) hHeld ?_
  rotate_left
  · (intro w hSw; (try dsimp only at hSw); go_simp; try with_reducible rfl)
  simp only [Act.put, List.setIfInBounds_toArray, List.set_cons_zero, List.set_cons_succ]
  refine wpAnyH_take (i := 32) (oi := ⟨some 101, _, _, _, _, _⟩) (v := ?_) rfl (by kernel_rfl) (by kernel_rfl) (by kernel_rfl) (fun _ _ _ h => h) (Or.inl ⟨by rfl, ?_⟩) hHeld ?_
  rotate_left
  · (intro w hSw; (try dsimp only at hSw); go_simp; try with_reducible rfl)
  simp only [Act.put, List.setIfInBounds_toArray, List.set_cons_zero, List.set_cons_succ]
  refine wpAnyH_take (i := 33) (oi := ⟨some 6, _, _, _, _, _⟩) (v := ?_) rfl (by kernel_rfl) (by kernel_rfl) (by kernel_rfl) (fun _ _ _ h => h) (Or.inl ⟨by rfl, ?_⟩) hHeld ?_
  rotate_left
  · (intro w hSw; (try dsimp only at hSw); go_simp; try with_reducible rfl)
  simp only [Act.put, List.setIfInBounds_toArray, List.set_cons_zero, List.set_cons_succ]
  refine wpAnyH_done (by kernel_rfl) ?_ _
  go_wp2
  go_ret
  exact ⟨rfl, below_then hB6 hb9⟩
theorem good_walk (B : Option Addr) (d m n : Nat) (sec lb ctx : List UInt8) (w : World) (hK : Tabs w) (hg : 21 ≤ w.heap.size) (hs : sec.length = 32) (hl : lb.length = n) (hn : n ≤ 200) (hbl : ctx.length = m) (hb : Row w w.heap.size B ctx) (hB : B = none → d = 0) (hd : m ≤ d) (hd2 : d ≤ maxLen) (hm : m ≤ 16384) :
    Calls Tryd.prog 4 #[hashVal sec, .string (str lb), .slice B m d] w fun e w' => e = .returned (.bool true) ∧ Below w.heap.size w w' :=
  over_contracts B d m n sec lb ctx (infoL lb ctx 40) (labelL sec lb ctx 40) (labelL sec lb ctx 32) w hs hl hn hbl hb hB hd hd2 hm (by rw [infoL_length, hl, hbl]) (labelL_length _ _ _ _ (by omega)) (labelL_length _ _ _ _ (by omega))
    (fun W hW => info_any B d m n 40 lb ctx W hl hn hbl (hb.on hW) hB hd hd2 hm (by omega))
    (fun W hW => label_any B d m n 40 sec lb ctx W (hK.below hW) (Nat.le_trans hg hW.size) hs hl hn hbl (hb.on hW) hB hd hd2 hm (by omega))
    (fun W D hW hP => by
      have h := secret_any D 1 1 n m sec lb [ctx] W (hK.below hW) (Nat.le_trans hg hW.size) hs hl hn rfl hP (by omega) (by simp [hbl]) hm
      rw [show [ctx].flatten = ctx by simp] at h
      exact h)
    (fun W hW => infoRef_any B d m n 40 lb ctx W hl hn hbl (hb.on hW) hB hm (by omega))
    (fun W hW => labelRef_any B d m n 40 sec lb ctx W hs hl hn hbl (hb.on hW) hB hm (by omega))
    (fun W hW => secretRef_any B d m n sec lb ctx W hs hl hn hbl (hb.on hW) hB hm)
end Go.Proofs.YtmhelmmonkgmmaaDoor.deriveLabels
