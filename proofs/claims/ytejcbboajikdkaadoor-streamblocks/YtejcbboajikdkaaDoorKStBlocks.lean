/- The walks of the law fellowshiplaw06.StreamBlocks. -/
import Derived.Test.YtejcbboajikdkaaDoorPart7
import Derived.Deep.RegionHeld3
namespace Go.Proofs.YtejcbboajikdkaaDoor.streamBlocks
open Go.ChangeShapes Go.WideShapes Go.ChangeAt Go.RowKit
set_option maxRecDepth 100000 in
set_option maxHeartbeats 1000000 in
theorem long_walk (A : Option Addr) (d n : Nat) (key : List UInt8) (x y z u : BitVec 32) (w : World) (hn : 50 < n) :
    Calls Tryd.prog 3 #[.agg #[wcell x, wcell y, wcell z, wcell u], hashVal key, .slice A n d] w fun e w' => e = .returned (.bool true) ∧ Below w.heap.size w w' := by
  have i1 : (50 : Int) < (n : Int) := by omega
  go_enter Tryd.func3, Tryd.ntmps3
  go_wp2_with (first
    | (refine vtake_step rfl 23 _ rfl [wcell x, wcell y, wcell z, wcell u] rfl ?_
       intro w1 hB1 hW1)
    | (refine take_step rfl 25 _ rfl key rfl ?_
       intro w2 hb2 hK2 hz2
       clear hz2
       have hB2 := below_then hB1 hb2
       have hW2 := hW1.on hb2
       have hg1 := hW1.lt
       clear hb2 hB1 hW1
       generalize w1.heap.size = gk at *)
    | (go_at_call 7
       refine (alive6 _).mono ?_
       rintro e w3 ⟨rfl, rfl⟩
       have c0 := hW2.get (j := 0) rfl
       have c1 := hW2.get (j := 1) rfl
       have c2 := hW2.get (j := 2) rfl
       have c3 := hW2.get (j := 3) rfl))
  go_ret
  exact ⟨rfl, hB2⟩
set_option maxRecDepth 100000 in
set_option maxHeartbeats 2000000 in
theorem out_over (A : Option Addr) (d n : Nat) (key : List UInt8) (x y z u : BitVec 32) (q : Quad) (es : List Addr) (a : Addr) (w : World) (hn : n ≤ 50) (hn2 : n ≠ 12) (HE : Hid (Errs w es)) (HA : Hid (es[3]? = some a)) (HK : Hid (key.length = 32)) (CQ : Hid (∀ W, Calls Tryd.prog 8 #[wcell x, wcell y, wcell z, wcell u] W fun e w' => e = .returned (.tuple #[wcell q.a, wcell q.b, wcell q.c, wcell q.d]) ∧ W = w'))
    (CR : Hid (∀ g W, Cells W g ([wcell x, wcell y, wcell z, wcell u] ++ []) 22 → Calls Tryd.prog 9 #[.slice (some ⟨g, 0, none⟩) 4 4, .int .i64 0, .int .i64 1, .int .i64 2, .int .i64 3] W fun e w' => e = .returned (.tuple #[]) ∧ But g W w' ∧ Cells w' g [wcell q.a, wcell q.b, wcell q.c, wcell q.d] 22))
    (CB : Hid (∀ W, Below w.heap.size w W → Calls Tryd.prog 10 #[hashVal key, wcell x, .slice A n d] W fun e w' => e = .returned (.tuple #[.slice none 0 0, errAt a]) ∧ Below W.heap.size W w')) :
    Calls Tryd.prog 3 #[.agg #[wcell x, wcell y, wcell z, wcell u], hashVal key, .slice A n d] w fun e w' => e = .returned (.bool true) ∧ Below w.heap.size w w' := by
  have i1 : ¬ (50 : Int) < (n : Int) := by omega
  have i2 : ¬ (n : Int) = 12 := by omega
  go_enter Tryd.func3, Tryd.ntmps3
  go_wp2_with (first
    | (refine vtake_step rfl 23 _ rfl [wcell x, wcell y, wcell z, wcell u] rfl ?_
       intro w1 hB1 hW1)
    | (refine take_step rfl 25 _ rfl key rfl ?_
       intro w2 hb2 hK2 hz2
       clear hz2
       have hB2 := below_then hB1 hb2
       have hW2 := hW1.on hb2
       have hg1 := hW1.lt
       clear hb2 hB1 hW1
       generalize w1.heap.size = gk at *)
    | (go_at_call 7
       refine (alive6 _).mono ?_
       rintro e w3 ⟨rfl, rfl⟩
       have c0 := hW2.get (j := 0) rfl
       have c1 := hW2.get (j := 1) rfl
       have c2 := hW2.get (j := 2) rfl
       have c3 := hW2.get (j := 3) rfl))
  refine (CQ.out _).mono ?_
  rintro e w4 ⟨rfl, rfl⟩
  clear CQ
  have HB5 : Hid (Below w2.heap.size w2 (w2.alloc (.cells #[wcell x, wcell y, wcell z, wcell u] 22))) := (Below.refl _ _).alloc (Nat.le_refl _) _
  have HC5 : Hid (Cells (w2.alloc (.cells #[wcell x, wcell y, wcell z, wcell u] 22)) w2.heap.size ([wcell x, wcell y, wcell z, wcell u] ++ []) 22) := Cells.new w2 #[wcell x, wcell y, wcell z, wcell u] 22
  go_wp2_with fail
  generalize w2.alloc (.cells #[wcell x, wcell y, wcell z, wcell u] 22) = w5 at *
  have hB5 := below_then hB2 HB5.out
  have hW5 := hW2.on HB5.out
  have hK5 := hK2.on HB5.out
  have hg5 := hK2.lt
  clear hB2 hW2 hK2 HB5 c0 c1 c2 c3
  generalize w2.heap.size = gs at *
  refine (CR.out gs w5 HC5.out).mono ?_
  rintro e w6 ⟨rfl, hb6, hS6⟩
  have hB6 := hB5.trans (hb6.below (by have := hW5.lt; omega) hB5.size)
  have hW6 := hW5.but hb6 (by omega)
  have hK6 := hK5.but hb6 (by omega)
  clear CR HC5 hB5 hW5 hK5 hb6
  have s0 := hS6.get (j := 0) rfl
  have s1 := hS6.get (j := 1) rfl
  have s2 := hS6.get (j := 2) rfl
  have s3 := hS6.get (j := 3) rfl
  have c0 := hW6.get (j := 0) rfl
  go_wp2_with (first
    | (refine get_step rfl 25 _ rfl gk 32 key 5 rfl hK6 Tryd.underlying25 size_key HK.out ?_))
  refine (CB.out w6 hB6).mono ?_
  rintro e w7 ⟨rfl, hb7⟩
  have hB7 := below_then hB6 hb7
  clear CB hB6 hW6 hK6 hS6 hb7 s0 s1 s2 s3 c0
  go_wp2_with fail
  refine (num_is es 3 4 a w7 (HE.out.below hB7) HA.out rfl).mono ?_
  rintro e w8 ⟨rfl, hb8⟩
  go_wp2
  go_ret
  exact ⟨rfl, below_then hB7 hb8⟩
set_option maxRecDepth 100000 in
set_option maxHeartbeats 2000000 in
theorem in_over (A : Option Addr) (d : Nat) (key bk : List UInt8) (x y z u : BitVec 32) (q : Quad) (w : World) (HK : Hid (key.length = 32)) (CQ : Hid (∀ W, Calls Tryd.prog 8 #[wcell x, wcell y, wcell z, wcell u] W fun e w' => e = .returned (.tuple #[wcell q.a, wcell q.b, wcell q.c, wcell q.d]) ∧ W = w'))
    (CR : Hid (∀ g W, Cells W g ([wcell x, wcell y, wcell z, wcell u] ++ []) 22 → Calls Tryd.prog 9 #[.slice (some ⟨g, 0, none⟩) 4 4, .int .i64 0, .int .i64 1, .int .i64 2, .int .i64 3] W fun e w' => e = .returned (.tuple #[]) ∧ But g W w' ∧ Cells w' g [wcell q.a, wcell q.b, wcell q.c, wcell q.d] 22))
    (HBK : Hid (bk.length = 64)) (CB : Hid (∀ W, Below w.heap.size w W → Calls Tryd.prog 10 #[hashVal key, wcell x, .slice A 12 d] W (GivesOk W bk 64)))
    (CF : Hid (∀ W, Below w.heap.size w W → Calls Tryd.prog 12 #[hashVal key, wcell x, .slice A 12 d] W (GivesAt W bk 64))) :
    Calls Tryd.prog 3 #[.agg #[wcell x, wcell y, wcell z, wcell u], hashVal key, .slice A 12 d] w fun e w' => e = .returned (.bool true) ∧ Below w.heap.size w w' := by
  go_enter Tryd.func3, Tryd.ntmps3
  go_wp2_with (first
    | (refine vtake_step rfl 23 _ rfl [wcell x, wcell y, wcell z, wcell u] rfl ?_
       intro w1 hB1 hW1)
    | (refine take_step rfl 25 _ rfl key rfl ?_
       intro w2 hb2 hK2 hz2
       clear hz2
       have hB2 := below_then hB1 hb2
       have hW2 := hW1.on hb2
       have hg1 := hW1.lt
       clear hb2 hB1 hW1
       generalize w1.heap.size = gk at *)
    | (go_at_call 7
       refine (alive6 _).mono ?_
       rintro e w3 ⟨rfl, rfl⟩
       have c0 := hW2.get (j := 0) rfl
       have c1 := hW2.get (j := 1) rfl
       have c2 := hW2.get (j := 2) rfl
       have c3 := hW2.get (j := 3) rfl))
  refine (CQ.out _).mono ?_
  rintro e w4 ⟨rfl, rfl⟩
  clear CQ
  have HB5 : Hid (Below w2.heap.size w2 (w2.alloc (.cells #[wcell x, wcell y, wcell z, wcell u] 22))) := (Below.refl _ _).alloc (Nat.le_refl _) _
  have HC5 : Hid (Cells (w2.alloc (.cells #[wcell x, wcell y, wcell z, wcell u] 22)) w2.heap.size ([wcell x, wcell y, wcell z, wcell u] ++ []) 22) := Cells.new w2 #[wcell x, wcell y, wcell z, wcell u] 22
  go_wp2_with fail
  generalize w2.alloc (.cells #[wcell x, wcell y, wcell z, wcell u] 22) = w5 at *
  have hB5 := below_then hB2 HB5.out
  have hW5 := hW2.on HB5.out
  have hK5 := hK2.on HB5.out
  have hg5 := hK2.lt
  clear hB2 hW2 hK2 HB5 c0 c1 c2 c3
  generalize w2.heap.size = gs at *
  refine (CR.out gs w5 HC5.out).mono ?_
  rintro e w6 ⟨rfl, hb6, hS6⟩
  have hB6 := hB5.trans (hb6.below (by have := hW5.lt; omega) hB5.size)
  have hW6 := hW5.but hb6 (by omega)
  have hK6 := hK5.but hb6 (by omega)
  clear CR HC5 hB5 hW5 hK5 hb6
  have s0 := hS6.get (j := 0) rfl
  have s1 := hS6.get (j := 1) rfl
  have s2 := hS6.get (j := 2) rfl
  have s3 := hS6.get (j := 3) rfl
  have c0 := hW6.get (j := 0) rfl
  go_wp2_with (first
    | (refine get_step rfl 25 _ rfl gk 32 key 5 rfl hK6 Tryd.underlying25 size_key HK.out ?_))
  refine (CB.out w6 hB6).mono ?_
  rintro e w7 ⟨A7, c7, rfl, _, _, _, r7, hb7⟩
  have hB7 := below_then hB6 hb7
  have hW7 := hW6.on hb7
  have hK7 := hK6.on hb7
  clear CB hB6 hW6 hK6 hS6 hb7 s0 s1 s2 s3 c0
  have hrg := hK7.rangeAll
  have c0 := hW7.get (j := 0) rfl
  have hu := Tryd.underlying25
  have hi : (Tryd.prog.info? 25).map (·.size) = some (key.map cellOf).length := by rw [List.length_map, HK.out]; exact size_key
  have kX := conv_n HBK.out r7 c7
  have HK7 := Lib.hid hK7
  have HW7 := Lib.hid hW7
  clear r7 hK7 hW7
  go_wp2_with fail
  go_region_held (fun w' => Below w7.heap.size w7 w' ∧ w'.rangeAt gk 0 (key.map cellOf) ∧ w'.cell? ⟨w.heap.size, 0, none⟩ = some (wcell x)) (first | exact ⟨(Below.refl _ _), hrg, c0⟩ | exact ⟨(Below.refl _ _).drew, hrg, c0⟩ | exact ⟨‹_›, (HK7.out.on ‹_›).rangeAll, (HW7.out.on ‹_›).get (j := 0) rfl⟩)
    (first
      | (go_at_call 12
         refine (CF.out _ (hB7.drew)).mono ?_
         clear CF
         rintro e w8 ⟨g8, c8, rfl, e1, e2, e3, e4, hb8⟩
         replace hb8 : Below w7.heap.size w7 w8 := Below.trans (Below.refl w7.heap.size w7).drew hb8
         have kR := conv_n HBK.out e4 c8 _ (Below.refl _ _)
         clear e4))
  all_goals
    go_wp2
    go_ret
    exact ⟨rfl, below_then hB7 hb8⟩
end Go.Proofs.YtejcbboajikdkaaDoor.streamBlocks
