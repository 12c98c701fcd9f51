/- The walks of the law fellowshiplaw06.StreamGoes. -/
import Derived.Test.YtejcbboajikdkaaDoorPart7
import Derived.Deep.RegionHeld3
import Derived.BigQuiet
import Derived.Deep.QuietTactic
namespace Go.Proofs.YtejcbboajikdkaaDoor.streamGoes
open Go.ChangeShapes Go.WideShapes Go.ChangeAt Go.RowKit
set_option maxRecDepth 100000 in
set_option maxHeartbeats 1000000 in
theorem long_walk (A : Option Addr) (d n : Nat) (z : Int) (key : List UInt8) (x : BitVec 32) (w : World) (HK : Hid (key.length = 32)) (hn : n ≠ 12) :
    Calls Tryd.prog 5 #[caseVal key x A n d, .int .i64 z] w fun e w' => e = .returned (.bool true) ∧ Below w.heap.size w w' := by
  have h1 : ¬ (n : Int) = 12 := by omega
  clear hn
  go_enter Tryd.func5, Tryd.ntmps5
  go_wp2_with (first
    | (refine vtake_step rfl 40 _ rfl (caseCells key x A n d) rfl ?_
       intro w1 hB1 hC1)
    | (go_at_call 7
       refine (alive6 _).mono ?_
       rintro e w2 ⟨rfl, rfl⟩
       have c33 := case_nonce HK.out hC1))
  go_ret
  exact ⟨rfl, hB1⟩
set_option maxRecDepth 100000 in
set_option maxHeartbeats 2000000 in
theorem in_over (A : Option Addr) (d m : Nat) (z : Int) (key all : List UInt8) (BK : Nat → List UInt8) (x : BitVec 32) (es : List Addr) (a : Addr) (w : World) (HK : Hid (key.length = 32)) (hm : m < 5) (HM : Hid (wrap64 ((IntKind.u64.wrap z).tmod 5) = (m : Int))) (HAL : Hid (all.length = 64 * m)) (HBK : Hid (∀ k, (BK k).length = 64)) (HE : Hid (Errs w es)) (HA : Hid (es[2]? = some a))
    (HP : Hid (∀ k, k < m → (all.drop (64 * k)).take 64 = BK k))
    (C1 : Hid (∀ g W, Below w.heap.size w W → Row W W.heap.size (some ⟨g, 0, none⟩) (List.replicate (64 * m) 0) → Calls Tryd.prog 14 #[hashVal key, wcell x, .slice A 12 d, .slice (some ⟨g, 0, none⟩) (64 * m) (64 * m)] W (GivesOk W all (64 * m))))
    (C2 : Hid (∀ k W, Below w.heap.size w W → Calls Tryd.prog 10 #[hashVal key, wcell (x + BitVec.ofNat 32 k), .slice A 12 d] W (GivesOk W (BK k) 64)))
    (C3 : Hid (∀ g W, Below w.heap.size w W → Calls Tryd.prog 14 #[hashVal key, wcell x, .slice A 12 d, .slice (some ⟨g, 0, none⟩) 65537 65537] W fun e w' => e = .returned (.tuple #[.slice none 0 0, errAt a]) ∧ Below W.heap.size W w')) :
    Calls Tryd.prog 5 #[caseVal key x A 12 d, .int .i64 z] w fun e w' => e = .returned (.bool true) ∧ Below w.heap.size w w' := by
  go_enter Tryd.func5, Tryd.ntmps5
  go_wp2_with (first
    | (refine vtake_step rfl 40 _ rfl (caseCells key x A 12 d) rfl ?_
       intro w1 hB1 hC1)
    | (go_at_call 7
       refine (alive6 _).mono ?_
       rintro e w2 ⟨rfl, rfl⟩
       have c33 := case_nonce HK.out hC1))
  rw [HM.out]
  clear HM
  generalize (IntKind.u64.wrap z).tmod 5 = t5 at *
  generalize IntKind.u64.wrap z = uz at *
  have c32 := case_word HK.out hC1
  have hrg := case_range hC1
  have hu := Tryd.underlying25
  have hi : (Tryd.prog.info? 25).map (·.size) = some (key.map cellOf).length := by rw [List.length_map, HK.out]; exact size_key
  have HC1 := Lib.hid hC1
  clear hC1
  have hmk := make_bytes (64 * m) (64 * m) (Nat.le_refl _) (by omega)
  rw [show ((64 * m : Nat) : Int) = 64 * (m : Int) by omega] at hmk
  have s64 : IntKind.i64.wrap (64 * (m : Int)) = 64 * (m : Int) := IntWalk.i64_in _ (by omega)
  go_region_held3 (fun w' => Below w1.heap.size w1 w' ∧ w'.rangeAt w.heap.size 0 (key.map cellOf) ∧ w'.cell? ⟨w.heap.size, 32, none⟩ = some (wcell x) ∧ w'.cell? ⟨w.heap.size, 33, none⟩ = some (.slice A 12 d)) (first | exact ⟨(Below.refl _ _), hrg, c32, c33⟩ | exact ⟨(Below.refl _ _).drew, hrg, c32, c33⟩ | exact (fun h => ⟨h, case_range (HC1.out.on h), case_word HK.out (HC1.out.on h), case_nonce HK.out (HC1.out.on h)⟩) (Below.alloc (Below.drew (Below.refl _ _)) (Nat.le_refl _) _) | exact ⟨‹_›, case_range (HC1.out.on ‹_›), case_word HK.out (HC1.out.on ‹_›), case_nonce HK.out (HC1.out.on ‹_›)⟩)
    (first
      | (go_at_call 14
         refine (C1.out w1.heap.size _ (hB1.drew.alloc hB1.size _) ((Made.new w1.drew (List.replicate (64 * m) 0)).row (by simp))).mono ?_
         clear C1
         rintro e w3 ⟨A3, c3, rfl, e1, e2, e3, r3, hb3⟩
         replace hb3 : Below w1.heap.size w1 w3 := ((Below.refl w1.heap.size w1).drew.alloc (Nat.le_refl _) _).trans (hb3.mono (by simp))))
  have hB3 := below_then hB1 hb3
  have hC3 := HC1.out.on hb3
  clear hB1 HC1 hb3 c32 c33 hrg hmk s64 hu hi
  generalize w1.heap.size = gm at *
  go_wp2_with fail
  go_loopw [45] (fun i wr => ∃ k : Nat, k ≤ m ∧ i = .int .i64 k ∧ Below w.heap.size w wr ∧ Cells wr w.heap.size (caseCells key x A 12 d) 40 ∧ Row wr wr.heap.size A3 all) (fun i _ => m - (intOf i).toNat)
  case atStart => exact ⟨0, Nat.zero_le _, rfl, hB3, hC3, r3⟩
  case round =>
    clear hB3 hC3 r3
    obtain ⟨k, hk, rfl, hB, hC, hR⟩ := hrel
    have c33 := case_nonce HK.out hC
    have c32 := case_word HK.out hC
    have hrg := case_range hC
    by_cases hlt : k < m
    · have i7 : (k : Int) < (m : Int) := by omega
      obtain ⟨b3, o3, rfl⟩ := hR.some (by rw [HAL.out]; omega)
      have HPk := Lib.hid (HP.out k hlt)
      have HBk := Lib.hid (HBK.out k)
      go_wp2_with (first
        | (refine range_step rfl 25 _ rfl w.heap.size 0 32 key 5 rfl hrg Tryd.underlying25 size_key HK.out ?_))
      rw [ctr_add]
      refine (C2.out k wr hB).mono ?_
      rintro e w5 ⟨A5, c5, rfl, _, _, _, r5, hb5⟩
      have hB5 := below_then hB hb5
      have hC5 := hC.on hb5
      have hR5 := hR.on hb5
      have hpc := hR5.piece (64 * k) 64
      rw [HPk.out] at hpc
      have kB := conv_n HBk.out r5 c5
      have kP := conv_n HBk.out hpc (c3 - 64 * k)
      have HR5 := Lib.hid hR5
      have HC5 := Lib.hid hC5
      clear hB hC hR hb5 c32 c33 hrg r5 hpc hR5 hC5
      generalize BK k = bk at *
      have s64 : IntKind.i64.wrap (64 * (k : Int)) = 64 * (k : Int) := IntWalk.i64_in _ (by omega)
      have s65 : IntKind.i64.wrap (64 * (k : Int) + 64) = 64 * (k : Int) + 64 := IntWalk.i64_in _ (by omega)
      have j1 : (0 : Int) ≤ 64 * (k : Int) := by omega
      have j2 : 64 * (k : Int) ≤ 64 * (k : Int) + 64 := by omega
      have j3 : 64 * (k : Int) + 64 ≤ (c3 : Int) := by omega
      have j4 : (64 * (k : Int)).toNat = 64 * k := by omega
      have j5 : (64 * (k : Int) + 64).toNat = 64 * k + 64 := by omega
      have j6 : 64 * k + 64 - 64 * k = 64 := by omega
      have j7 : ¬ c3 = 64 * k := by omega
      have j8 : (0 : Int) ≤ 64 * (k : Int) + 64 := by omega
      have j9 : 64 * k + 64 ≤ c3 := by omega
      go_wp2_with fail
      go_region_held3 (fun w' => Below w5.heap.size w5 w') (first | exact Below.refl _ _ | exact (Below.refl _ _).drew | assumption) (fail)
      clear kB kP s64 s65
      go_wp2
      go_roundw
      case rel => exact ⟨k + 1, by omega, by go_num, hB5.drew, HC5.out.drew, HR5.out⟩
      case measure => simp [intOf]; omega
    · obtain rfl : k = m := by omega
      have hu := Tryd.underlying25
      have hi : (Tryd.prog.info? 25).map (·.size) = some (key.map cellOf).length := by rw [List.length_map, HK.out]; exact size_key
      have HC := Lib.hid hC
      clear hC hR HP C2
      have hmk : ∀ W : World, (Instr.makeSlice 26 (.int .i64 65537) (.int .i64 65537)).run Tryd.prog W = .ok (.slice (some ⟨W.heap.size, 0, none⟩) 65537 65537) (W.alloc (.cells (rowCells (List.replicate 65537 0)) 5)) := make_bytes 65537 65537 (Nat.le_refl _) (by decide)
      generalize rowCells (List.replicate 65537 0) = rc at *
      go_wp2_with fail
      go_region_held3 (fun w' => Below wr.heap.size wr w' ∧ w'.rangeAt w.heap.size 0 (key.map cellOf) ∧ w'.cell? ⟨w.heap.size, 32, none⟩ = some (wcell x) ∧ w'.cell? ⟨w.heap.size, 33, none⟩ = some (.slice A 12 d)) (first | exact ⟨(Below.refl _ _), hrg, c32, c33⟩ | exact ⟨(Below.refl _ _).drew, hrg, c32, c33⟩ | exact (fun h => ⟨h, case_range (HC.out.on h), case_word HK.out (HC.out.on h), case_nonce HK.out (HC.out.on h)⟩) (Below.alloc (Below.drew (Below.refl _ _)) (Nat.le_refl _) _) | exact ⟨‹_›, case_range (HC.out.on ‹_›), case_word HK.out (HC.out.on ‹_›), case_nonce HK.out (HC.out.on ‹_›)⟩)
        (first
          | (go_at_call 14
             refine (C3.out wr.heap.size _ (hB.drew.alloc hB.size _)).mono ?_
             clear C3
             rintro e w6 ⟨rfl, hb6⟩
             replace hb6 : Below wr.heap.size wr w6 := ((Below.refl wr.heap.size wr).drew.alloc (Nat.le_refl _) _).trans (hb6.mono (by simp))))
      have hB6 := below_then hB hb6
      clear hB HC hb6 c32 c33 hrg hmk hu hi
      go_wp2_with fail
      refine (num_is es 2 3 a w6 (HE.out.below hB6) HA.out rfl).mono ?_
      rintro e w8 ⟨rfl, hb8⟩
      go_wp2
      go_ret
      exact ⟨rfl, below_then hB6 hb8⟩
end Go.Proofs.YtejcbboajikdkaaDoor.streamGoes
