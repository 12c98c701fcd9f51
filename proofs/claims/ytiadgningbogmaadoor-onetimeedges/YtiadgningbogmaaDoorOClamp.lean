/- Package onetime: clamped. -/
import Derived.Test.YtiadgningbogmaaDoorOWritten
import Derived.Test.YtiadgningbogmaaDoorWCopy
namespace Go.Proofs.YtiadgningbogmaaDoor
open Go.RowKit
theorem u8_all (p : Nat → Bool) (h : (List.range 256).all p = true) (x : Nat) (hx : x < 256) : p x = true := List.all_eq_true.1 h x (List.mem_range.2 hx)
theorem low4 (u : UInt8) : bits .and .u8 (u.toNat : Int) 15 = ((u % 16).toNat : Int) := by
  have h := u8_all (fun x => bits .and .u8 (x : Int) 15 == ((x % 16 : Nat) : Int)) (by decide +kernel) u.toNat u.toNat_lt
  rw [UInt8.toNat_mod]
  exact beq_iff_eq.1 h
theorem high6 (u : UInt8) : bits .and .u8 (u.toNat : Int) 252 = ((u / 4 * 4).toNat : Int) := by
  have h := u8_all (fun x => bits .and .u8 (x : Int) 252 == ((x / 4 * 4 : Nat) : Int)) (by decide +kernel) u.toNat u.toNat_lt
  have e : (u / 4 * 4).toNat = u.toNat / 4 * 4 := by
    rw [UInt8.toNat_mul, UInt8.toNat_div]
    have := u.toNat_lt
    show u.toNat / 4 * 4 % 256 = _
    omega
  rw [e]
  exact beq_iff_eq.1 h
/-- i places of a row are clamped. -/
def clampTo (r : List UInt8) : Nat → List UInt8
  | 0 => r
  | i + 1 => if i % 4 = 3 then (clampTo r i).set i ((clampTo r i).getD i 0 % 16) else if i % 4 = 0 ∧ 0 < i then (clampTo r i).set i ((clampTo r i).getD i 0 / 4 * 4) else clampTo r i
theorem clampTo_length (r : List UInt8) : ∀ i, (clampTo r i).length = r.length
  | 0 => rfl
  | i + 1 => by
    rw [clampTo]
    split
    · rw [List.length_set, clampTo_length]
    · split
      · rw [List.length_set, clampTo_length]
      · exact clampTo_length r i
theorem sixteen_of {α : Type} (n : List α) (h : n.length = 16) : ∃ a0 a1 a2 a3 a4 a5 a6 a7 a8 a9 a10 a11 a12 a13 a14 a15, n = [a0, a1, a2, a3, a4, a5, a6, a7, a8, a9, a10, a11, a12, a13, a14, a15] := by
  match n, h with
  | [a0, a1, a2, a3, a4, a5, a6, a7, a8, a9, a10, a11, a12, a13, a14, a15], _ => exact ⟨a0, a1, a2, a3, a4, a5, a6, a7, a8, a9, a10, a11, a12, a13, a14, a15, rfl⟩
theorem clampTo_all (k : List UInt8) (hk : k.length = 16) : clampTo (k ++ [0]) 16 = polyClamp k ++ [0] := by
  obtain ⟨a0, a1, a2, a3, a4, a5, a6, a7, a8, a9, a10, a11, a12, a13, a14, a15, rfl⟩ := sixteen_of k hk
  rfl
theorem zero_key : ∀ w, (zeroValue 23).run Tryd.prog w = .ok (.agg (List.replicate 32 (cellOf 0)).toArray) w := (zero_of_info (P := Tryd.prog) (t := 23) (v := .agg (List.replicate 32 (cellOf 0)).toArray) (n := 32) (by kernel_rfl)).1
theorem size_key : (Tryd.prog.info? 23).map (·.size) = some 32 := by kernel_rfl
set_option maxRecDepth 100000 in
set_option maxHeartbeats 4000000 in
theorem clamped_over (key r0 r : List UInt8) (S : Nat → List UInt8) (w : World) (HK : Hid (key.length = 32)) (HR0 : Hid (r0 = key.take 16 ++ [0])) (HL : Hid (∀ k, (S k).length = 17)) (H0 : Hid (S 0 = r0)) (HS : Hid (∀ i, S (i + 1) = if i % 4 = 3 then (S i).set i ((S i).getD i 0 % 16) else if i % 4 = 0 ∧ 0 < i then (S i).set i ((S i).getD i 0 / 4 * 4) else S i)) (HR : Hid (S 16 = r)) :
    Calls Tryd.prog 15 #[hashVal key] w fun e w' => e = .returned (hashVal r) ∧ Below w.heap.size w w' := by
  go_enter Tryd.func15, Tryd.ntmps15
  go_wp2_with (first
    | (refine take_step rfl 23 (.tmp 0) rfl key rfl ?_
       intro w1 hB1 hA1 hz
       clear hz)
    | (refine zero_step (o := ⟨some 2, _, _, _, _, _⟩) rfl 44 rfl 17 zero_row17 ?_
       intro w2 hb2 hZ2 hz
       have hB2 := below_then hB1 hb2
       have hA2 := hA1.on hb2
       have hg1 := hA1.lt
       clear hB1 hA1 hb2 hz)
    | (refine zero_step (o := ⟨some 3, _, _, _, _, _⟩) rfl 44 rfl 17 zero_row17 ?_
       intro w3 hb3 hS3 hz
       have hB3 := below_then hB2 hb3
       have hA3 := hA2.on hb3
       have hZ3 := hZ2.on hb3
       have hg2 := hZ2.lt
       clear hB2 hA2 hZ2 hb3 hz))
  generalize hg : w1.heap.size = gz at *
  generalize hh : w2.heap.size = gs at *
  clear hg hh
  refine wp_region_tail 2 (by kernel_rfl) (by kernel_rfl) ?_
  intro w4 hw4
  have hB4 : Below w.heap.size w w4 := by rw [hw4]; exact hB3.drew
  have hA4 : Cells w4 w.heap.size (key.map cellOf) 23 := by rw [hw4]; exact hA3
  have hZ4 : Cells w4 gz (List.replicate 17 (cellOf 0)) 44 := by rw [hw4]; exact hZ3
  have hS4 : Cells w4 gs (List.replicate 17 (cellOf 0)) 44 := by rw [hw4]; exact hS3
  clear hw4 hB3 hA3 hZ3 hS3
  simp only [List.take_succ_cons, List.take_zero, List.drop_succ_cons, List.drop_zero]
  repeat still_step
  refine wpStill_nil ?_
  have HT : Hid ((key.take 16).length = 16) := by show _ = _; rw [List.length_take, HK.out]; rfl
  have hR4 := hA4.all.take 16
  generalize key.take 16 = kt at *
  go_wp2_with (first
    | (refine copy_row rfl (.tmp 5) (.tmp 6) rfl gs 0 17 17 16 32 w4.heap.size 16 (some ⟨w.heap.size, 0, none⟩) kt rfl rfl HT.out (by omega) hR4 (hS4.there 0 16 (by rw [List.length_replicate]; omega)) ?_
       intro w5 hw5
       have hus : kt.take 17 = kt := List.take_of_length_le (by rw [HT.out]; omega)
       rw [hus] at hw5
       have hb5 : But gs w4 w5 := by rw [hw5]; exact (But.refl gs w4).setCells _ _
       have hS5 : Cells w5 gs (r0.map cellOf) 44 := by
         have h := hS4.setCells (cs := kt.map cellOf) (o := 0) (by rw [List.length_map, HT.out, List.length_replicate]; omega)
         rw [← hw5] at h
         have e : splice (List.replicate 17 (cellOf 0)) 0 (kt.map cellOf) = r0.map cellOf := by
           rw [HR0.out, splice, List.length_map, HT.out, List.map_append]
           rfl
         rw [e] at h
         exact h
       have hB5 := hB4.trans (hb5.below (by omega) hB4.size)
       have hA5 := hA4.but hb5 (by omega)
       have hZ5 := hZ4.but hb5 (by omega)
       clear hw5 hus hb5 hB4 hA4 hZ4 hS4 hR4))
  go_loopw [8] (fun i wr => ∃ k : Nat, k ≤ 16 ∧ i = .int .i64 k ∧ Below w.heap.size w wr ∧ Cells wr gz (List.replicate 17 (cellOf 0)) 44 ∧ Cells wr gs ((S k).map cellOf) 44) (fun i _ => 16 - (intOf i).toNat)
  case atStart => exact ⟨0, Nat.zero_le _, rfl, hB5, hZ5, by rw [H0.out]; exact hS5⟩
  case round =>
    clear hB5 hA5 hZ5 hS5
    obtain ⟨k, hk, rfl, hB, hZ, hS⟩ := hrel
    have HLk := Lib.hid (HL.out k)
    by_cases hlt : k < 16
    · have HN := Lib.hid (HS.out k)
      obtain ⟨z, HZ⟩ : ∃ z, Hid (S (k + 1) = z) := ⟨_, rfl⟩
      rw [HZ.out] at HN
      generalize S k = s at *
      have i1 : (0 : Int) ≤ (k : Int) := by omega
      have i2 : (k : Int) < 17 := by omega
      have c1 := hS.get (j := k) (v := cellOf (s.getD k 0)) (by rw [List.getElem?_map, List.getD_eq_getElem?_getD, List.getElem?_eq_getElem (by rw [HLk.out]; omega)]; rfl)
      have hT := hS.there k 1 (by rw [List.length_map, HLk.out]; omega)
      have V1 := Lib.hid (low4 (s.getD k 0))
      have V2 := Lib.hid (high6 (s.getD k 0))
      clear HS HL H0 HR
      generalize s.getD k 0 = u at *
      by_cases h3 : k % 4 = 3
      · rw [if_pos h3] at HN
        have e3 : (k : Int) % 4 = 3 := by omega
        go_wp2_with (first
          | (rw [V1.out]
             refine store_step rfl 5 _ _ rfl gs k .u8 _ rfl rfl size_u8 hT ?_
             intro w5 hw5
             have hB5 : Below w.heap.size w w5 := by rw [hw5]; exact hB.setCell (p := ⟨gs, k, none⟩) (by show w.heap.size ≤ gs; omega) _
             have hZ5 : Cells w5 gz (List.replicate 17 (cellOf 0)) 44 := by rw [hw5]; exact hZ.other (by show gz ≠ gs; omega) _
             have hS5 : Cells w5 gs (z.map cellOf) 44 := by rw [hw5, HN.out, List.map_set]; exact hS.set k _
             rw [← HZ.out] at hS5
             clear hw5))
        go_roundw
        case rel => exact ⟨k + 1, by omega, by go_num, hB5, hZ5, hS5⟩
        case measure => simp [intOf]; omega
      · rw [if_neg h3] at HN
        have e3 : ¬ (k : Int) % 4 = 3 := by omega
        by_cases h0 : k % 4 = 0 ∧ 0 < k
        · rw [if_pos h0] at HN
          have e4 : (k : Int) % 4 = 0 := by omega
          have e5 : (0 : Int) < (k : Int) := by omega
          go_wp2_with (first
            | (rw [V2.out]
               refine store_step rfl 5 _ _ rfl gs k .u8 _ rfl rfl size_u8 hT ?_
               intro w5 hw5
               have hB5 : Below w.heap.size w w5 := by rw [hw5]; exact hB.setCell (p := ⟨gs, k, none⟩) (by show w.heap.size ≤ gs; omega) _
               have hZ5 : Cells w5 gz (List.replicate 17 (cellOf 0)) 44 := by rw [hw5]; exact hZ.other (by show gz ≠ gs; omega) _
               have hS5 : Cells w5 gs (z.map cellOf) 44 := by rw [hw5, HN.out, List.map_set]; exact hS.set k _
               rw [← HZ.out] at hS5
               clear hw5))
          go_roundw
          case rel => exact ⟨k + 1, by omega, by go_num, hB5, hZ5, hS5⟩
          case measure => simp [intOf]; omega
        · rw [if_neg h0, ← HZ.out] at HN
          by_cases e4 : (k : Int) % 4 = 0
          all_goals
            try have e5 : ¬ (0 : Int) < (k : Int) := by omega
            go_wp2_with fail
            go_roundw
            case rel => exact ⟨k + 1, by omega, by go_num, hB, hZ, by rw [HN.out]; exact hS⟩
            case measure => simp [intOf]; omega
    · obtain rfl : k = 16 := by omega
      rw [HR.out] at hS HLk
      clear HS HL
      go_wp2_with (first
        | (refine get_step rfl 44 _ rfl gs 17 r 5 rfl hS Tryd.underlying44 size_row17 HLk.out ?_)
        | (refine set_step rfl 44 _ _ rfl gz 17 (List.replicate 17 (cellOf 0)) r rfl rfl hZ (by rw [List.length_replicate]) size_row17 HLk.out ?_
           intro w7 hb7 hC7 _))
      refine ret_hash Tryd.results15 gz r rfl hC7 Tryd.underlying44 size_row17 HLk.out rfl ⟨rfl, hB.trans (hb7.below (by omega) hB.size)⟩
theorem clamped_any (key : List UInt8) (w : World) (hk : key.length = 32) :
    Calls Tryd.prog 15 #[hashVal key] w fun e w' => e = .returned (hashVal (polyClamp (key.take 16) ++ [0])) ∧ Below w.heap.size w w' :=
  clamped_over key _ _ (clampTo (key.take 16 ++ [0])) w hk (show key.take 16 ++ [0] = _ from rfl) (fun k => by rw [clampTo_length, List.length_append, List.length_take, hk]; rfl) (show clampTo _ 0 = _ from rfl) (fun _ => rfl) (clampTo_all _ (by rw [List.length_take, hk]; rfl))
end Go.Proofs.YtiadgningbogmaaDoor
