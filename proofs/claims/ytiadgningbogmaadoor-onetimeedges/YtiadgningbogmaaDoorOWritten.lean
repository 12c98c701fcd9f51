/- Package onetime: written. -/
import Derived.Test.YtiadgningbogmaaDoorORead
namespace Go.Proofs.YtiadgningbogmaaDoor
open Go.RowKit
theorem zero_b16 : ∀ w, (zeroValue 27).run Tryd.prog w = .ok (.agg (List.replicate 16 (cellOf 0)).toArray) w := (zero_of_info (P := Tryd.prog) (t := 27) (v := .agg (List.replicate 16 (cellOf 0)).toArray) (n := 16) (by kernel_rfl)).1
theorem size_b16 : (Tryd.prog.info? 27).map (·.size) = some 16 := by kernel_rfl
theorem byte_or (a b s q x k : Nat) (hq : q = 2 ^ s) (ha : a < q) (hs : q ≤ 67108864) (hb : b < 67108864) (h : (a + b * q) % 256 = x / 256 ^ k % 256) : bits .or .u64 (a : Int) (IntKind.u64.wrap ((b : Int) * (q : Int))) % 256 = ((byteAt x k).toNat : Int) := by
  have hbq : b * q ≤ 67108864 * 67108864 := Nat.mul_le_mul (by omega) hs
  have e : IntKind.u64.wrap ((b : Int) * (q : Int)) = ((b * q : Nat) : Int) := by
    rw [IntKind.wrap_u64, ← Int.natCast_mul]; omega
  rw [e, u64_or_nat _ _ (by omega) (by omega), Nat.or_comm, nat_join s _ _ (by rw [hq]; exact Nat.mul_mod_left _ _) (by rw [← hq]; exact ha), byteAt, UInt8.toNat_ofNat', Nat.add_comm]
  omega
theorem byte_one (a x k : Nat) (h : a % 256 = x / 256 ^ k % 256) : (a : Int) % 256 = ((byteAt x k).toNat : Int) := by
  rw [byteAt, UInt8.toNat_ofNat']
  omega
theorem wrote_0 (n0 n1 n2 n3 n4 : Nat) (h : n0 < 67108864 ∧ n1 < 67108864 ∧ n2 < 67108864 ∧ n3 < 67108864 ∧ n4 < 67108864) : bits .or .u64 (n0 : Int) (IntKind.u64.wrap ((n1 : Int) * 67108864)) % 256 = ((byteAt (lval [n0, n1, n2, n3, n4]) 0).toNat : Int) := byte_or n0 n1 26 67108864 _ 0 rfl (by omega) (by omega) (by omega) (by have h2 := limbByte_is [n0, n1, n2, n3, n4] rfl ((below5_five _ _ _ _ _ _).2 h) 0 (by omega); rw [← h2]; show (n0 + n1 * 67108864) % 256 = (n0 / 1 + n1 * 67108864) % 256; rw [Nat.div_one])
theorem wrote_1 (n0 n1 n2 n3 n4 : Nat) (h : n0 < 67108864 ∧ n1 < 67108864 ∧ n2 < 67108864 ∧ n3 < 67108864 ∧ n4 < 67108864) : bits .or .u64 ((n0 : Int) / 256) (IntKind.u64.wrap ((n1 : Int) * 262144)) % 256 = ((byteAt (lval [n0, n1, n2, n3, n4]) 1).toNat : Int) := byte_or (n0 / 256) n1 18 262144 _ 1 rfl (by omega) (by omega) (by omega) (limbByte_is [n0, n1, n2, n3, n4] rfl ((below5_five _ _ _ _ _ _).2 h) 1 (by omega))
theorem wrote_2 (n0 n1 n2 n3 n4 : Nat) (h : n0 < 67108864 ∧ n1 < 67108864 ∧ n2 < 67108864 ∧ n3 < 67108864 ∧ n4 < 67108864) : bits .or .u64 ((n0 : Int) / 65536) (IntKind.u64.wrap ((n1 : Int) * 1024)) % 256 = ((byteAt (lval [n0, n1, n2, n3, n4]) 2).toNat : Int) := byte_or (n0 / 65536) n1 10 1024 _ 2 rfl (by omega) (by omega) (by omega) (limbByte_is [n0, n1, n2, n3, n4] rfl ((below5_five _ _ _ _ _ _).2 h) 2 (by omega))
theorem wrote_3 (n0 n1 n2 n3 n4 : Nat) (h : n0 < 67108864 ∧ n1 < 67108864 ∧ n2 < 67108864 ∧ n3 < 67108864 ∧ n4 < 67108864) : bits .or .u64 ((n0 : Int) / 16777216) (IntKind.u64.wrap ((n1 : Int) * 4)) % 256 = ((byteAt (lval [n0, n1, n2, n3, n4]) 3).toNat : Int) := byte_or (n0 / 16777216) n1 2 4 _ 3 rfl (by omega) (by omega) (by omega) (limbByte_is [n0, n1, n2, n3, n4] rfl ((below5_five _ _ _ _ _ _).2 h) 3 (by omega))
theorem wrote_4 (n0 n1 n2 n3 n4 : Nat) (h : n0 < 67108864 ∧ n1 < 67108864 ∧ n2 < 67108864 ∧ n3 < 67108864 ∧ n4 < 67108864) : bits .or .u64 ((n1 : Int) / 64) (IntKind.u64.wrap ((n2 : Int) * 1048576)) % 256 = ((byteAt (lval [n0, n1, n2, n3, n4]) 4).toNat : Int) := byte_or (n1 / 64) n2 20 1048576 _ 4 rfl (by omega) (by omega) (by omega) (limbByte_is [n0, n1, n2, n3, n4] rfl ((below5_five _ _ _ _ _ _).2 h) 4 (by omega))
theorem wrote_5 (n0 n1 n2 n3 n4 : Nat) (h : n0 < 67108864 ∧ n1 < 67108864 ∧ n2 < 67108864 ∧ n3 < 67108864 ∧ n4 < 67108864) : bits .or .u64 ((n1 : Int) / 16384) (IntKind.u64.wrap ((n2 : Int) * 4096)) % 256 = ((byteAt (lval [n0, n1, n2, n3, n4]) 5).toNat : Int) := byte_or (n1 / 16384) n2 12 4096 _ 5 rfl (by omega) (by omega) (by omega) (limbByte_is [n0, n1, n2, n3, n4] rfl ((below5_five _ _ _ _ _ _).2 h) 5 (by omega))
theorem wrote_6 (n0 n1 n2 n3 n4 : Nat) (h : n0 < 67108864 ∧ n1 < 67108864 ∧ n2 < 67108864 ∧ n3 < 67108864 ∧ n4 < 67108864) : bits .or .u64 ((n1 : Int) / 4194304) (IntKind.u64.wrap ((n2 : Int) * 16)) % 256 = ((byteAt (lval [n0, n1, n2, n3, n4]) 6).toNat : Int) := byte_or (n1 / 4194304) n2 4 16 _ 6 rfl (by omega) (by omega) (by omega) (limbByte_is [n0, n1, n2, n3, n4] rfl ((below5_five _ _ _ _ _ _).2 h) 6 (by omega))
theorem wrote_7 (n0 n1 n2 n3 n4 : Nat) (h : n0 < 67108864 ∧ n1 < 67108864 ∧ n2 < 67108864 ∧ n3 < 67108864 ∧ n4 < 67108864) : bits .or .u64 ((n2 : Int) / 16) (IntKind.u64.wrap ((n3 : Int) * 4194304)) % 256 = ((byteAt (lval [n0, n1, n2, n3, n4]) 7).toNat : Int) := byte_or (n2 / 16) n3 22 4194304 _ 7 rfl (by omega) (by omega) (by omega) (limbByte_is [n0, n1, n2, n3, n4] rfl ((below5_five _ _ _ _ _ _).2 h) 7 (by omega))
theorem wrote_8 (n0 n1 n2 n3 n4 : Nat) (h : n0 < 67108864 ∧ n1 < 67108864 ∧ n2 < 67108864 ∧ n3 < 67108864 ∧ n4 < 67108864) : bits .or .u64 ((n2 : Int) / 4096) (IntKind.u64.wrap ((n3 : Int) * 16384)) % 256 = ((byteAt (lval [n0, n1, n2, n3, n4]) 8).toNat : Int) := byte_or (n2 / 4096) n3 14 16384 _ 8 rfl (by omega) (by omega) (by omega) (limbByte_is [n0, n1, n2, n3, n4] rfl ((below5_five _ _ _ _ _ _).2 h) 8 (by omega))
theorem wrote_9 (n0 n1 n2 n3 n4 : Nat) (h : n0 < 67108864 ∧ n1 < 67108864 ∧ n2 < 67108864 ∧ n3 < 67108864 ∧ n4 < 67108864) : bits .or .u64 ((n2 : Int) / 1048576) (IntKind.u64.wrap ((n3 : Int) * 64)) % 256 = ((byteAt (lval [n0, n1, n2, n3, n4]) 9).toNat : Int) := byte_or (n2 / 1048576) n3 6 64 _ 9 rfl (by omega) (by omega) (by omega) (limbByte_is [n0, n1, n2, n3, n4] rfl ((below5_five _ _ _ _ _ _).2 h) 9 (by omega))
theorem wrote_10 (n0 n1 n2 n3 n4 : Nat) (h : n0 < 67108864 ∧ n1 < 67108864 ∧ n2 < 67108864 ∧ n3 < 67108864 ∧ n4 < 67108864) : bits .or .u64 ((n3 : Int) / 4) (IntKind.u64.wrap ((n4 : Int) * 16777216)) % 256 = ((byteAt (lval [n0, n1, n2, n3, n4]) 10).toNat : Int) := byte_or (n3 / 4) n4 24 16777216 _ 10 rfl (by omega) (by omega) (by omega) (limbByte_is [n0, n1, n2, n3, n4] rfl ((below5_five _ _ _ _ _ _).2 h) 10 (by omega))
theorem wrote_11 (n0 n1 n2 n3 n4 : Nat) (h : n0 < 67108864 ∧ n1 < 67108864 ∧ n2 < 67108864 ∧ n3 < 67108864 ∧ n4 < 67108864) : bits .or .u64 ((n3 : Int) / 1024) (IntKind.u64.wrap ((n4 : Int) * 65536)) % 256 = ((byteAt (lval [n0, n1, n2, n3, n4]) 11).toNat : Int) := byte_or (n3 / 1024) n4 16 65536 _ 11 rfl (by omega) (by omega) (by omega) (limbByte_is [n0, n1, n2, n3, n4] rfl ((below5_five _ _ _ _ _ _).2 h) 11 (by omega))
theorem wrote_12 (n0 n1 n2 n3 n4 : Nat) (h : n0 < 67108864 ∧ n1 < 67108864 ∧ n2 < 67108864 ∧ n3 < 67108864 ∧ n4 < 67108864) : bits .or .u64 ((n3 : Int) / 262144) (IntKind.u64.wrap ((n4 : Int) * 256)) % 256 = ((byteAt (lval [n0, n1, n2, n3, n4]) 12).toNat : Int) := byte_or (n3 / 262144) n4 8 256 _ 12 rfl (by omega) (by omega) (by omega) (limbByte_is [n0, n1, n2, n3, n4] rfl ((below5_five _ _ _ _ _ _).2 h) 12 (by omega))
theorem wrote_13 (n0 n1 n2 n3 n4 : Nat) (h : n0 < 67108864 ∧ n1 < 67108864 ∧ n2 < 67108864 ∧ n3 < 67108864 ∧ n4 < 67108864) : (n4 : Int) % 256 = ((byteAt (lval [n0, n1, n2, n3, n4]) 13).toNat : Int) := byte_one n4 _ 13 (by have h2 := limbByte_is [n0, n1, n2, n3, n4] rfl ((below5_five _ _ _ _ _ _).2 h) 13 (by omega); rw [← h2]; show n4 % 256 = (n4 / 1) % 256; rw [Nat.div_one])
theorem wrote_14 (n0 n1 n2 n3 n4 : Nat) (h : n0 < 67108864 ∧ n1 < 67108864 ∧ n2 < 67108864 ∧ n3 < 67108864 ∧ n4 < 67108864) : ((n4 : Int) / 256) % 256 = ((byteAt (lval [n0, n1, n2, n3, n4]) 14).toNat : Int) := byte_one (n4 / 256) _ 14 (limbByte_is [n0, n1, n2, n3, n4] rfl ((below5_five _ _ _ _ _ _).2 h) 14 (by omega))
theorem wrote_15 (n0 n1 n2 n3 n4 : Nat) (h : n0 < 67108864 ∧ n1 < 67108864 ∧ n2 < 67108864 ∧ n3 < 67108864 ∧ n4 < 67108864) : ((n4 : Int) / 65536) % 256 = ((byteAt (lval [n0, n1, n2, n3, n4]) 15).toNat : Int) := byte_one (n4 / 65536) _ 15 (limbByte_is [n0, n1, n2, n3, n4] rfl ((below5_five _ _ _ _ _ _).2 h) 15 (by omega))
set_option maxRecDepth 100000 in
set_option maxHeartbeats 4000000 in
theorem written_over (n0 n1 n2 n3 n4 : Nat) (r : List UInt8) (P : Nat → List UInt8) (B : Nat → UInt8) (w : World) (HV : Hid (bits .or .u64 (n0 : Int) (IntKind.u64.wrap ((n1 : Int) * 67108864)) % 256 = ((B 0).toNat : Int) ∧ bits .or .u64 ((n0 : Int) / 256) (IntKind.u64.wrap ((n1 : Int) * 262144)) % 256 = ((B 1).toNat : Int) ∧ bits .or .u64 ((n0 : Int) / 65536) (IntKind.u64.wrap ((n1 : Int) * 1024)) % 256 = ((B 2).toNat : Int) ∧ bits .or .u64 ((n0 : Int) / 16777216) (IntKind.u64.wrap ((n1 : Int) * 4)) % 256 = ((B 3).toNat : Int) ∧ bits .or .u64 ((n1 : Int) / 64) (IntKind.u64.wrap ((n2 : Int) * 1048576)) % 256 = ((B 4).toNat : Int) ∧ bits .or .u64 ((n1 : Int) / 16384) (IntKind.u64.wrap ((n2 : Int) * 4096)) % 256 = ((B 5).toNat : Int) ∧ bits .or .u64 ((n1 : Int) / 4194304) (IntKind.u64.wrap ((n2 : Int) * 16)) % 256 = ((B 6).toNat : Int) ∧ bits .or .u64 ((n2 : Int) / 16) (IntKind.u64.wrap ((n3 : Int) * 4194304)) % 256 = ((B 7).toNat : Int) ∧ bits .or .u64 ((n2 : Int) / 4096) (IntKind.u64.wrap ((n3 : Int) * 16384)) % 256 = ((B 8).toNat : Int) ∧ bits .or .u64 ((n2 : Int) / 1048576) (IntKind.u64.wrap ((n3 : Int) * 64)) % 256 = ((B 9).toNat : Int) ∧ bits .or .u64 ((n3 : Int) / 4) (IntKind.u64.wrap ((n4 : Int) * 16777216)) % 256 = ((B 10).toNat : Int) ∧ bits .or .u64 ((n3 : Int) / 1024) (IntKind.u64.wrap ((n4 : Int) * 65536)) % 256 = ((B 11).toNat : Int) ∧ bits .or .u64 ((n3 : Int) / 262144) (IntKind.u64.wrap ((n4 : Int) * 256)) % 256 = ((B 12).toNat : Int) ∧ (n4 : Int) % 256 = ((B 13).toNat : Int) ∧ ((n4 : Int) / 256) % 256 = ((B 14).toNat : Int) ∧ ((n4 : Int) / 65536) % 256 = ((B 15).toNat : Int))) (HL : Hid (∀ k, k ≤ 16 → (P k).length = 16)) (H0 : Hid (P 0 = List.replicate 16 0)) (HS : Hid (∀ k, k < 16 → P (k + 1) = (P k).set k (B k))) (HR : Hid (P 16 = r)) :
    Calls Tryd.prog 27 #[numVal [n0, n1, n2, n3, n4]] w fun e w' => e = .returned (hashVal r) ∧ Below w.heap.size w w' := by
  go_enter Tryd.func27, Tryd.ntmps27
  go_wp2_with (first
    | (refine vtake_step rfl 41 (.tmp 0) rfl ([n0, n1, n2, n3, n4].map ncell) rfl ?_
       intro w1 hB1 hA1)
    | (refine zero_step (o := ⟨some 2, _, _, _, _, _⟩) rfl 27 rfl 16 zero_b16 ?_
       intro w2 hb2 hZ2 hz
       have hB2 := below_then hB1 hb2
       have hA2 := hA1.on hb2
       have hg1 := hA1.lt
       clear hB1 hA1 hb2 hz)
    | (refine zero_step (o := ⟨some 3, _, _, _, _, _⟩) rfl 27 rfl 16 zero_b16 ?_
       intro w3 hb3 hS3 hz
       have hB3 := below_then hB2 hb3
       have hA3 := hA2.on hb3
       have hZ3 := hZ2.on hb3
       have hg2 := hZ2.lt
       clear hB2 hA2 hZ2 hb3 hz))
  generalize hg : w1.heap.size = gz at *
  generalize hh : w2.heap.size = gs at *
  clear hg hh
  go_loopw [9] (fun i wr => ∃ k : Nat, k ≤ 16 ∧ i = .int .i64 k ∧ Below w.heap.size w wr ∧ Cells wr w.heap.size ([n0, n1, n2, n3, n4].map ncell) 41 ∧ Cells wr gz (List.replicate 16 (cellOf 0)) 27 ∧ Cells wr gs ((P k).map cellOf) 27) (fun i _ => 16 - (intOf i).toNat)
  case atStart => exact ⟨0, Nat.zero_le _, rfl, hB3, hA3, hZ3, by rw [H0.out, List.map_replicate]; exact hS3⟩
  case round =>
    clear hB3 hA3 hZ3 hS3
    obtain ⟨k, hk, rfl, hB, hA, hZ, hS⟩ := hrel
    have HLk := Lib.hid (HL.out k hk)
    by_cases hlt : k < 16
    · have HN := Lib.hid (HS.out k hlt)
      obtain ⟨z, HZ⟩ : ∃ z, Hid (P (k + 1) = z) := ⟨_, rfl⟩
      rw [HZ.out] at HN
      generalize P k = s at *
      have c0 := hA.get (j := 0) (v := ncell n0) rfl
      have c1 := hA.get (j := 1) (v := ncell n1) rfl
      have c2 := hA.get (j := 2) (v := ncell n2) rfl
      have c3 := hA.get (j := 3) (v := ncell n3) rfl
      have c4 := hA.get (j := 4) (v := ncell n4) rfl
      have hT := hS.there k 1 (by rw [List.length_map, HLk.out]; omega)
      clear HS HL H0 HR
      obtain ⟨v0, v1, v2, v3, v4, v5, v6, v7, v8, v9, v10, v11, v12, v13, v14, v15⟩ := HV.out
      clear HV
      obtain ⟨V0, V1, V2, V3, V4, V5, V6, V7, V8, V9, V10, V11, V12, V13, V14, V15⟩ : Hid _ ∧ Hid _ ∧ Hid _ ∧ Hid _ ∧ Hid _ ∧ Hid _ ∧ Hid _ ∧ Hid _ ∧ Hid _ ∧ Hid _ ∧ Hid _ ∧ Hid _ ∧ Hid _ ∧ Hid _ ∧ Hid _ ∧ Hid _ := ⟨Lib.hid v0, Lib.hid v1, Lib.hid v2, Lib.hid v3, Lib.hid v4, Lib.hid v5, Lib.hid v6, Lib.hid v7, Lib.hid v8, Lib.hid v9, Lib.hid v10, Lib.hid v11, Lib.hid v12, Lib.hid v13, Lib.hid v14, Lib.hid v15⟩
      rcases (show k = 0 ∨ k = 1 ∨ k = 2 ∨ k = 3 ∨ k = 4 ∨ k = 5 ∨ k = 6 ∨ k = 7 ∨ k = 8 ∨ k = 9 ∨ k = 10 ∨ k = 11 ∨ k = 12 ∨ k = 13 ∨ k = 14 ∨ k = 15 by omega) with rfl | rfl | rfl | rfl | rfl | rfl | rfl | rfl | rfl | rfl | rfl | rfl | rfl | rfl | rfl | rfl
      · simp only [Nat.zero_add] at HZ
        clear v0 v1 v2 v3 v4 v5 v6 v7 v8 v9 v10 v11 v12 v13 v14 v15 V1 V2 V3 V4 V5 V6 V7 V8 V9 V10 V11 V12 V13 V14 V15
        generalize B 0 = u at *
        go_wp2_with (first
          | (rw [V0.out]
             refine store_step rfl 5 _ _ rfl gs 0 .u8 _ rfl rfl size_u8 hT ?_
             intro w5 hw5
             have hB5 : Below w.heap.size w w5 := by rw [hw5]; exact hB.setCell (p := ⟨gs, 0, none⟩) (by show w.heap.size ≤ gs; omega) _
             have hA5 : Cells w5 w.heap.size ([n0, n1, n2, n3, n4].map ncell) 41 := by rw [hw5]; exact hA.other (by show w.heap.size ≠ gs; omega) _
             have hZ5 : Cells w5 gz (List.replicate 16 (cellOf 0)) 27 := by rw [hw5]; exact hZ.other (by show gz ≠ gs; omega) _
             have hS5 : Cells w5 gs (z.map cellOf) 27 := by rw [hw5, HN.out, List.map_set]; exact hS.set 0 _
             rw [← HZ.out] at hS5
             clear hw5))
        go_roundw
        case rel => exact ⟨1, by omega, rfl, hB5, hA5, hZ5, hS5⟩
        case measure => simp [intOf]
      · simp only [Nat.reduceAdd] at HZ
        clear v0 v1 v2 v3 v4 v5 v6 v7 v8 v9 v10 v11 v12 v13 v14 v15 V0 V2 V3 V4 V5 V6 V7 V8 V9 V10 V11 V12 V13 V14 V15
        generalize B 1 = u at *
        go_wp2_with (first
          | (rw [V1.out]
             refine store_step rfl 5 _ _ rfl gs 1 .u8 _ rfl rfl size_u8 hT ?_
             intro w5 hw5
             have hB5 : Below w.heap.size w w5 := by rw [hw5]; exact hB.setCell (p := ⟨gs, 1, none⟩) (by show w.heap.size ≤ gs; omega) _
             have hA5 : Cells w5 w.heap.size ([n0, n1, n2, n3, n4].map ncell) 41 := by rw [hw5]; exact hA.other (by show w.heap.size ≠ gs; omega) _
             have hZ5 : Cells w5 gz (List.replicate 16 (cellOf 0)) 27 := by rw [hw5]; exact hZ.other (by show gz ≠ gs; omega) _
             have hS5 : Cells w5 gs (z.map cellOf) 27 := by rw [hw5, HN.out, List.map_set]; exact hS.set 1 _
             rw [← HZ.out] at hS5
             clear hw5))
        go_roundw
        case rel => exact ⟨2, by omega, rfl, hB5, hA5, hZ5, hS5⟩
        case measure => simp [intOf]
      · simp only [Nat.reduceAdd] at HZ
        clear v0 v1 v2 v3 v4 v5 v6 v7 v8 v9 v10 v11 v12 v13 v14 v15 V0 V1 V3 V4 V5 V6 V7 V8 V9 V10 V11 V12 V13 V14 V15
        generalize B 2 = u at *
        go_wp2_with (first
          | (rw [V2.out]
             refine store_step rfl 5 _ _ rfl gs 2 .u8 _ rfl rfl size_u8 hT ?_
             intro w5 hw5
             have hB5 : Below w.heap.size w w5 := by rw [hw5]; exact hB.setCell (p := ⟨gs, 2, none⟩) (by show w.heap.size ≤ gs; omega) _
             have hA5 : Cells w5 w.heap.size ([n0, n1, n2, n3, n4].map ncell) 41 := by rw [hw5]; exact hA.other (by show w.heap.size ≠ gs; omega) _
             have hZ5 : Cells w5 gz (List.replicate 16 (cellOf 0)) 27 := by rw [hw5]; exact hZ.other (by show gz ≠ gs; omega) _
             have hS5 : Cells w5 gs (z.map cellOf) 27 := by rw [hw5, HN.out, List.map_set]; exact hS.set 2 _
             rw [← HZ.out] at hS5
             clear hw5))
        go_roundw
        case rel => exact ⟨3, by omega, rfl, hB5, hA5, hZ5, hS5⟩
        case measure => simp [intOf]
      · simp only [Nat.reduceAdd] at HZ
        clear v0 v1 v2 v3 v4 v5 v6 v7 v8 v9 v10 v11 v12 v13 v14 v15 V0 V1 V2 V4 V5 V6 V7 V8 V9 V10 V11 V12 V13 V14 V15
        generalize B 3 = u at *
        go_wp2_with (first
          | (rw [V3.out]
             refine store_step rfl 5 _ _ rfl gs 3 .u8 _ rfl rfl size_u8 hT ?_
             intro w5 hw5
             have hB5 : Below w.heap.size w w5 := by rw [hw5]; exact hB.setCell (p := ⟨gs, 3, none⟩) (by show w.heap.size ≤ gs; omega) _
             have hA5 : Cells w5 w.heap.size ([n0, n1, n2, n3, n4].map ncell) 41 := by rw [hw5]; exact hA.other (by show w.heap.size ≠ gs; omega) _
             have hZ5 : Cells w5 gz (List.replicate 16 (cellOf 0)) 27 := by rw [hw5]; exact hZ.other (by show gz ≠ gs; omega) _
             have hS5 : Cells w5 gs (z.map cellOf) 27 := by rw [hw5, HN.out, List.map_set]; exact hS.set 3 _
             rw [← HZ.out] at hS5
             clear hw5))
        go_roundw
        case rel => exact ⟨4, by omega, rfl, hB5, hA5, hZ5, hS5⟩
        case measure => simp [intOf]
      · simp only [Nat.reduceAdd] at HZ
        clear v0 v1 v2 v3 v4 v5 v6 v7 v8 v9 v10 v11 v12 v13 v14 v15 V0 V1 V2 V3 V5 V6 V7 V8 V9 V10 V11 V12 V13 V14 V15
        generalize B 4 = u at *
        go_wp2_with (first
          | (rw [V4.out]
             refine store_step rfl 5 _ _ rfl gs 4 .u8 _ rfl rfl size_u8 hT ?_
             intro w5 hw5
             have hB5 : Below w.heap.size w w5 := by rw [hw5]; exact hB.setCell (p := ⟨gs, 4, none⟩) (by show w.heap.size ≤ gs; omega) _
             have hA5 : Cells w5 w.heap.size ([n0, n1, n2, n3, n4].map ncell) 41 := by rw [hw5]; exact hA.other (by show w.heap.size ≠ gs; omega) _
             have hZ5 : Cells w5 gz (List.replicate 16 (cellOf 0)) 27 := by rw [hw5]; exact hZ.other (by show gz ≠ gs; omega) _
             have hS5 : Cells w5 gs (z.map cellOf) 27 := by rw [hw5, HN.out, List.map_set]; exact hS.set 4 _
             rw [← HZ.out] at hS5
             clear hw5))
        go_roundw
        case rel => exact ⟨5, by omega, rfl, hB5, hA5, hZ5, hS5⟩
        case measure => simp [intOf]
      · simp only [Nat.reduceAdd] at HZ
        clear v0 v1 v2 v3 v4 v5 v6 v7 v8 v9 v10 v11 v12 v13 v14 v15 V0 V1 V2 V3 V4 V6 V7 V8 V9 V10 V11 V12 V13 V14 V15
        generalize B 5 = u at *
        go_wp2_with (first
          | (rw [V5.out]
             refine store_step rfl 5 _ _ rfl gs 5 .u8 _ rfl rfl size_u8 hT ?_
             intro w5 hw5
             have hB5 : Below w.heap.size w w5 := by rw [hw5]; exact hB.setCell (p := ⟨gs, 5, none⟩) (by show w.heap.size ≤ gs; omega) _
             have hA5 : Cells w5 w.heap.size ([n0, n1, n2, n3, n4].map ncell) 41 := by rw [hw5]; exact hA.other (by show w.heap.size ≠ gs; omega) _
             have hZ5 : Cells w5 gz (List.replicate 16 (cellOf 0)) 27 := by rw [hw5]; exact hZ.other (by show gz ≠ gs; omega) _
             have hS5 : Cells w5 gs (z.map cellOf) 27 := by rw [hw5, HN.out, List.map_set]; exact hS.set 5 _
             rw [← HZ.out] at hS5
             clear hw5))
        go_roundw
        case rel => exact ⟨6, by omega, rfl, hB5, hA5, hZ5, hS5⟩
        case measure => simp [intOf]
      · simp only [Nat.reduceAdd] at HZ
        clear v0 v1 v2 v3 v4 v5 v6 v7 v8 v9 v10 v11 v12 v13 v14 v15 V0 V1 V2 V3 V4 V5 V7 V8 V9 V10 V11 V12 V13 V14 V15
        generalize B 6 = u at *
        go_wp2_with (first
          | (rw [V6.out]
             refine store_step rfl 5 _ _ rfl gs 6 .u8 _ rfl rfl size_u8 hT ?_
             intro w5 hw5
             have hB5 : Below w.heap.size w w5 := by rw [hw5]; exact hB.setCell (p := ⟨gs, 6, none⟩) (by show w.heap.size ≤ gs; omega) _
             have hA5 : Cells w5 w.heap.size ([n0, n1, n2, n3, n4].map ncell) 41 := by rw [hw5]; exact hA.other (by show w.heap.size ≠ gs; omega) _
             have hZ5 : Cells w5 gz (List.replicate 16 (cellOf 0)) 27 := by rw [hw5]; exact hZ.other (by show gz ≠ gs; omega) _
             have hS5 : Cells w5 gs (z.map cellOf) 27 := by rw [hw5, HN.out, List.map_set]; exact hS.set 6 _
             rw [← HZ.out] at hS5
             clear hw5))
        go_roundw
        case rel => exact ⟨7, by omega, rfl, hB5, hA5, hZ5, hS5⟩
        case measure => simp [intOf]
      · simp only [Nat.reduceAdd] at HZ
        clear v0 v1 v2 v3 v4 v5 v6 v7 v8 v9 v10 v11 v12 v13 v14 v15 V0 V1 V2 V3 V4 V5 V6 V8 V9 V10 V11 V12 V13 V14 V15
        generalize B 7 = u at *
        go_wp2_with (first
          | (rw [V7.out]
             refine store_step rfl 5 _ _ rfl gs 7 .u8 _ rfl rfl size_u8 hT ?_
             intro w5 hw5
             have hB5 : Below w.heap.size w w5 := by rw [hw5]; exact hB.setCell (p := ⟨gs, 7, none⟩) (by show w.heap.size ≤ gs; omega) _
             have hA5 : Cells w5 w.heap.size ([n0, n1, n2, n3, n4].map ncell) 41 := by rw [hw5]; exact hA.other (by show w.heap.size ≠ gs; omega) _
             have hZ5 : Cells w5 gz (List.replicate 16 (cellOf 0)) 27 := by rw [hw5]; exact hZ.other (by show gz ≠ gs; omega) _
             have hS5 : Cells w5 gs (z.map cellOf) 27 := by rw [hw5, HN.out, List.map_set]; exact hS.set 7 _
             rw [← HZ.out] at hS5
             clear hw5))
        go_roundw
        case rel => exact ⟨8, by omega, rfl, hB5, hA5, hZ5, hS5⟩
        case measure => simp [intOf]
      · simp only [Nat.reduceAdd] at HZ
        clear v0 v1 v2 v3 v4 v5 v6 v7 v8 v9 v10 v11 v12 v13 v14 v15 V0 V1 V2 V3 V4 V5 V6 V7 V9 V10 V11 V12 V13 V14 V15
        generalize B 8 = u at *
        go_wp2_with (first
          | (rw [V8.out]
             refine store_step rfl 5 _ _ rfl gs 8 .u8 _ rfl rfl size_u8 hT ?_
             intro w5 hw5
             have hB5 : Below w.heap.size w w5 := by rw [hw5]; exact hB.setCell (p := ⟨gs, 8, none⟩) (by show w.heap.size ≤ gs; omega) _
             have hA5 : Cells w5 w.heap.size ([n0, n1, n2, n3, n4].map ncell) 41 := by rw [hw5]; exact hA.other (by show w.heap.size ≠ gs; omega) _
             have hZ5 : Cells w5 gz (List.replicate 16 (cellOf 0)) 27 := by rw [hw5]; exact hZ.other (by show gz ≠ gs; omega) _
             have hS5 : Cells w5 gs (z.map cellOf) 27 := by rw [hw5, HN.out, List.map_set]; exact hS.set 8 _
             rw [← HZ.out] at hS5
             clear hw5))
        go_roundw
        case rel => exact ⟨9, by omega, rfl, hB5, hA5, hZ5, hS5⟩
        case measure => simp [intOf]
      · simp only [Nat.reduceAdd] at HZ
        clear v0 v1 v2 v3 v4 v5 v6 v7 v8 v9 v10 v11 v12 v13 v14 v15 V0 V1 V2 V3 V4 V5 V6 V7 V8 V10 V11 V12 V13 V14 V15
        generalize B 9 = u at *
        go_wp2_with (first
          | (rw [V9.out]
             refine store_step rfl 5 _ _ rfl gs 9 .u8 _ rfl rfl size_u8 hT ?_
             intro w5 hw5
             have hB5 : Below w.heap.size w w5 := by rw [hw5]; exact hB.setCell (p := ⟨gs, 9, none⟩) (by show w.heap.size ≤ gs; omega) _
             have hA5 : Cells w5 w.heap.size ([n0, n1, n2, n3, n4].map ncell) 41 := by rw [hw5]; exact hA.other (by show w.heap.size ≠ gs; omega) _
             have hZ5 : Cells w5 gz (List.replicate 16 (cellOf 0)) 27 := by rw [hw5]; exact hZ.other (by show gz ≠ gs; omega) _
             have hS5 : Cells w5 gs (z.map cellOf) 27 := by rw [hw5, HN.out, List.map_set]; exact hS.set 9 _
             rw [← HZ.out] at hS5
             clear hw5))
        go_roundw
        case rel => exact ⟨10, by omega, rfl, hB5, hA5, hZ5, hS5⟩
        case measure => simp [intOf]
      · simp only [Nat.reduceAdd] at HZ
        clear v0 v1 v2 v3 v4 v5 v6 v7 v8 v9 v10 v11 v12 v13 v14 v15 V0 V1 V2 V3 V4 V5 V6 V7 V8 V9 V11 V12 V13 V14 V15
        generalize B 10 = u at *
        go_wp2_with (first
          | (rw [V10.out]
             refine store_step rfl 5 _ _ rfl gs 10 .u8 _ rfl rfl size_u8 hT ?_
             intro w5 hw5
             have hB5 : Below w.heap.size w w5 := by rw [hw5]; exact hB.setCell (p := ⟨gs, 10, none⟩) (by show w.heap.size ≤ gs; omega) _
             have hA5 : Cells w5 w.heap.size ([n0, n1, n2, n3, n4].map ncell) 41 := by rw [hw5]; exact hA.other (by show w.heap.size ≠ gs; omega) _
             have hZ5 : Cells w5 gz (List.replicate 16 (cellOf 0)) 27 := by rw [hw5]; exact hZ.other (by show gz ≠ gs; omega) _
             have hS5 : Cells w5 gs (z.map cellOf) 27 := by rw [hw5, HN.out, List.map_set]; exact hS.set 10 _
             rw [← HZ.out] at hS5
             clear hw5))
        go_roundw
        case rel => exact ⟨11, by omega, rfl, hB5, hA5, hZ5, hS5⟩
        case measure => simp [intOf]
      · simp only [Nat.reduceAdd] at HZ
        clear v0 v1 v2 v3 v4 v5 v6 v7 v8 v9 v10 v11 v12 v13 v14 v15 V0 V1 V2 V3 V4 V5 V6 V7 V8 V9 V10 V12 V13 V14 V15
        generalize B 11 = u at *
        go_wp2_with (first
          | (rw [V11.out]
             refine store_step rfl 5 _ _ rfl gs 11 .u8 _ rfl rfl size_u8 hT ?_
             intro w5 hw5
             have hB5 : Below w.heap.size w w5 := by rw [hw5]; exact hB.setCell (p := ⟨gs, 11, none⟩) (by show w.heap.size ≤ gs; omega) _
             have hA5 : Cells w5 w.heap.size ([n0, n1, n2, n3, n4].map ncell) 41 := by rw [hw5]; exact hA.other (by show w.heap.size ≠ gs; omega) _
             have hZ5 : Cells w5 gz (List.replicate 16 (cellOf 0)) 27 := by rw [hw5]; exact hZ.other (by show gz ≠ gs; omega) _
             have hS5 : Cells w5 gs (z.map cellOf) 27 := by rw [hw5, HN.out, List.map_set]; exact hS.set 11 _
             rw [← HZ.out] at hS5
             clear hw5))
        go_roundw
        case rel => exact ⟨12, by omega, rfl, hB5, hA5, hZ5, hS5⟩
        case measure => simp [intOf]
      · simp only [Nat.reduceAdd] at HZ
        clear v0 v1 v2 v3 v4 v5 v6 v7 v8 v9 v10 v11 v12 v13 v14 v15 V0 V1 V2 V3 V4 V5 V6 V7 V8 V9 V10 V11 V13 V14 V15
        generalize B 12 = u at *
        go_wp2_with (first
          | (rw [V12.out]
             refine store_step rfl 5 _ _ rfl gs 12 .u8 _ rfl rfl size_u8 hT ?_
             intro w5 hw5
             have hB5 : Below w.heap.size w w5 := by rw [hw5]; exact hB.setCell (p := ⟨gs, 12, none⟩) (by show w.heap.size ≤ gs; omega) _
             have hA5 : Cells w5 w.heap.size ([n0, n1, n2, n3, n4].map ncell) 41 := by rw [hw5]; exact hA.other (by show w.heap.size ≠ gs; omega) _
             have hZ5 : Cells w5 gz (List.replicate 16 (cellOf 0)) 27 := by rw [hw5]; exact hZ.other (by show gz ≠ gs; omega) _
             have hS5 : Cells w5 gs (z.map cellOf) 27 := by rw [hw5, HN.out, List.map_set]; exact hS.set 12 _
             rw [← HZ.out] at hS5
             clear hw5))
        go_roundw
        case rel => exact ⟨13, by omega, rfl, hB5, hA5, hZ5, hS5⟩
        case measure => simp [intOf]
      · simp only [Nat.reduceAdd] at HZ
        clear v0 v1 v2 v3 v4 v5 v6 v7 v8 v9 v10 v11 v12 v13 v14 v15 V0 V1 V2 V3 V4 V5 V6 V7 V8 V9 V10 V11 V12 V14 V15
        generalize B 13 = u at *
        go_wp2_with (first
          | (rw [V13.out]
             refine store_step rfl 5 _ _ rfl gs 13 .u8 _ rfl rfl size_u8 hT ?_
             intro w5 hw5
             have hB5 : Below w.heap.size w w5 := by rw [hw5]; exact hB.setCell (p := ⟨gs, 13, none⟩) (by show w.heap.size ≤ gs; omega) _
             have hA5 : Cells w5 w.heap.size ([n0, n1, n2, n3, n4].map ncell) 41 := by rw [hw5]; exact hA.other (by show w.heap.size ≠ gs; omega) _
             have hZ5 : Cells w5 gz (List.replicate 16 (cellOf 0)) 27 := by rw [hw5]; exact hZ.other (by show gz ≠ gs; omega) _
             have hS5 : Cells w5 gs (z.map cellOf) 27 := by rw [hw5, HN.out, List.map_set]; exact hS.set 13 _
             rw [← HZ.out] at hS5
             clear hw5))
        go_roundw
        case rel => exact ⟨14, by omega, rfl, hB5, hA5, hZ5, hS5⟩
        case measure => simp [intOf]
      · simp only [Nat.reduceAdd] at HZ
        clear v0 v1 v2 v3 v4 v5 v6 v7 v8 v9 v10 v11 v12 v13 v14 v15 V0 V1 V2 V3 V4 V5 V6 V7 V8 V9 V10 V11 V12 V13 V15
        generalize B 14 = u at *
        go_wp2_with (first
          | (rw [V14.out]
             refine store_step rfl 5 _ _ rfl gs 14 .u8 _ rfl rfl size_u8 hT ?_
             intro w5 hw5
             have hB5 : Below w.heap.size w w5 := by rw [hw5]; exact hB.setCell (p := ⟨gs, 14, none⟩) (by show w.heap.size ≤ gs; omega) _
             have hA5 : Cells w5 w.heap.size ([n0, n1, n2, n3, n4].map ncell) 41 := by rw [hw5]; exact hA.other (by show w.heap.size ≠ gs; omega) _
             have hZ5 : Cells w5 gz (List.replicate 16 (cellOf 0)) 27 := by rw [hw5]; exact hZ.other (by show gz ≠ gs; omega) _
             have hS5 : Cells w5 gs (z.map cellOf) 27 := by rw [hw5, HN.out, List.map_set]; exact hS.set 14 _
             rw [← HZ.out] at hS5
             clear hw5))
        go_roundw
        case rel => exact ⟨15, by omega, rfl, hB5, hA5, hZ5, hS5⟩
        case measure => simp [intOf]
      · simp only [Nat.reduceAdd] at HZ
        clear v0 v1 v2 v3 v4 v5 v6 v7 v8 v9 v10 v11 v12 v13 v14 v15 V0 V1 V2 V3 V4 V5 V6 V7 V8 V9 V10 V11 V12 V13 V14
        generalize B 15 = u at *
        go_wp2_with (first
          | (rw [V15.out]
             refine store_step rfl 5 _ _ rfl gs 15 .u8 _ rfl rfl size_u8 hT ?_
             intro w5 hw5
             have hB5 : Below w.heap.size w w5 := by rw [hw5]; exact hB.setCell (p := ⟨gs, 15, none⟩) (by show w.heap.size ≤ gs; omega) _
             have hA5 : Cells w5 w.heap.size ([n0, n1, n2, n3, n4].map ncell) 41 := by rw [hw5]; exact hA.other (by show w.heap.size ≠ gs; omega) _
             have hZ5 : Cells w5 gz (List.replicate 16 (cellOf 0)) 27 := by rw [hw5]; exact hZ.other (by show gz ≠ gs; omega) _
             have hS5 : Cells w5 gs (z.map cellOf) 27 := by rw [hw5, HN.out, List.map_set]; exact hS.set 15 _
             rw [← HZ.out] at hS5
             clear hw5))
        go_roundw
        case rel => exact ⟨16, by omega, rfl, hB5, hA5, hZ5, hS5⟩
        case measure => simp [intOf]
    · obtain rfl : k = 16 := by omega
      rw [HR.out] at hS HLk
      clear HV HS HL
      go_wp2_with (first
        | (refine get_step rfl 27 _ rfl gs 16 r 5 rfl hS Tryd.underlying27 size_b16 HLk.out ?_)
        | (refine set_step rfl 27 _ _ rfl gz 16 (List.replicate 16 (cellOf 0)) r rfl rfl hZ (by rw [List.length_replicate]) size_b16 HLk.out ?_
           intro w7 hb7 hC7 _))
      refine ret_hash Tryd.results27 gz r rfl hC7 Tryd.underlying27 size_b16 HLk.out rfl ⟨rfl, hB.trans (hb7.below (by omega) hB.size)⟩
theorem put_set (x k : Nat) (hk : k < 16) : putL x (k + 1) ++ List.replicate (16 - (k + 1)) 0 = (putL x k ++ List.replicate (16 - k) 0).set k (byteAt x k) := by
  rw [set_next _ k 16 _ (putL_length x k) hk, putL_succ]
theorem written_any (n : List Nat) (w : World) (hn : n.length = 5) (h : Below5 67108864 n) :
    Calls Tryd.prog 27 #[numVal n] w fun e w' => e = .returned (hashVal (putL (lval n) 16)) ∧ Below w.heap.size w w' := by
  obtain ⟨n0, n1, n2, n3, n4, rfl⟩ := five_of n hn
  rw [below5_five] at h
  exact written_over n0 n1 n2 n3 n4 _ (fun k => putL (lval [n0, n1, n2, n3, n4]) k ++ List.replicate (16 - k) 0) (byteAt (lval [n0, n1, n2, n3, n4])) w ⟨wrote_0 n0 n1 n2 n3 n4 h, wrote_1 n0 n1 n2 n3 n4 h, wrote_2 n0 n1 n2 n3 n4 h, wrote_3 n0 n1 n2 n3 n4 h, wrote_4 n0 n1 n2 n3 n4 h, wrote_5 n0 n1 n2 n3 n4 h, wrote_6 n0 n1 n2 n3 n4 h, wrote_7 n0 n1 n2 n3 n4 h, wrote_8 n0 n1 n2 n3 n4 h, wrote_9 n0 n1 n2 n3 n4 h, wrote_10 n0 n1 n2 n3 n4 h, wrote_11 n0 n1 n2 n3 n4 h, wrote_12 n0 n1 n2 n3 n4 h, wrote_13 n0 n1 n2 n3 n4 h, wrote_14 n0 n1 n2 n3 n4 h, wrote_15 n0 n1 n2 n3 n4 h⟩ (fun k hk => by rw [List.length_append, putL_length, List.length_replicate]; omega) (by show _ = _; rfl) (fun k hk => put_set _ k hk) (by show _ = _; simp)
end Go.Proofs.YtiadgningbogmaaDoor
