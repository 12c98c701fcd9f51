/- Part 12 of what the laws of this seat share: GRead, GBytes, GMasked, GHalf, GSmall, HSame, HAlive, WFlat2, HSteps, JPoint, WFlat3. -/
import Derived.Deep.MidRow
import Derived.Test.YtlhgabhjbnckkaaDoorPart11
namespace Go.Proofs.YtlhgabhjbnckkaaDoor
open Go.RowKit
set_option maxRecDepth 100000 in
set_option maxHeartbeats 2000000 in
theorem refRead_over (b : List UInt8) (r : List Nat) (T : Nat → List Nat) (w : World) (HB : Hid (b.length = 32)) (HL : Hid (∀ k, (T k).length = 8)) (H0 : Hid (T 0 = [0, 0, 0, 0, 0, 0, 0, 0])) (HR : Hid (T 32 = r))
    (HS : Hid (∀ k, k < 32 → T (k + 1) = (T k).set (k / 4) ((T k).getD (k / 4) 0 + (b.getD k 0).toNat * 2 ^ (8 * (k % 4))) ∧ (T k).getD (k / 4) 0 + (b.getD k 0).toNat * 2 ^ (8 * (k % 4)) < 4294967296)) :
    Calls Tryd.prog 30 #[hashVal b] w fun e w' => e = .returned (numD r) ∧ Below w.heap.size w w' := by
  go_enter Tryd.func30, Tryd.ntmps30
  go_wp2_with (first
    | (refine take_step rfl 22 (.tmp 0) rfl b rfl ?_
       intro w1 hB1 hA1 hz
       clear hz
       try simp only [Act.put, List.setIfInBounds_toArray, List.set_cons_zero, List.set_cons_succ]
       skip)
    | (refine vzero_step (o := ⟨some 2, _, _, _, _, _⟩) rfl 38 rfl (dzeros 8) zero_ND ?_
       intro w3 hb3 hZ3
       have hB3 := below_then hB1 hb3
       have hA3 := hA1.on hb3
       have hg2 := hA1.lt
       clear hB1 hA1 hb3
       try simp only [Act.put, List.setIfInBounds_toArray, List.set_cons_zero, List.set_cons_succ]
       skip)
    | (refine build_step rfl 38 [] rfl [] rfl _ build_ND0 ?_
       try simp only [Act.put, List.setIfInBounds_toArray, List.set_cons_zero, List.set_cons_succ]
       skip)
    | (refine vput_step rfl rfl 38 (.tmp 3) (.tmp 5) rfl rfl 8 (dzeros 8) (dzeros 8) rfl rfl zero_ND rfl size_ND rfl (by rw [dzeros_map]; exact dcells_one _) ?_
       intro w4 hb4 hS4
       have hB4 := below_then hB3 hb4
       have hA4 := hA3.on hb4
       have hZ4 := hZ3.on hb4
       have hg3 := hZ3.lt
       clear hB3 hA3 hZ3 hb4
       try simp only [Act.put, List.setIfInBounds_toArray, List.set_cons_zero, List.set_cons_succ]
       skip))
  generalize hh : w1.heap.size = gz at *
  generalize hi : w3.heap.size = gs at *
  clear hh hi
  go_loopw [4] (fun i wr => ∃ k : Nat, k ≤ 32 ∧ i = .int .i64 k ∧ Below w.heap.size w wr ∧ Cells wr w.heap.size (b.map cellOf) 22 ∧ Cells wr gz (dzeros 8) 38 ∧ Cells wr gs ((T k).map dcell) 38) (fun i _ => 32 - (intOf i).toNat)
  case atStart => exact ⟨0, Nat.zero_le _, rfl, hB4, hA4, hZ4, by rw [H0.out, ← dzeros8]; exact hS4⟩
  case round =>
    clear hB4 hA4 hZ4 hS4
    obtain ⟨k, hk, rfl, hB, hA, hZ, hS⟩ := hrel
    have HLk := Lib.hid (HL.out k)
    by_cases hlt : k < 32
    · have HN := Lib.hid (HS.out k hlt).1
      have hlim := (HS.out k hlt).2
      have d1 := hA.get (show (b.map cellOf)[k]? = some (cellOf (b.getD k 0)) by rw [List.getElem?_map, List.getD_eq_getElem?_getD, List.getElem?_eq_getElem (by rw [HB.out]; exact hlt)]; rfl)
      have d2 := hS.get (dat (T k) (k / 4) (by rw [HLk.out]; omega))
      obtain ⟨z, HZ⟩ := namedF (T (k + 1))
      rw [HZ.out] at HN
      generalize T k = s at *
      generalize s.getD (k / 4) 0 = p at *
      generalize b.getD k 0 = q at *
      clear HB HL H0 HS HR
      have i1 : (0 : Int) ≤ (k : Int) := by omega
      have i2 : (k : Int) < 32 := by omega
      have i3 : (k : Int) / 4 < 8 := by omega
      have i4 : (0 : Int) ≤ (k : Int) / 4 := by omega
      have i5 : ((k : Int) / 4).toNat = k / 4 := by omega
      have c1 : IntKind.i64.wrap ((k : Int) / 4) = (k : Int) / 4 := IntWalk.i64_in _ (by omega)
      obtain ⟨m, hm⟩ : ∃ m, m = k % 4 := ⟨_, rfl⟩
      rw [← hm] at HN hlim
      have c2 : (k : Int).tmod 4 = (m : Int) := by rw [Int.tmod_eq_emod_of_nonneg (by omega)]; omega
      have hm4 : m < 4 := by omega
      have c3 : IntKind.i64.wrap (8 * (m : Int)) = 8 * (m : Int) := IntWalk.i64_in _ (by omega)
      have c4 : IntKind.u64.wrap (8 * (m : Int)) = 8 * (m : Int) := by rw [IntKind.wrap_u64]; omega
      have c6 : (8 * (m : Int)).toNat = 8 * m := by omega
      have c7 : min (8 * m) 32 = 8 * m := by omega
      have hq : q.toNat < 256 := q.toNat_lt
      have c5 : IntKind.u32.wrap (q.toNat : Int) = (q.toNat : Int) := by rw [IntKind.wrap_u32]; omega
      obtain ⟨x, hx⟩ : ∃ x, x = q.toNat * 2 ^ (8 * m) := ⟨_, rfl⟩
      rw [← hx] at HN hlim
      have c8 : IntKind.u32.wrap ((q.toNat : Int) * 2 ^ (8 * m)) = (x : Int) := by rw [pow_cast, ← Int.natCast_mul, ← hx, IntKind.wrap_u32]; omega
      obtain ⟨v, hv⟩ : ∃ v, v = p + x := ⟨_, rfl⟩
      rw [← hv] at HN
      have c9 : IntKind.u32.wrap ((p : Int) + (x : Int)) = (v : Int) := by rw [IntKind.wrap_u32]; omega
      clear hx hv hlim hm
      go_wp2_with fail
      refine wp_region_tail 15 (by kernel_rfl) (by kernel_rfl) ?_
      intro w4 hw4
      have hB4 : Below w.heap.size w w4 := by rw [hw4]; exact hB.drew
      have hA4 : Cells w4 w.heap.size (b.map cellOf) 22 := by rw [hw4]; exact hA
      have hZ4 : Cells w4 gz (dzeros 8) 38 := by rw [hw4]; exact hZ
      have hS4 : Cells w4 gs (s.map dcell) 38 := by rw [hw4]; exact hS
      have d3 : w4.cell? ⟨w.heap.size, k, none⟩ = some (cellOf q) := by rw [hw4]; exact d1
      have d4 : w4.cell? ⟨gs, k / 4, none⟩ = some (dcell p) := by rw [hw4]; exact d2
      clear hw4 hB hA hZ hS d1 d2
      simp only [List.take_succ_cons, List.take_zero, List.drop_succ_cons, List.drop_zero]
      repeat still_step
      refine wpStill_nil ?_
      have hT := hS4.there (k / 4) 1 (by rw [List.length_map, HLk.out]; omega)
      have hE := Lib.hid (hS4.set (k / 4) (dcell v))
      go_wp2_with (first
        | (refine store_step rfl 36 _ _ rfl gs (k / 4) .u32 (v : Int) rfl rfl size_w32 hT ?_
           intro w5 hw5
           have hB5 : Below w.heap.size w w5 := by rw [hw5]; exact hB4.setCell (p := ⟨gs, k / 4, none⟩) (by show w.heap.size ≤ gs; omega) _
           have hA5 : Cells w5 w.heap.size (b.map cellOf) 22 := by rw [hw5]; exact hA4.other (by show w.heap.size ≠ gs; omega) _
           have hZ5 : Cells w5 gz (dzeros 8) 38 := by rw [hw5]; exact hZ4.other (by show gz ≠ gs; omega) _
           have hS5 : Cells w5 gs (z.map dcell) 38 := by rw [hw5, HN.out, ← dset_map]; exact hE.out
           clear hw5 hT hE hB4 hA4 hZ4 hS4))
      go_roundw
      case rel => first | exact ⟨k + 1, by omega, by go_num, hB5, hA5, hZ5, by rw [HZ.out]; exact hS5⟩ | trace_state
      case measure => simp [intOf] <;> omega
    · obtain rfl : k = 32 := by omega
      rw [HR.out] at hS
      have HTL := Lib.hid (HL.out 32)
      rw [HR.out] at HTL
      clear HB HS HL H0 hA
      go_wp2_with (first
        | (refine sget_step rfl 38 (.tmp 3) rfl gs 8 (r.map dcell) rfl hS Tryd.underlying38 rfl size_ND (by rw [List.length_map, HTL.out]) ?_
           try simp only [Act.put, List.setIfInBounds_toArray, List.set_cons_zero, List.set_cons_succ]
           skip)
        | (refine vset_step rfl 38 _ _ rfl gz 8 (dzeros 8) (r.map dcell) rfl rfl hZ rfl size_ND (by rw [List.length_map, HTL.out]) (dcells_one _) ?_
           intro w6 hb6 hZ6 _
           have hB6 := hB.trans (hb6.below (by omega) hB.size)
           clear hB hS hb6))
      exact sret Tryd.results30 gz (r.map dcell) rfl hZ6 Tryd.underlying38 rfl size_ND (by rw [List.length_map, HTL.out]) rfl ⟨rfl, hB6⟩
theorem lev_step (b : List UInt8) (k : Nat) (hk : k < b.length) : lev (b.take (k + 1)) = lev (b.take k) + (b.getD k 0).toNat * 2 ^ (8 * k) := by
  rw [List.take_succ_eq_append_getElem hk, lev_append, List.length_take, Nat.min_eq_left (Nat.le_of_lt hk), lev_cons, show (256 : Nat) = 2 ^ 8 from rfl, ← Nat.pow_mul, Nat.mul_comm, List.getD_eq_getElem?_getD, List.getElem?_eq_getElem hk]
  rfl
theorem lev_take_lt (b : List UInt8) (k : Nat) (hk : k ≤ b.length) : lev (b.take k) < 2 ^ (8 * k) := by
  have h := lev_lt (b.take k)
  rw [List.length_take, Nat.min_eq_left hk, show (256 : Nat) = 2 ^ 8 from rfl, ← Nat.pow_mul] at h
  exact h
theorem refRead_any (b : List UInt8) (w : World) (hb : b.length = 32) : Calls Tryd.prog 30 #[hashVal b] w fun e w' => e = .returned (numD (nD (lev b))) ∧ Below w.heap.size w w' := by
  refine refRead_over b _ (fun k => nD (lev (b.take k))) w hb (fun _ => rfl) (by show nD (lev (b.take 0)) = _; rw [List.take_zero, show lev [] = 0 from rfl]; rfl) (by show nD (lev (b.take 32)) = _; rw [List.take_of_length_le (by omega)]) (fun k hk => ?_)
  have h1 := nD_add (lev (b.take k)) (b.getD k 0).toNat k (lev_take_lt b k (by omega)) (b.getD k 0).toNat_lt
  rw [← lev_step b k (by omega)] at h1
  refine ⟨h1, ?_⟩
  have h2 := (nD_D8 (lev (b.take (k + 1)))).2 (k / 4)
  rw [h1, List.getD_eq_getElem?_getD, List.getElem?_set_self (by rw [nD_length]; omega)] at h2
  exact h2
end Go.Proofs.YtlhgabhjbnckkaaDoor
namespace Go.Proofs.YtlhgabhjbnckkaaDoor
open Go.RowKit
theorem size_b32 : (Tryd.prog.info? 22).map (·.size) = some 32 := by kernel_rfl
theorem zero_b32 : ∀ w, (zeroValue 22).run Tryd.prog w = .ok (.agg (List.replicate 32 (cellOf 0)).toArray) w := (zero_of_info (P := Tryd.prog) (t := 22) (v := .agg (List.replicate 32 (cellOf 0)).toArray) (n := 32) (by kernel_rfl)).1
theorem build_b32 (w : World) : (Instr.build 22 #[]).run Tryd.prog w = .ok (hashVal (List.replicate 32 0)) w := by kernel_rfl
theorem nD_byte (n k : Nat) (hk : k < 32) : (nD n).getD (k / 4) 0 / 2 ^ (8 * (k % 4)) % 256 = (byteAt n k).toNat := by
  rw [nD_at n _ (by omega), byteAt, UInt8.toNat_ofNat', show (256 : Nat) = 2 ^ 8 from rfl, ← Nat.pow_mul]
  have h1 : 2 ^ 32 = 2 ^ (8 * (k % 4)) * 2 ^ (32 - 8 * (k % 4)) := by rw [← Nat.pow_add]; congr 1; omega
  have h2 : (2 : Nat) ^ 8 ∣ 2 ^ (32 - 8 * (k % 4)) := Nat.pow_dvd_pow 2 (by omega)
  rw [h1, Nat.mod_mul_right_div_self, Nat.mod_mod_of_dvd _ h2, Nat.div_div_eq_div_mul, ← Nat.pow_add, show 32 * (k / 4) + 8 * (k % 4) = 8 * k by omega]
set_option maxRecDepth 100000 in
set_option maxHeartbeats 2000000 in
theorem refBytes_over (a : List Nat) (r : List UInt8) (T : Nat → List UInt8) (V : Nat → UInt8) (w : World) (HA : Hid (a.length = 8)) (HL : Hid (∀ k, k ≤ 32 → (T k).length = 32)) (H0 : Hid (T 0 = List.replicate 32 0)) (HR : Hid (T 32 = r))
    (HS : Hid (∀ k, k < 32 → T (k + 1) = (T k).set k (V k))) (HV : Hid (∀ k, k < 32 → a.getD (k / 4) 0 / 2 ^ (8 * (k % 4)) % 256 = (V k).toNat)) :
    Calls Tryd.prog 19 #[numD a] w fun e w' => e = .returned (hashVal r) ∧ Below w.heap.size w w' := by
  obtain ⟨z0, HZ0⟩ := namedF (List.replicate 32 (0 : UInt8))
  have BB := build_b32
  have HZL : Hid (z0.length = 32) := by show _ = _; rw [← HZ0.out]; rfl
  rw [HZ0.out] at BB H0
  go_enter Tryd.func19, Tryd.ntmps19
  go_wp2_with (first
    | (refine vtake_step rfl 38 (.tmp 0) rfl (a.map dcell) rfl ?_
       intro w1 hB1 hA1
       try simp only [Act.put, List.setIfInBounds_toArray, List.set_cons_zero, List.set_cons_succ]
       skip)
    | (refine zero_step (o := ⟨some 2, _, _, _, _, _⟩) rfl 22 rfl 32 zero_b32 ?_
       intro w3 hb3 hZ3 hz
       have hB3 := below_then hB1 hb3
       have hA3 := hA1.on hb3
       have hg2 := hA1.lt
       clear hB1 hA1 hb3 hz
       try simp only [Act.put, List.setIfInBounds_toArray, List.set_cons_zero, List.set_cons_succ]
       skip)
    | (refine build_step rfl 22 [] rfl [] rfl _ BB ?_
       try simp only [Act.put, List.setIfInBounds_toArray, List.set_cons_zero, List.set_cons_succ]
       skip)
    | (refine put_step rfl rfl 22 (.tmp 3) (.tmp 5) rfl rfl 32 z0 rfl rfl zero_b32 size_b32 HZL.out ?_
       intro w4 hb4 hS4 hz
       have hB4 := below_then hB3 hb4
       have hA4 := hA3.on hb4
       have hZ4 := hZ3.on hb4
       have hg3 := hZ3.lt
       clear hB3 hA3 hZ3 hb4 hz
       try simp only [Act.put, List.setIfInBounds_toArray, List.set_cons_zero, List.set_cons_succ]
       skip))
  generalize hh : w1.heap.size = gz at *
  generalize hi : w3.heap.size = gs at *
  clear hh hi
  go_loopw [4] (fun i wr => ∃ k : Nat, k ≤ 32 ∧ i = .int .i64 k ∧ Below w.heap.size w wr ∧ Cells wr w.heap.size (a.map dcell) 38 ∧ Cells wr gz (List.replicate 32 (cellOf 0)) 22 ∧ Cells wr gs ((T k).map cellOf) 22) (fun i _ => 32 - (intOf i).toNat)
  case atStart => exact ⟨0, Nat.zero_le _, rfl, hB4, hA4, hZ4, by rw [H0.out]; exact hS4⟩
  case round =>
    clear hB4 hA4 hZ4 hS4
    obtain ⟨k, hk, rfl, hB, hA, hZ, hS⟩ := hrel
    have HLk := Lib.hid (HL.out k hk)
    by_cases hlt : k < 32
    · have HN := Lib.hid (HS.out k hlt)
      have hlim := HV.out k hlt
      have d1 := hA.get (dat a (k / 4) (by rw [HA.out]; omega))
      obtain ⟨z, HZ⟩ := namedF (T (k + 1))
      rw [HZ.out] at HN
      generalize T k = s at *
      generalize a.getD (k / 4) 0 = p at *
      generalize V k = v at *
      clear HA HL H0 HS HR HV
      have i1 : (0 : Int) ≤ (k : Int) := by omega
      have i2 : (k : Int) < 32 := by omega
      have i3 : (k : Int) / 4 < 8 := by omega
      have i4 : (0 : Int) ≤ (k : Int) / 4 := by omega
      have i5 : ((k : Int) / 4).toNat = k / 4 := by omega
      have c1 : IntKind.i64.wrap ((k : Int) / 4) = (k : Int) / 4 := IntWalk.i64_in _ (by omega)
      obtain ⟨m, hm⟩ : ∃ m, m = k % 4 := ⟨_, rfl⟩
      rw [← hm] at hlim
      have c2 : (k : Int).tmod 4 = (m : Int) := by rw [Int.tmod_eq_emod_of_nonneg (by omega)]; omega
      have hm4 : m < 4 := by omega
      have c3 : IntKind.i64.wrap (8 * (m : Int)) = 8 * (m : Int) := IntWalk.i64_in _ (by omega)
      have c4 : IntKind.u64.wrap (8 * (m : Int)) = 8 * (m : Int) := by rw [IntKind.wrap_u64]; omega
      have c6 : (8 * (m : Int)).toNat = 8 * m := by omega
      have c8 : IntKind.u8.wrap ((p : Int) / 2 ^ (8 * m)) = (v.toNat : Int) := by rw [pow_cast, ← Int.natCast_ediv, IntKind.wrap_u8, ← hlim]; omega
      clear hlim hm
      have hT := hS.there k 1 (by rw [List.length_map, HLk.out]; omega)
      have hE := Lib.hid (hS.set k (cellOf v))
      go_wp2_with (first
        | (refine store_step rfl 5 _ _ rfl gs k .u8 (v.toNat : Int) rfl rfl size_u8 hT ?_
           intro w5 hw5
           have hB5 : Below w.heap.size w w5 := by rw [hw5]; exact hB.setCell (p := ⟨gs, k, none⟩) (by show w.heap.size ≤ gs; omega) _
           have hA5 : Cells w5 w.heap.size (a.map dcell) 38 := by rw [hw5]; exact hA.other (by show w.heap.size ≠ gs; omega) _
           have hZ5 : Cells w5 gz (List.replicate 32 (cellOf 0)) 22 := by rw [hw5]; exact hZ.other (by show gz ≠ gs; omega) _
           have hS5 : Cells w5 gs (z.map cellOf) 22 := by rw [hw5, HN.out, List.map_set]; exact hE.out
           clear hw5 hT hE hB hA hZ hS d1))
      go_roundw
      case rel => first | exact ⟨k + 1, by omega, by go_num, hB5, hA5, hZ5, by rw [HZ.out]; exact hS5⟩ | trace_state
      case measure => simp [intOf] <;> omega
    · obtain rfl : k = 32 := by omega
      rw [HR.out] at hS
      have HTL := Lib.hid (HL.out 32 (by omega))
      rw [HR.out] at HTL
      clear HA HS HL H0 hA HV
      go_wp2_with (first
        | (refine get_step rfl 22 (.tmp 3) rfl gs 32 r _ rfl hS Tryd.underlying22 size_b32 HTL.out ?_
           try simp only [Act.put, List.setIfInBounds_toArray, List.set_cons_zero, List.set_cons_succ]
           skip)
        | (refine set_step rfl 22 _ _ rfl gz 32 (List.replicate 32 (cellOf 0)) r rfl rfl hZ rfl size_b32 HTL.out ?_
           intro w6 hb6 hZ6 hz
           have hB6 := hB.trans (hb6.below (by omega) hB.size)
           clear hB hS hb6 hz))
      exact ret_hash Tryd.results19 gz r rfl hZ6 Tryd.underlying22 size_b32 HTL.out rfl ⟨rfl, hB6⟩
theorem refBytes_any (n : Nat) (w : World) : Calls Tryd.prog 19 #[numD (nD n)] w fun e w' => e = .returned (hashVal (putL n 32)) ∧ Below w.heap.size w w' := by
  refine refBytes_over (nD n) _ (fun k => putL n k ++ List.replicate (32 - k) 0) (byteAt n) w rfl (fun k hk => ?_) (by show putL n 0 ++ List.replicate 32 0 = _; rfl) (by show putL n 32 ++ List.replicate 0 0 = _; exact List.append_nil _) (fun k hk => ?_) (fun k hk => nD_byte n k hk)
  · show (putL n k ++ List.replicate (32 - k) 0).length = 32
    rw [List.length_append, putL_length, List.length_replicate]; omega
  · show putL n (k + 1) ++ List.replicate (32 - (k + 1)) 0 = (putL n k ++ List.replicate (32 - k) 0).set k (byteAt n k)
    rw [putL_succ, show 32 - k = (32 - (k + 1)) + 1 by omega, List.replicate_succ, List.set_append_right _ _ (by rw [putL_length]; omega), putL_length, Nat.sub_self, List.set_cons_zero, List.append_assoc]
    rfl
end Go.Proofs.YtlhgabhjbnckkaaDoor
namespace Go.Proofs.YtlhgabhjbnckkaaDoor
open Go.RowKit
set_option maxRecDepth 100000 in
set_option maxHeartbeats 2000000 in
theorem refMasked_over (b c : List UInt8) (x r : List Nat) (w : World) (HB : Hid (b.length = 32)) (HR : Hid (r.length = 8)) (HC : Hid (c = b.set 31 (b.getD 31 0 % 128)))
    (CP : Hid (∀ W, Calls Tryd.prog 30 #[hashVal c] W fun e w' => e = .returned (numD x) ∧ Below W.heap.size W w')) (CL : Hid (∀ W, Calls Tryd.prog 29 #[numD x] W fun e w' => e = .returned (numD r) ∧ Below W.heap.size W w')) :
    Calls Tryd.prog 15 #[hashVal b] w fun e w' => e = .returned (numD r) ∧ Below w.heap.size w w' := by
  have HCL : Hid (c.length = 32) := by show _ = _; rw [HC.out, List.length_set]; exact HB.out
  have d0 := Lib.hid (show (b.map cellOf)[31]? = some (cellOf (b.getD 31 0)) by rw [List.getElem?_map, List.getD_eq_getElem?_getD, List.getElem?_eq_getElem (by rw [HB.out]; decide)]; rfl)
  generalize b.getD 31 0 = q at *
  obtain ⟨v, HV⟩ := namedF (q % 128)
  rw [HV.out] at HC
  have hv : v.toNat = q.toNat % 128 := by rw [← HV.out, UInt8.toNat_mod]; rfl
  have hvl := v.toNat_lt
  have e1 : ((q.toNat : Nat) : Int).tmod 128 = (v.toNat : Int) := by rw [Int.tmod_eq_emod_of_nonneg (by omega)]; omega
  have e2 : IntKind.u8.wrap (v.toNat : Int) = (v.toNat : Int) := by rw [IntKind.wrap_u8]; omega
  clear hv hvl HV
  go_enter Tryd.func15, Tryd.ntmps15
  go_wp2_with (first
    | (refine take_step rfl 22 (.tmp 0) rfl b rfl ?_
       intro w1 hB1 hA1 hz
       clear hz
       try simp only [Act.put, List.setIfInBounds_toArray, List.set_cons_zero, List.set_cons_succ]
       skip)
    | (refine vzero_step rfl 38 rfl (dzeros 8) zero_ND ?_
       intro w3 hb3 hZ3
       have hB3 := below_then hB1 hb3
       have hA3 := hA1.on hb3
       have hg2 := hA1.lt
       clear hB1 hA1 hb3
       have d1 := hA3.get d0.out
       have hT := hA3.there 31 1 (by rw [List.length_map, HB.out]; decide)
       have hE := Lib.hid (hA3.set 31 (cellOf v))
       try simp only [Act.put, List.setIfInBounds_toArray, List.set_cons_zero, List.set_cons_succ]
       skip)
    | (refine store_step rfl 5 _ _ rfl w.heap.size 31 .u8 (v.toNat : Int) rfl rfl size_u8 hT ?_
       intro w5 hw5
       have hB5 : Below w.heap.size w w5 := by rw [hw5]; exact hB3.setCell (p := ⟨w.heap.size, 31, none⟩) (Nat.le_refl _) _
       have hA5 : Cells w5 w.heap.size (c.map cellOf) 22 := by rw [hw5, HC.out, List.map_set]; exact hE.out
       have hZ5 : Cells w5 w1.heap.size (dzeros 8) 38 := by rw [hw5]; exact hZ3.other (by show w1.heap.size ≠ w.heap.size; omega) _
       clear hw5 hT hE hB3 hA3 hZ3 d1 d0 HC)
    | (refine get_step rfl 22 (.tmp 1) rfl w.heap.size 32 c _ rfl hA5 Tryd.underlying22 size_b32 HCL.out ?_
       try simp only [Act.put, List.setIfInBounds_toArray, List.set_cons_zero, List.set_cons_succ]
       skip))
  generalize w1.heap.size = gz at *
  refine (CP.out w5).mono ?_
  rintro e w6 ⟨rfl, hb6⟩
  have hB6 := below_then hB5 hb6
  have hZ6 := hZ5.on hb6
  clear CP hB5 hZ5 hA5 hb6
  go_wp2_with fail
  refine (CL.out w6).mono ?_
  rintro e w7 ⟨rfl, hb7⟩
  have hB7 := below_then hB6 hb7
  have hZ7 := hZ6.on hb7
  clear CL hB6 hZ6 hb7
  go_wp2_with (first
    | (refine vset_step rfl 38 _ _ rfl gz 8 (dzeros 8) (r.map dcell) rfl rfl hZ7 rfl size_ND (by rw [List.length_map, HR.out]) (dcells_one _) ?_
       intro w8 hb8 hC8 _))
  exact sret Tryd.results15 gz (r.map dcell) rfl hC8 Tryd.underlying38 rfl size_ND (by rw [List.length_map, HR.out]) rfl ⟨rfl, hB7.trans (hb8.below (by omega) hB7.size)⟩
theorem lev_mask (b : List UInt8) (hb : b.length = 32) : lev (b.set 31 (b.getD 31 0 % 128)) = lev b % 57896044618658097711785492504343953926634992332820282019728792003956564819968 := by
  have hg : ∀ c : List UInt8, c.length = 32 → lev c = lev (c.take 31) + (c.getD 31 0).toNat * 452312848583266388373324160190187140051835877600158453279131187530910662656 := fun c hc => by
    have h := lev_step c 31 (by rw [hc]; decide)
    rw [List.take_of_length_le (by rw [hc]; decide)] at h
    exact h
  have hl := lev_take_lt b 31 (by rw [hb]; decide)
  rw [hg _ (by rw [List.length_set]; exact hb), hg b hb, List.take_set_of_le (by decide), show (b.set 31 (b.getD 31 0 % 128)).getD 31 0 = b.getD 31 0 % 128 by rw [List.getD_eq_getElem?_getD, List.getElem?_set_self (by rw [hb]; decide)]; rfl, UInt8.toNat_mod]
  generalize lev (b.take 31) = L at *
  generalize b.getD 31 0 = q
  have hq := q.toNat_lt
  have h8 : (128 : UInt8).toNat = 128 := rfl
  rw [h8]
  generalize q.toNat = y at *
  have hl' : L < 452312848583266388373324160190187140051835877600158453279131187530910662656 := hl
  clear hl
  omega
theorem refMasked_any (b : List UInt8) (w : World) (hb : b.length = 32) : Calls Tryd.prog 15 #[hashVal b] w fun e w' => e = .returned (numD (nD (keyN b))) ∧ Below w.heap.size w w' := by
  refine refMasked_over b _ (nD (lev b % 57896044618658097711785492504343953926634992332820282019728792003956564819968)) (nD (keyN b)) w hb rfl rfl (fun W => ?_) (fun W => refLeast_any _ W (Nat.lt_trans (Nat.mod_lt _ (by decide)) (by decide)))
  rw [← lev_mask b hb]
  exact refRead_any _ W (by rw [List.length_set]; exact hb)
end Go.Proofs.YtlhgabhjbnckkaaDoor
namespace Go.Proofs.YtlhgabhjbnckkaaDoor
open Go.RowKit
theorem nD_halfAt (n k : Nat) (hk : k < 8) : (nD (n / 2)).getD k 0 = (nD n).getD k 0 / 2 + n / 2 ^ (32 * k + 32) % 2 * 2147483648 := by
  rw [nD_at _ k hk, nD_at _ k hk, Nat.pow_add, ← Nat.div_div_eq_div_mul, Nat.div_div_eq_div_mul n 2, Nat.mul_comm 2, ← Nat.div_div_eq_div_mul]
  generalize n / 2 ^ (32 * k) = y
  omega
end Go.Proofs.YtlhgabhjbnckkaaDoor
namespace Go.Proofs.YtlhgabhjbnckkaaDoor
open Go.RowKit
theorem build_ND01 (a b : Nat) (w : World) : (Instr.build 38 #[(0, dcell a), (1, dcell b)]).run Tryd.prog w = .ok (numD [a, b, 0, 0, 0, 0, 0, 0]) w := by kernel_rfl
theorem nD_word (u : Nat) (h : u < 18446744073709551616) : nD u = [u % 4294967296, u / 4294967296, 0, 0, 0, 0, 0, 0] := by
  simp only [nD, List.cons.injEq, and_true]
  refine ⟨trivial, ?_, ?_, ?_, ?_, ?_, ?_, ?_⟩ <;> omega
end Go.Proofs.YtlhgabhjbnckkaaDoor
namespace Go.Proofs.YtlhgabhjbnckkaaDoor
open Go.RowKit
theorem key_eql (ds es : List UInt8) (hd : ds.length = 32) (he : es.length = 32) (w : World) : (binOp .eql 23 (hashVal ds) (hashVal es)).run Tryd.prog w = .ok (.bool (ds == es)) w :=
  run_eql_bytes (P := Tryd.prog) w 23 5 32 Tryd.underlying23 Tryd.underlying5 (fun w => by
    obtain ⟨i0, hi0, hs0⟩ := Option.map_eq_some_iff.1 size_u8
    simp [sizeOf, typeInfo, hi0, hs0]) ds es hd he
def sameVs (a m : List Nat) (k : List UInt8) (ga gb : Nat) : List Value :=
  (numVal a) :: (numD m) :: (.pointer (some ⟨ga, 0, none⟩)) :: (.pointer (some ⟨gb, 0, none⟩)) :: (.bool true) :: (numVal a) :: (hashVal k) :: (numD m) :: (hashVal k) :: (.bool true) :: []
end Go.Proofs.YtlhgabhjbnckkaaDoor
namespace Go.Proofs.YtlhgabhjbnckkaaDoor
open Go.RowKit
theorem at_key {k : List UInt8} {i : Nat} {v : UInt8} (h : k[i]? = some v) : Hid ((k.map cellOf)[i]? = some (cellOf v)) := by
  show _ = _
  rw [List.getElem?_map, h]; rfl
theorem minus_one : (keyB (smallN (-1)))[0]? = some 236 ∧ (keyB (smallN (-1)))[1]? = some 255 ∧ (keyB (smallN (-1)))[31]? = some 127 := by decide +kernel
end Go.Proofs.YtlhgabhjbnckkaaDoor
namespace Go.Proofs.YtlhgabhjbnckkaaDoor
open Go.RowKit
section
variable {P : Program} {ops : Array Oper} {Q : Exit → Act → World → Prop} {md : Region.Mode} {L : List Nat}
/-- Slot s is none of the new variables'. -/
def oldB (news : List (Nat × Nat)) (s : Nat) : Bool := news.all fun p => !Nat.beq p.2 s
theorem oldB_ne {news : List (Nat × Nat)} {s : Nat} (h : oldB news s = true) : ∀ p ∈ news, p.2 ≠ s := fun p hp e => by
  rw [oldB, List.all_eq_true] at h
  have := h p hp
  rw [e, show Nat.beq s s = true from Nat.beq_refl s] at this
  cases this
structure FlatM (ops : Array Oper) (L : List Nat) (w0 : World) (ds : List Deferred) (vs : List Value) (news : List (Nat × Nat)) (t : Nat → TypeId) (zs : Nat → List Value) (listed : Array Bool) (a : Act) (w : World) : Prop where
  below : Below w0.heap.size w0 w
  size : a.tmps.size = vs.length
  defers : a.defers = ds
  fact : ∀ s, oldB news s = true → (∀ j ∈ L, dstIs ops j s = true → listed.getD j false = true) → a.tmps.getD s undef = vs.getD s undef
  made : ∀ p ∈ news, listed.getD p.1 false = true → ∃ g, w0.heap.size ≤ g ∧ a.tmps.getD p.2 undef = .pointer (some ⟨g, 0, none⟩) ∧ Cells w g (zs p.2) (t p.2)
  apart : ∀ p ∈ news, ∀ q ∈ news, p.2 ≠ q.2 → listed.getD p.1 false = true → listed.getD q.1 false = true → a.tmps.getD p.2 undef ≠ a.tmps.getD q.2 undef
/-- What is asked of an operation that makes no variable. -/
structure StepM (P : Program) (md : Region.Mode) (ops : Array Oper) (Q : Exit → Act → World → Prop) (L : List Nat) (w0 : World) (vs : List Value) (news : List (Nat × Nat)) (i : Nat) : Prop where
  step : ∃ o s, ops[i]? = some o ∧ o.dst = some s ∧ Nat.blt s vs.length = true ∧ oldB news s = true ∧ (L.all fun j => j == i || !dstIs ops j s) = true ∧
    ∀ a w K, Below w0.heap.size w0 w → (∀ t, okB md ops L i t = true → oldB news t = true → a.tmps.getD t undef = vs.getD t undef) → (∀ w', Below w.heap.size w w' → K (a.put o.dst (vs.getD s undef)) w') →
      if Region.wanted o (yielded ops a.tmps) = true then Oper.wp P o a w K Q else K (a.put o.dst undef) w
/-- What is asked of one that makes a variable. -/
structure NewM (P : Program) (ops : Array Oper) (L : List Nat) (n : Nat) (t : TypeId) (p : Nat × Nat) : Prop where
  new : ∃ o, ops[p.1]? = some o ∧ o.dst = some p.2 ∧ o.guard = none ∧ o.op = .alloc t ∧ Nat.blt p.2 n = true ∧ (L.all fun j => j == p.1 || !dstIs ops j p.2) = true
theorem flatM_step {w0 : World} {ds : List Deferred} {vs : List Value} {news : List (Nat × Nat)} {t : Nat → TypeId} {zs : Nat → List Value} (hnL : ∀ p ∈ news, p.1 ∈ L) (hN : ∀ p ∈ news, NewM P ops L vs.length (t p.2) p) (hz : ∀ p ∈ news, ∀ w, (zeroValue (t p.2)).run P w = .ok (.agg (zs p.2).toArray) w) {i : Nat} (hi : i ∈ L) (h : (∃ p ∈ news, p.1 = i) ∨ StepM P md ops Q L w0 vs news i)
    (listed : Array Bool) (a : Act) (w : World) (hI : FlatM ops L w0 ds vs news t zs listed a w) (hr : i ∈ Region.ready md ops listed) : wpOp P ops Q i (FlatM ops L w0 ds vs news t zs (listed.setIfInBounds i true)) a w := by
  have hget : ∀ (s u : Nat) (v : Value), s ≠ u → (a.put (some s) v).tmps.getD u undef = a.tmps.getD u undef := fun s u v hne => put_getD_ne _ _ _ _ hne
  have hback : ∀ j, j ≠ i → (listed.setIfInBounds i true).getD j false = true → listed.getD j false = true := fun j hj hl => by
    rwa [getD_set_ne false (fun e => hj e.symm)] at hl
  rcases h with ⟨p, hp, rfl⟩ | h
  · obtain ⟨o, ho, hd, hg, hop, hs, hone⟩ := (hN p hp).new
    rw [List.all_eq_true] at hone
    have hs' : p.2 < vs.length := by simpa [Nat.blt_eq] using hs
    have hb : Below w.heap.size w (w.alloc (.cells (zs p.2).toArray (t p.2))) := (Below.refl _ _).alloc (Nat.le_refl _) _
    have heq : (a.put (some p.2) (.pointer (some ⟨w.heap.size, 0, none⟩))).tmps.getD p.2 undef = .pointer (some ⟨w.heap.size, 0, none⟩) := put_getD_eq _ _ _ (by rw [hI.size]; exact hs')
    have hone2 : ∀ q ∈ news, q.2 = p.2 → q.1 = p.1 := fun q hq e => by
      obtain ⟨oq, hoq, hdq, _⟩ := (hN q hq).new
      have := hone q.1 (hnL q hq)
      simpa [dstIs, hoq, hdq, e] using this
    suffices hfin : FlatM ops L w0 ds vs news t zs (listed.setIfInBounds p.1 true) (a.put (some p.2) (.pointer (some ⟨w.heap.size, 0, none⟩))) (w.alloc (.cells (zs p.2).toArray (t p.2))) by
      refine wpOp_step ho fun K hK => ?_
      rw [if_pos (by simp [Region.wanted, hg])]
      have hfin2 := hK _ _ hfin
      rw [← hd] at hfin2
      unfold Oper.wp
      simp only [execOp, hop, Instr.alloc, hz p hp, newVar, Value.cells, Sem.run_bind, Sem.run_pure, Result.andThen_ok, go_sem]
      exact hfin2
    refine ⟨hI.below.trans (hb.mono hI.below.size), ?_, ?_, fun s hold hs2 => ?_, fun q hq hl => ?_, fun q hq q' hq' hne hl hl' => ?_⟩
    · rw [← hI.size]; simp [Act.put]
    · rw [← hI.defers]; rfl
    · have hne := oldB_ne hold p hp
      rw [hget _ _ _ hne]
      refine hI.fact s hold fun j hj hjs => ?_
      have h1 := hs2 j hj hjs
      refine hback j (fun e => ?_) h1
      rw [e] at hjs
      simp only [dstIs, ho, hd] at hjs
      exact hne (by simpa using hjs)
    · by_cases e : q.2 = p.2
      · rw [e, heq]
        exact ⟨_, hI.below.size, rfl, Cells.new w _ _⟩
      · rw [hget _ _ _ (fun e2 => e e2.symm)]
        obtain ⟨g, h1, h2, h3⟩ := hI.made q hq (hback _ (fun e2 => by
          obtain ⟨oq, hoq, hdq, _⟩ := (hN q hq).new
          rw [e2, ho] at hoq
          cases hoq
          rw [hd] at hdq
          exact e (by simpa using hdq.symm)) hl)
        exact ⟨g, h1, h2, h3.below hb h3.lt⟩
    · have key : ∀ r ∈ news, r.2 ≠ p.2 → (listed.setIfInBounds p.1 true).getD r.1 false = true → a.tmps.getD r.2 undef ≠ .pointer (some ⟨w.heap.size, 0, none⟩) := fun r hr2 hne2 hl2 e => by
        obtain ⟨g, h1, h2, h3⟩ := hI.made r hr2 (hback _ (fun e2 => by
          obtain ⟨oq, hoq, hdq, _⟩ := (hN r hr2).new
          rw [e2, ho] at hoq
          cases hoq
          rw [hd] at hdq
          exact hne2 (by simpa using hdq.symm)) hl2)
        rw [h2] at e
        have := h3.lt
        simp at e
        try omega
      have nl : ∀ r ∈ news, r.2 ≠ p.2 → (listed.setIfInBounds p.1 true).getD r.1 false = true → listed.getD r.1 false = true := fun r hr2 hne2 hl2 => hback _ (fun e2 => by
          obtain ⟨oq, hoq, hdq, _⟩ := (hN r hr2).new
          rw [e2, ho] at hoq
          cases hoq
          rw [hd] at hdq
          exact hne2 (by simpa using hdq.symm)) hl2
      by_cases e : q.2 = p.2
      · have e' : q'.2 ≠ p.2 := fun e2 => hne (e.trans e2.symm)
        rw [e, heq, hget _ _ _ (fun e2 => e' e2.symm)]
        exact fun h => key q' hq' e' hl' h.symm
      · by_cases e' : q'.2 = p.2
        · rw [e', heq, hget _ _ _ (fun e2 => e e2.symm)]
          exact key q hq e hl
        · rw [hget _ _ _ (fun e2 => e e2.symm), hget _ _ _ (fun e2 => e' e2.symm)]
          exact hI.apart q hq q' hq' hne (nl q hq e hl) (nl q' hq' e' hl')
  · obtain ⟨o, s, ho, hd, hs, hold, hone, hstep⟩ := h.step
    rw [List.all_eq_true] at hone
    have hs' : s < vs.length := by simpa [Nat.blt_eq] using hs
    have hnew := oldB_ne hold
    have hni : ∀ p ∈ news, p.1 ≠ i := fun p hp e => by
      obtain ⟨oq, hoq, hdq, _⟩ := (hN p hp).new
      rw [e, ho] at hoq
      cases hoq
      rw [hd] at hdq
      exact hnew p hp (by simpa using hdq.symm)
    refine wpOp_step ho fun K hK => ?_
    refine hstep a w K hI.below (fun u hu hou => hI.fact u hou fun j hj hjs => ?_) fun w' hb => hK _ _ ?_
    · rw [okB, List.all_eq_true] at hu
      have h1 := hu j hj
      rw [hjs] at h1
      exact ready_has hr (by simpa using h1)
    · rw [hd]
      refine ⟨hI.below.trans (hb.mono hI.below.size), ?_, ?_, fun u hou hu => ?_, fun q hq hl => ?_, fun q hq q' hq' hne hl hl' => ?_⟩
      · rw [← hI.size]; simp [Act.put]
      · rw [← hI.defers]; rfl
      · by_cases e : s = u
        · subst e
          rw [put_getD_eq _ _ _ (by rw [hI.size]; exact hs')]
        · rw [hget _ _ _ e]
          refine hI.fact u hou fun j hj hju => ?_
          have h1 := hu j hj hju
          refine hback j (fun ej => ?_) h1
          rw [ej] at hju
          simp only [dstIs, ho, hd] at hju
          exact e (by simpa using hju)
      · rw [hget _ _ _ (fun e => hnew q hq e.symm)]
        obtain ⟨g, h1, h2, h3⟩ := hI.made q hq (hback _ (hni q hq) hl)
        exact ⟨g, h1, h2, h3.below hb h3.lt⟩
      · rw [hget _ _ _ (fun e => hnew q hq e.symm), hget _ _ _ (fun e => hnew q' hq' e.symm)]
        exact hI.apart q hq q' hq' hne (hback _ (hni q hq) hl) (hback _ (hni q' hq') hl')
/-- The new variables' addresses laid into a frame. -/
def withNew (g : Nat → Nat) (news : List (Nat × Nat)) (vs : List Value) : List Value := news.foldl (fun l p => l.set p.2 (.pointer (some ⟨g p.2, 0, none⟩))) vs
theorem withNew_length (g : Nat → Nat) : ∀ (news : List (Nat × Nat)) (vs : List Value), (withNew g news vs).length = vs.length
  | [], _ => rfl
  | p :: r, vs => by rw [withNew, List.foldl_cons]; exact (withNew_length g r _).trans List.length_set
theorem withNew_old (g : Nat → Nat) (s : Nat) : ∀ (news : List (Nat × Nat)) (vs : List Value), oldB news s = true → (withNew g news vs).getD s undef = vs.getD s undef
  | [], _, _ => rfl
  | p :: r, vs, h => by
    have hp := oldB_ne h p List.mem_cons_self
    have hr : oldB r s = true := by rw [oldB, List.all_cons, Bool.and_eq_true] at h; exact h.2
    rw [withNew, List.foldl_cons]
    refine (withNew_old g s r _ hr).trans ?_
    rw [List.getD_eq_getElem?_getD, List.getD_eq_getElem?_getD, List.getElem?_set_ne hp]
theorem withNew_new (g : Nat → Nat) (s : Nat) : ∀ (news : List (Nat × Nat)) (vs : List Value), s < vs.length → (∃ p ∈ news, p.2 = s) → (withNew g news vs).getD s undef = .pointer (some ⟨g s, 0, none⟩)
  | [], _, _, h => by obtain ⟨_, h, _⟩ := h; cases h
  | p :: r, vs, hl, h => by
    rw [withNew, List.foldl_cons]
    by_cases hr : ∃ q ∈ r, q.2 = s
    · exact withNew_new g s r _ (by rw [List.length_set]; exact hl) hr
    · have hp : p.2 = s := by
        obtain ⟨q, hq, e⟩ := h
        rcases List.mem_cons.1 hq with rfl | hq
        · exact e
        · exact absurd ⟨q, hq, e⟩ hr
      have ho : oldB r s = true := by
        rw [oldB, List.all_eq_true]
        intro q hq
        cases hb : Nat.beq q.2 s with
        | false => rfl
        | true => exact absurd ⟨q, hq, Nat.eq_of_beq_eq_true hb⟩ hr
      refine (withNew_old g s r _ ho).trans ?_
      rw [hp]
      simp [hl]
theorem wpAny_flatMM (hB : flatB md ops L = true) (w0 : World) (a0 : Act) (vs : List Value) (news : List (Nat × Nat)) (t : Nat → TypeId) (zs : Nat → List Value) (keep : List Nat) (hkeep : ((List.range vs.length).all fun s => keep.contains s || L.any fun j => dstIs ops j s && Nat.blt j ops.size) = true)
    (hnL : (news.all fun p => L.contains p.1) = true) (hN : ∀ p ∈ news, NewM P ops L vs.length (t p.2) p) (hz : ∀ p ∈ news, ∀ w, (zeroValue (t p.2)).run P w = .ok (.agg (zs p.2).toArray) w)
    (hk : ∀ s ∈ keep, a0.tmps.getD s undef = vs.getD s undef) (hsz : a0.tmps.size = vs.length) (hstep : ∀ i ∈ L, (∃ p ∈ news, p.1 = i) ∨ StepM P md ops Q L w0 vs news i) (rem : Nat) (hrem : rem + (fullOf ops.size L).toList.countP id = ops.size)
    (hend : ∀ w (g : Nat → Nat), Below w0.heap.size w0 w → (∀ p ∈ news, w0.heap.size ≤ g p.2 ∧ Cells w (g p.2) (zs p.2) (t p.2)) → (∀ p ∈ news, ∀ q ∈ news, p.2 ≠ q.2 → g p.2 ≠ g q.2) → wpAny P md ops Q rem (fullOf ops.size L) ⟨(withNew g news vs).toArray, a0.defers⟩ w) : wpAny P md ops Q ops.size (Array.replicate ops.size false) a0 w0 := by
  rw [List.all_eq_true] at hkeep hnL
  have hnL' : ∀ p ∈ news, p.1 ∈ L := fun p hp => by simpa using hnL p hp
  have hno : ∀ j, (Array.replicate ops.size false).getD j false = false := fun j => by
    by_cases h : j < ops.size <;> simp [h]
  have h0 : (Array.replicate ops.size false).toList.countP id = 0 := by simp [List.countP_replicate]
  refine wpAny_flat hB (FlatM ops L w0 a0.defers vs news t zs) (fun i hi => flatM_step hnL' hN hz hi (hstep i hi)) rem hrem (fun a w hI => ?_) ops.size _ a0 w0 ⟨by simp, fun j hj => ?_, fun i j hi => ?_⟩ (by omega) ⟨Below.refl _ _, hsz, rfl, fun s hold hs => ?_, fun p hp hl => ?_, fun p hp q hq _ hl => ?_⟩
  · have hful : ∀ j ∈ L, j < ops.size → (fullOf ops.size L).getD j false = true := fun j hj hlt => by simp [fullOf, hlt, hj]
    have hnew : ∀ p ∈ news, (fullOf ops.size L).getD p.1 false = true := fun p hp => by
      obtain ⟨o, ho, _⟩ := (hN p hp).new
      exact hful _ (hnL' p hp) (Array.getElem?_eq_some_iff.1 ho).1
    have hg : ∃ g : Nat → Nat, ∀ p ∈ news, w0.heap.size ≤ g p.2 ∧ a.tmps.getD p.2 undef = .pointer (some ⟨g p.2, 0, none⟩) ∧ Cells w (g p.2) (zs p.2) (t p.2) := by
      refine ⟨fun s => blk (a.tmps.getD s undef), fun p hp => ?_⟩
      obtain ⟨g, h1, h2, h3⟩ := hI.made p hp (hnew p hp)
      have hb : blk (a.tmps.getD p.2 undef) = g := by rw [h2]; rfl
      show w0.heap.size ≤ blk (a.tmps.getD p.2 undef) ∧ a.tmps.getD p.2 undef = .pointer (some ⟨blk (a.tmps.getD p.2 undef), 0, none⟩) ∧ Cells w (blk (a.tmps.getD p.2 undef)) (zs p.2) (t p.2)
      rw [hb]
      exact ⟨h1, h2, h3⟩
    obtain ⟨g, hg⟩ := hg
    rw [frame_is (vs := withNew g news vs) (by rw [withNew_length]; exact hI.size) hI.defers fun s => ?_]
    · refine hend w g hI.below (fun p hp => ⟨(hg p hp).1, (hg p hp).2.2⟩) fun p hp q hq hne e => hI.apart p hp q hq hne (hnew p hp) (hnew q hq) ?_
      rw [(hg p hp).2.1, (hg q hq).2.1, e]
    · by_cases ho : oldB news s = true
      · rw [withNew_old g s news vs ho]
        refine hI.fact s ho fun j hj hjs => hful j hj ?_
        unfold dstIs at hjs
        rcases Nat.lt_or_ge j ops.size with h | h
        · exact h
        · rw [Array.getElem?_eq_none h] at hjs; cases hjs
      · have hex : ∃ p ∈ news, p.2 = s := by
          refine Classical.byContradiction fun hc => ho ?_
          rw [oldB, List.all_eq_true]
          intro q hq
          cases hb : Nat.beq q.2 s with
          | false => rfl
          | true => exact absurd ⟨q, hq, Nat.eq_of_beq_eq_true hb⟩ hc
        obtain ⟨p, hp, e⟩ := hex
        obtain ⟨o, _, _, _, _, hlt, _⟩ := (hN p hp).new
        rw [withNew_new g s news vs (by rw [← e]; simpa [Nat.blt_eq] using hlt) ⟨p, hp, e⟩, ← e]
        exact (hg p hp).2.1
  · rw [hno] at hj; cases hj
  · rw [hno] at hi; cases hi
  · rcases Nat.lt_or_ge s vs.length with h | h
    · have h1 := hkeep s (List.mem_range.2 h)
      rw [Bool.or_eq_true, List.contains_iff_mem, List.any_eq_true] at h1
      rcases h1 with h1 | ⟨j, hj, h1⟩
      · exact hk s h1
      · rw [Bool.and_eq_true] at h1
        have := hs j hj h1.1
        rw [hno] at this; cases this
    · simp [Array.getElem?_eq_none (show a0.tmps.size ≤ s by omega), h]
  · rw [hno] at hl; cases hl
  · rw [hno] at hl; cases hl
theorem wpAny_flatM (hB : flatB md ops L = true) (w0 : World) (a0 : Act) (vs : List Value) (news : List (Nat × Nat)) (t : TypeId) (zs : List Value) (keep : List Nat) (hkeep : ((List.range vs.length).all fun s => keep.contains s || L.any fun j => dstIs ops j s && Nat.blt j ops.size) = true)
    (hnL : (news.all fun p => L.contains p.1) = true) (hN : ∀ p ∈ news, NewM P ops L vs.length t p) (hz : ∀ w, (zeroValue t).run P w = .ok (.agg zs.toArray) w)
    (hk : ∀ s ∈ keep, a0.tmps.getD s undef = vs.getD s undef) (hsz : a0.tmps.size = vs.length) (hstep : ∀ i ∈ L, (∃ p ∈ news, p.1 = i) ∨ StepM P md ops Q L w0 vs news i) (rem : Nat) (hrem : rem + (fullOf ops.size L).toList.countP id = ops.size)
    (hend : ∀ w (g : Nat → Nat), Below w0.heap.size w0 w → (∀ p ∈ news, w0.heap.size ≤ g p.2 ∧ Cells w (g p.2) zs t) → (∀ p ∈ news, ∀ q ∈ news, p.2 ≠ q.2 → g p.2 ≠ g q.2) → wpAny P md ops Q rem (fullOf ops.size L) ⟨(withNew g news vs).toArray, a0.defers⟩ w) : wpAny P md ops Q ops.size (Array.replicate ops.size false) a0 w0 :=
  wpAny_flatMM hB w0 a0 vs news (fun _ => t) (fun _ => zs) keep hkeep hnL hN (fun _ _ => hz) hk hsz hstep rem hrem hend
/-- A guarded operation whose guard is known. -/
theorem wanted_is {o : Oper} {a : Act} {j s : Nat} {b c : Bool} (hg : o.guard = some (j, b)) {oj : Oper} (hj : ops[j]? = some oj) (hd : oj.dst = some s) (hv : a.tmps.getD s undef = .bool c) : Region.wanted o (yielded ops a.tmps) = (c == b) := by
  simp only [Region.wanted, hg]
  unfold yielded
  rw [Array.getD_eq_getD_getElem?] at hv
  cases h : a.tmps[s]? with
  | none => rw [h] at hv; cases hv
  | some v =>
    rw [h] at hv
    obtain rfl : v = .bool c := hv
    simp [hj, hd, h]
/-- An operation, whether it is wanted (told by its guard's slot), and what it then yields. -/
theorem mStep {w0 : World} {vs : List Value} {news : List (Nat × Nat)} {i : Nat} (o : Oper) (s : Nat) (ho : ops[i]? = some o) (hd : o.dst = some s) (hs : Nat.blt s vs.length = true) (hold : oldB news s = true) (hone : (L.all fun j => j == i || !dstIs ops j s) = true)
    (hw : ∀ a : Act, (∀ t, okB md ops L i t = true → oldB news t = true → a.tmps.getD t undef = vs.getD t undef) → Region.wanted o (yielded ops a.tmps) = true)
    (hr : ∀ a w K, Below w0.heap.size w0 w → (∀ t, okB md ops L i t = true → oldB news t = true → a.tmps.getD t undef = vs.getD t undef) → (∀ w', Below w.heap.size w w' → K (a.put o.dst (vs.getD s undef)) w') → Oper.wp P o a w K Q) : StepM P md ops Q L w0 vs news i :=
  ⟨o, s, ho, hd, hs, hold, hone, fun a w K hb hv hK => by rw [if_pos (hw a hv)]; exact hr a w K hb hv hK⟩
/-- One that isn't wanted. -/
theorem mSkip {w0 : World} {vs : List Value} {news : List (Nat × Nat)} {i : Nat} (o : Oper) (s : Nat) (ho : ops[i]? = some o) (hd : o.dst = some s) (hs : Nat.blt s vs.length = true) (hold : oldB news s = true) (hone : (L.all fun j => j == i || !dstIs ops j s) = true)
    (hw : ∀ a : Act, (∀ t, okB md ops L i t = true → oldB news t = true → a.tmps.getD t undef = vs.getD t undef) → Region.wanted o (yielded ops a.tmps) = false) (hu : vs.getD s undef = undef) : StepM P md ops Q L w0 vs news i :=
  ⟨o, s, ho, hd, hs, hold, hone, fun a w K hb hv hK => by rw [if_neg (by rw [hw a hv]; decide)]; have := hK w (Below.refl _ _); rwa [hu] at this⟩
theorem wanted_all {o : Oper} (hg : o.guard = none) (y : Nat → Option Bool) : Region.wanted o y = true := by simp [Region.wanted, hg]
theorem mPure {o : Oper} {a : Act} {w : World} {K : Act → World → Prop} (v : Value) (hr : (execOp a.eval o).run P w = .ok (.value v) w) (h : ∀ w', Below w.heap.size w w' → K (a.put o.dst v) w') : Oper.wp P o a w K Q := flat_pure v hr (h w (Below.refl _ _))
theorem mCall {o : Oper} {a : Act} {w : World} {K : Act → World → Prop} (v : Value) (f : FuncId) (args : List Operand) (tys : Array TypeId) (hop : o.op = .call { callee := .value (.func f), args := args.toArray, argTypes := tys }) (us : List Value) (hu : args.map a.eval = us)
    (hcf : ∀ args w, (callFunc f args).run P w = .ok (.enter f args) w) (hc : Calls P f us.toArray w fun e w' => e = .returned v ∧ Below w.heap.size w w') (h : ∀ w', Below w.heap.size w w' → K (a.put o.dst v) w') : Oper.wp P o a w K Q := by
  unfold Oper.wp
  simp [execOp, hop, resolve, invoke, Act.eval, Deferred.ofValue, hu, hcf, Oper.upon]
  refine hc.mono fun e w' hR => ?_
  obtain ⟨rfl, hb'⟩ := hR
  exact h w' hb'
theorem exec_pick (ρ : Operand → Value) (o : Oper) (c x y : Operand) (h : o.op = .pick c x y) (b : Bool) (hc : ρ c = .bool b) (w : World) : (execOp ρ o).run P w = .ok (.value (if b then ρ x else ρ y)) w := by
  simp [execOp, h, hc, asBool]
end
end Go.Proofs.YtlhgabhjbnckkaaDoor
namespace Go.Proofs.YtlhgabhjbnckkaaDoor
open Go.RowKit
theorem key_run {w : World} {g : Nat} {l : List UInt8} {t' : TypeId} (hC : Cells w g (l.map cellOf) t') (hl : l.length = 32) : (Instr.loadAt 23 (.pointer (some ⟨g, 0, none⟩))).run Tryd.prog w = .ok (hashVal l) w := by
  have h := run_loadVar_row (P := Tryd.prog) w g t' 23 (l.map cellOf).toArray (0, 0) _ hC Tryd.underlying23 rfl (by rw [List.size_toArray, List.length_map, hl]; exact size_k32)
  simp only [Instr.loadAt, Instr.sureAddr, Sem.run_bind, Sem.run_pure, Result.andThen_ok]
  exact h
theorem pick_true {P : Program} (ρ : Operand → Value) (o : Oper) (c x y : Operand) (h : o.op = .pick c x y) (hc : ρ c = .bool true) (v : Value) (hx : ρ x = v) (w : World) : (execOp ρ o).run P w = .ok (.value v) w := by
  rw [exec_pick ρ o c x y h true hc w, if_pos rfl, hx]
theorem pick_false {P : Program} (ρ : Operand → Value) (o : Oper) (c x y : Operand) (h : o.op = .pick c x y) (hc : ρ c = .bool false) (v : Value) (hx : ρ y = v) (w : World) : (execOp ρ o).run P w = .ok (.value v) w := by
  rw [exec_pick ρ o c x y h false hc w, if_neg (by decide), hx]
section
variable {P : Program} {w : World} {ops : Array Oper} {rest : List Oper} {o : Oper} {a : Act} {Q : Exit → Act → World → Prop}
/-- An operator whose run is known. -/
theorem bin_step (hgd : o.guard = none) (b : BinOp) (t t2 : TypeId) (x y : Operand) (ho : o.op = .binOp b t x y t2) (vx vy v : Value) (hx : a.eval x = vx) (hy : a.eval y = vy) (hg : ∀ w, (eqGuard b t x y vx vy).run P w = .ok () w) (hr : ∀ w, (binOp b t vx vy).run P w = .ok v w)
    (h : wpList P ops Q rest (a.put o.dst v) w) : wpList P ops Q (o :: rest) a w := by
  refine wpList_plain hgd fun K hK => ?_
  exact flat_pure v (exec_bin _ _ _ _ _ _ _ ho _ _ _ hx hy w (hg w) (hr w)) (hK _ _ h)
theorem wpList_move (hgd : o.guard = none) {x : Operand} (ho : o.op = .move x ∨ o.op = .assign x) (v : Value) (hx : a.eval x = v) (h : wpList P ops Q rest (a.put o.dst v) w) : wpList P ops Q (o :: rest) a w := by
  refine wpList_plain hgd fun K hK => ?_
  exact flat_pure v (exec_move _ _ _ ho _ hx w) (hK _ _ h)
theorem exec_extract (ρ : Operand → Value) (o : Oper) (x : Operand) (i : Nat) (h : o.op = .extract x i) (vs : Array Value) (hx : ρ x = .tuple vs) (v : Value) (hv : vs[i]? = some v) (w : World) : (execOp ρ o).run P w = .ok (.value v) w := by
  have hr : (Instr.extract (.tuple vs) i).run P w = .ok v w := by simp [Instr.extract, hv]
  simp [execOp, h, hx, hr]
theorem wanted_none {a : Act} {j s : Nat} {b : Bool} (hg : o.guard = some (j, b)) {oj : Oper} (hj : ops[j]? = some oj) (hd : oj.dst = some s) (hv : a.tmps.getD s undef = undef) : Region.wanted o (yielded ops a.tmps) = false := by
  simp only [Region.wanted, hg]
  unfold yielded
  rw [Array.getD_eq_getD_getElem?] at hv
  cases h : a.tmps[s]? with
  | none => simp [hj, hd, h]
  | some v =>
    rw [h] at hv
    obtain rfl : v = undef := hv
    simp [hj, hd, h, undef]
end
theorem num_guard (op : BinOp) (x y : Operand) (a b : List Nat) (w : World) : (eqGuard op 38 x y (numD a) (numD b)).run Tryd.prog w = .ok () w := run_eqGuard_agg w op 38 _ _ _ _ (by kernel_rfl)
theorem key_guard (op : BinOp) (x y : Operand) (a b : List UInt8) (w : World) : (eqGuard op 23 x y (hashVal a) (hashVal b)).run Tryd.prog w = .ok () w := run_eqGuard_agg w op 23 _ _ _ _ (by kernel_rfl)
theorem num_eql (n m : Nat) (hn : n < mm) (hm : m < mm) (w : World) : (binOp .eql 38 (numD (nD n)) (numD (nD m))).run Tryd.prog w = .ok (.bool (decide (n = m))) w := by
  have h := run_eql_nats (P := Tryd.prog) w .u32 38 36 8 Tryd.underlying38 Tryd.underlying36 (fun w => by
    obtain ⟨i0, hi0, hs0⟩ := Option.map_eq_some_iff.1 size_w32
    simp [sizeOf, typeInfo, hi0, hs0]) (nD n) (nD m) rfl rfl
  have e : (nD n == nD m) = decide (n = m) := by
    by_cases h : n = m
    · rw [h, beq_self_eq_true]; simp
    · rw [decide_eq_false h, beq_eq_false_iff_ne]
      intro h2
      exact h (by rw [← pre_nD n hn, ← pre_nD m hm, h2])
  rw [e] at h
  exact h
end Go.Proofs.YtlhgabhjbnckkaaDoor
namespace Go.Proofs.YtlhgabhjbnckkaaDoor
open Go.RowKit
theorem zero_pt : ∀ w, (zeroValue 51).run Tryd.prog w = .ok (.agg (nzeros 10).toArray) w := (zero_of_info (P := Tryd.prog) (t := 51) (v := .agg (nzeros 10).toArray) (n := 10) (by kernel_rfl)).1
theorem size_pt : (Tryd.prog.info? 51).map (·.size) = some 10 := by kernel_rfl
theorem list5 {l : List Nat} (h : l.length = 5) : ∃ a b c d e, l = [a, b, c, d, e] := by
  match l, h with
  | [a, b, c, d, e], _ => exact ⟨a, b, c, d, e, rfl⟩
theorem build_pt (a b : List Nat) (ha : a.length = 5) (hb : b.length = 5) (w : World) : (Instr.build 51 #[(0, numVal a), (1, numVal b)]).run Tryd.prog w = .ok (numVal (a ++ b)) w := by
  obtain ⟨a0, a1, a2, a3, a4, rfl⟩ := list5 ha
  obtain ⟨b0, b1, b2, b3, b4, rfl⟩ := list5 hb
  kernel_rfl
theorem build_pt1 (a : List Nat) (ha : a.length = 5) (w : World) : (Instr.build 51 #[(0, numVal a)]).run Tryd.prog w = .ok (numVal (a ++ limb5 0)) w := by
  obtain ⟨a0, a1, a2, a3, a4, rfl⟩ := list5 ha
  kernel_rfl
theorem field_x (g : Nat) (w : World) : (Instr.fieldAt 51 (.pointer (some ⟨g, 0, none⟩)) 0).run Tryd.prog w = .ok (.pointer (some ⟨g, 0, none⟩)) w := by kernel_rfl
theorem field_z (g : Nat) (w : World) : (Instr.fieldAt 51 (.pointer (some ⟨g, 0, none⟩)) 1).run Tryd.prog w = .ok (.pointer (some ⟨g, 5, none⟩)) w := by kernel_rfl
theorem exec_field {P : Program} (ρ : Operand → Value) (o : Oper) (t : TypeId) (x : Operand) (f : Nat) (h : o.op = .fieldAddr t x f) (vx v : Value) (hx : ρ x = vx) (w : World) (hr : (Instr.fieldAt t vx f).run P w = .ok v w) : (execOp ρ o).run P w = .ok (.value v) w := by
  simp [execOp, h, hx, hr]
theorem pt_run {w : World} {g : Nat} {l : List Nat} {t' : TypeId} (hC : Cells w g (l.map ncell) t') (hl : l.length = 10) : (Instr.loadAt 51 (.pointer (some ⟨g, 0, none⟩))).run Tryd.prog w = .ok (numVal l) w := by
  have h := run_loadVar_row (P := Tryd.prog) w g t' 51 (l.map ncell).toArray (0, 0) _ hC Tryd.underlying51 rfl (by rw [List.size_toArray, List.length_map, hl]; exact size_pt)
  simp only [Instr.loadAt, Instr.sureAddr, Sem.run_bind, Sem.run_pure, Result.andThen_ok]
  exact h
theorem load_part {w : World} {g : Nat} {p : List Nat} {t' : TypeId} (hC : Cells w g (p.map ncell) t') (o : Nat) (x : List Nat) (hp : (p.drop o).take 5 = x) (hx : x.length = 5) : (Instr.loadAt 48 (.pointer (some ⟨g, o, none⟩))).run Tryd.prog w = .ok (numVal x) w := by
  have hr := hC.range o 5
  rw [← List.map_drop, ← List.map_take, hp] at hr
  exact run_loadAt_mid w g o 48 (x.map ncell) _ hr Tryd.underlying48 rfl (by rw [List.length_map, hx]; exact size_elem)
theorem load_x {w : World} {g : Nat} {p x z : List Nat} {t' : TypeId} (hC : Cells w g (p.map ncell) t') (hp : p = x ++ z) (hx : x.length = 5) : (Instr.loadAt 48 (.pointer (some ⟨g, 0, none⟩))).run Tryd.prog w = .ok (numVal x) w :=
  load_part hC 0 x (by rw [hp, List.drop_zero, List.take_append_of_le_length (by omega), List.take_of_length_le (by omega)]) hx
theorem load_z {w : World} {g : Nat} {p x z : List Nat} {t' : TypeId} (hC : Cells w g (p.map ncell) t') (hp : p = x ++ z) (hx : x.length = 5) (hz : z.length = 5) : (Instr.loadAt 48 (.pointer (some ⟨g, 5, none⟩))).run Tryd.prog w = .ok (numVal z) w :=
  load_part hC 5 z (by rw [hp, List.drop_append_of_le_length (by omega), List.drop_of_length_le (by omega), List.nil_append, List.take_of_length_le (by omega)]) hz
abbrev kzeros : List Value := List.replicate 32 (cellOf 0)
theorem kcells_one (l : List UInt8) : (l.map cellOf).toArray.all (·.oneCell') = true := all_oneCell_toArray (cells8_one l)
theorem b32_run {w : World} {g : Nat} {l : List UInt8} {t' : TypeId} (hC : Cells w g (l.map cellOf) t') (hl : l.length = 32) : (Instr.loadAt 22 (.pointer (some ⟨g, 0, none⟩))).run Tryd.prog w = .ok (hashVal l) w := by
  have h := run_loadVar_row (P := Tryd.prog) w g t' 22 (l.map cellOf).toArray (0, 0) _ hC Tryd.underlying22 rfl (by rw [List.size_toArray, List.length_map, hl]; exact size_b32)
  simp only [Instr.loadAt, Instr.sureAddr, Sem.run_bind, Sem.run_pure, Result.andThen_ok]
  exact h
/-- A point's value: x's limbs, then z's. -/
def ptL (a : Nat × Nat) : List Nat := limb5 a.1 ++ limb5 a.2
theorem ptL_length (a : Nat × Nat) : (ptL a).length = 10 := rfl
end Go.Proofs.YtlhgabhjbnckkaaDoor
namespace Go.Proofs.YtlhgabhjbnckkaaDoor
open Go.RowKit
section
variable {P : Program} {ops : Array Oper} {Q : Exit → Act → World → Prop} {md : Region.Mode}
/-- Each operation waits for earlier ones alone. -/
def earlyB (md : Region.Mode) (ops : Array Oper) : Bool := (List.range ops.size).all fun i => match ops[i]? with
  | some o => o.after.all fun e => !Region.binds md e || Nat.blt e.on i
  | none => true
/-- The first k of n have come up. -/
def preA (n k : Nat) : Array Bool := ((List.range n).map fun i => Nat.blt i k).toArray
theorem preA_get (n k i : Nat) (d : Bool) (h : i < n) : (preA n k).getD i d = Nat.blt i k := by simp [preA, h]
theorem preA_zero (n : Nat) : preA n 0 = Array.replicate n false := by
  apply Array.ext_getElem?
  intro i
  by_cases h : i < n
  · simp [preA, h, show Nat.blt i 0 = false from Bool.eq_false_iff.2 (by rw [Ne, Nat.blt_eq]; omega)]
  · simp [preA, h]
theorem preA_set (n k : Nat) : (preA n k).setIfInBounds k true = preA n (k + 1) := by
  apply Array.ext_getElem?
  intro i
  rw [Array.getElem?_setIfInBounds]
  by_cases h : i < n
  · by_cases e : k = i
    · subst e
      simp [preA, h, Nat.blt_eq]
    · have : Nat.blt i k = Nat.blt i (k + 1) := by
        rw [Bool.eq_iff_iff, Nat.blt_eq, Nat.blt_eq]
        omega
      simp [preA, h, e, this]
  · by_cases e : k = i
    · subst e
      simp [preA, h]
    · simp [preA, h, e]
theorem wpOps_of_any (hE : earlyB md ops = true) : ∀ (n k : Nat) (a : Act) (w : World), k + n = ops.size → wpAny P md ops Q n (preA ops.size k) a w → wpOps P ops Q (List.range' k n) a w
  | 0, _, _, _, _, h => h.2
  | n + 1, k, a, w, hk, h => by
    rw [List.range'_succ, wpOps_cons]
    have hr : k ∈ Region.ready md ops (preA ops.size k) := by
      have hlt : k < ops.size := by omega
      refine mem_ready.2 ⟨by rw [preA_get _ _ _ _ hlt]; exact Bool.eq_false_iff.2 (by rw [Ne, Nat.blt_eq]; omega), ops[k], by simp [hlt], fun e he hb => ?_⟩
      rw [earlyB, List.all_eq_true] at hE
      have h1 := hE k (List.mem_range.2 hlt)
      rw [Array.getElem?_eq_getElem hlt] at h1
      have h2 := (Array.all_eq_true'.1 h1) e he
      rw [hb] at h2
      have h3 : Nat.blt e.on k = true := by simpa using h2
      rw [preA_get _ _ _ _ (Nat.lt_trans (by simpa [Nat.blt_eq] using h3) hlt)]
      exact h3
    refine wpOp_mono (fun a w hh => wpOps_of_any hE n (k + 1) a w (by omega) ?_) (h.2 k hr)
    rwa [preA_set] at hh
theorem wp_region_flat {id : Nat} {a : Act} {w : World} (hE : earlyB md ops = true) (h : wpAny P md ops Q ops.size (Array.replicate ops.size false) a w) : (Code.region id ops false).wp P Q a w := by
  refine wp_region ?_
  rw [List.range_eq_range']
  refine wpOps_of_any hE ops.size 0 a w (by omega) ?_
  rw [preA_zero]
  exact h
end
end Go.Proofs.YtlhgabhjbnckkaaDoor
