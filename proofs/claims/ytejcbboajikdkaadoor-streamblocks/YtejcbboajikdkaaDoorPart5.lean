/- Part 5 of what the laws of this seat share: CRound, CStir, CEnded, DConcat. -/
import Derived.BigQuiet
import Derived.Deep.WholeRow
import Derived.Deep.QuietTactic
import Derived.Test.YtejcbboajikdkaaDoorPart4
namespace Go.Proofs.YtejcbboajikdkaaDoor
open Go.RowKit
theorem zero_state : ∀ w, (zeroValue 54).run Tryd.prog w = .ok (.agg (wzeros 16).toArray) w := (zero_of_info (P := Tryd.prog) (t := 54) (v := .agg (wzeros 16).toArray) (n := 16) (by kernel_rfl)).1
theorem size_state : (Tryd.prog.info? 54).map (·.size) = some 16 := by kernel_rfl
theorem quarter_same (a b c d : BitVec 32) (w : World) :
    Calls Tryd.prog 8 #[wcell a, wcell b, wcell c, wcell d] w fun e w' => e = .returned (quarter a b c d).tuple ∧ w' = w :=
  (quarter_any a b c d w).mono fun _ _ ⟨h1, h2⟩ => ⟨h1, h2.symm⟩
set_option maxRecDepth 100000 in
set_option maxHeartbeats 1000000 in
theorem streamRound_any (s : List (BitVec 32)) (m : Nat) (hm : m ≤ 1) (w : World) (hs : s.length = 16) :
    Calls Tryd.prog 30 #[.agg (s.map wcell).toArray, .int .i64 (m : Int)] w fun e w' => e = .returned (.agg ((chRound s m).map wcell).toArray) ∧ Below w.heap.size w w' := by
  have HS := Lib.hid hs
  clear hs
  go_enter Tryd.func30, Tryd.ntmps30
  go_wp2_with (first
    | (refine vtake_step rfl 54 _ rfl (s.map wcell) rfl ?_
       intro w1 hB1 hC1)
    | (refine vzero_step rfl 54 rfl (wzeros 16) zero_state ?_
       intro w2 hb2 hZ2
       have hB2 := below_then hB1 hb2
       have hC2 := hC1.on hb2
       have hg1 := hB1.size
       have hg2 := hC1.lt
       clear hB1 hC1 hb2))
  generalize hgz : w1.heap.size = gz at *
  clear hgz
  go_loopw [10] (fun i wr => ∃ k : Nat, k ≤ 4 ∧ i = .int .i64 k ∧ Below w.heap.size w wr ∧ Cells wr w.heap.size ((slantTo s m k).map wcell) 54 ∧ Cells wr gz (wzeros 16) 54) (fun i _ => 4 - (intOf i).toNat)
  case atStart => exact ⟨0, Nat.zero_le _, rfl, hB2, hC2, hZ2⟩
  case round =>
    clear hB2 hC2 hZ2
    obtain ⟨k, hk, rfl, hB, hC, hZ⟩ := hrel
    by_cases hlt : k < 4
    · have HSL : Hid ((slantTo s m k).length = 16) := by show _ = _; rw [slantTo_length, HS.out]
      have HN : Hid (slantTo s m (k + 1) = qset (slantTo s m k) k (4 + (k + m) % 4) (8 + (k + 2 * m) % 4) (12 + (k + 3 * m) % 4)) := rfl
      generalize slantTo s m k = s1 at *
      have l0 : k < 16 := by omega
      have e1 : (4 : Int) + ((k : Int) + (m : Int)) % 4 = ((4 + (k + m) % 4 : Nat) : Int) := by omega
      have e2 : (8 : Int) + ((k : Int) + 2 * (m : Int)) % 4 = ((8 + (k + 2 * m) % 4 : Nat) : Int) := by omega
      have e3 : (12 : Int) + ((k : Int) + 3 * (m : Int)) % 4 = ((12 + (k + 3 * m) % 4 : Nat) : Int) := by omega
      have l1 : 4 + (k + m) % 4 < 16 := by omega
      have l2 : 8 + (k + 2 * m) % 4 < 16 := by omega
      have l3 : 12 + (k + 3 * m) % 4 < 16 := by omega
      have E1 := Lib.hid e1
      have E2 := Lib.hid e2
      have E3 := Lib.hid e3
      clear e1 e2 e3
      go_wp2_with fail
      rw [E1.out, E2.out, E3.out]
      clear E1 E2 E3
      generalize 4 + (k + m) % 4 = i1 at *
      generalize 8 + (k + 2 * m) % 4 = i2 at *
      generalize 12 + (k + 3 * m) % 4 = i3 at *
      have c0 := hC.drew.get (list_at s1 k (by rw [HSL.out]; exact l0))
      have c1 := hC.drew.get (list_at s1 i1 (by rw [HSL.out]; exact l1))
      have c2 := hC.drew.get (list_at s1 i2 (by rw [HSL.out]; exact l2))
      have c3 := hC.drew.get (list_at s1 i3 (by rw [HSL.out]; exact l3))
      have HN2 : Hid (slantTo s m (k + 1) = qput s1 (quarter (s1.getD k 0) (s1.getD i1 0) (s1.getD i2 0) (s1.getD i3 0)) k i1 i2 i3) := HN.out
      clear HN
      generalize s1.getD k 0 = x0 at *
      generalize s1.getD i1 0 = x1 at *
      generalize s1.getD i2 0 = x2 at *
      generalize s1.getD i3 0 = x3 at *
      generalize hq : quarter x0 x1 x2 x3 = q at *
      have HQ : Hid (∀ W, Calls Tryd.prog 8 #[wcell x0, wcell x1, wcell x2, wcell x3] W fun e w' => e = .returned (.tuple #[wcell q.a, wcell q.b, wcell q.c, wcell q.d]) ∧ w' = W) := by
        intro W
        subst hq
        exact quarter_same x0 x1 x2 x3 W
      clear hq
      have j0 : (0 : Int) ≤ (k : Int) := by omega
      have j1 : (0 : Int) ≤ (i1 : Int) := by omega
      have j2 : (0 : Int) ≤ (i2 : Int) := by omega
      have j3 : (0 : Int) ≤ (i3 : Int) := by omega
      have k0 : (k : Int) < 16 := by omega
      have k1 : (i1 : Int) < 16 := by omega
      have k2 : (i2 : Int) < 16 := by omega
      have k3 : (i3 : Int) < 16 := by omega
      refine wp_region_any (by kernel_rfl) ?_
      show wpAny _ _ _ _ _ _ _ wr.drew
      simp only [List.size_toArray, List.length_cons, List.length_nil, Nat.reduceAdd, Array.replicate_succ, Array.replicate_zero, List.push_toArray, List.nil_append, List.cons_append]
      refine wpAny_take (i := 0) (oi := ⟨some 32, _, _, _, _, _⟩) (v := ?_) rfl (by kernel_rfl) (by kernel_rfl) (by kernel_rfl) (fun _ _ _ h => h) (Or.inl ⟨by rfl, ?_⟩) ?_
      rotate_left
      · (intro w; go_simp; try with_reducible rfl)
      simp only [Act.put, List.setIfInBounds_toArray, List.set_cons_zero, List.set_cons_succ]
      refine wpAny_take (i := 1) (oi := ⟨some 33, _, _, _, _, _⟩) (v := ?_) rfl (by kernel_rfl) (by kernel_rfl) (by kernel_rfl) (fun _ _ _ h => h) (Or.inl ⟨by rfl, ?_⟩) ?_
      rotate_left
      · (intro w; go_simp; try with_reducible rfl)
      simp only [Act.put, List.setIfInBounds_toArray, List.set_cons_zero, List.set_cons_succ]
      refine wpAny_take (i := 2) (oi := ⟨some 34, _, _, _, _, _⟩) (v := ?_) rfl (by kernel_rfl) (by kernel_rfl) (by kernel_rfl) (fun _ _ _ h => h) (Or.inl ⟨by rfl, ?_⟩) ?_
      rotate_left
      · (intro w; go_simp; try with_reducible rfl)
      simp only [Act.put, List.setIfInBounds_toArray, List.set_cons_zero, List.set_cons_succ]
      refine wpAny_take (i := 3) (oi := ⟨some 35, _, _, _, _, _⟩) (v := ?_) rfl (by kernel_rfl) (by kernel_rfl) (by kernel_rfl) (fun _ _ _ h => h) (Or.inl ⟨by rfl, ?_⟩) ?_
      rotate_left
      · (intro w; go_simp; try with_reducible rfl)
      simp only [Act.put, List.setIfInBounds_toArray, List.set_cons_zero, List.set_cons_succ]
      refine wpAny_take (i := 4) (oi := ⟨some 36, _, _, _, _, _⟩) (v := ?_) rfl (by kernel_rfl) (by kernel_rfl) (by kernel_rfl) (fun _ _ _ h => h) (Or.inl ⟨by rfl, ?_⟩) ?_
      rotate_left
      · (intro w; go_simp; try with_reducible rfl)
      simp only [Act.put, List.setIfInBounds_toArray, List.set_cons_zero, List.set_cons_succ]
      refine wpAny_take (i := 5) (oi := ⟨some 37, _, _, _, _, _⟩) (v := ?_) rfl (by kernel_rfl) (by kernel_rfl) (by kernel_rfl) (fun _ _ _ h => h) (Or.inl ⟨by rfl, ?_⟩) ?_
      rotate_left
      · (intro w; go_simp; try with_reducible rfl)
      simp only [Act.put, List.setIfInBounds_toArray, List.set_cons_zero, List.set_cons_succ]
      refine wpAny_take (i := 7) (oi := ⟨some 39, _, _, _, _, _⟩) (v := ?_) rfl (by kernel_rfl) (by kernel_rfl) (by kernel_rfl) (fun _ _ _ h => h) (Or.inl ⟨by rfl, ?_⟩) ?_
      rotate_left
      · (intro w; go_simp; try with_reducible rfl)
      simp only [Act.put, List.setIfInBounds_toArray, List.set_cons_zero, List.set_cons_succ]
      refine wpAny_take (i := 8) (oi := ⟨some 40, _, _, _, _, _⟩) (v := ?_) rfl (by kernel_rfl) (by kernel_rfl) (by kernel_rfl) (fun _ _ _ h => h) (Or.inl ⟨by rfl, ?_⟩) ?_
      rotate_left
      · (intro w; go_simp; try with_reducible rfl)
      simp only [Act.put, List.setIfInBounds_toArray, List.set_cons_zero, List.set_cons_succ]
      refine wpAny_take (i := 10) (oi := ⟨some 42, _, _, _, _, _⟩) (v := ?_) rfl (by kernel_rfl) (by kernel_rfl) (by kernel_rfl) (fun _ _ _ h => h) (Or.inl ⟨by rfl, ?_⟩) ?_
      rotate_left
      · (intro w; go_simp; try with_reducible rfl)
      simp only [Act.put, List.setIfInBounds_toArray, List.set_cons_zero, List.set_cons_succ]
      refine wpAny_take (i := 11) (oi := ⟨some 43, _, _, _, _, _⟩) (v := ?_) rfl (by kernel_rfl) (by kernel_rfl) (by kernel_rfl) (fun _ _ _ h => h) (Or.inl ⟨by rfl, ?_⟩) ?_
      rotate_left
      · (intro w; go_simp; try with_reducible rfl)
      simp only [Act.put, List.setIfInBounds_toArray, List.set_cons_zero, List.set_cons_succ]
      refine wpAny_take (i := 13) (oi := ⟨some 45, _, _, _, _, _⟩) (v := ?_) rfl (by kernel_rfl) (by kernel_rfl) (by kernel_rfl) (fun _ _ _ h => h) (Or.inl ⟨by rfl, ?_⟩) ?_
      rotate_left
      · (intro w; go_simp; try with_reducible rfl)
      simp only [Act.put, List.setIfInBounds_toArray, List.set_cons_zero, List.set_cons_succ]
      refine wpAny_take (i := 14) (oi := ⟨some 46, _, _, _, _, _⟩) (v := ?_) rfl (by kernel_rfl) (by kernel_rfl) (by kernel_rfl) (fun _ _ _ h => h) (Or.inl ⟨by rfl, ?_⟩) ?_
      rotate_left
      · (intro w; go_simp; try with_reducible rfl)
      simp only [Act.put, List.setIfInBounds_toArray, List.set_cons_zero, List.set_cons_succ]
      refine wpAny_of_until (S := fun w' => w'.cell? ⟨w.heap.size, k, none⟩ = some (wcell x0) ∧ w'.cell? ⟨w.heap.size, i1, none⟩ = some (wcell x1) ∧ w'.cell? ⟨w.heap.size, i2, none⟩ = some (wcell x2) ∧ w'.cell? ⟨w.heap.size, i3, none⟩ = some (wcell x3)) (c := 16) _ _ _ _ ?_
      refine wpAnyU_take (i := 6) (oi := ⟨some 38, _, _, _, _, _⟩) (v := ?_) rfl (by decide) (by kernel_rfl) (by kernel_rfl) (by kernel_rfl) (by kernel_rfl) (fun _ _ _ h => h) (Or.inl ⟨by rfl, ?_⟩) ⟨c0, c1, c2, c3⟩ ?_
      rotate_left
      · (intro w hSw; obtain ⟨q0, q1, q2, q3⟩ := hSw; go_simp; try with_reducible rfl)
      simp only [Act.put, List.setIfInBounds_toArray, List.set_cons_zero, List.set_cons_succ]
      refine wpAnyU_take (i := 9) (oi := ⟨some 41, _, _, _, _, _⟩) (v := ?_) rfl (by decide) (by kernel_rfl) (by kernel_rfl) (by kernel_rfl) (by kernel_rfl) (fun _ _ _ h => h) (Or.inl ⟨by rfl, ?_⟩) ⟨c0, c1, c2, c3⟩ ?_
      rotate_left
      · (intro w hSw; obtain ⟨q0, q1, q2, q3⟩ := hSw; go_simp; try with_reducible rfl)
      simp only [Act.put, List.setIfInBounds_toArray, List.set_cons_zero, List.set_cons_succ]
      refine wpAnyU_take (i := 12) (oi := ⟨some 44, _, _, _, _, _⟩) (v := ?_) rfl (by decide) (by kernel_rfl) (by kernel_rfl) (by kernel_rfl) (by kernel_rfl) (fun _ _ _ h => h) (Or.inl ⟨by rfl, ?_⟩) ⟨c0, c1, c2, c3⟩ ?_
      rotate_left
      · (intro w hSw; obtain ⟨q0, q1, q2, q3⟩ := hSw; go_simp; try with_reducible rfl)
      simp only [Act.put, List.setIfInBounds_toArray, List.set_cons_zero, List.set_cons_succ]
      refine wpAnyU_take (i := 15) (oi := ⟨some 47, _, _, _, _, _⟩) (v := ?_) rfl (by decide) (by kernel_rfl) (by kernel_rfl) (by kernel_rfl) (by kernel_rfl) (fun _ _ _ h => h) (Or.inl ⟨by rfl, ?_⟩) ⟨c0, c1, c2, c3⟩ ?_
      rotate_left
      · (intro w hSw; obtain ⟨q0, q1, q2, q3⟩ := hSw; go_simp; try with_reducible rfl)
      simp only [Act.put, List.setIfInBounds_toArray, List.set_cons_zero, List.set_cons_succ]
      refine wpAnyU_end (by kernel_rfl) rfl (fun K hK => ?_)
      go_simp
      go_wp2_with (first
        | (go_at_call 8
           refine (HQ.out _).mono ?_
           rintro e w5 ⟨rfl, rfl⟩))
      refine hK.out _ _ ?_
      clear hK K
      refine wpAny_take (i := 17) (oi := ⟨some 31, _, _, _, _, _⟩) (v := ?_) rfl (by kernel_rfl) (by kernel_rfl) (by kernel_rfl) (fun _ _ _ h => h) (Or.inl ⟨by rfl, ?_⟩) ?_
      rotate_left
      · (intro w; go_simp; try with_reducible rfl)
      simp only [Act.put, List.setIfInBounds_toArray, List.set_cons_zero, List.set_cons_succ]
      refine wpAny_take (i := 18) (oi := ⟨some 49, _, _, _, _, _⟩) (v := ?_) rfl (by kernel_rfl) (by kernel_rfl) (by kernel_rfl) (fun _ _ _ h => h) (Or.inl ⟨by rfl, ?_⟩) ?_
      rotate_left
      · (intro w; go_simp; try with_reducible rfl)
      simp only [Act.put, List.setIfInBounds_toArray, List.set_cons_zero, List.set_cons_succ]
      refine wpAny_take (i := 19) (oi := ⟨some 50, _, _, _, _, _⟩) (v := ?_) rfl (by kernel_rfl) (by kernel_rfl) (by kernel_rfl) (fun _ _ _ h => h) (Or.inl ⟨by rfl, ?_⟩) ?_
      rotate_left
      · (intro w; go_simp; try with_reducible rfl)
      simp only [Act.put, List.setIfInBounds_toArray, List.set_cons_zero, List.set_cons_succ]
      refine wpAny_take (i := 20) (oi := ⟨some 51, _, _, _, _, _⟩) (v := ?_) rfl (by kernel_rfl) (by kernel_rfl) (by kernel_rfl) (fun _ _ _ h => h) (Or.inl ⟨by rfl, ?_⟩) ?_
      rotate_left
      · (intro w; go_simp; try with_reducible rfl)
      simp only [Act.put, List.setIfInBounds_toArray, List.set_cons_zero, List.set_cons_succ]
      refine wpAny_take (i := 21) (oi := ⟨some 52, _, _, _, _, _⟩) (v := ?_) rfl (by kernel_rfl) (by kernel_rfl) (by kernel_rfl) (fun _ _ _ h => h) (Or.inl ⟨by rfl, ?_⟩) ?_
      rotate_left
      · (intro w; go_simp; try with_reducible rfl)
      simp only [Act.put, List.setIfInBounds_toArray, List.set_cons_zero, List.set_cons_succ]
      refine wpAny_take (i := 22) (oi := ⟨some 53, _, _, _, _, _⟩) (v := ?_) rfl (by kernel_rfl) (by kernel_rfl) (by kernel_rfl) (fun _ _ _ h => h) (Or.inl ⟨by rfl, ?_⟩) ?_
      rotate_left
      · (intro w; go_simp; try with_reducible rfl)
      simp only [Act.put, List.setIfInBounds_toArray, List.set_cons_zero, List.set_cons_succ]
      have hB0 : Below w.heap.size w wr.drew := hB.drew
      have hZ0 : Cells wr.drew gz (wzeros 16) 54 := hZ
      have hC0 : Cells wr.drew w.heap.size (s1.map wcell) 54 := hC
      generalize wr.drew = v0 at *
      clear hB hZ hC c0 c1 c2 c3 HQ
      refine wpAny_store (i := 23) (by kernel_rfl) rfl rfl 22 _ _ rfl w.heap.size k .u32 _ rfl rfl size_u32 (hC0.there k 1 (by have := HSL.out; simp only [List.length_map]; omega)) ?_
      intro v1 hw
      have hB1 : Below w.heap.size w v1 := by rw [hw]; exact hB0.setCell (p := ⟨w.heap.size, k, none⟩) (Nat.le_refl _) _
      have hZ1 : Cells v1 gz (wzeros 16) 54 := by rw [hw]; exact hZ0.other (Nat.ne_of_gt hg2) _
      have hC1 : Cells v1 w.heap.size (((s1).set k q.a).map wcell) 54 := by rw [hw, ← wset_map]; exact hC0.set _ _
      clear hw hB0 hZ0 hC0
      simp only [Act.put, List.setIfInBounds_toArray, List.set_cons_zero, List.set_cons_succ]
      refine wpAny_take (i := 24) (oi := ⟨some 54, _, _, _, _, _⟩) (v := ?_) rfl (by kernel_rfl) (by kernel_rfl) (by kernel_rfl) (fun _ _ _ h => h) (Or.inl ⟨by rfl, ?_⟩) ?_
      rotate_left
      · (intro w; go_simp; try with_reducible rfl)
      simp only [Act.put, List.setIfInBounds_toArray, List.set_cons_zero, List.set_cons_succ]
      refine wpAny_store (i := 25) (by kernel_rfl) rfl rfl 22 _ _ rfl w.heap.size i1 .u32 _ rfl rfl size_u32 (hC1.there i1 1 (by have := HSL.out; simp only [List.length_map, List.length_set]; omega)) ?_
      intro v2 hw
      have hB2 : Below w.heap.size w v2 := by rw [hw]; exact hB1.setCell (p := ⟨w.heap.size, i1, none⟩) (Nat.le_refl _) _
      have hZ2 : Cells v2 gz (wzeros 16) 54 := by rw [hw]; exact hZ1.other (Nat.ne_of_gt hg2) _
      have hC2 : Cells v2 w.heap.size ((((s1).set k q.a).set i1 q.b).map wcell) 54 := by rw [hw, ← wset_map]; exact hC1.set _ _
      clear hw hB1 hZ1 hC1
      simp only [Act.put, List.setIfInBounds_toArray, List.set_cons_zero, List.set_cons_succ]
      refine wpAny_take (i := 26) (oi := ⟨some 55, _, _, _, _, _⟩) (v := ?_) rfl (by kernel_rfl) (by kernel_rfl) (by kernel_rfl) (fun _ _ _ h => h) (Or.inl ⟨by rfl, ?_⟩) ?_
      rotate_left
      · (intro w; go_simp; try with_reducible rfl)
      simp only [Act.put, List.setIfInBounds_toArray, List.set_cons_zero, List.set_cons_succ]
      refine wpAny_store (i := 27) (by kernel_rfl) rfl rfl 22 _ _ rfl w.heap.size i2 .u32 _ rfl rfl size_u32 (hC2.there i2 1 (by have := HSL.out; simp only [List.length_map, List.length_set]; omega)) ?_
      intro v3 hw
      have hB3 : Below w.heap.size w v3 := by rw [hw]; exact hB2.setCell (p := ⟨w.heap.size, i2, none⟩) (Nat.le_refl _) _
      have hZ3 : Cells v3 gz (wzeros 16) 54 := by rw [hw]; exact hZ2.other (Nat.ne_of_gt hg2) _
      have hC3 : Cells v3 w.heap.size (((((s1).set k q.a).set i1 q.b).set i2 q.c).map wcell) 54 := by rw [hw, ← wset_map]; exact hC2.set _ _
      clear hw hB2 hZ2 hC2
      simp only [Act.put, List.setIfInBounds_toArray, List.set_cons_zero, List.set_cons_succ]
      refine wpAny_take (i := 28) (oi := ⟨some 56, _, _, _, _, _⟩) (v := ?_) rfl (by kernel_rfl) (by kernel_rfl) (by kernel_rfl) (fun _ _ _ h => h) (Or.inl ⟨by rfl, ?_⟩) ?_
      rotate_left
      · (intro w; go_simp; try with_reducible rfl)
      simp only [Act.put, List.setIfInBounds_toArray, List.set_cons_zero, List.set_cons_succ]
      refine wpAny_store (i := 29) (by kernel_rfl) rfl rfl 22 _ _ rfl w.heap.size i3 .u32 _ rfl rfl size_u32 (hC3.there i3 1 (by have := HSL.out; simp only [List.length_map, List.length_set]; omega)) ?_
      intro v4 hw
      have hB4 : Below w.heap.size w v4 := by rw [hw]; exact hB3.setCell (p := ⟨w.heap.size, i3, none⟩) (Nat.le_refl _) _
      have hZ4 : Cells v4 gz (wzeros 16) 54 := by rw [hw]; exact hZ3.other (Nat.ne_of_gt hg2) _
      have hC4 : Cells v4 w.heap.size ((((((s1).set k q.a).set i1 q.b).set i2 q.c).set i3 q.d).map wcell) 54 := by rw [hw, ← wset_map]; exact hC3.set _ _
      clear hw hB3 hZ3 hC3
      simp only [Act.put, List.setIfInBounds_toArray, List.set_cons_zero, List.set_cons_succ]
      refine wpAny_done (by kernel_rfl) ?_ _
      go_wp2
      go_roundw
      case rel => exact ⟨k + 1, by omega, by go_num, hB4, by rw [HN2.out]; exact hC4, hZ4⟩
      case measure => simp [intOf]; omega
    · obtain rfl : k = 4 := by omega
      have HR : Hid (slantTo s m 4 = chRound s m) := rfl
      have HRL : Hid ((chRound s m).length = 16) := by show _ = _; rw [chRound_length, HS.out]
      rw [HR.out] at hC
      obtain ⟨r, hr⟩ : ∃ r, r = chRound s m := ⟨_, rfl⟩
      rw [← hr] at hC HRL
      have HE := Lib.hid hr
      clear HR hr
      go_wp2_with (first
        | (refine vget_step rfl 54 _ rfl w.heap.size 16 (r.map wcell) 22 rfl hC Tryd.underlying54 size_state (by rw [List.length_map, HRL.out]) ?_)
        | (refine vset_step rfl 54 _ _ rfl gz 16 (wzeros 16) (r.map wcell) rfl rfl hZ rfl size_state (by rw [List.length_map, HRL.out]) (wcells_one r) ?_
           intro w7 hb7 hC7 _))
      refine vret Tryd.results30 gz (r.map wcell) rfl hC7 Tryd.underlying54 size_state (by rw [List.length_map, HRL.out]) rfl ⟨by rw [HE.out], hB.trans (hb7.below (by omega) hB.size)⟩
end Go.Proofs.YtejcbboajikdkaaDoor
namespace Go.Proofs.YtejcbboajikdkaaDoor
open Go.RowKit
set_option maxRecDepth 100000 in
set_option maxHeartbeats 1000000 in
theorem stir_over (s r : List (BitVec 32)) (w : World) (HS : Hid (s.length = 16)) (HE : Hid (r = chStir s 10)) :
    Calls Tryd.prog 24 #[.agg (s.map wcell).toArray] w fun e w' => e = .returned (.agg (r.map wcell).toArray) ∧ Below w.heap.size w w' := by
  go_enter Tryd.func24, Tryd.ntmps24
  go_wp2_with (first
    | (refine vtake_step rfl 54 _ rfl (s.map wcell) rfl ?_
       intro w1 hB1 hC1)
    | (refine vzero_step rfl 54 rfl (wzeros 16) zero_state ?_
       intro w2 hb2 hZ2
       have hB2 := below_then hB1 hb2
       have hC2 := hC1.on hb2
       have hg2 := hC1.lt
       clear hB1 hC1 hb2))
  generalize hgz : w1.heap.size = gz at *
  clear hgz
  refine wp_scope_once 0 (fun a' w' => ∃ (k : Nat) (u4 u5 u6 u7 u8 u9 u10 u11 : Value), k ≤ 10 ∧ Below w.heap.size w w' ∧ Cells w' w.heap.size ((chStir s k).map wcell) 54 ∧ Cells w' gz (wzeros 16) 54 ∧
      a' = { tmps := #[.agg (s.map wcell).toArray, .pointer (some ⟨w.heap.size, 0, none⟩), .pointer (some ⟨gz, 0, none⟩), .int .i64 (k : Int), u4, u5, u6, u7, u8, u9, u10, u11, undef], defers := [] })
    (fun a' _ => 10 - (intOf (a'.tmps.getD 3 undef)).toNat) rfl ?_ ?_
  · intro hp
    go_wp2
    go_step3
    rename_i K hK
    exact hK _ _ (hp.out _ _ ⟨0, _, _, _, _, _, _, _, _, Nat.zero_le _, hB2, hC2, hZ2, rfl⟩)
  · clear hB2 hC2 hZ2
    rintro a' w' ⟨k, u4, u5, u6, u7, u8, u9, u10, u11, hk, hB, hC, hZ, rfl⟩
    have HL : Hid ((chStir s k).length = 16) := by show _ = _; rw [chStir_length, HS.out]
    by_cases hlt : k < 10
    · have HN : Hid (chStir s (k + 1) = chRound (chRound (chStir s k) 0) 1) := rfl
      generalize chStir s k = x at *
      obtain ⟨y, HY, HL2, CY⟩ : ∃ y, Hid (y = chRound x 0) ∧ Hid (y.length = 16) ∧ Hid (∀ W, Calls Tryd.prog 30 #[.agg (x.map wcell).toArray, .int .i64 0] W fun e w' => e = .returned (.agg (y.map wcell).toArray) ∧ Below W.heap.size W w') :=
        ⟨_, rfl, (chRound_length x 0).trans HL.out, fun W => streamRound_any x 0 (by omega) W HL.out⟩
      obtain ⟨z, HZ, HL3, CZ⟩ : ∃ z, Hid (z = chRound y 1) ∧ Hid (z.length = 16) ∧ Hid (∀ W, Calls Tryd.prog 30 #[.agg (y.map wcell).toArray, .int .i64 1] W fun e w' => e = .returned (.agg (z.map wcell).toArray) ∧ Below W.heap.size W w') :=
        ⟨_, rfl, (chRound_length y 1).trans HL2.out, fun W => streamRound_any y 1 (by omega) W HL2.out⟩
      have HM : Hid (∀ j, j = k + 1 → chStir s j = z) := by intro j hj; rw [hj, HN.out, HZ.out, HY.out]
      clear HN HY HZ HE HS
      go_wp2_with (first
        | (refine vget_step rfl 54 _ rfl w.heap.size 16 (x.map wcell) 22 rfl hC Tryd.underlying54 size_state (by rw [List.length_map, HL.out]) ?_))
      refine (CY.out w').mono ?_
      rintro e w3 ⟨rfl, hb3⟩
      have hB3 := below_then hB hb3
      have hC3 := hC.on hb3
      have hZ3 := hZ.on hb3
      clear hB hC hZ hb3
      clear CY
      go_wp2_with (first
        | (refine vset_step rfl 54 _ _ rfl w.heap.size 16 (x.map wcell) (y.map wcell) rfl rfl hC3 (by rw [List.length_map, HL.out]) size_state (by rw [List.length_map, HL2.out]) (wcells_one y) ?_
           intro w4 hb4 hC4 _
           have hB4 := hB3.trans (hb4.below (Nat.le_refl _) hB3.size)
           have hZ4 := hZ3.but hb4 (Nat.ne_of_gt hg2)
           clear hB3 hC3 hZ3 hb4)
        | (refine vget_step rfl 54 _ rfl w.heap.size 16 (y.map wcell) 22 rfl hC4 Tryd.underlying54 size_state (by rw [List.length_map, HL2.out]) ?_))
      refine (CZ.out w4).mono ?_
      rintro e w5 ⟨rfl, hb5⟩
      have hB5 := below_then hB4 hb5
      have hC5 := hC4.on hb5
      have hZ5 := hZ4.on hb5
      clear hB4 hC4 hZ4 hb5
      clear CZ
      go_wp2_with (first
        | (refine vset_step rfl 54 _ _ rfl w.heap.size 16 (y.map wcell) (z.map wcell) rfl rfl hC5 (by rw [List.length_map, HL2.out]) size_state (by rw [List.length_map, HL3.out]) (wcells_one z) ?_
           intro w6 hb6 hC6 _
           have hB6 := hB5.trans (hb6.below (Nat.le_refl _) hB5.size)
           have hZ6 := hZ5.but hb6 (Nat.ne_of_gt hg2)
           clear hB5 hC5 hZ5 hb6))
      go_step3
      have e2 : (k : Int) + 1 = ((k + 1 : Nat) : Int) := by omega
      rw [e2]
      refine ⟨rfl, ⟨k + 1, _, _, _, _, _, _, _, _, hlt, hB6, by rw [HM.out _ rfl]; exact hC6, hZ6, rfl⟩, by simp [intOf]; omega⟩
    · obtain rfl : k = 10 := by omega
      rw [← HE.out] at hC HL
      clear HE HS
      go_wp2_with (first
        | (refine vget_step rfl 54 _ rfl w.heap.size 16 (r.map wcell) 22 rfl hC Tryd.underlying54 size_state (by rw [List.length_map, HL.out]) ?_)
        | (refine vset_step rfl 54 _ _ rfl gz 16 (wzeros 16) (r.map wcell) rfl rfl hZ rfl size_state (by rw [List.length_map, HL.out]) (wcells_one r) ?_
           intro w7 hb7 hC7 _))
      simp only [Exit.jump]
      refine vret Tryd.results24 gz (r.map wcell) rfl hC7 Tryd.underlying54 size_state (by rw [List.length_map, HL.out]) rfl ⟨rfl, hB.trans (hb7.below (by omega) hB.size)⟩
theorem streamStir_any (s : List (BitVec 32)) (w : World) (hs : s.length = 16) :
    Calls Tryd.prog 24 #[.agg (s.map wcell).toArray] w fun e w' => e = .returned (.agg ((chStir s 10).map wcell).toArray) ∧ Below w.heap.size w w' := stir_over s _ w hs rfl
end Go.Proofs.YtejcbboajikdkaaDoor
namespace Go.Proofs.YtejcbboajikdkaaDoor
open Go.RowKit
theorem zero_b64 : ∀ w, (zeroValue 51).run Tryd.prog w = .ok (.agg (List.replicate 64 (cellOf 0)).toArray) w := (zero_of_info (P := Tryd.prog) (t := 51) (v := .agg (List.replicate 64 (cellOf 0)).toArray) (n := 64) (by kernel_rfl)).1
theorem size_b64 : (Tryd.prog.info? 51).map (·.size) = some 64 := by kernel_rfl
/-- Bytes with so many noughts behind them, as cells. (Named, so that a walk leaves them whole.) -/
def filledTo (F : List UInt8) (n : Nat) : List Value := (F ++ List.replicate n 0).map cellOf
theorem filledTo_length (F : List UInt8) (n : Nat) : (filledTo F n).length = F.length + n := by simp [filledTo]
theorem filledTo_zero (F : List UInt8) : filledTo F 0 = F.map cellOf := by simp [filledTo]
theorem filledTo_none (n : Nat) : filledTo [] n = List.replicate n (cellOf 0) := by simp [filledTo]
theorem filledTo_put (F us : List UInt8) (n : Nat) : splice (filledTo F n) F.length (us.map cellOf) = filledTo (F ++ us) (n - us.length) := by
  unfold splice filledTo
  rw [List.length_map, List.map_append, List.take_left' (by simp), Nat.add_comm, ← List.drop_drop, List.drop_drop, Nat.add_comm us.length, ← List.drop_drop, List.drop_left' (by simp)]
  simp
theorem filledTo_put' (F us : List UInt8) (n o m l : Nat) (ho : F.length = o) (hu : us.length = m) (hl : n - m = l) : splice (filledTo F n) o (us.map cellOf) = filledTo (F ++ us) l := by
  subst ho hu hl
  exact filledTo_put F us n
set_option maxRecDepth 100000 in
set_option maxHeartbeats 1000000 in
theorem ended_over (s x : List (BitVec 32)) (E : Nat → List UInt8) (w : World) (HS : Hid (s.length = 16)) (HX : Hid (x.length = 16)) (HE0 : Hid (E 0 = [])) (HE : Hid (∀ k, E (k + 1) = E k ++ putL (x.getD k 0 + s.getD k 0).toNat 4)) (HEL : Hid (∀ k, (E k).length = 4 * k))
    (CX : Hid (∀ W, Calls Tryd.prog 24 #[.agg (s.map wcell).toArray] W fun e w' => e = .returned (.agg (x.map wcell).toArray) ∧ Below W.heap.size W w')) :
    Calls Tryd.prog 19 #[.agg (s.map wcell).toArray] w fun e w' => e = .returned (hashVal (E 16)) ∧ Below w.heap.size w w' := by
  go_enter Tryd.func19, Tryd.ntmps19
  go_wp2_with (first
    | (refine vtake_step rfl 54 _ rfl (s.map wcell) rfl ?_
       intro w1 hB1 hC1)
    | (refine vzero_step rfl 51 rfl (List.replicate 64 (cellOf 0)) zero_b64 ?_
       intro w2 hb2 hZ2
       have hB2 := below_then hB1 hb2
       have hC2 := hC1.on hb2
       have hg1 := hC1.lt
       clear hB1 hC1 hb2)
    | (refine vget_step rfl 54 _ rfl w.heap.size 16 (s.map wcell) 22 rfl hC2 Tryd.underlying54 size_state (by rw [List.length_map, HS.out]) ?_))
  refine (CX.out w2).mono ?_
  rintro e w3 ⟨rfl, hb3⟩
  have hB3 := below_then hB2 hb3
  have hC3 := hC2.on hb3
  have hZ3 := hZ2.on hb3
  have hg2 := hZ2.lt
  have hg3 := hb3.size
  clear hB2 hC2 hZ2 hb3 CX
  generalize hgr : w1.heap.size = gr at *
  clear hgr
  go_wp2_with (first
    | (refine vput_step rfl rfl 54 _ _ rfl rfl 16 (wzeros 16) (x.map wcell) rfl rfl zero_state rfl size_state (by rw [List.length_map, HX.out]) (wcells_one x) ?_
       intro w4 hb4 hX4
       have hB4 := below_then hB3 hb4
       have hC4 := hC3.on hb4
       have hZ4 := hZ3.on hb4
       have hg4 := hZ3.lt
       clear hB3 hC3 hZ3 hb4)
    | (refine vzero_step rfl 51 rfl (List.replicate 64 (cellOf 0)) zero_b64 ?_
       intro w5 hb5 hF5
       have hB5 := below_then hB4 hb5
       have hC5 := hC4.on hb5
       have hZ5 := hZ4.on hb5
       have hX5 := hX4.on hb5
       have hg5 := hX4.lt
       clear hB4 hC4 hZ4 hX4 hb5)
    | (refine vget_step rfl 54 _ rfl w3.heap.size 16 (x.map wcell) 22 rfl hX5 Tryd.underlying54 size_state (by rw [List.length_map, HX.out]) ?_
       clear hX5))
  generalize hgx : w3.heap.size = gx at *
  generalize hgf : w4.heap.size = gf at *
  clear hgx hgf
  go_loopw [10] (fun i wr => ∃ k : Nat, k ≤ 16 ∧ i = .int .i64 k ∧ Below w.heap.size w wr ∧ Cells wr w.heap.size (s.map wcell) 54 ∧ Cells wr gr (List.replicate 64 (cellOf 0)) 51 ∧ Cells wr gf (filledTo (E k) (64 - 4 * k)) 51) (fun i _ => 16 - (intOf i).toNat)
  case atStart => exact ⟨0, Nat.zero_le _, rfl, hB5, hC5, hZ5, by rw [HE0.out, filledTo_none]; exact hF5⟩
  case round =>
    clear hB5 hC5 hZ5 hF5
    obtain ⟨k, hk, rfl, hB, hC, hZ, hF⟩ := hrel
    have HL := Lib.hid (HEL.out k)
    by_cases hlt : k < 16
    · have HN := Lib.hid (HE.out k)
      have hix : ∀ W : World, (Instr.index 54 (.agg (x.map wcell).toArray) (.int .i64 (k : Int))).run Tryd.prog W = .ok (wcell (x.getD k 0)) W := fun W =>
        run_index_int (P := Tryd.prog) (t := 54) (x.map wcell) k (wcell (x.getD k 0)) W Tryd.underlying54 Tryd.underlying22 size_u32 hlt (list_at x k (by rw [HX.out]; exact hlt))
      have c0 := hC.get (list_at s k (by rw [HS.out]; exact hlt))
      generalize x.getD k 0 = xk at *
      generalize s.getD k 0 = sk at *
      have i1 : (0 : Int) ≤ (k : Int) := by omega
      have i2 : (k : Int) < 16 := by omega
      go_wp2_with fail
      have i3 : IntKind.i64.wrap (4 * (k : Int)) = 4 * (k : Int) := IntWalk.i64_in _ (by omega)
      have i4 : (0 : Int) ≤ 4 * (k : Int) := by omega
      have i5 : 4 * (k : Int) ≤ 64 := by omega
      have i6 : (4 * (k : Int)).toNat = 4 * k := by omega
      have i7 : ¬ 64 = 4 * k := by omega
      have i8 : 4 * k ≤ 64 := by omega
      refine wp_region_any (by kernel_rfl) ?_
      show wpAny _ _ _ _ _ _ _ wr.drew
      simp only [List.size_toArray, List.length_cons, List.length_nil, Nat.reduceAdd, Array.replicate_succ, Array.replicate_zero, List.push_toArray, List.nil_append, List.cons_append]
      refine wpAny_take (i := 0) (oi := ⟨some 14, _, _, _, _, _⟩) (v := ?_) rfl (by kernel_rfl) (by kernel_rfl) (by kernel_rfl) (fun _ _ _ h => h) (Or.inl ⟨by rfl, ?_⟩) ?_
      rotate_left
      · (intro w; go_simp; try with_reducible rfl)
      simp only [Act.put, List.setIfInBounds_toArray, List.set_cons_zero, List.set_cons_succ]
      refine wpAny_take (i := 1) (oi := ⟨some 15, _, _, _, _, _⟩) (v := ?_) rfl (by kernel_rfl) (by kernel_rfl) (by kernel_rfl) (fun _ _ _ h => h) (Or.inl ⟨by rfl, ?_⟩) ?_
      rotate_left
      · (intro w; go_simp; try with_reducible rfl)
      simp only [Act.put, List.setIfInBounds_toArray, List.set_cons_zero, List.set_cons_succ]
      refine wpAny_take (i := 2) (oi := ⟨some 16, _, _, _, _, _⟩) (v := ?_) rfl (by kernel_rfl) (by kernel_rfl) (by kernel_rfl) (fun _ _ _ h => h) (Or.inl ⟨by rfl, ?_⟩) ?_
      rotate_left
      · (intro w; go_simp; try with_reducible rfl)
      simp only [Act.put, List.setIfInBounds_toArray, List.set_cons_zero, List.set_cons_succ]
      refine wpAny_take (i := 3) (oi := ⟨some 17, _, _, _, _, _⟩) (v := ?_) rfl (by kernel_rfl) (by kernel_rfl) (by kernel_rfl) (fun _ _ _ h => h) (Or.inl ⟨by rfl, ?_⟩) ?_
      rotate_left
      · (intro w; go_simp; try with_reducible rfl)
      simp only [Act.put, List.setIfInBounds_toArray, List.set_cons_zero, List.set_cons_succ]
      refine wpAny_take (i := 4) (oi := ⟨some 18, _, _, _, _, _⟩) (v := ?_) rfl (by kernel_rfl) (by kernel_rfl) (by kernel_rfl) (fun _ _ _ h => h) (Or.inl ⟨by rfl, ?_⟩) ?_
      rotate_left
      · (intro w; go_simp; try with_reducible rfl)
      simp only [Act.put, List.setIfInBounds_toArray, List.set_cons_zero, List.set_cons_succ]
      refine wpAny_take (i := 5) (oi := ⟨some 19, _, _, _, _, _⟩) (v := ?_) rfl (by kernel_rfl) (by kernel_rfl) (by kernel_rfl) (fun _ _ _ h => h) (Or.inl ⟨by rfl, ?_⟩) ?_
      rotate_left
      · (intro w; go_simp; try with_reducible rfl)
      simp only [Act.put, List.setIfInBounds_toArray, List.set_cons_zero, List.set_cons_succ]
      refine wpAny_rest 6 rfl (by kernel_rfl) ?_
      simp only [List.drop_succ_cons, List.drop_zero]
      have hB6 : Below w.heap.size w wr.drew := hB.drew
      have hC6 : Cells wr.drew w.heap.size (s.map wcell) 54 := hC
      have hZ6 : Cells wr.drew gr (List.replicate 64 (cellOf 0)) 51 := hZ
      have hF6 : Cells wr.drew gf (filledTo (E k) (64 - 4 * k)) 51 := hF
      have d0 : wr.drew.cell? ⟨w.heap.size, k, none⟩ = some (wcell sk) := c0
      clear hB hC hZ hF c0 hix i3
      generalize wr.drew = w6 at *
      go_wp2_with fail
      rw [add32]
      refine (streamPut_any _ _).mono ?_
      rintro e w7 ⟨rfl, hb7, hM7⟩
      have hB7 := below_then hB6 hb7
      have hC7 := hC6.on hb7
      have hZ7 := hZ6.on hb7
      have hF7 := hF6.on hb7
      have HUL := Lib.hid (putL_length (xk + sk).toNat 4)
      clear hB6 hC6 hZ6 hF6 hb7 d0
      generalize putL (xk + sk).toNat 4 = us at *
      generalize w6.heap.size = g6 at *
      go_wp2_with (first
        | (refine copy_row rfl (.tmp 16) (.tmp 22) rfl gf (4 * k) (64 - 4 * k) (64 - 4 * k) 4 4 w7.heap.size 4 (some ⟨g6, 0, none⟩) us rfl rfl HUL.out (by omega) (hM7.row hM7.lt) (hF7.there (4 * k) 4 (by rw [filledTo_length, HL.out]; omega)) ?_
           intro w8 hw8
           have hus : us.take (64 - 4 * k) = us := List.take_of_length_le (by rw [HUL.out]; omega)
           rw [hus] at hw8
           have hb8 : But gf w7 w8 := by rw [hw8]; exact (But.refl gf w7).setCells _ _
           have hF8 : Cells w8 gf (filledTo (E (k + 1)) (64 - 4 * (k + 1))) 51 := by
             have h := hF7.setCells (cs := us.map cellOf) (o := 4 * k) (by rw [filledTo_length, HL.out, List.length_map, HUL.out]; omega)
             rw [filledTo_put' _ _ _ _ 4 (64 - 4 * (k + 1)) HL.out HUL.out (by omega), ← HN.out, ← hw8] at h
             exact h
           clear hw8 hus))
      go_roundw
      case rel => exact ⟨k + 1, by omega, by go_num, hB7.trans (hb8.below (by omega) hB7.size), hC7.but hb8 (by omega), hZ7.but hb8 (by omega), hF8⟩
      case measure => simp [intOf]; omega
    · obtain rfl : k = 16 := by omega
      rw [show 64 - 4 * 16 = 0 from rfl, filledTo_zero] at hF
      have HL2 : Hid ((E 16).length = 64) := HL.out
      go_wp2_with (first
        | (refine get_step rfl 51 _ rfl gf 64 (E 16) 5 rfl hF Tryd.underlying51 size_b64 HL2.out ?_)
        | (refine set_step rfl 51 _ _ rfl gr 64 (List.replicate 64 (cellOf 0)) (E 16) rfl rfl hZ (by rw [List.length_replicate]) size_b64 HL2.out ?_
           intro w9 hb9 hC9 _))
      refine ret_hash Tryd.results19 gr (E 16) rfl hC9 Tryd.underlying51 size_b64 HL2.out rfl ⟨rfl, hB.trans (hb9.below (by omega) hB.size)⟩
theorem streamEnded_any (s : List (BitVec 32)) (w : World) (hs : s.length = 16) :
    Calls Tryd.prog 19 #[.agg (s.map wcell).toArray] w fun e w' => e = .returned (hashVal (chEnded s)) ∧ Below w.heap.size w w' :=
  ended_over s (chStir s 10) (endedTo s (chStir s 10)) w hs ((chStir_length s 10).trans hs) rfl (fun _ => rfl) (endedTo_length _ _) (fun W => streamStir_any s W hs)
end Go.Proofs.YtejcbboajikdkaaDoor
namespace Go.Proofs.YtejcbboajikdkaaDoor
open Go.RowKit
set_option maxRecDepth 100000 in
/-- Room for n bytes, none of them taken. -/
theorem grow_none (n : Nat) (w : World) (hn : n ≤ 1000000) :
    Calls Tryd.prog 32 #[.slice none 0 0, .int .i64 (n : Int)] w fun e w' => ∃ v, e = .returned v ∧ Owns w' w.heap.size v [] ∧ Below w.heap.size w w' := by
  have h0 : Owns w w.heap.size (.slice none 0 0) [] := ⟨by simp, .inl ⟨rfl, by simp⟩⟩
  have i0 : ¬ (n : Int) < 0 := by omega
  by_cases hz : n = 0
  · subst hz
    go_enter Tryd.func32, Tryd.ntmps32
    go_wp2
    go_ret
    exact ⟨_, rfl, h0, Below.refl _ _⟩
  · have i1 : (0 : Int) < (n : Int) := by omega
    go_enter Tryd.func32, Tryd.ntmps32
    go_wp2_with (first
      | (at_builtin
         refine append_zeros rfl (.tmp 20) (.tmp 21) rfl w.heap.size n _ [] rfl h0 rfl (by simpa using hn) (Nat.le_refl _) ?_
         intro v1 w1 hO1 hB1
         rw [List.nil_append] at hO1
         obtain ⟨g1, c1, hv1, _, _, _, _⟩ := hO1.form_pos (by rw [List.length_replicate]; omega)
         rw [List.length_replicate] at hv1
         subst hv1
         have hO2 := hO1.cutTo 0 (Nat.zero_le _)
         rw [List.take_zero] at hO2)
      | (refine cut_to rfl (.tmp 22) (.tmp 24) rfl (some ⟨g1, 0, none⟩) n c1 0 _ rfl rfl rfl (Nat.zero_le _) ?_
         rw [cutA_zero]))
    go_ret
    exact ⟨_, rfl, hO2, hB1⟩
set_option maxRecDepth 100000 in
set_option maxHeartbeats 800000 in
/-- All parts one behind the other, in a row of its own. -/
theorem concat_any (D : Option Addr) (d m L : Nat) (ps : List (List UInt8)) (w : World) (hpl : ps.length = m) (hP : Parts w w.heap.size D ps) (hm : m ≤ 1000000) (hL : ps.flatten.length = L) (hn : L ≤ 1000000) :
    Calls Tryd.prog 26 #[.slice D m d] w (Gives w ps.flatten L) := by
  have HPL := Lib.hid hpl
  have HFL := Lib.hid hL
  clear hpl hL
  go_enter Tryd.func26, Tryd.ntmps26
  go_wp2
  go_loopw [3, 11] (fun s i wr => ∃ k : Nat, k ≤ m ∧ i = .int .i64 k ∧ s = .int .i64 ((ps.take k).flatten.length : Int) ∧ wr = w) (fun _ i _ => m - (intOf i).toNat)
  case atStart => exact ⟨0, Nat.zero_le _, rfl, by simp, rfl⟩
  case round =>
    obtain ⟨k, hk, rfl, rfl, rfl⟩ := hrel
    have HTL := Lib.hid (flatten_take_le ps k)
    generalize hs : (ps.take k).flatten.length = s at *
    replace hs := Lib.hid hs
    by_cases hlt : k < m
    · have hlt2 : k < ps.length := by rw [HPL.out]; exact hlt
      obtain ⟨b, off, A1, c1, rfl, hcl, hr1, h1, h2, h3⟩ := hP.at k hlt2
      have HS := Lib.hid (show (ps.take (k + 1)).flatten.length = (ps.take k).flatten.length + ps[k].length by rw [take_snoc ps k hlt2, List.flatten_append]; simp)
      have HTL2 := Lib.hid (flatten_take_le ps (k + 1))
      generalize hul : ps[k].length = q at *
      replace hul := Lib.hid hul
      have hq : s + q ≤ L := by have h1 := HS.out; have h2 := hs.out; have h3 := HTL2.out; have h4 := HFL.out; omega
      have i1 : ¬ (s : Int) + (q : Int) < 0 := by omega
      have i2 : (0 : Int) ≤ (s : Int) + (q : Int) := by omega
      go_wp2
      go_roundw
      case rel => exact ⟨k + 1, by omega, by go_num, by rw [HS.out, hs.out]; go_num, trivial⟩
      case measure => simp [intOf]; omega
    · obtain rfl : k = m := by omega
      have e1 : s = L := by rw [← hs.out, List.take_of_length_le (by rw [HPL.out]; exact Nat.le_refl _), HFL.out]
      subst e1
      clear HTL hs
      go_wp2_with (first
        | (go_at_call 32
           refine (grow_none s wr hn).mono ?_
           rintro e w1 ⟨v1, rfl, hO1, hB1⟩))
      have HZ := Lib.hid hB1.size
      have HB1 := Lib.hid hB1
      have HO1 := Lib.hid hO1
      clear hO1 hB1
      go_loopw [6, 27] (fun v i wq => ∃ j : Nat, j ≤ k ∧ i = .int .i64 j ∧ Below wr.heap.size wr wq ∧ Owns wq wr.heap.size v (ps.take j).flatten) (fun _ i _ => k - (intOf i).toNat)
      case atStart => exact ⟨0, Nat.zero_le _, rfl, HB1.out, by simpa using HO1.out⟩
      case round =>
        obtain ⟨j, hj, rfl, hB, hO⟩ := hrel
        rename World => wq
        by_cases hlt : j < k
        · have hlt2 : j < ps.length := by rw [HPL.out]; exact hlt
          obtain ⟨b, off, A1, c1, rfl, hcl, hr1, h1, h2, h3⟩ := (hP.below hB).at j hlt2
          have HS := Lib.hid (show (ps.take (j + 1)).flatten = (ps.take j).flatten ++ ps[j] by rw [take_snoc ps j hlt2, List.flatten_append]; simp)
          have HTL2 : Hid ((ps.take j).flatten.length + ps[j].length ≤ s) := by
            show _ ≤ _
            have h1 := flatten_take_le ps (j + 1)
            rw [HS.out, List.length_append, HFL.out] at h1
            exact h1
          generalize ps[j] = us at *
          generalize hul : us.length = q at *
          replace hul := Lib.hid hul
          generalize hF : (ps.take j).flatten = F at *
          replace hF := Lib.hid hF
          have hsz := hB.size
          go_wp2_with (first
            | (at_builtin
               refine append_row rfl (.tmp 31) (.tmp 32) rfl wr.heap.size _ F us _ A1 c1 rfl hO (by rw [hul.out]; rfl) h3 (hr1.more hsz) (by rw [hul.out]; have := HTL2.out; omega) hsz ?_
               intro v7 w7 hO7 hB7))
          go_roundw
          case rel => exact ⟨j + 1, by omega, by go_num, hB.trans hB7, by rw [HS.out]; exact hO7⟩
          case measure => simp [intOf]; omega
        · obtain rfl : j = k := by omega
          rw [List.take_of_length_le (by rw [HPL.out]; exact Nat.le_refl _)] at hO
          obtain ⟨A', c', hv, h1, h2, h3, h4⟩ := hO.form2
          rw [HFL.out] at hv h1
          subst hv
          go_wp2
          go_ret
          exact ⟨A', c', rfl, h3, h1, h2, h4, hB⟩
end Go.Proofs.YtejcbboajikdkaaDoor
