/- What the laws of layer 4 share: 'alive', Right, codes held against each other. -/
import Derived.Test.YtplpgihcpfjbfaaDoorMSum
import Derived.Test.YtplpgihcpfjbfaaDoorMRef
import Derived.Test.YtplpgihcpfjbfaaDoorSOpen
namespace Go.Proofs.YtplpgihcpfjbfaaDoor
open Go.RowKit
theorem code_eql (ds es : List UInt8) (hd : ds.length = 32) (he : es.length = 32) (w : World) : (binOp .eql 27 (hashVal ds) (hashVal es)).run Tryd.prog w = .ok (.bool (ds == es)) w :=
  run_eql_bytes (P := Tryd.prog) w 27 5 32 Tryd.underlying27 Tryd.underlying5 (fun w => by
    obtain ⟨i0, hi0, hs0⟩ := Option.map_eq_some_iff.1 size_u8
    simp [sizeOf, typeInfo, hi0, hs0]) ds es hd he
theorem mac_eql (key msg : List UInt8) (w : World) : (binOp .eql 27 (hashVal (macSum key msg)) (hashVal (macSum key msg))).run Tryd.prog w = .ok (.bool true) w := by
  have h := code_eql (macSum key msg) (macSum key msg) (macSum_length _ _) (macSum_length _ _) w
  rw [beq_self_eq_true] at h
  exact h
def jefeK : Array Value := #[.int .u8 74, .int .u8 101, .int .u8 102, .int .u8 101]
def jefeM : Array Value := #[.int .u8 119, .int .u8 104, .int .u8 97, .int .u8 116, .int .u8 32, .int .u8 100, .int .u8 111, .int .u8 32, .int .u8 121, .int .u8 97, .int .u8 32, .int .u8 119, .int .u8 97, .int .u8 110, .int .u8 116, .int .u8 32, .int .u8 102, .int .u8 111, .int .u8 114, .int .u8 32, .int .u8 110, .int .u8 111, .int .u8 116, .int .u8 104, .int .u8 105, .int .u8 110, .int .u8 103, .int .u8 63]
theorem jefe_world (w : World) : ∃ w', w' = ((w.alloc (.cells jefeK 5 (4, 5))).alloc (.cells jefeM 5 (28, 29))).alloc (.cells #[.slice (some ⟨w.heap.size + 1, 0, none⟩) 28 28] 22) ∧ Below w.heap.size w w' ∧ Row w' w'.heap.size (some ⟨w.heap.size, 0, none⟩) [74, 101, 102, 101] ∧ Parts w' w'.heap.size (some ⟨w.heap.size + 2, 0, none⟩) [[119, 104, 97, 116, 32, 100, 111, 32, 121, 97, 32, 119, 97, 110, 116, 32, 102, 111, 114, 32, 110, 111, 116, 104, 105, 110, 103, 63]] := by
  have r1 : Row (w.alloc (.cells jefeK 5 (4, 5))) (w.alloc (.cells jefeK 5 (4, 5))).heap.size (some ⟨w.heap.size, 0, none⟩) [74, 101, 102, 101] := by rw [World.size_alloc]; exact row_lit w [74, 101, 102, 101] (4, 5)
  have b1 : Below w.heap.size w (w.alloc (.cells jefeK 5 (4, 5))) := (Below.refl _ _).alloc (Nat.le_refl _) _
  have z1 : (w.alloc (.cells jefeK 5 (4, 5))).heap.size = w.heap.size + 1 := by simp
  generalize w.alloc (.cells jefeK 5 (4, 5)) = w1 at *
  have r2 : Row (w1.alloc (.cells jefeM 5 (28, 29))) (w1.alloc (.cells jefeM 5 (28, 29))).heap.size (some ⟨w1.heap.size, 0, none⟩) [119, 104, 97, 116, 32, 100, 111, 32, 121, 97, 32, 119, 97, 110, 116, 32, 102, 111, 114, 32, 110, 111, 116, 104, 105, 110, 103, 63] := by rw [World.size_alloc]; exact row_lit w1 [119, 104, 97, 116, 32, 100, 111, 32, 121, 97, 32, 119, 97, 110, 116, 32, 102, 111, 114, 32, 110, 111, 116, 104, 105, 110, 103, 63] (28, 29)
  have b2 : Below w1.heap.size w1 (w1.alloc (.cells jefeM 5 (28, 29))) := (Below.refl _ _).alloc (Nat.le_refl _) _
  have z2 : (w1.alloc (.cells jefeM 5 (28, 29))).heap.size = w.heap.size + 2 := by simp [z1]
  generalize w1.alloc (.cells jefeM 5 (28, 29)) = w2 at *
  rw [z1] at r2
  have b3 : Below w2.heap.size w2 (w2.alloc (.cells #[.slice (some ⟨w.heap.size + 1, 0, none⟩) 28 28] 22)) := (Below.refl _ _).alloc (Nat.le_refl _) _
  have p3 := parts_one w2 (some ⟨w.heap.size + 1, 0, none⟩) 28 28 [119, 104, 97, 116, 32, 100, 111, 32, 121, 97, 32, 119, 97, 110, 116, 32, 102, 111, 114, 32, 110, 111, 116, 104, 105, 110, 103, 63] rfl r2 (fun h => by cases h) (Nat.le_refl _) (by unfold maxLen; omega)
  rw [z2] at p3
  exact ⟨_, rfl, below_then b1 (below_then b2 b3), (r1.on b2).on b3, p3⟩
set_option maxRecDepth 100000 in
set_option maxHeartbeats 800000 in
theorem alive4 (w : World) (hK : Tabs w) (hg : 4 ≤ w.heap.size) : Calls Tryd.prog 6 #[] w fun e w' => e = .returned (.bool true) ∧ Below w.heap.size w w' := by
  have HD := Lib.hid jefe
  have HW := Lib.hid (macSum_length [74, 101, 102, 101] [119, 104, 97, 116, 32, 100, 111, 32, 121, 97, 32, 119, 97, 110, 116, 32, 102, 111, 114, 32, 110, 111, 116, 104, 105, 110, 103, 63])
  obtain ⟨w1, hw1, hB1, hR1, hP1⟩ := jefe_world w
  have HW1 := Lib.hid hw1
  have HR1 := Lib.hid hR1
  have HP1 := Lib.hid hP1
  have HB1 := Lib.hid hB1
  clear hw1 hR1 hP1 hB1
  have hcv := fun (w : World) (C : Array Value) (n c : Nat) => Lib.run_convert_bytes_const (P := Tryd.prog) w 22 5 C n c Tryd.underlying22 Tryd.underlying5
  have hcv2 : ∀ (w : World) (o : Obj) (C : Array Value) (n c : Nat), (convert 22 22 (.slice (some ⟨w.heap.size + 1, 0, none⟩) n c)).run Tryd.prog ((w.alloc o).alloc (.cells C 5)) = .ok (.slice (some ⟨w.heap.size + 1, 0, none⟩) n c) ((w.alloc o).alloc (.cells C 5 (C.size, C.size + 1))) := fun w o C n c => by
    have h := hcv (w.alloc o) C n c
    rw [World.size_alloc] at h
    exact h
  go_enter Tryd.func6, Tryd.ntmps6
  go_wp2_with fail
  have hw1 := HW1.out
  unfold jefeK jefeM at hw1
  rw [← hw1]
  clear hw1 hcv hcv2
  have hB1 := HB1.out
  refine (macSum_any _ _ 4 4 1 1 [74, 101, 102, 101] [[119, 104, 97, 116, 32, 100, 111, 32, 121, 97, 32, 119, 97, 110, 116, 32, 102, 111, 114, 32, 110, 111, 116, 104, 105, 110, 103, 63]] w1 (hK.below hB1) (by have := hB1.size; omega) rfl HR1.out (fun h => by cases h) (Nat.le_refl _) (by unfold maxLen; omega) (by omega) rfl HP1.out (by omega) (by simp)).mono ?_
  rintro e w2 ⟨rfl, hb2⟩
  have hB3 := below_then hB1 hb2
  clear hB1 hb2 HW1 HR1 HP1 HB1
  rw [show ([[119, 104, 97, 116, 32, 100, 111, 32, 121, 97, 32, 119, 97, 110, 116, 32, 102, 111, 114, 32, 110, 111, 116, 104, 105, 110, 103, 63]] : List (List UInt8)).flatten = [119, 104, 97, 116, 32, 100, 111, 32, 121, 97, 32, 119, 97, 110, 116, 32, 102, 111, 114, 32, 110, 111, 116, 104, 105, 110, 103, 63] from rfl]
  generalize macSum [74, 101, 102, 101] [119, 104, 97, 116, 32, 100, 111, 32, 121, 97, 32, 119, 97, 110, 116, 32, 102, 111, 114, 32, 110, 111, 116, 104, 105, 110, 103, 63] = ds at *
  have b0 : (ds.map cellOf)[0]? = some (.int .u8 91) := by rw [HD.out]; rfl
  have b1 : (ds.map cellOf)[1]? = some (.int .u8 220) := by rw [HD.out]; rfl
  have b2 : (ds.map cellOf)[31]? = some (.int .u8 67) := by rw [HD.out]; rfl
  replace b0 := Lib.hid b0
  replace b1 := Lib.hid b1
  replace b2 := Lib.hid b2
  go_wp2_with (first
    | (refine put_step rfl rfl 27 (.tmp 1) (.tmp 7) rfl rfl 32 ds rfl rfl zero_h32 size_h32 HW.out ?_
       intro w3 hb3 hC3 _
       have hB4 := below_then hB3 hb3
       have d0 := hC3.get b0.out
       have d1 := hC3.get b1.out
       have d2 := hC3.get b2.out))
  go_ret
  exact ⟨rfl, hB4⟩
end Go.Proofs.YtplpgihcpfjbfaaDoor
