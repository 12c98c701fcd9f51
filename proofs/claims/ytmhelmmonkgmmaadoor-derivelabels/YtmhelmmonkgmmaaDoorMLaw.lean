/- What the laws of layer 4 share: 'alive', Right, codes held against each other. -/
import Derived.Test.YtmhelmmonkgmmaaDoorPart5
import Derived.Test.YtmhelmmonkgmmaaDoorPart6
import Derived.Test.YtmhelmmonkgmmaaDoorPart7
namespace Go.Proofs.YtmhelmmonkgmmaaDoor
open Go.RowKit
theorem code_eql (ds es : List UInt8) (hd : ds.length = 32) (he : es.length = 32) (w : World) : (binOp .eql 30 (hashVal ds) (hashVal es)).run Tryd.prog w = .ok (.bool (ds == es)) w :=
  run_eql_bytes (P := Tryd.prog) w 30 5 32 Tryd.underlying30 Tryd.underlying5 (fun w => by
    obtain ⟨i0, hi0, hs0⟩ := Option.map_eq_some_iff.1 size_u8
    simp [sizeOf, typeInfo, hi0, hs0]) ds es hd he
theorem mac_eql (key msg : List UInt8) (w : World) : (binOp .eql 30 (hashVal (macSum key msg)) (hashVal (macSum key msg))).run Tryd.prog w = .ok (.bool true) w := by
  have h := code_eql (macSum key msg) (macSum key msg) (macSum_length _ _) (macSum_length _ _) w
  rw [beq_self_eq_true] at h
  exact h
def jefeK : Array Value := #[.int .u8 74, .int .u8 101, .int .u8 102, .int .u8 101]
def jefeM : Array Value := #[.int .u8 119, .int .u8 104, .int .u8 97, .int .u8 116, .int .u8 32, .int .u8 100, .int .u8 111, .int .u8 32, .int .u8 121, .int .u8 97, .int .u8 32, .int .u8 119, .int .u8 97, .int .u8 110, .int .u8 116, .int .u8 32, .int .u8 102, .int .u8 111, .int .u8 114, .int .u8 32, .int .u8 110, .int .u8 111, .int .u8 116, .int .u8 104, .int .u8 105, .int .u8 110, .int .u8 103, .int .u8 63]
theorem jefe_world (w : World) : ∃ w', w' = ((w.alloc (.cells jefeK 5 (4, 5))).alloc (.cells jefeM 5 (28, 29))).alloc (.cells #[.slice (some ⟨w.heap.size + 1, 0, none⟩) 28 28] 22) ∧ Below w.heap.size w w' ∧ Row w' w'.heap.size (some ⟨w.heap.size, 0, none⟩) [74, 101, 102, 101] ∧ Parts w' w'.heap.size (some ⟨w.heap.size + 2, 0, none⟩) [[119, 104, 97, 116, 32, 100, 111, 32, 121, 97, 32, 119, 97, 110, 116, 32, 102, 111, 114, 32, 110, 111, 116, 104, 105, 110, 103, 63]] := by
  have r1 : Row (w.alloc (.cells jefeK 5 (4, 5))) (w.alloc (.cells jefeK 5 (4, 5))).heap.size (some ⟨w.heap.size, 0, none⟩) [74, 101, 102, 101] := by rw [World.size_alloc]; exact row_lit w [74, 101, 102, 101] (4, 5)
  have b1 : Below w.heap.size w (w.alloc (.cells jefeK 5 (4, 5))) := (Below.refl _ _).alloc (Nat.le_refl _) _
  have z1 : (w.alloc (.cells jefeK 5 (4, 5))).heap.size = w.heap.size + 1 := by simp
  generalize w.alloc (.cells jefeK 5 (4, 5)) = w1 at *
  have r2 : Row (w1.alloc (.cells jefeM 5 (28, 29))) (w1.alloc (.cells jefeM 5 (28, 29))).heap.size (some ⟨w1.heap.size, 0, none⟩) [119, 104, 97, 116, 32, 100, 111, 32, 121, 97, 32, 119, 97, 110, 116, 32, 102, 111, 114, 32, 110, 111, 116, 104, 105, 110, 103, 63] := by rw [World.size_alloc]; exact row_lit w1 [119, 104, 97, 116, 32, 100, 111, 32, 121, 97, 32, 119, 97, 110, 116, 32, 102, 111, 114, 32, 110, 111, 116, 104, 105, 110, 103, 63] (28, 29)
  have b2 : Below w1.heap.size w1 (w1.alloc (.cells jefeM 5 (28, 29))) := (Below.refl _ _).alloc (Nat.le_refl _) _
  have z2 : (w1.alloc (.cells jefeM 5 (28, 29))).heap.size = w.heap.size + 2 := by simp [z1]
  generalize w1.alloc (.cells jefeM 5 (28, 29)) = w2 at *
  rw [z1] at r2
  have b3 : Below w2.heap.size w2 (w2.alloc (.cells #[.slice (some ⟨w.heap.size + 1, 0, none⟩) 28 28] 22)) := (Below.refl _ _).alloc (Nat.le_refl _) _
  have p3 := parts_one w2 (some ⟨w.heap.size + 1, 0, none⟩) 28 28 [119, 104, 97, 116, 32, 100, 111, 32, 121, 97, 32, 119, 97, 110, 116, 32, 102, 111, 114, 32, 110, 111, 116, 104, 105, 110, 103, 63] rfl r2 (fun h => by cases h) (Nat.le_refl _) (by unfold maxLen; omega)
  rw [z2] at p3
  exact ⟨_, rfl, below_then b1 (below_then b2 b3), (r1.on b2).on b3, p3⟩
end Go.Proofs.YtmhelmmonkgmmaaDoor
