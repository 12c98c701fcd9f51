/- OnetimeSums: the walk, whole. -/
import Derived.Test.YtiadgningbogmaaDoorKOtSums
namespace Go.Proofs.YtiadgningbogmaaDoor
open Go.RowKit
set_option maxRecDepth 100000 in
theorem sums_long (D T : Option Addr) (d m tl tc : Nat) (key : List UInt8) (w : World) (h : 10 < m ∨ 50 < tl) :
    Calls Tryd.prog 3 #[hashVal key, .slice D m d, .slice T tl tc] w fun e w' => e = .returned (.bool true) ∧ Below w.heap.size w w' := by
  by_cases h1 : 10 < m
  · have i1 : (10 : Int) < (m : Int) := by omega
    clear h
    go_enter Tryd.func3, Tryd.ntmps3
    go_wp2_with (first
      | (refine take_step rfl 23 (.tmp 0) rfl key rfl ?_
         intro w0 hB0 hK0 hz
         clear hz hK0))
    refine (alive7 w0).mono ?_
    rintro e w1 ⟨rfl, hb1⟩
    go_wp2
    go_ret
    exact ⟨rfl, below_then hB0 hb1⟩
  · have i1 : ¬ (10 : Int) < (m : Int) := by omega
    have i2 : (50 : Int) < (tl : Int) := by omega
    clear h
    go_enter Tryd.func3, Tryd.ntmps3
    go_wp2_with (first
      | (refine take_step rfl 23 (.tmp 0) rfl key rfl ?_
         intro w0 hB0 hK0 hz
         clear hz hK0))
    refine (alive7 w0).mono ?_
    rintro e w1 ⟨rfl, hb1⟩
    go_wp2
    go_ret
    exact ⟨rfl, below_then hB0 hb1⟩
theorem sums_any (D T : Option Addr) (d m tl tc : Nat) (key tag : List UInt8) (ps : List (List UInt8)) (w : World) (hk : key.length = 32) (hpl : ps.length = m) (hP : Parts w w.heap.size D ps) (htl : tag.length = tl) (hT : Row w w.heap.size T tag) :
    Calls Tryd.prog 3 #[hashVal key, .slice D m d, .slice T tl tc] w fun e w' => e = .returned (.bool true) ∧ Below w.heap.size w w' := by
  by_cases h : 10 < m ∨ 50 < tl
  · exact sums_long D T d m tl tc key w h
  · exact sums_over D T d m tl tc ps.flatten.length key tag (polySum key ps.flatten) ps.flatten ps _ w hk hpl hP (by omega) (by omega) htl hT (polySum_length _ _) rfl rfl rfl alive7
      (fun A6 c6 W hR hc hl => refSum7_any A6 _ c6 key _ W hk rfl hR hc hl)
      (fun W hW => onetimeSum_any D d m ps key W hk hpl ((hP.below hW).more hW.size) (by omega))
      (fun g A6 c6 W hW hC hR hA h1 h2 => right_lit7 hk hC rfl hR hA h1 h2 htl (hT.on hW) _ rfl)
      (fun g go A6 c6 W hG hC hR hA h1 h2 => right_lit7 hk hC rfl hR hA h1 h2 (polySum_length _ _) hG.all true (beq_self_eq_true _))
end Go.Proofs.YtiadgningbogmaaDoor
