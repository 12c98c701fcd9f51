/- Part 7 of what the laws of this seat share: OLaw. -/
import Derived.Stop.BytesEq
import Derived.Test.YtiadgningbogmaaDoorPart6
namespace Go.Proofs.YtiadgningbogmaaDoor
open Go.RowKit
set_option maxRecDepth 100000 in
theorem right_any7 (T D : Option Addr) (tc tl d m : Nat) (key tag : List UInt8) (ps : List (List UInt8)) (w : World) (hk : key.length = 32) (htl : tag.length = tl) (ht : Row w w.heap.size T tag) (hpl : ps.length = m) (hP : Parts w w.heap.size D ps) (hn1 : m ≤ 1000000) (r : Bool) (hres : (polySum key ps.flatten == tag) = r) :
    Calls Tryd.prog 9 #[hashVal key, .slice T tl tc, .slice D m d] w fun e w' => e = .returned (.bool r) ∧ Below w.heap.size w w' := by
  have HK := Lib.hid hk
  have HTL := Lib.hid htl
  have HRES := Lib.hid hres
  have HSL := Lib.hid (polySum_length key ps.flatten)
  have CS := Lib.hid (fun W (hW : Below w.heap.size w W) => onetimeSum_any D d m ps key W hk hpl ((hP.below hW).more hW.size) hn1)
  clear htl hres hk
  go_enter Tryd.func9, Tryd.ntmps9
  generalize polySum key ps.flatten = ds at *
  go_wp2_with (first
    | (refine take_step rfl 23 (.tmp 0) rfl key rfl ?_
       intro w0 hB0 hA0 hz
       clear hz)
    | (refine get_step rfl 23 _ rfl w.heap.size 32 key 5 rfl hA0 Tryd.underlying23 size_key HK.out ?_))
  refine (CS.out w0 hB0).mono ?_
  rintro e w1 ⟨rfl, hb1⟩
  have hB1 := below_then hB0 hb1
  clear CS hA0 hB0 hb1
  go_wp2_with (first
    | (refine put_step rfl rfl 27 (.tmp 7) (.tmp 10) rfl rfl 16 ds rfl rfl zero_b16 size_b16 HSL.out ?_
       intro w2 hb2 hC2 _
       have hB2 := below_then hB1 hb2
       generalize w1.heap.size = gd at *
       clear hb2))
  by_cases h16 : tl = 16
  · subst h16
    refine (equal_n HSL.out HTL.out hC2.all (ht.on hB2) (by omega)).mono ?_
    rintro e w3 ⟨rfl, nk, rfl⟩
    rw [HRES.out]
    go_wp2
    go_ret
    exact ⟨rfl, below_drewN hB2 nk⟩
  · have hne : r = false := by
      rw [← HRES.out, beq_eq_false_iff_ne]
      rintro rfl
      exact h16 (HTL.out.symm.trans HSL.out)
    subst hne
    refine (equal_other _ _ _ _ _ _ _ (fun h => h16 h.symm)).mono ?_
    rintro e w3 ⟨rfl, rfl⟩
    go_wp2
    go_ret
    exact ⟨rfl, hB2⟩
theorem parts_of_lit {w : World} {g m d : Nat} {B : Option Addr} {b : List UInt8} (hC : Cells w g [.slice B m d] 25) (hbl : b.length = m) (hb : Row w w.heap.size B b) (hB : B = none → d = 0) (hd : m ≤ d) (hd2 : d ≤ maxLen) : Parts w w.heap.size (some ⟨g, 0, none⟩) [b] :=
  .inr ⟨g, 0, rfl, hC.lt, fun j us hu => by
    match j, hu with
    | 0, hu =>
      cases hu
      exact ⟨.slice B m d, by rw [Nat.zero_add]; exact hC.get rfl, B, d, by rw [hbl], hb, by omega, hd2, hB⟩
    | j + 1, hu => simp at hu⟩
/-- Sum of one part in a literal. -/
theorem onetimeSum_lit {w : World} {g m d : Nat} {B : Option Addr} {key b : List UInt8} (hk : key.length = 32) (hC : Cells w g [.slice B m d] 25) (hbl : b.length = m) (hb : Row w w.heap.size B b) (hB : B = none → d = 0) (hd : m ≤ d) (hd2 : d ≤ maxLen) :
    Calls Tryd.prog 8 #[hashVal key, .slice (some ⟨g, 0, none⟩) 1 1] w fun e w' => e = .returned (hashVal (polySum key b)) ∧ Below w.heap.size w w' := by
  have h := onetimeSum_any (some ⟨g, 0, none⟩) 1 1 [b] key w hk rfl (parts_of_lit hC hbl hb hB hd hd2) (by omega)
  simpa using h
/-- Right of one part in a literal. -/
theorem right_lit7 {w : World} {g m d tc tl : Nat} {B T : Option Addr} {key b tag : List UInt8} (hk : key.length = 32) (hC : Cells w g [.slice B m d] 25) (hbl : b.length = m) (hb : Row w w.heap.size B b) (hB : B = none → d = 0) (hd : m ≤ d) (hd2 : d ≤ maxLen) (htl : tag.length = tl) (ht : Row w w.heap.size T tag) (r : Bool) (hres : (polySum key b == tag) = r) :
    Calls Tryd.prog 9 #[hashVal key, .slice T tl tc, .slice (some ⟨g, 0, none⟩) 1 1] w fun e w' => e = .returned (.bool r) ∧ Below w.heap.size w w' :=
  right_any7 T (some ⟨g, 0, none⟩) tc tl 1 1 key tag [b] w hk htl ht rfl (parts_of_lit hC hbl hb hB hd hd2) (by omega) r (by simpa using hres)
/-- The example's key. -/
def aliveKey : List UInt8 := [1, 2, 3, 0, 0, 0, 0, 0, 0, 0, 0, 0, 0, 0, 0, 0, 7, 0, 0, 0, 0, 0, 0, 0, 0, 0, 0, 0, 0, 0, 0, 9]
def aliveKey0 : List UInt8 := [1, 2, 3, 0, 0, 0, 0, 0, 0, 0, 0, 0, 0, 0, 0, 0, 0, 0, 0, 0, 0, 0, 0, 0, 0, 0, 0, 0, 0, 0, 0, 0]
theorem aliveKey_set : ((aliveKey0.map cellOf).set 16 (.int .u8 7)).set 31 (.int .u8 9) = aliveKey.map cellOf := rfl
theorem build_aliveKey (w : World) : (Instr.build 23 #[(0, .int .u8 1), (1, .int .u8 2), (2, .int .u8 3)]).run Tryd.prog w = .ok (hashVal aliveKey0) w := by kernel_rfl
theorem alive_code : polySum aliveKey [] = [7, 0, 0, 0, 0, 0, 0, 0, 0, 0, 0, 0, 0, 0, 0, 9] := by decide +kernel
set_option maxRecDepth 100000 in
set_option maxHeartbeats 1000000 in
/-- 'alive'. -/
theorem alive7 (w : World) : Calls Tryd.prog 6 #[] w fun e w' => e = .returned (.bool true) ∧ Below w.heap.size w w' := by
  have CS := Lib.hid (fun W => onetimeSum_any none 0 0 [] aliveKey W rfl rfl (.inl rfl) (by omega))
  rw [List.flatten_nil, alive_code] at CS
  have HV : Hid (([7, 0, 0, 0, 0, 0, 0, 0, 0, 0, 0, 0, 0, 0, 0, 9] : List UInt8).length = 16 ∧ ([7, 0, 0, 0, 0, 0, 0, 0, 0, 0, 0, 0, 0, 0, 0, 9] : List UInt8)[0]? = some 7 ∧ ([7, 0, 0, 0, 0, 0, 0, 0, 0, 0, 0, 0, 0, 0, 0, 9] : List UInt8)[15]? = some 9 ∧ ([7, 0, 0, 0, 0, 0, 0, 0, 0, 0, 0, 0, 0, 0, 0, 9] : List UInt8)[1]? = some 0) := ⟨rfl, rfl, rfl, rfl⟩
  generalize ([7, 0, 0, 0, 0, 0, 0, 0, 0, 0, 0, 0, 0, 0, 0, 9] : List UInt8) = ds at *
  have HB := Lib.hid build_aliveKey
  have HS := Lib.hid aliveKey_set
  have HL0 : Hid (aliveKey0.length = 32) := rfl
  have HL1 : Hid (aliveKey.length = 32) := rfl
  generalize aliveKey0 = k0 at *
  generalize aliveKey = k1 at *
  go_enter Tryd.func6, Tryd.ntmps6
  go_wp2_with (first
    | (refine build_step rfl 23 _ rfl [(0, .int .u8 1), (1, .int .u8 2), (2, .int .u8 3)] rfl _ HB.out ?_)
    | (refine put_step rfl rfl 23 (.tmp 1) (.tmp 3) rfl rfl 32 k0 rfl rfl zero_key size_key HL0.out ?_
       intro w1 hB1 hC1 hz
       have hT1 := hC1.there 16 1 (by rw [List.length_map, HL0.out]; omega)
       clear hz)
    | (refine store_step rfl 5 (.tmp 4) _ rfl w.heap.size 16 .u8 7 rfl rfl size_u8 hT1 ?_
       intro w2 hw2
       have hB2 : Below w.heap.size w w2 := by rw [hw2]; exact hB1.setCell (p := ⟨w.heap.size, 16, none⟩) (Nat.le_refl _) _
       have hC2 : Cells w2 w.heap.size ((k0.map cellOf).set 16 (.int .u8 7)) 23 := by rw [hw2]; exact hC1.set 16 _
       have hT2 := hC2.there 31 1 (by rw [List.length_set, List.length_map, HL0.out]; omega)
       clear hw2 hB1 hC1 hT1)
    | (refine store_step rfl 5 (.tmp 5) _ rfl w.heap.size 31 .u8 9 rfl rfl size_u8 hT2 ?_
       intro w3 hw3
       have hB3 : Below w.heap.size w w3 := by rw [hw3]; exact hB2.setCell (p := ⟨w.heap.size, 31, none⟩) (Nat.le_refl _) _
       have hC3 : Cells w3 w.heap.size (k1.map cellOf) 23 := by rw [hw3, ← HS.out]; exact hC2.set 31 _
       clear hw3 hB2 hC2 hT2)
    | (refine get_step rfl 23 _ rfl w.heap.size 32 k1 5 rfl hC3 Tryd.underlying23 size_key HL1.out ?_))
  refine (CS.out w3).mono ?_
  rintro e w4 ⟨rfl, hb4⟩
  have hB4 := below_then hB3 hb4
  clear CS hB3 hC3 hb4
  go_wp2_with (first
    | (refine put_step rfl rfl 27 (.tmp 2) (.tmp 7) rfl rfl 16 ds rfl rfl zero_b16 size_b16 HV.out.1 ?_
       intro w5 hb5 hC5 hz
       have hB5 := below_then hB4 hb5
       have d0 := hC5.get (j := 0) (v := .int .u8 7) (by rw [List.getElem?_map, HV.out.2.1]; rfl)
       have d1 := hC5.get (j := 15) (v := .int .u8 9) (by rw [List.getElem?_map, HV.out.2.2.1]; rfl)
       have d2 := hC5.get (j := 1) (v := .int .u8 0) (by rw [List.getElem?_map, HV.out.2.2.2]; rfl)
       clear hz hb5 hB4 hC5))
  go_ret
  exact ⟨rfl, hB5⟩
end Go.Proofs.YtiadgningbogmaaDoor
