/- Package mac: Right. -/
import Derived.Test.YtplpgihcpfjbfaaDoorMLaw
namespace Go.Proofs.YtplpgihcpfjbfaaDoor
open Go.RowKit
set_option maxRecDepth 100000 in
theorem right_any4 (A T D : Option Addr) (c n tc tl d m : Nat) (key tag : List UInt8) (ps : List (List UInt8)) (w : World) (hK : Tabs w) (hg : 4 ≤ w.heap.size) (hl : key.length = n) (hr : Row w w.heap.size A key) (hA : A = none → c = 0) (hc : n ≤ c) (hc2 : c ≤ maxLen) (hn : n ≤ 900000)
    (htl : tag.length = tl) (ht : Row w w.heap.size T tag) (hpl : ps.length = m) (hP : Parts w w.heap.size D ps) (hn1 : m ≤ 1000000) (hn2 : ps.flatten.length ≤ 800000) (r : Bool) (hres : (macSum key ps.flatten == tag) = r) :
    Calls Tryd.prog 11 #[.slice A n c, .slice T tl tc, .slice D m d] w fun e w' => e = .returned (.bool r) ∧ Below w.heap.size w w' := by
  have HTL := Lib.hid htl
  have HRES := Lib.hid hres
  clear htl hres
  have HSL := Lib.hid (macSum_length key ps.flatten)
  go_enter Tryd.func11, Tryd.ntmps11
  go_wp2_with fail
  refine (macSum_any A D c n d m key ps w hK hg hl hr hA hc hc2 hn hpl hP hn1 hn2).mono ?_
  rintro e w1 ⟨rfl, hB1⟩
  generalize macSum key ps.flatten = ds at *
  go_wp2_with (first
    | (refine put_step rfl rfl 27 (.tmp 7) (.tmp 10) rfl rfl 32 ds rfl rfl zero_h32 size_h32 HSL.out ?_
       intro w2 hb2 hC2 _
       have hB2 := below_then hB1 hb2
       generalize w1.heap.size = gd at *
       clear hb2))
  by_cases h32 : tl = 32
  · subst h32
    refine (equal_n HSL.out HTL.out hC2.all (ht.on hB2) (by omega)).mono ?_
    rintro e w3 ⟨rfl, nk, rfl⟩
    rw [HRES.out]
    go_wp2
    go_ret
    exact ⟨rfl, below_drewN hB2 nk⟩
  · have hne : r = false := by
      rw [← HRES.out, beq_eq_false_iff_ne]
      rintro rfl
      exact h32 (HTL.out.symm.trans HSL.out)
    subst hne
    refine (equal_other _ _ _ _ _ _ _ (fun h => h32 h.symm)).mono ?_
    rintro e w3 ⟨rfl, rfl⟩
    go_wp2
    go_ret
    exact ⟨rfl, hB2⟩
/-- Right of one part in a literal that the statement itself makes. -/
theorem right_lit (w1 : World) (A T B : Option Addr) (c n tc tl d m : Nat) (key tag b : List UInt8) (hK : Tabs w1) (hg : 4 ≤ w1.heap.size) (hl : key.length = n) (hr : Row w1 w1.heap.size A key) (hA : A = none → c = 0) (hc : n ≤ c) (hc2 : c ≤ maxLen) (hn : n ≤ 900000)
    (htl : tag.length = tl) (ht : Row w1 w1.heap.size T tag) (hbl : b.length = m) (hb : Row w1 w1.heap.size B b) (hB : B = none → d = 0) (hd : m ≤ d) (hd2 : d ≤ maxLen) (hm : m ≤ 800000) (r : Bool) (hres : (macSum key b == tag) = r)
    (W : World) (g : Nat) (hC : Cells W g [.slice B m d] 22) (hW : Below w1.heap.size w1 W) :
    Calls Tryd.prog 11 #[.slice A n c, .slice T tl tc, .slice (some ⟨g, 0, none⟩) 1 1] W fun e w' => e = .returned (.bool r) ∧ Below w1.heap.size w1 w' := by
  refine (right_any4 A T (some ⟨g, 0, none⟩) c n tc tl 1 1 key tag [b] W (hK.below hW) (by have := hW.size; omega) hl (hr.on hW) hA hc hc2 hn htl (ht.on hW) rfl (.inr ⟨g, 0, rfl, hC.lt, fun j us hu => ?_⟩) (by omega) (by simp [hbl]; omega) r (by simpa using hres)).mono ?_
  · match j, hu with
    | 0, hu =>
      cases hu
      exact ⟨.slice B m d, by rw [Nat.zero_add]; exact hC.get rfl, B, d, by rw [hbl], hb.on hW, by omega, hd2, hB⟩
    | j + 1, hu => simp at hu
  · rintro e w' ⟨h1, h2⟩
    exact ⟨h1, below_then hW h2⟩
/-- Sum of one part in a literal that the statement itself makes. -/
theorem macSum_lit (w1 : World) (A B : Option Addr) (c n d m : Nat) (key b : List UInt8) (hK : Tabs w1) (hg : 4 ≤ w1.heap.size) (hl : key.length = n) (hr : Row w1 w1.heap.size A key) (hA : A = none → c = 0) (hc : n ≤ c) (hc2 : c ≤ maxLen) (hn : n ≤ 900000)
    (hbl : b.length = m) (hb : Row w1 w1.heap.size B b) (hB : B = none → d = 0) (hd : m ≤ d) (hd2 : d ≤ maxLen) (hm : m ≤ 800000) (ds : List UInt8) (hds : macSum key b = ds)
    (W : World) (g : Nat) (hC : Cells W g [.slice B m d] 22) (hW : Below w1.heap.size w1 W) :
    Calls Tryd.prog 8 #[.slice A n c, .slice (some ⟨g, 0, none⟩) 1 1] W fun e w' => e = .returned (hashVal ds) ∧ Below w1.heap.size w1 w' ∧ ∀ g vs t, Cells W g vs t → Cells w' g vs t := by
  subst hds
  refine (macSum_any A (some ⟨g, 0, none⟩) c n 1 1 key [b] W (hK.below hW) (by have := hW.size; omega) hl (hr.on hW) hA hc hc2 hn rfl (.inr ⟨g, 0, rfl, hC.lt, fun j us hu => ?_⟩) (by omega) (by simp [hbl]; omega)).mono ?_
  · match j, hu with
    | 0, hu =>
      cases hu
      exact ⟨.slice B m d, by rw [Nat.zero_add]; exact hC.get rfl, B, d, by rw [hbl], hb.on hW, by omega, hd2, hB⟩
    | j + 1, hu => simp at hu
  · rintro e w' ⟨h1, h2⟩
    exact ⟨by rw [h1, show [b].flatten = b by simp], below_then hW h2, fun g vs t h => h.below h2 h.lt⟩
end Go.Proofs.YtplpgihcpfjbfaaDoor
