/- Package derive: Expand, Extract. -/
import Derived.Test.YtmhelmmonkgmmaaDoorDChain
import Derived.Test.YtmhelmmonkgmmaaDoorWNum
import Derived.BigQuiet
namespace Go.Proofs.YtmhelmmonkgmmaaDoor
open Go.RowKit
/-- What a call answers that makes a row of these bytes, and no error. -/
def GivesOk (w : World) (bs : List UInt8) (n : Nat) (e : Ending) (w' : World) : Prop :=
  ∃ A c, e = .returned (.tuple #[.slice A n c, .nilIface]) ∧ (A = none → c = 0) ∧ n ≤ c ∧ c ≤ maxLen ∧ Row w' w'.heap.size A bs ∧ Below w.heap.size w w'
set_option maxRecDepth 100000 in
theorem expand_any (A B : Option Addr) (c n d m x : Nat) (key info : List UInt8) (w : World) (hK : Tabs w) (hg : 21 ≤ w.heap.size) (hl : key.length = n) (hr : Row w w.heap.size A key) (hA : A = none → c = 0) (hc : n ≤ c) (hc2 : c ≤ maxLen) (hn : n ≤ 900000)
    (hbl : info.length = m) (hb : Row w w.heap.size B info) (hB : B = none → d = 0) (hd : m ≤ d) (hd2 : d ≤ maxLen) (hm : m ≤ 65536) (hx : x ≤ 8160) :
    Calls Tryd.prog 8 #[.slice A n c, .slice B m d, .int .i64 (x : Int)] w (GivesOk w (hkdf key info x) x) := by
  have i1 : ¬ (x : Int) < 0 := by omega
  have i2 : ¬ (8160 : Int) < (x : Int) := by omega
  have i3 : ¬ (65536 : Int) < (m : Int) := by omega
  have HL := Lib.hid hl
  have HBL := Lib.hid hbl
  clear hl hbl
  go_enter Tryd.func8, Tryd.ntmps8
  go_wp2_with fail
  refine (chained_any A B c n d m x key info w hK hg HL.out hr hA hc hc2 hn HBL.out hb hB hd hd2 (by omega) hx).mono ?_
  rintro e w1 ⟨A', c', rfl, h1, h2, h3, h4, h5⟩
  generalize hkdf key info x = bs at *
  go_wp2
  go_ret2
  exact ⟨A', c', rfl, h1, h2, h3, h4, h5⟩
set_option maxRecDepth 100000 in
theorem expand_out (A B : Option Addr) (c n d m : Nat) (x : Int) (E : Value) (w : World) (hx : x < 0 ∨ 8160 < x) (hE : w.cell? ⟨0, 0, none⟩ = some E) :
    Calls Tryd.prog 8 #[.slice A n c, .slice B m d, .int .i64 x] w fun e w' => e = .returned (.tuple #[.slice none 0 0, E]) ∧ ∃ n, w' = w.drewN n := by
  by_cases h : x < 0
  all_goals
    try have h2 : 8160 < x := by omega
    clear hx
    go_enter Tryd.func8, Tryd.ntmps8
    go_wp2
    go_quiet (fail)
    go_wp2
    go_ret2
    exact ⟨rfl, _, rfl⟩
set_option maxRecDepth 100000 in
set_option maxHeartbeats 800000 in
theorem extract_any (A B : Option Addr) (c n d m : Nat) (key b : List UInt8) (w : World) (hK : Tabs w) (hg : 21 ≤ w.heap.size) (hl : key.length = n) (hr : Row w w.heap.size A key) (hA : A = none → c = 0) (hc : n ≤ c) (hc2 : c ≤ maxLen) (hn : n ≤ 900000)
    (hbl : b.length = m) (hb : Row w w.heap.size B b) (hB : B = none → d = 0) (hd : m ≤ d) (hd2 : d ≤ maxLen) (hm : m ≤ 800000) :
    Calls Tryd.prog 9 #[.slice A n c, .slice B m d] w fun e w' => e = .returned (hashVal (macSum key b)) ∧ Below w.heap.size w w' := by
  have HL := Lib.hid hl
  have HBL := Lib.hid hbl
  clear hl hbl
  have HSL := Lib.hid (macSum_length key b)
  go_enter Tryd.func9, Tryd.ntmps9
  go_wp2_with (first
    | (refine zero_step rfl 30 rfl 32 zero_h32 ?_
       intro w0 hB0 hR0 hz0
       clear hz0
       have HP0 := Lib.hid (parts_one w0 B m d b HBL.out (hb.on hB0) hB hd hd2)
       have HB0 : Hid (Below w0.heap.size w0 (w0.alloc (.cells #[.slice B m d] 22))) := (Below.refl _ _).alloc (Nat.le_refl _) _))
  generalize w0.alloc (.cells #[.slice B m d] 22) = w1 at *
  have hB1 := below_then hB0 HB0.out
  have hR1 := hR0.on HB0.out
  refine (macSum_any A _ c n 1 1 key [b] w1 (hK.below hB1) (by have := hB1.size; omega) HL.out (hr.on hB1) hA hc hc2 hn rfl HP0.out (by omega) (by simp [HBL.out]; omega)).mono ?_
  rintro e w2 ⟨rfl, hb2⟩
  rw [show [b].flatten = b by simp]
  have hB2 := below_then hB1 hb2
  have hR2 := hR1.on hb2
  clear hB0 hR0 HP0 HB0 hB1 hR1 hb2
  go_wp2_with (first
    | (refine set_step rfl 30 _ _ rfl w.heap.size 32 _ (macSum key b) rfl rfl hR2 (by simp) size_h32 HSL.out ?_
       intro w3 hb3 hR3 _))
  exact ret_hash Tryd.results9 w.heap.size _ rfl hR3 Tryd.underlying30 size_h32 HSL.out rfl ⟨rfl, hB2.trans (hb3.below (Nat.le_refl _) hB2.size)⟩
end Go.Proofs.YtmhelmmonkgmmaaDoor
