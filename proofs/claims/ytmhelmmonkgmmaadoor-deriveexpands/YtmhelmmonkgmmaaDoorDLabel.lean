/- Package derive: joined, Label. -/
import Derived.Test.YtmhelmmonkgmmaaDoorDInfo
namespace Go.Proofs.YtmhelmmonkgmmaaDoor
open Go.RowKit
/-- A context's parts one behind the other, of which no more is kept than tells that it is too long. -/
def joinL (ps : List (List UInt8)) : List UInt8 := ps.flatten.take 16385
theorem joinL_short (ps : List (List UInt8)) (h : ps.flatten.length ≤ 16384) : joinL ps = ps.flatten := List.take_of_length_le (by omega)
theorem joinL_length (ps : List (List UInt8)) : (joinL ps).length = min 16385 ps.flatten.length := List.length_take
theorem joinL_next (ps : List (List UInt8)) (k : Nat) (hk : k < ps.length) : joinL (ps.take (k + 1)) = joinL (ps.take k) ++ ps[k].take (min (16385 - (joinL (ps.take k)).length) ps[k].length) := by
  have e : (ps.take (k + 1)).flatten = (ps.take k).flatten ++ ps[k] := by rw [take_snoc ps k hk, List.flatten_append]; simp
  rw [joinL_length, joinL, joinL, e, List.take_append]
  congr 1
  generalize (ps.take k).flatten.length = f
  generalize ps[k] = us
  rw [show 16385 - min 16385 f = 16385 - f by omega]
  rcases Nat.le_total (16385 - f) us.length with h | h
  · rw [Nat.min_eq_left h]
  · rw [Nat.min_eq_right h, List.take_of_length_le h, List.take_of_length_le (Nat.le_refl _)]
set_option maxRecDepth 100000 in
set_option maxHeartbeats 800000 in
theorem joined_any (D : Option Addr) (d m L : Nat) (ps : List (List UInt8)) (w : World) (hpl : ps.length = m) (hP : Parts w w.heap.size D ps) (hm : m ≤ 1000000) (hL : (joinL ps).length = L) :
    Calls Tryd.prog 26 #[.slice D m d] w (Gives w (joinL ps) L) := by
  have HPL := Lib.hid hpl
  have HFL := Lib.hid hL
  clear hpl hL
  have h0 : Owns w w.heap.size (.slice none 0 0) (joinL (ps.take 0)) := ⟨by simp [joinL], .inl ⟨rfl, by simp [joinL]⟩⟩
  have H0 := Lib.hid h0
  clear h0
  go_enter Tryd.func26, Tryd.ntmps26
  go_wp2
  go_loopw [3, 9] (fun v i wr => ∃ j : Nat, j ≤ m ∧ i = .int .i64 j ∧ Below w.heap.size w wr ∧ Owns wr w.heap.size v (joinL (ps.take j))) (fun _ i _ => m - (intOf i).toNat)
  case atStart => exact ⟨0, Nat.zero_le _, rfl, Below.refl _ _, H0.out⟩
  case round =>
    obtain ⟨j, hj, rfl, hB, hO⟩ := hrel
    by_cases hlt : j < m
    · have hlt2 : j < ps.length := by rw [HPL.out]; exact hlt
      obtain ⟨b, off, A1, c1, rfl, hcl, hr1, h1, h2, h3⟩ := (hP.below hB).at j hlt2
      have HS := Lib.hid (joinL_next ps j hlt2)
      have HJ := Lib.hid (joinL_length (ps.take j))
      generalize ps[j] = us at *
      generalize hul : us.length = q at *
      replace hul := Lib.hid hul
      generalize hF : joinL (ps.take j) = F at *
      replace hF := Lib.hid hF
      obtain ⟨A2, c2, hv, h4, h5, h6, h7⟩ := hO.form2
      clear h4 h5 h6 h7
      subst hv
      obtain ⟨f, hf⟩ : ∃ f, F.length = f := ⟨_, rfl⟩
      rw [hf] at hO
      rw [hf]
      have hf2 : f ≤ 16385 := by have := HJ.out; omega
      replace hf := Lib.hid hf
      obtain ⟨t, ht⟩ : ∃ t, min (16385 - f) q = t := ⟨_, rfl⟩
      have ht2 : t ≤ q := by omega
      have hsz := hB.size
      have HT := Lib.hid ht
      clear ht
      go_wp2_with (first
        | (refine min_step rfl (.tmp 18) (.tmp 20) rfl _ _ t rfl rfl ?_ ?_
           · have := HT.out; omega)
        | (refine cut_to rfl (.tmp 17) (.tmp 21) rfl A1 q c1 t _ rfl rfl rfl (by omega) ?_)
        | (at_builtin
           refine append_row rfl (.tmp 16) (.tmp 22) rfl w.heap.size _ F (us.take t) _ (cutA A1 0 c1) c1 rfl hO (by rw [List.length_take, hul.out, Nat.min_eq_left ht2]; rfl) (fun h => h3 (cutA_none h)) ((hr1.cutTo t c1 (by rw [hul.out]; exact h1)).more hsz) (by rw [hf.out, List.length_take]; have := HT.out; omega) hsz ?_
           intro v7 w7 hO7 hB7))
      go_roundw
      case rel => exact ⟨j + 1, by omega, by go_num, hB.trans hB7, by rw [HS.out, hf.out, HT.out]; exact hO7⟩
      case measure => simp [intOf]; omega
    · obtain rfl : j = m := by omega
      rw [List.take_of_length_le (by rw [HPL.out]; exact Nat.le_refl _)] at hO
      obtain ⟨A', c', hv, h1, h2, h3, h4⟩ := hO.form2
      rw [HFL.out] at hv h1
      subst hv
      go_wp2
      go_ret
      exact ⟨A', c', rfl, h3, h1, h2, h4, hB⟩
/-- 32 noughts. (Named, so that a walk leaves them whole.) -/
def nought32 : List UInt8 := List.replicate 32 0
/-- x bytes by a label. -/
def labelL (sec lb ctx : List UInt8) (x : Nat) : List UInt8 := hkdf sec (infoL lb ctx x) x
theorem labelL_length (sec lb ctx : List UInt8) (x : Nat) (hx : x ≤ 8160) : (labelL sec lb ctx x).length = x := hkdf_length _ _ _ hx
set_option maxRecDepth 100000 in
set_option maxHeartbeats 800000 in
theorem label_any (B : Option Addr) (d m n x : Nat) (sec lb ctx : List UInt8) (w : World) (hK : Tabs w) (hg : 21 ≤ w.heap.size) (hs : sec.length = 32) (hl : lb.length = n) (hn : n ≤ 200) (hbl : ctx.length = m) (hb : Row w w.heap.size B ctx) (hB : B = none → d = 0) (hd : m ≤ d) (hd2 : d ≤ maxLen) (hm : m ≤ 16384) (hx : x ≤ 8160) :
    Calls Tryd.prog 15 #[hashVal sec, .string (str lb), .slice B m d, .int .i64 (x : Int)] w (GivesOk w (labelL sec lb ctx x) x) := by
  have HL := Lib.hid hl
  have HBL := Lib.hid hbl
  have HSL := Lib.hid hs
  clear hl hbl hs
  have HIL : Hid ((infoL lb ctx x).length = 16 + n + m) := by show _ = _; rw [infoL_length, HL.out, HBL.out]
  have HE : Hid (hkdf sec (infoL lb ctx x) x = labelL sec lb ctx x) := rfl
  go_enter Tryd.func15, Tryd.ntmps15
  go_wp2_with (first
    | (refine take_step rfl 30 _ rfl sec rfl ?_
       intro w0 hB0 hC0 hz0
       clear hz0))
  refine (info_any B d m n x lb ctx w0 HL.out hn HBL.out (hb.on hB0) hB hd hd2 hm hx).mono ?_
  rintro e w1 ⟨A1, c1, rfl, h1, h2, h3, h4, h5⟩
  have hB1 := below_then hB0 h5
  have hC1 := hC0.on h5
  clear hB0 hC0 h5
  go_wp2_with fail
  refine (expand_any _ A1 32 32 c1 (16 + n + m) x sec (infoL lb ctx x) w1 (hK.below hB1) (by have := hB1.size; omega) HSL.out hC1.all (fun h => by cases h) (Nat.le_refl _) (by unfold maxLen; omega) (by omega) HIL.out h4 h1 h2 h3 (by omega) hx).mono ?_
  rintro e w2 ⟨A2, c2, rfl, k1, k2, k3, k4, k5⟩
  rw [HE.out] at k4
  have hB2 := below_then hB1 k5
  clear HE HIL hB1 hC1 h4 k5
  generalize labelL sec lb ctx x = bs at *
  go_wp2
  go_ret2
  exact ⟨A2, c2, rfl, k1, k2, k3, k4, hB2⟩
set_option maxRecDepth 100000 in
theorem label_out (B : Option Addr) (d m : Nat) (sec : List UInt8) (s : ByteArray) (x : Int) (E : Addr) (w : World) (hx : x < 0 ∨ 8160 < x) (hE : w.cell? ⟨0, 0, none⟩ = some (errAt E)) :
    Calls Tryd.prog 15 #[hashVal sec, .string s, .slice B m d, .int .i64 x] w fun e w' => e = .returned (.tuple #[.slice none 0 0, errAt E]) ∧ Below w.heap.size w w' := by
  have HE := Lib.hid hE
  clear hE
  go_enter Tryd.func15, Tryd.ntmps15
  go_wp2_with (first
    | (refine take_step rfl 30 _ rfl sec rfl ?_
       intro w0 hB0 hC0 hz0
       clear hz0))
  refine (info_out B d m s x (errAt E) w0 hx ((hB0.cell (block_lt_of_cell HE.out)).trans HE.out)).mono ?_
  rintro e w1 ⟨rfl, nk, rfl⟩
  go_wp2
  go_ret2
  exact ⟨rfl, below_drewN hB0 nk⟩
set_option maxRecDepth 100000 in
theorem label_long (B : Option Addr) (d m n x : Nat) (sec lb : List UInt8) (E : Addr) (w : World) (hl : lb.length = n) (h : 200 < n ∨ 16384 < m) (hx : x ≤ 8160) (hE : w.cell? ⟨1, 0, none⟩ = some (errAt E)) :
    Calls Tryd.prog 15 #[hashVal sec, .string (str lb), .slice B m d, .int .i64 (x : Int)] w fun e w' => e = .returned (.tuple #[.slice none 0 0, errAt E]) ∧ Below w.heap.size w w' := by
  have HE := Lib.hid hE
  have HL := Lib.hid hl
  clear hE hl
  go_enter Tryd.func15, Tryd.ntmps15
  go_wp2_with (first
    | (refine take_step rfl 30 _ rfl sec rfl ?_
       intro w0 hB0 hC0 hz0
       clear hz0))
  refine (info_long B d m n x lb (errAt E) w0 HL.out h hx ((hB0.cell (block_lt_of_cell HE.out)).trans HE.out)).mono ?_
  rintro e w1 ⟨rfl, nk, rfl⟩
  go_wp2
  go_ret2
  exact ⟨rfl, below_drewN hB0 nk⟩
end Go.Proofs.YtmhelmmonkgmmaaDoor
