/- Part 7 of what the laws of this seat share: DLabel, DSecret, DRef, DRef2, DRef3, Frame, WOpen, WOpen2, SLaw, SOpen. -/
import Derived.Deep.RegionHeld3
import Derived.Laws.Cover3
import Derived.Test.YtmhelmmonkgmmaaDoorCards
import Derived.Test.YtmhelmmonkgmmaaDoorTie
import Derived.WalkKit
import Derived.ProofKit
import Derived.OpenShut
import Derived.ShutString
import Derived.LaidMore
import Derived.Deep.DeepHandedRow
import Derived.Deep.DeepWitnessRowRef
import Derived.Deep.Matrix
import Derived.Lib.LaidTab
import Derived.Stop.BytesEq
import Derived.Lib.SlBytesConst
import Derived.Test.YtmhelmmonkgmmaaDoorPart6
namespace Go.Proofs.YtmhelmmonkgmmaaDoor
open Go.RowKit
/-- A context's parts one behind the other, of which no more is kept than tells that it is too long. -/
def joinL (ps : List (List UInt8)) : List UInt8 := ps.flatten.take 16385
theorem joinL_short (ps : List (List UInt8)) (h : ps.flatten.length ≤ 16384) : joinL ps = ps.flatten := List.take_of_length_le (by omega)
theorem joinL_length (ps : List (List UInt8)) : (joinL ps).length = min 16385 ps.flatten.length := List.length_take
theorem joinL_next (ps : List (List UInt8)) (k : Nat) (hk : k < ps.length) : joinL (ps.take (k + 1)) = joinL (ps.take k) ++ ps[k].take (min (16385 - (joinL (ps.take k)).length) ps[k].length) := by
  have e : (ps.take (k + 1)).flatten = (ps.take k).flatten ++ ps[k] := by rw [take_snoc ps k hk, List.flatten_append]; simp
  rw [joinL_length, joinL, joinL, e, List.take_append]
  congr 1
  generalize (ps.take k).flatten.length = f
  generalize ps[k] = us
  rw [show 16385 - min 16385 f = 16385 - f by omega]
  rcases Nat.le_total (16385 - f) us.length with h | h
  · rw [Nat.min_eq_left h]
  · rw [Nat.min_eq_right h, List.take_of_length_le h, List.take_of_length_le (Nat.le_refl _)]
set_option maxRecDepth 100000 in
set_option maxHeartbeats 800000 in
theorem joined_any (D : Option Addr) (d m L : Nat) (ps : List (List UInt8)) (w : World) (hpl : ps.length = m) (hP : Parts w w.heap.size D ps) (hm : m ≤ 1000000) (hL : (joinL ps).length = L) :
    Calls Tryd.prog 26 #[.slice D m d] w (Gives w (joinL ps) L) := by
  have HPL := Lib.hid hpl
  have HFL := Lib.hid hL
  clear hpl hL
  have h0 : Owns w w.heap.size (.slice none 0 0) (joinL (ps.take 0)) := ⟨by simp [joinL], .inl ⟨rfl, by simp [joinL]⟩⟩
  have H0 := Lib.hid h0
  clear h0
  go_enter Tryd.func26, Tryd.ntmps26
  go_wp2
  go_loopw [3, 9] (fun v i wr => ∃ j : Nat, j ≤ m ∧ i = .int .i64 j ∧ Below w.heap.size w wr ∧ Owns wr w.heap.size v (joinL (ps.take j))) (fun _ i _ => m - (intOf i).toNat)
  case atStart => exact ⟨0, Nat.zero_le _, rfl, Below.refl _ _, H0.out⟩
  case round =>
    obtain ⟨j, hj, rfl, hB, hO⟩ := hrel
    by_cases hlt : j < m
    · have hlt2 : j < ps.length := by rw [HPL.out]; exact hlt
      obtain ⟨b, off, A1, c1, rfl, hcl, hr1, h1, h2, h3⟩ := (hP.below hB).at j hlt2
      have HS := Lib.hid (joinL_next ps j hlt2)
      have HJ := Lib.hid (joinL_length (ps.take j))
      generalize ps[j] = us at *
      generalize hul : us.length = q at *
      replace hul := Lib.hid hul
      generalize hF : joinL (ps.take j) = F at *
      replace hF := Lib.hid hF
      obtain ⟨A2, c2, hv, h4, h5, h6, h7⟩ := hO.form2
      clear h4 h5 h6 h7
      subst hv
      obtain ⟨f, hf⟩ : ∃ f, F.length = f := ⟨_, rfl⟩
      rw [hf] at hO
      rw [hf]
      have hf2 : f ≤ 16385 := by have := HJ.out; omega
      replace hf := Lib.hid hf
      obtain ⟨t, ht⟩ : ∃ t, min (16385 - f) q = t := ⟨_, rfl⟩
      have ht2 : t ≤ q := by omega
      have hsz := hB.size
      have HT := Lib.hid ht
      clear ht
      go_wp2_with (first
        | (refine min_step rfl (.tmp 18) (.tmp 20) rfl _ _ t rfl rfl ?_ ?_
           · have := HT.out; omega)
        | (refine cut_to rfl (.tmp 17) (.tmp 21) rfl A1 q c1 t _ rfl rfl rfl (by omega) ?_)
        | (at_builtin
           refine append_row rfl (.tmp 16) (.tmp 22) rfl w.heap.size _ F (us.take t) _ (cutA A1 0 c1) c1 rfl hO (by rw [List.length_take, hul.out, Nat.min_eq_left ht2]; rfl) (fun h => h3 (cutA_none h)) ((hr1.cutTo t c1 (by rw [hul.out]; exact h1)).more hsz) (by rw [hf.out, List.length_take]; have := HT.out; omega) hsz ?_
           intro v7 w7 hO7 hB7))
      go_roundw
      case rel => exact ⟨j + 1, by omega, by go_num, hB.trans hB7, by rw [HS.out, hf.out, HT.out]; exact hO7⟩
      case measure => simp [intOf]; omega
    · obtain rfl : j = m := by omega
      rw [List.take_of_length_le (by rw [HPL.out]; exact Nat.le_refl _)] at hO
      obtain ⟨A', c', hv, h1, h2, h3, h4⟩ := hO.form2
      rw [HFL.out] at hv h1
      subst hv
      go_wp2
      go_ret
      exact ⟨A', c', rfl, h3, h1, h2, h4, hB⟩
/-- 32 noughts. (Named, so that a walk leaves them whole.) -/
def nought32 : List UInt8 := List.replicate 32 0
/-- x bytes by a label. -/
def labelL (sec lb ctx : List UInt8) (x : Nat) : List UInt8 := hkdf sec (infoL lb ctx x) x
theorem labelL_length (sec lb ctx : List UInt8) (x : Nat) (hx : x ≤ 8160) : (labelL sec lb ctx x).length = x := hkdf_length _ _ _ hx
set_option maxRecDepth 100000 in
set_option maxHeartbeats 800000 in
theorem label_any (B : Option Addr) (d m n x : Nat) (sec lb ctx : List UInt8) (w : World) (hK : Tabs w) (hg : 21 ≤ w.heap.size) (hs : sec.length = 32) (hl : lb.length = n) (hn : n ≤ 200) (hbl : ctx.length = m) (hb : Row w w.heap.size B ctx) (hB : B = none → d = 0) (hd : m ≤ d) (hd2 : d ≤ maxLen) (hm : m ≤ 16384) (hx : x ≤ 8160) :
    Calls Tryd.prog 15 #[hashVal sec, .string (str lb), .slice B m d, .int .i64 (x : Int)] w (GivesOk w (labelL sec lb ctx x) x) := by
  have HL := Lib.hid hl
  have HBL := Lib.hid hbl
  have HSL := Lib.hid hs
  clear hl hbl hs
  have HIL : Hid ((infoL lb ctx x).length = 16 + n + m) := by show _ = _; rw [infoL_length, HL.out, HBL.out]
  have HE : Hid (hkdf sec (infoL lb ctx x) x = labelL sec lb ctx x) := rfl
  go_enter Tryd.func15, Tryd.ntmps15
  go_wp2_with (first
    | (refine take_step rfl 30 _ rfl sec rfl ?_
       intro w0 hB0 hC0 hz0
       clear hz0))
  refine (info_any B d m n x lb ctx w0 HL.out hn HBL.out (hb.on hB0) hB hd hd2 hm hx).mono ?_
  rintro e w1 ⟨A1, c1, rfl, h1, h2, h3, h4, h5⟩
  have hB1 := below_then hB0 h5
  have hC1 := hC0.on h5
  clear hB0 hC0 h5
  go_wp2_with fail
  refine (expand_any _ A1 32 32 c1 (16 + n + m) x sec (infoL lb ctx x) w1 (hK.below hB1) (by have := hB1.size; omega) HSL.out hC1.all (fun h => by cases h) (Nat.le_refl _) (by unfold maxLen; omega) (by omega) HIL.out h4 h1 h2 h3 (by omega) hx).mono ?_
  rintro e w2 ⟨A2, c2, rfl, k1, k2, k3, k4, k5⟩
  rw [HE.out] at k4
  have hB2 := below_then hB1 k5
  clear HE HIL hB1 hC1 h4 k5
  generalize labelL sec lb ctx x = bs at *
  go_wp2
  go_ret2
  exact ⟨A2, c2, rfl, k1, k2, k3, k4, hB2⟩
set_option maxRecDepth 100000 in
theorem label_out (B : Option Addr) (d m : Nat) (sec : List UInt8) (s : ByteArray) (x : Int) (E : Addr) (w : World) (hx : x < 0 ∨ 8160 < x) (hE : w.cell? ⟨0, 0, none⟩ = some (errAt E)) :
    Calls Tryd.prog 15 #[hashVal sec, .string s, .slice B m d, .int .i64 x] w fun e w' => e = .returned (.tuple #[.slice none 0 0, errAt E]) ∧ Below w.heap.size w w' := by
  have HE := Lib.hid hE
  clear hE
  go_enter Tryd.func15, Tryd.ntmps15
  go_wp2_with (first
    | (refine take_step rfl 30 _ rfl sec rfl ?_
       intro w0 hB0 hC0 hz0
       clear hz0))
  refine (info_out B d m s x (errAt E) w0 hx ((hB0.cell (block_lt_of_cell HE.out)).trans HE.out)).mono ?_
  rintro e w1 ⟨rfl, nk, rfl⟩
  go_wp2
  go_ret2
  exact ⟨rfl, below_drewN hB0 nk⟩
set_option maxRecDepth 100000 in
theorem label_long (B : Option Addr) (d m n x : Nat) (sec lb : List UInt8) (E : Addr) (w : World) (hl : lb.length = n) (h : 200 < n ∨ 16384 < m) (hx : x ≤ 8160) (hE : w.cell? ⟨1, 0, none⟩ = some (errAt E)) :
    Calls Tryd.prog 15 #[hashVal sec, .string (str lb), .slice B m d, .int .i64 (x : Int)] w fun e w' => e = .returned (.tuple #[.slice none 0 0, errAt E]) ∧ Below w.heap.size w w' := by
  have HE := Lib.hid hE
  have HL := Lib.hid hl
  clear hE hl
  go_enter Tryd.func15, Tryd.ntmps15
  go_wp2_with (first
    | (refine take_step rfl 30 _ rfl sec rfl ?_
       intro w0 hB0 hC0 hz0
       clear hz0))
  refine (info_long B d m n x lb (errAt E) w0 HL.out h hx ((hB0.cell (block_lt_of_cell HE.out)).trans HE.out)).mono ?_
  rintro e w1 ⟨rfl, nk, rfl⟩
  go_wp2
  go_ret2
  exact ⟨rfl, below_drewN hB0 nk⟩
end Go.Proofs.YtmhelmmonkgmmaaDoor
namespace Go.Proofs.YtmhelmmonkgmmaaDoor
open Go.RowKit
set_option maxRecDepth 100000 in
set_option maxHeartbeats 800000 in
theorem secret_any (D : Option Addr) (d m n k : Nat) (sec lb : List UInt8) (ps : List (List UInt8)) (w : World) (hK : Tabs w) (hg : 21 ≤ w.heap.size) (hs : sec.length = 32) (hl : lb.length = n) (hn : n ≤ 200) (hpl : ps.length = m) (hP : Parts w w.heap.size D ps) (hm : m ≤ 1000000) (hfl : ps.flatten.length = k) (hk : k ≤ 16384) :
    Calls Tryd.prog 16 #[hashVal sec, .string (str lb), .slice D m d] w fun e w' => e = .returned (hashVal (labelL sec lb ps.flatten 32)) ∧ Below w.heap.size w w' := by
  have HL := Lib.hid hl
  have HPL := Lib.hid hpl
  have HSL := Lib.hid hs
  have HFL := Lib.hid hfl
  have HJE := Lib.hid (joinL_short ps (by omega))
  clear hl hpl hs hfl
  have HXL := Lib.hid (labelL_length sec lb ps.flatten 32 (by omega))
  go_enter Tryd.func16, Tryd.ntmps16
  go_wp2_with (first
    | (refine take_step rfl 30 _ rfl sec rfl ?_
       intro w0 hB0 hC0 hz0
       clear hz0)
    | (refine zero_step rfl 30 rfl 32 zero_h32 ?_
       intro w1 hb1 hR1 hz1
       clear hz1
       have hB1 := below_then hB0 hb1
       have hC1 := hC0.on hb1
       have HNE : Hid (w.heap.size < w0.heap.size) := hC0.lt
       clear hB0 hC0 hb1
       generalize w0.heap.size = gr at *))
  have hrg := hC1.rangeAll
  have hu := Tryd.underlying30
  have hi : (Tryd.prog.info? 30).map (·.size) = some (sec.map cellOf).length := by rw [List.length_map, HSL.out]; exact size_h32
  have HJ := Lib.hid (fun W (hW : Below w1.heap.size w1 W) => joined_any D d m k ps W HPL.out ((hP.below (hB1.trans (hW.mono hB1.size))).more (Nat.le_trans hB1.size hW.size)) hm (by rw [HJE.out, HFL.out]))
  have HQ := Lib.hid (fun W (hW : Below w1.heap.size w1 W) => show Tabs W ∧ 21 ≤ W.heap.size from ⟨hK.below (hB1.trans (hW.mono hB1.size)), by have := hB1.size; have := hW.size; omega⟩)
  clear hP
  go_region_held3 (fun w' => Below w1.heap.size w1 w' ∧ w'.rangeAt w.heap.size 0 (sec.map cellOf)) (first | exact ⟨(Below.refl _ _), hrg⟩ | exact ⟨(Below.refl _ _).drew, hrg⟩ | exact ⟨‹_›, rangeAt_below hrg ‹_›⟩)
    (first
      | (go_at_call 26
         refine (HJ.out _ (by first | exact (Below.refl _ _).drew | exact (Below.refl _ _))).mono ?_
         clear HJ
         rintro e w2 ⟨A2, c2, rfl, a1, a2, a3, a4, hb2⟩
         rw [HJE.out] at a4
         replace hb2 : Below w1.heap.size w1 w2 := Below.trans (Below.refl w1.heap.size w1).drew hb2)
      | (go_at_call 15
         refine (label_any A2 c2 k n 32 sec lb ps.flatten _ (HQ.out _ hb2).1 (HQ.out _ hb2).2 HSL.out HL.out hn HFL.out a4 a1 a2 a3 hk (by omega)).mono ?_
         rintro e w3 ⟨A3, c3, rfl, b1, b2, b3, b4, hb3⟩
         replace hb3 : Below w1.heap.size w1 w3 := below_then hb2 hb3
         clear a4))
  obtain ⟨b, off, rfl⟩ := b4.some (by rw [HXL.out]; omega)
  have hR3 := hR1.on hb3
  have hB3 := below_then hB1 hb3
  have hgr : w.heap.size ≤ gr := Nat.le_of_lt HNE.out
  have hat : ∀ w, (Instr.arrayAt 30 (.slice (some ⟨b, off, none⟩) 32 c3)).run Tryd.prog w = .ok (.pointer (some ⟨b, off, none⟩)) w := fun w => run_arrayAt w 30 _ 32 _ 32 c3 Tryd.underlying30 (Nat.le_refl _)
  clear hrg hu hi hC1 hR1 hB1 hb2 hb3
  go_wp2_with (first
    | (refine load_row_step rfl 30 (.tmp 21) rfl w3.heap.size b off 32 _ _ rfl b4 Tryd.underlying30 size_h32 HXL.out ?_)
    | (refine set_step rfl 30 _ _ rfl gr 32 _ (labelL sec lb ps.flatten 32) rfl rfl hR3 (by simp) size_h32 HXL.out ?_
       intro w4 hb4 hR4 _))
  exact ret_hash Tryd.results16 gr _ rfl hR4 Tryd.underlying30 size_h32 HXL.out rfl ⟨rfl, hB3.trans (hb4.below hgr hB3.size)⟩
theorem noughts_hash : ∀ w, (Instr.build 30 #[]).run Tryd.prog w = .ok (hashVal nought32) w := fun w => by
  have h := zero_h32 w
  have e : hashVal nought32 = .agg (List.replicate 32 (cellOf 0)).toArray := by unfold hashVal nought32; rw [List.map_replicate]
  rw [e]
  simp [Instr.build, h, Instr.fill, Value.cells]
set_option maxRecDepth 100000 in
set_option maxHeartbeats 800000 in
theorem secret_none (D : Option Addr) (d m n k : Nat) (sec lb : List UInt8) (ps : List (List UInt8)) (E : Addr) (w : World) (hs : sec.length = 32) (hl : lb.length = n) (hpl : ps.length = m) (hP : Parts w w.heap.size D ps) (hm : m ≤ 1000000) (hfl : (joinL ps).length = k) (h : 200 < n ∨ 16384 < k) (hE : w.cell? ⟨1, 0, none⟩ = some (errAt E)) :
    Calls Tryd.prog 16 #[hashVal sec, .string (str lb), .slice D m d] w fun e w' => e = .returned (hashVal nought32) ∧ Below w.heap.size w w' := by
  have HL := Lib.hid hl
  have HPL := Lib.hid hpl
  have HSL := Lib.hid hs
  have HFL := Lib.hid hfl
  have HE := Lib.hid hE
  clear hl hpl hs hfl hE
  go_enter Tryd.func16, Tryd.ntmps16
  go_wp2_with (first
    | (refine take_step rfl 30 _ rfl sec rfl ?_
       intro w0 hB0 hC0 hz0
       clear hz0)
    | (refine zero_step rfl 30 rfl 32 zero_h32 ?_
       intro w1 hb1 hR1 hz1
       clear hz1
       have hB1 := below_then hB0 hb1
       have hC1 := hC0.on hb1
       have HNE : Hid (w.heap.size < w0.heap.size) := hC0.lt
       clear hB0 hC0 hb1
       generalize w0.heap.size = gr at *))
  have hrg := hC1.rangeAll
  have hu := Tryd.underlying30
  have hi : (Tryd.prog.info? 30).map (·.size) = some (sec.map cellOf).length := by rw [List.length_map, HSL.out]; exact size_h32
  have HJ := Lib.hid (fun W (hW : Below w1.heap.size w1 W) => joined_any D d m k ps W HPL.out ((hP.below (hB1.trans (hW.mono hB1.size))).more (Nat.le_trans hB1.size hW.size)) hm HFL.out)
  have HQ := Lib.hid (fun W (hW : Below w1.heap.size w1 W) => show W.cell? ⟨1, 0, none⟩ = some (errAt E) from ((hB1.trans (hW.mono hB1.size)).cell (block_lt_of_cell HE.out)).trans HE.out)
  clear hP
  go_region_held3 (fun w' => Below w1.heap.size w1 w' ∧ w'.rangeAt w.heap.size 0 (sec.map cellOf)) (first | exact ⟨(Below.refl _ _), hrg⟩ | exact ⟨(Below.refl _ _).drew, hrg⟩ | exact ⟨‹_›, rangeAt_below hrg ‹_›⟩)
    (first
      | (go_at_call 26
         refine (HJ.out _ (by first | exact (Below.refl _ _).drew | exact (Below.refl _ _))).mono ?_
         clear HJ
         rintro e w2 ⟨A2, c2, rfl, a1, a2, a3, a4, hb2⟩
         replace hb2 : Below w1.heap.size w1 w2 := Below.trans (Below.refl w1.heap.size w1).drew hb2)
      | (go_at_call 15
         refine (label_long A2 c2 k n 32 sec lb E _ HL.out h (by omega) (HQ.out _ hb2)).mono ?_
         rintro e w3 ⟨rfl, hb3⟩
         replace hb3 : Below w1.heap.size w1 w3 := below_then hb2 hb3
         clear a4))
  have hR3 := hR1.on hb3
  have hB3 := below_then hB1 hb3
  have hgr : w.heap.size ≤ gr := Nat.le_of_lt HNE.out
  clear hrg hu hi hC1 hR1 hB1 hb2 hb3
  go_wp2_with (first
    | (refine build_step rfl 30 [] rfl [] rfl _ noughts_hash ?_)
    | (refine set_step rfl 30 _ _ rfl gr 32 _ nought32 rfl rfl hR3 (by simp) size_h32 rfl ?_
       intro w4 hb4 hR4 _))
  exact ret_hash Tryd.results16 gr _ rfl hR4 Tryd.underlying30 size_h32 (show nought32.length = 32 from rfl) rfl ⟨rfl, hB3.trans (hb4.below hgr hB3.size)⟩
end Go.Proofs.YtmhelmmonkgmmaaDoor
namespace Go.Proofs.YtmhelmmonkgmmaaDoor
open Go.RowKit
/-- What a call answers that makes a new row of these bytes. -/
def GivesF (w : World) (bs : List UInt8) (n : Nat) (e : Ending) (w' : World) : Prop :=
  ∃ b c, e = .returned (.slice (some ⟨b, 0, none⟩) n c) ∧ w.heap.size ≤ b ∧ n ≤ c ∧ c ≤ maxLen ∧ Row w' w'.heap.size (some ⟨b, 0, none⟩) bs ∧ Below w.heap.size w w'
set_option maxRecDepth 100000 in
set_option maxHeartbeats 800000 in
theorem expandRef_any (A B : Option Addr) (c n d m x : Nat) (key info : List UInt8) (w : World) (hl : key.length = n) (hr : Row w w.heap.size A key) (hA : A = none → c = 0) (hn : n ≤ 900000)
    (hbl : info.length = m) (hb : Row w w.heap.size B info) (hB : B = none → d = 0) (hm : m ≤ 700000) (hx : x ≤ 8160) :
    Calls Tryd.prog 13 #[.slice A n c, .slice B m d, .int .i64 (x : Int)] w (GivesF w (hkdf key info x) x) := by
  have HL := Lib.hid hl
  have HBL := Lib.hid hbl
  clear hl hbl
  have h1 := Owns.lit (base := w.heap.size) w [] (Nat.le_refl _) (by simp)
  have b1 : Below w.heap.size w (w.alloc (.cells (rowCells []) 5)) := (Below.refl _ _).alloc (Nat.le_refl _) _
  have z1 : (w.alloc (.cells (rowCells []) 5)).heap.size = w.heap.size + 1 := by simp
  have HE : Hid (rowCells [] = #[]) := rfl
  rw [HE.out] at h1 b1 z1
  have h2 := h1.on ((Below.refl _ _).alloc (Nat.le_refl _) (.cells #[] 5))
  have b2 := b1.alloc b1.size (.cells #[] 5)
  have HO2 := Lib.hid h2
  have HB2 := Lib.hid b2
  clear h1 h2 b1 b2 z1
  go_enter Tryd.func13, Tryd.ntmps13
  go_wp2_with fail
  generalize (w.alloc (.cells #[] 5)).alloc (.cells #[] 5) = w2 at *
  go_loopw [7, 8, 9, 10] (fun v7 v8 i _ wr => ∃ (k : Nat) (A8 : Option Addr) (n8 c8 : Nat) (g l cap : Nat), k ≤ 255 ∧ i = .int .i64 ((k : Int) + 1) ∧ l = 32 * k ∧ v7 = .slice (some ⟨g, 0, none⟩) l cap ∧ v8 = .slice A8 n8 c8 ∧ Below w.heap.size w wr ∧ Owns wr w.heap.size (.slice (some ⟨g, 0, none⟩) l cap) (hkAll key info k) ∧ Part wr wr.heap.size (.slice A8 n8 c8) (hkT key info k)) (fun v7 _ _ _ _ => x - lenOf v7)
  case atStart => exact ⟨0, _, 0, 0, w.heap.size, 0, 0, Nat.zero_le _, rfl, rfl, rfl, rfl, HB2.out, HO2.out, .mk rfl .nil (fun h => by cases h) (Nat.le_refl _) (Nat.zero_le _)⟩
  case round =>
    obtain ⟨k, A8, n8, c8, g, l, cap, hk, rfl, hlk, rfl, rfl, hB3, hO3, hP3⟩ := hrel
    have HLK := Lib.hid hlk
    by_cases hlt : l < x
    · have hk254 : k ≤ 254 := by omega
      have i1 : (l : Int) < (x : Int) := by omega
      clear hlk hlt hk
      obtain ⟨A', c', hv, hrt, _, _, hAt⟩ := hP3
      injection hv with e1 e2 e3
      subst e1 e3
      have HN8 := Lib.hid e2
      clear e2
      have HT8 := Lib.hid (hkT_le key info k)
      have HTL := Lib.hid (hkT_length key info k)
      have HAN := Lib.hid (hkAll_next key info k)
      have HAL := Lib.hid (hkAll_length key info k)
      have HTN := Lib.hid (hkT_next key info k)
      have hO4 := Owns.lit (base := wr.heap.size) wr [] (Nat.le_refl _) (by simp)
      have hb4 : Below wr.heap.size wr (wr.alloc (.cells (rowCells []) 5)) := (Below.refl _ _).alloc (Nat.le_refl _) _
      rw [HE.out] at hO4 hb4
      have HO4 := Lib.hid hO4
      have HB4 := Lib.hid hb4
      clear hO4 hb4
      have hM : ∀ W : World, Row (W.alloc (.cells #[.int .u8 ((k : Int) + 1)] 5)) (W.heap.size + 1) (some ⟨W.heap.size, 0, none⟩) [UInt8.ofNat (k + 1)] := fun W => by
        have e8 : cellOf (UInt8.ofNat (k + 1)) = .int .u8 ((k : Int) + 1) := by
          show Value.int .u8 _ = _
          rw [UInt8.toNat_ofNat']
          congr 1
          omega
        rw [← e8]
        exact row_lit W [UInt8.ofNat (k + 1)] (0, 0)
      have HM := Lib.hid hM
      clear hM
      generalize hT : hkT key info k = tk at *
      replace hT := Lib.hid hT
      go_wp2_with (first
        | (at_builtin
           refine append_row rfl (.tmp 20) (.tmp 21) rfl wr.heap.size _ [] tk _ A8 c8 rfl HO4.out (by rw [← HN8.out]; rfl) hAt (hrt.on HB4.out) (by have := HT8.out; simp; omega) HB4.out.size ?_
           intro v5 w5 hO5 hb5
           rw [List.nil_append] at hO5
           replace hb5 := HB4.out.trans hb5
           clear HO4 HB4)
        | (at_builtin
           refine append_row rfl (.tmp 22) (.tmp 23) rfl wr.heap.size _ tk info _ B d rfl hO5 (by rw [HBL.out]; rfl) hB ((hb.on hB3).on hb5) (by rw [HBL.out]; have := HT8.out; omega) hb5.size ?_
           intro v6 w6 hO6 hb6
           replace hb6 := hb5.trans hb6
           clear hb5 hO5)
        | (at_builtin
           refine append_row rfl (.tmp 24) (.tmp 27) rfl wr.heap.size _ (tk ++ info) [UInt8.ofNat (k + 1)] _ _ 1 rfl (hO6.kept_alloc _) rfl (fun h => by cases h) (HM.out w6) (by rw [List.length_append, HBL.out]; have := HT8.out; simp; omega) (by have := hb6.size; simp; omega) ?_
           intro v7 w7 hO7 hb7
           replace hb7 := (hb6.alloc hb6.size _).trans hb7
           clear hb6 hO6))
      obtain ⟨A7, c7, hv7, _, _, hA7, hR7⟩ := hO7.form2
      obtain ⟨L7, hL7⟩ : ∃ L7, (tk ++ info ++ [UInt8.ofNat (k + 1)]).length = L7 := ⟨_, rfl⟩
      rw [hL7] at hv7
      have hLm : L7 ≤ 800000 := by rw [List.length_append, List.length_append, HBL.out] at hL7; have := HT8.out; simp at hL7; omega
      have HL7 := Lib.hid hL7
      subst hv7
      have hB7 := below_then hB3 hb7
      have hO8 := hO3.on hb7
      clear hL7 hO7 hb7 hB3 hO3 hrt HM
      refine (macRef_any A A7 c n c7 L7 key _ w7 HL.out (hr.on hB7) hA hn HL7.out hR7 hA7 hLm).mono ?_
      rintro e w8 ⟨rfl, hb8⟩
      rw [← HTN.out]
      have hB8 := below_then hB7 hb8
      have hO9 := hO8.on hb8
      have hg9 := (World.ownsRow.lt hO9 g rfl)
      clear hB7 hO8 hb8 hR7 HL7
      generalize hTn : hkT key info (k + 1) = tn at *
      replace hTn := Lib.hid hTn
      go_wp2_with (first
        | (refine put_step rfl rfl 29 (.tmp 10) (.tmp 29) rfl rfl 32 tn rfl rfl zero_r32 size_r32 HTL.out ?_
           intro w9 hb9 hC9 hz9
           have hB9 := below_then hB8 hb9
           have hO10 := hO9.on hb9
           clear hb9 hz9 hO9)
        | (at_builtin
           refine append_but rfl (.tmp 31) (.tmp 32) rfl w.heap.size g l cap (hkAll key info k) tn w9.heap.size (some ⟨w8.heap.size, 0, none⟩) 32 32 rfl hO10 rfl HTL.out (fun h => by cases h) hC9.all (by rw [HAL.out]; omega) hB9.size ?_
           intro v11 w11 hO11 hbut11
           rw [← HAN.out] at hO11
           obtain ⟨g5, c5, hv5, hc5, hm5, hg5, hR5⟩ := hO11.form_pos (by rw [hkAll_length]; omega)
           rw [hkAll_length] at hv5
           subst hv5))
      go_roundw
      case rel =>
        refine ⟨k + 1, _, 32, 32, g5, _, c5, by omega, by go_num, rfl, rfl, rfl, hB9.trans (hbut11.below hg9.1 hB9.size), hO11, ?_⟩
        rw [hTn.out]
        exact .mk HTL.out (hC9.all.but hbut11 (fun _ p hp => by cases hp; show w8.heap.size ≠ g; omega)) (fun h => by cases h) (Nat.le_refl _) (by unfold maxLen; omega)
      case measure =>
        have := HLK.out
        show x - lenOf (Value.slice _ _ _) < x - lenOf (Value.slice _ _ _)
        simp only [lenOf]
        omega
    · have i1 : ¬ (l : Int) < (x : Int) := by omega
      have hO4 := hO3.cutTo x (by omega)
      rw [hkdf_of key info k x hk (by omega)] at hO4
      obtain ⟨A', c', hv, h1, h2, h3, h4⟩ := hO4.form2
      injection hv with e1 e2 e3
      have HC : Hid (x ≤ cap) := by show _ ≤ _; rw [← e2] at h1; rw [e3]; exact h1
      subst e1 e3
      have HG := Lib.hid (hO3.far g rfl)
      clear hlk hP3 e2
      go_wp2_with (first
        | (refine cut_to rfl (.tmp 34) (.tmp 35) rfl (some ⟨g, 0, none⟩) l cap x _ rfl rfl rfl HC.out ?_
           rw [cutA_zero]))
      go_ret
      exact ⟨g, cap, rfl, HG.out, HC.out, h2, h4, hB3⟩
end Go.Proofs.YtmhelmmonkgmmaaDoor
namespace Go.Proofs.YtmhelmmonkgmmaaDoor
open Go.RowKit
theorem cell_div (n : Nat) (h : n ≤ 65535) : cellOf (UInt8.ofNat (n / 256)) = .int .u8 ((n : Int) / 256) := by
  show Value.int .u8 _ = _
  rw [UInt8.toNat_ofNat']
  congr 1
  omega
theorem cell_mod (n : Nat) : cellOf (UInt8.ofNat n) = .int .u8 ((n : Int) % 256) := by
  show Value.int .u8 _ = _
  rw [UInt8.toNat_ofNat']
  congr 1
theorem cell_eleven (n : Nat) (h : n ≤ 200) : cellOf (UInt8.ofNat (11 + n)) = .int .u8 ((11 : Int) + (n : Int)) := by
  show Value.int .u8 _ = _
  rw [UInt8.toNat_ofNat']
  congr 1
  omega
set_option maxRecDepth 100000 in
set_option maxHeartbeats 800000 in
theorem infoRef_any (B : Option Addr) (d m n x : Nat) (lb ctx : List UInt8) (w : World) (hl : lb.length = n) (hn : n ≤ 200) (hbl : ctx.length = m) (hb : Row w w.heap.size B ctx) (hB : B = none → d = 0) (hm : m ≤ 16384) (hx : x ≤ 8160) :
    Calls Tryd.prog 17 #[.string (str lb), .slice B m d, .int .i64 (x : Int)] w (Gives w (infoL lb ctx x) (16 + n + m)) := by
  have HL := Lib.hid hl
  have HBL := Lib.hid hbl
  clear hl hbl
  have HE : Hid (({ data := #[102, 101, 108, 108, 111, 119, 115, 104, 105, 112, 32] } : ByteArray) ++ str lb = str (labelPre ++ lb)) := str_append labelPre lb
  have HNL : Hid ((labelPre ++ lb).length = 11 + n) := by show _ = _; rw [List.length_append, HL.out]; rfl
  have HIL : Hid ((infoL lb ctx x).length = 16 + n + m) := by show _ = _; rw [infoL_length, HL.out, HBL.out]
  have HIE : Hid (two8 x ++ [UInt8.ofNat (11 + n)] ++ (labelPre ++ lb) ++ two8 m ++ ctx = infoL lb ctx x) := by
    show _ = _
    rw [infoL, HL.out, HBL.out]
    simp
  have hO0 := Owns.lit (base := w.heap.size) w (two8 x ++ [UInt8.ofNat (11 + n)]) (Nat.le_refl _) (by simp [two8])
  have hb0 : Below w.heap.size w (w.alloc (.cells (rowCells (two8 x ++ [UInt8.ofNat (11 + n)])) 5)) := (Below.refl _ _).alloc (Nat.le_refl _) _
  have hM : ∀ W : World, Row (W.alloc (.cells #[.int .u8 ((m : Int) / 256), .int .u8 ((m : Int) % 256)] 5)) (W.heap.size + 1) (some ⟨W.heap.size, 0, none⟩) (two8 m) := fun W => by
    rw [← cell_div m (by omega), ← cell_mod m]
    exact row_lit W (two8 m) (0, 0)
  have HM := Lib.hid hM
  clear hM
  have e0 : rowCells (two8 x ++ [UInt8.ofNat (11 + n)]) = #[.int .u8 ((x : Int) / 256), .int .u8 ((x : Int) % 256), .int .u8 ((11 : Int) + (n : Int))] := by
    rw [← cell_div x (by omega), ← cell_mod x, ← cell_eleven n hn]
    rfl
  rw [e0] at hO0 hb0
  have HO0 := Lib.hid hO0
  have HB0 := Lib.hid hb0
  clear hO0 hb0 e0
  have hsz : (str (labelPre ++ lb)).size = 11 + n := by rw [str_size, HNL.out]
  have hsz0 : (str lb).size = n := by rw [str_size, HL.out]
  have hcat := HE.out
  clear HE
  generalize labelPre ++ lb = name at *
  have H3 : Hid ((two8 x ++ [UInt8.ofNat (11 + n)]).length = 3) := rfl
  generalize two8 x ++ [UInt8.ofNat (11 + n)] = hd3 at *
  have hO0 := HO0.out
  rw [H3.out] at hO0
  replace HO0 := Lib.hid hO0
  clear hO0
  go_enter Tryd.func17, Tryd.ntmps17
  go_wp2_with (first
    | (at_builtin
       refine append_text rfl (.tmp 20) (.tmp 21) rfl w.heap.size (11 + n) _ hd3 name rfl HO0.out rfl HNL.out (by rw [H3.out]; omega) HB0.out.size ?_
       intro v1 w1 hO1 hb1
       replace hb1 := HB0.out.trans hb1
       have HL1 : Hid ((hd3 ++ name).length = 14 + n) := by show _ = _; rw [List.length_append, H3.out, HNL.out]; omega
       generalize hd3 ++ name = pre at *
       clear HO0 HB0)
    | (at_builtin
       refine append_row rfl (.tmp 23) (.tmp 32) rfl w.heap.size _ pre (two8 m) _ _ 2 rfl (hO1.kept_alloc _) rfl (fun h => by cases h) (HM.out w1) (by rw [HL1.out]; simp [two8]; omega) (by have := hb1.size; simp; omega) ?_
       intro v2 w2 hO2 hb2
       replace hb2 := (hb1.alloc hb1.size _).trans hb2
       clear hO1 hb1)
    | (at_builtin
       refine append_row rfl (.tmp 34) (.tmp 35) rfl w.heap.size _ (pre ++ two8 m) ctx _ B d rfl hO2 (by rw [HBL.out]; rfl) hB (hb.on hb2) (by rw [List.length_append, HL1.out, HBL.out]; simp [two8]; omega) hb2.size ?_
       intro v3 w3 hO3 hb3
       replace hb3 := hb2.trans hb3
       rw [HIE.out] at hO3
       clear hO2 hb2))
  obtain ⟨A', c', hv, h1, h2, h3, h4⟩ := hO3.form2
  rw [HIL.out] at hv h1
  subst hv
  go_ret
  exact ⟨A', c', rfl, h3, h1, h2, h4, hb3⟩
set_option maxRecDepth 100000 in
set_option maxHeartbeats 800000 in
theorem labelRef_any (B : Option Addr) (d m n x : Nat) (sec lb ctx : List UInt8) (w : World) (hs : sec.length = 32) (hl : lb.length = n) (hn : n ≤ 200) (hbl : ctx.length = m) (hb : Row w w.heap.size B ctx) (hB : B = none → d = 0) (hm : m ≤ 16384) (hx : x ≤ 8160) :
    Calls Tryd.prog 18 #[hashVal sec, .string (str lb), .slice B m d, .int .i64 (x : Int)] w (GivesF w (labelL sec lb ctx x) x) := by
  have HL := Lib.hid hl
  have HBL := Lib.hid hbl
  have HSL := Lib.hid hs
  clear hl hbl hs
  have HIL : Hid ((infoL lb ctx x).length = 16 + n + m) := by show _ = _; rw [infoL_length, HL.out, HBL.out]
  have HE : Hid (hkdf sec (infoL lb ctx x) x = labelL sec lb ctx x) := rfl
  go_enter Tryd.func18, Tryd.ntmps18
  go_wp2_with (first
    | (refine take_step rfl 29 _ rfl sec rfl ?_
       intro w0 hB0 hC0 hz0
       clear hz0))
  have HI := Lib.hid (fun W (hW : Below w0.heap.size w0 W) => infoRef_any B d m n x lb ctx W HL.out hn HBL.out ((hb.on hB0).on hW) hB hm hx)
  go_region_held3 (fun w' => Below w0.heap.size w0 w') (first | exact (Below.refl _ _) | exact (Below.refl _ _).drew | assumption)
    (first
      | (go_at_call 17
         refine (HI.out _ (by first | exact (Below.refl _ _).drew | exact (Below.refl _ _))).mono ?_
         clear HI
         rintro e w2 ⟨A2, c2, rfl, a1, a2, a3, a4, hb2⟩
         replace hb2 : Below w0.heap.size w0 w2 := Below.trans (Below.refl w0.heap.size w0).drew hb2)
      | (go_at_call 13
         refine (expandRef_any _ A2 32 32 c2 (16 + n + m) x sec (infoL lb ctx x) _ HSL.out (hC0.on hb2).all (fun h => by cases h) (by omega) HIL.out a4 a1 (by omega) hx).mono ?_
         rintro e w3 ⟨g3, c3, rfl, b1, b2, b3, b4, hb3⟩
         replace b1 : w0.heap.size ≤ g3 := Nat.le_trans hb2.size b1
         replace hb3 : Below w0.heap.size w0 w3 := below_then hb2 hb3
         rw [HE.out] at b4
         clear a4))
  have hB3 := below_then hB0 hb3
  go_wp2
  go_ret
  exact ⟨g3, c3, rfl, Nat.le_trans hB0.size b1, b2, b3, b4, hB3⟩
end Go.Proofs.YtmhelmmonkgmmaaDoor
namespace Go.Proofs.YtmhelmmonkgmmaaDoor
open Go.RowKit
theorem noughts_r32 : ∀ w, (Instr.build 29 #[]).run Tryd.prog w = .ok (hashVal nought32) w := fun w => by
  have h := zero_r32 w
  have e : hashVal nought32 = .agg (List.replicate 32 (cellOf 0)).toArray := by unfold hashVal nought32; rw [List.map_replicate]
  rw [e]
  simp [Instr.build, h, Instr.fill, Value.cells]
/-- 32 bytes of which the first k are written. -/
def secTo (bs : List UInt8) (k : Nat) : List UInt8 := bs.take k ++ List.replicate (32 - k) 0
theorem secTo_length (bs : List UInt8) (k : Nat) (hl : bs.length = 32) (hk : k ≤ 32) : (secTo bs k).length = 32 := by simp [secTo]; omega
theorem secTo_next (bs : List UInt8) (k : Nat) (hl : bs.length = 32) (hk : k < 32) : (secTo bs k).set k (bs[k]'(by omega)) = secTo bs (k + 1) := by
  rw [secTo, set_nextV _ k 32 _ 0 (by rw [List.length_take]; omega) hk, secTo, take_snoc bs k (by omega)]
theorem secTo_end (bs : List UInt8) (hl : bs.length = 32) : secTo bs 32 = bs := by simp [secTo, List.take_of_length_le, hl]
set_option maxRecDepth 100000 in
set_option maxHeartbeats 800000 in
theorem secretRef_any (B : Option Addr) (d m n : Nat) (sec lb ctx : List UInt8) (w : World) (hs : sec.length = 32) (hl : lb.length = n) (hn : n ≤ 200) (hbl : ctx.length = m) (hb : Row w w.heap.size B ctx) (hB : B = none → d = 0) (hm : m ≤ 16384) :
    Calls Tryd.prog 19 #[hashVal sec, .string (str lb), .slice B m d] w fun e w' => e = .returned (hashVal (labelL sec lb ctx 32)) ∧ Below w.heap.size w w' := by
  have HL := Lib.hid hl
  have HBL := Lib.hid hbl
  have HSL := Lib.hid hs
  clear hl hbl hs
  have HXL := Lib.hid (labelL_length sec lb ctx 32 (by omega))
  go_enter Tryd.func19, Tryd.ntmps19
  go_wp2_with (first
    | (refine take_step rfl 29 _ rfl sec rfl ?_
       intro w0 hB0 hC0 hz0
       clear hz0)
    | (refine zero_step rfl 29 rfl 32 zero_r32 ?_
       intro w1 hb1 hR1 hz1
       clear hz1
       have hB1 := below_then hB0 hb1
       have hC1 := hC0.on hb1
       have HN1 : Hid (w.heap.size < w0.heap.size) := hC0.lt
       clear hB0 hC0 hb1
       generalize w0.heap.size = gr at *)
    | (refine build_step rfl 29 [] rfl [] rfl _ noughts_r32 ?_)
    | (refine put_step rfl rfl 29 (.tmp 7) (.tmp 10) rfl rfl 32 nought32 rfl rfl zero_r32 size_r32 rfl ?_
       intro w2 hb2 hO2 hz2
       clear hz2
       have hB2 := below_then hB1 hb2
       have hC2 := hC1.on hb2
       have hR2 := hR1.on hb2
       have HN2 : Hid (gr < w1.heap.size) := hR1.lt
       have HN3 : Hid (w1.heap.size < w2.heap.size) := hO2.lt
       clear hB1 hC1 hR1 hb2
       generalize w1.heap.size = go at *)
    | (refine get_step rfl 29 (.tmp 3) rfl w.heap.size 32 sec _ rfl hC2 Tryd.underlying29 size_r32 HSL.out ?_))
  refine (labelRef_any B d m n 32 sec lb ctx w2 HSL.out HL.out hn HBL.out (hb.on hB2) hB hm (by omega)).mono ?_
  rintro e w3 ⟨g3, c3, rfl, a1, a2, a3, a4, hb3⟩
  have hB3 := below_then hB2 hb3
  have hR3 := hR2.on hb3
  have hO3 := hO2.on hb3
  have hno : g3 ≠ go := by have := HN3.out; omega
  clear hB2 hC2 hR2 hO2 hb3
  generalize hbs : labelL sec lb ctx 32 = bs at *
  replace hbs := Lib.hid hbs
  have H0 : Hid (nought32 = secTo bs 0) := rfl
  have HO3 := Lib.hid hO3
  have HR3 := Lib.hid hR3
  clear hO3 hR3
  generalize nought32 = no at *
  have hle : w.heap.size ≤ gr := Nat.le_of_lt HN1.out
  have hle2 : gr < go := HN2.out
  go_wp2_with fail
  go_loopw [8, 9, 16] (fun _ _ i wr => ∃ k : Nat, k ≤ 32 ∧ i = .int .i64 k ∧ But go w3 wr ∧ Cells wr go ((secTo bs k).map cellOf) 29) (fun _ _ i _ => 32 - (intOf i).toNat)
  case atStart => exact ⟨0, Nat.zero_le _, rfl, But.refl _ _, by rw [← H0.out]; exact HO3.out⟩
  case round =>
    obtain ⟨k, hk, rfl, hbt, hC⟩ := hrel
    have hRow := a4.but hbt (fun _ p hp => by cases hp; exact hno)
    by_cases hlt : k < 32
    · have i1 : (k : Int) < 32 := by omega
      have hlt2 : k < bs.length := by rw [HXL.out]; exact hlt
      obtain ⟨b', off', hA', _, hc⟩ := hRow.at k hlt2
      cases hA'
      rw [Nat.zero_add] at hc
      have HS := Lib.hid (secTo_next bs k HXL.out hlt)
      have f1 := hC.frozen k
      obtain ⟨v1, c1⟩ : ∃ v, wr.cell? ⟨go, k, none⟩ = some v := ⟨_, hC.cell k (by rw [List.length_map, secTo_length _ _ HXL.out (by omega)]; exact hlt)⟩
      have hC' := hC.set k (cellOf bs[k])
      rw [← List.map_set, HS.out] at hC'
      have HC' := Lib.hid hC'
      have HB' := Lib.hid (hbt.setCell k (cellOf bs[k]))
      clear hC' hRow
      generalize bs[k] = u at *
      go_wp2
      go_roundw
      case rel => exact ⟨k + 1, by omega, by go_num, HB'.out, HC'.out⟩
      case measure => simp [intOf]; omega
    · obtain rfl : k = 32 := by omega
      rw [secTo_end bs HXL.out] at hC
      have hR4 : Cells wr gr (List.replicate 32 (cellOf 0)) 29 := HR3.out.but hbt (by omega)
      have hB4 := hB3.trans (hbt.below (Nat.le_of_lt (Nat.lt_of_le_of_lt hle hle2)) hB3.size)
      clear hRow
      go_wp2_with (first
        | (refine get_step rfl 29 (.tmp 7) rfl go 32 bs _ rfl hC Tryd.underlying29 size_r32 HXL.out ?_)
        | (refine set_step rfl 29 _ _ rfl gr 32 _ bs rfl rfl hR4 (by simp) size_r32 HXL.out ?_
           intro w5 hb5 hR5 _))
      exact ret_hash Tryd.results19 gr _ rfl hR5 Tryd.underlying29 size_r32 HXL.out rfl ⟨by rw [hbs.out], hB4.trans (hb5.below hle hB4.size)⟩
end Go.Proofs.YtmhelmmonkgmmaaDoor
namespace Go.Proofs.YtmhelmmonkgmmaaDoor
open Go.ChangeShapes Go.WideShapes Go.ChangeAt Go.RowKit

theorem own : ownKnob Tryd.prog.godebug = none := by kernel_rfl
theorem laidOut : laidOutB Tryd.prog = true := by kernel_rfl

/-- All arguments read as they did where nothing old has turned. -/
theorem trodAll_below {H : Type} {enc : TypeId × Value → H} {P : Program} (hl : laidOutB P = true) {W W' : World} (hb : Below W.heap.size W W') :
    ∀ (ts : List TypeId) (vs : List Value) (ds : List (DataW H)) (ps : List MemPlace), (ts.all fun t => P.readableRec t && decide (t < P.types.size)) = true → (∀ x ∈ ps, x.block < W.heap.size) →
      DataW.TrodAll enc P W 0 (fun _ => true) true ts vs ds ps → DataW.TrodAll enc P W' 0 (fun b => decide (b < W.heap.size)) true ts vs ds ps
  | [], [], [], ps, _, _, h => h
  | t :: ts, v :: vs, d :: ds, ps, hr, hlt, ⟨p, q, h1, h2, h3⟩ => by
    subst h3
    rw [List.all_cons, Bool.and_eq_true, Bool.and_eq_true] at hr
    exact ⟨p, q, Below.trod hl hr.1.1 (of_decide_eq_true hr.1.2) h1 hb (fun x hx => hlt x (List.mem_append_left _ hx)),
      trodAll_below hl hb ts vs ds q hr.2 (fun x hx => hlt x (List.mem_append_right _ hx)) h2, rfl⟩

/-- A law's last step. -/
theorem law_post {H : Type} {enc : TypeId × Value → H} {P : Program} {f : Func} {s : ChangeSpec} {tb : TypeId} {W W' : World} {args : Array Value} {ds gs : List (DataW H)} {before : List MemPlace}
    (hl : laidOutB P = true) (hbool : P.underlying tb = some .bool) (hres : f.resultTypes = #[tb]) (hts : (f.params.toList.all fun t => P.readableRec t && decide (t < P.types.size)) = true) (hvars : s.vars = [])
    (hfn : (s.fn H ds).results = [.lit (.bool true)] ∧ (s.fn H ds).args = ds ∧ (s.fn H ds).vars = [])
    (hW : DataW.Whole enc P f.params.toList s.vars false W args.toList ds gs before) (hb : Below W.heap.size W W') :
    s.post enc P f false true false false W args (.bool true) W' := by
  have hlt : ∀ p ∈ before, p.block < W.heap.size := fun p hp => hW.lt p hp
  have hW' := hW
  obtain ⟨p, q, hA, hV, rfl, hfz, hnd⟩ := hW
  rw [hvars] at hV
  obtain ⟨rfl, rfl⟩ := trodVars_none hV
  have e : ds ++ [] = ds := List.append_nil _
  refine ⟨ds, [], _, [], p, [], hW', ?_, ?_, ?_, hb.frame _ |> World.keptBut_mono (fun x hx => ⟨hx, .inr (.inl (by simpa using hx))⟩), fun h => by cases h⟩
  · rw [e, hfn.1, hres]; exact trodAll_mk1 (shut_bool hbool _)
  · rw [e, hfn.2.1]; exact trodAll_below hl hb _ _ _ _ hts (fun x hx => hlt x (by simpa using hx)) hA
  · rw [e, hfn.2.2, hvars]; rfl

theorem word32 {n : Int} (h : (Lit.int .u32 n).wf = true) : ∃ x : BitVec 32, n = (x.toNat : Int) := by
  have := bounds_u32 h
  exact ⟨BitVec.ofNat 32 n.toNat, by rw [BitVec.toNat_ofNat]; omega⟩
theorem word64 {n : Int} (h : (Lit.int .u64 n).wf = true) : ∃ x : BitVec 64, n = (x.toNat : Int) := by
  have := bounds_u64 h
  exact ⟨BitVec.ofNat 64 n.toNat, by rw [BitVec.toNat_ofNat]; omega⟩

/-- An array of integers that comes in by value. -/
theorem open_intarr {H : Type} {enc : TypeId × Value → H} {P : Program} {W : World} {r : Reach} {b0 base : Nat} {spare : Nat → Bool} {held : Bool} {t e : TypeId} {n : Nat} {k : IntKind} {v : Value} {d : DataW H} {p : List MemPlace}
    (ht : P.underlying t = some (.array n e)) (he : P.underlying e = some (.int k)) (hc : P.cellsOf e = 1) (hC : P.cellsOf t = n)
    (hv : Value.okWide P W r b0 t v) (h : DataW.Trod enc P W base spare held t v d p) :
    ∃ zs : List Int, v = .agg (zs.map (Value.int k)).toArray ∧ zs.length = n ∧ ∀ z ∈ zs, (Lit.int k z).wf = true := by
  simp only [Value.okWide, ht] at hv
  obtain ⟨⟨cs⟩, rfl, hsz, _⟩ := hv
  obtain ⟨fuel, hf⟩ := h
  obtain ⟨xs, m, rfl, hx, hl, hn, hel⟩ := DataW.trod_array ht hf
  simp only [Value.cells] at hl hel
  rw [hC] at hl
  have hi : ∀ i, i < n → ∃ z, cs[i]? = some (.int k z) ∧ (Lit.int k z).wf = true := by
    intro i hi
    have h1 := hel i hi
    rw [hc, Nat.mul_one, List.getElem?_eq_getElem (by omega)] at h1
    obtain ⟨z, e1, _, e3⟩ := DataW.trod_int he h1
    refine ⟨z, ?_, e3⟩
    have e4 : ((cs.drop i).take 1)[0]? = some (.int k z) := by rw [e1]; rfl
    simpa using e4
  refine ⟨cs.map fun c => intOf c, ?_, by simpa using hl, ?_⟩
  · congr 1
    simp only [List.map_map]
    congr 1
    refine List.ext_getElem? fun i => ?_
    rw [List.getElem?_map]
    by_cases h : i < n
    · obtain ⟨z, hz, _⟩ := hi i h
      rw [hz]; rfl
    · rw [List.getElem?_eq_none (by omega)]; rfl
  · intro z hz
    obtain ⟨c, hc1, rfl⟩ := List.mem_map.1 hz
    obtain ⟨i, hi1, hi2⟩ := List.getElem_of_mem hc1
    obtain ⟨z, hz1, hz2⟩ := hi i (by omega)
    rw [List.getElem?_eq_getElem hi1, hi2] at hz1
    cases hz1
    exact hz2
end Go.Proofs.YtmhelmmonkgmmaaDoor
namespace Go.Proofs.YtmhelmmonkgmmaaDoor
open Go.ChangeShapes Go.WideShapes Go.ChangeAt Go.RowKit
theorem cells_u8 : Tryd.prog.cellsOf 5 = 1 := by kernel_rfl
set_option maxRecDepth 100000 in
/-- A slice of bytes that comes in. -/
theorem open_bytes {H : Type} {enc : TypeId × Value → H} {W : World} {r : Reach} {b0 : Nat} {v : Value} {d : DataW H} {p : List MemPlace} (hv : Value.okWide Tryd.prog W r b0 22 v) (h : DataW.Trod enc Tryd.prog W 0 (fun _ => true) true 22 v d p) :
    ∃ A c bs, v = .slice A bs.length c ∧ (A = none → c = 0) ∧ Row W W.heap.size A bs ∧ bs.length ≤ c ∧ c ≤ maxLen := by
  obtain ⟨a0, len, cap, rfl⟩ := okWide_slice Tryd.underlying22 hv
  obtain ⟨fuel, hf⟩ := h
  rcases open_ints Tryd.underlying22 Tryd.underlying5 cells_u8 hf with ⟨hcs, _⟩ | ⟨x, l, c, zs, hcs, _, hl, hm, hz, _, hcell, hwz⟩
  · simp [Value.cells] at hcs
    obtain ⟨rfl, rfl, rfl⟩ := hcs
    exact ⟨none, 0, [], rfl, fun _ => rfl, .inl rfl, Nat.le_refl _, Nat.zero_le _⟩
  · simp [Value.cells] at hcs
    obtain ⟨rfl, rfl, rfl⟩ := hcs
    simp only [if_true] at hz
    refine ⟨some x, cap, (zs.take len).map fun z => UInt8.ofNat z.toNat, ?_, (fun h => by cases h), ?_, ?_, hm⟩
    · simp; omega
    · by_cases h0 : len = 0
      · subst h0; exact .inl (by simp)
      · obtain ⟨b, off, rfl, hc⟩ := ints_at hcell (by omega)
        have hlt := block_lt_of_cell (hc 0 (by omega))
        refine .inr ⟨b, off, rfl, hlt, fun j u hu => ?_⟩
        rw [List.getElem?_map] at hu
        have hj : j < len := by
          rcases Nat.lt_or_ge j len with h | h
          · exact h
          · rw [List.getElem?_eq_none (by rw [List.length_take]; omega)] at hu; cases hu
        have hjz : j < zs.length := by omega
        rw [List.getElem?_take_of_lt hj, List.getElem?_eq_getElem hjz] at hu
        simp only [Option.map_some, Option.some.injEq] at hu
        have hb := bounds_u8 (hwz zs[j] (List.getElem_mem _))
        rw [hc j hjz, ← hu]
        simp only [cellOf, UInt8.toNat_ofNat']
        simp [List.getD, hjz]
        omega
    · simp; omega
/-- The errors as the program's text lays them. -/
def errTexts : List (String × List UInt8) := [("fellowship/api.ErrRange", [102, 101, 108, 108, 111, 119, 115, 104, 105, 112, 58, 32, 114, 97, 110, 103, 101]), ("fellowship/api.ErrShort", [102, 101, 108, 108, 111, 119, 115, 104, 105, 112, 58, 32, 115, 104, 111, 114, 116]), ("fellowship/api.ErrLong", [102, 101, 108, 108, 111, 119, 115, 104, 105, 112, 58, 32, 108, 111, 110, 103]), ("fellowship/api.ErrForm", [102, 101, 108, 108, 111, 119, 115, 104, 105, 112, 58, 32, 102, 111, 114, 109]), ("fellowship/api.ErrKey", [102, 101, 108, 108, 111, 119, 115, 104, 105, 112, 58, 32, 107, 101, 121]), ("fellowship/api.ErrSign", [102, 101, 108, 108, 111, 119, 115, 104, 105, 112, 58, 32, 115, 105, 103, 110]), ("fellowship/api.ErrSeal", [102, 101, 108, 108, 111, 119, 115, 104, 105, 112, 58, 32, 115, 101, 97, 108]), ("fellowship/api.ErrEpoch", [102, 101, 108, 108, 111, 119, 115, 104, 105, 112, 58, 32, 101, 112, 111, 99, 104]), ("fellowship/api.ErrGroup", [102, 101, 108, 108, 111, 119, 115, 104, 105, 112, 58, 32, 103, 114, 111, 117, 112]), ("fellowship/api.ErrSender", [102, 101, 108, 108, 111, 119, 115, 104, 105, 112, 58, 32, 115, 101, 110, 100, 101, 114]), ("fellowship/api.ErrLeaf", [102, 101, 108, 108, 111, 119, 115, 104, 105, 112, 58, 32, 108, 101, 97, 102]), ("fellowship/api.ErrOffer", [102, 101, 108, 108, 111, 119, 115, 104, 105, 112, 58, 32, 111, 102, 102, 101, 114]), ("fellowship/api.ErrPath", [102, 101, 108, 108, 111, 119, 115, 104, 105, 112, 58, 32, 112, 97, 116, 104]), ("fellowship/api.ErrTag", [102, 101, 108, 108, 111, 119, 115, 104, 105, 112, 58, 32, 116, 97, 103]), ("fellowship/api.ErrNone", [102, 101, 108, 108, 111, 119, 115, 104, 105, 112, 58, 32, 110, 111, 110, 101]), ("fellowship/api.ErrRemoved", [102, 101, 108, 108, 111, 119, 115, 104, 105, 112, 58, 32, 114, 101, 109, 111, 118, 101, 100]), ("fellowship/api.ErrFull", [102, 101, 108, 108, 111, 119, 115, 104, 105, 112, 58, 32, 102, 117, 108, 108]), ("fellowship/api.ErrState", [102, 101, 108, 108, 111, 119, 115, 104, 105, 112, 58, 32, 115, 116, 97, 116, 101]), ("fellowship/api.ErrTwice", [102, 101, 108, 108, 111, 119, 115, 104, 105, 112, 58, 32, 116, 119, 105, 99, 101])]
theorem errs_of {W : World} (h : laidMetH Tryd.prog (errTexts.map fun x => (x.1, .iface "*errors.errorString" (.ptr (.agg [.lit (.string x.2)])))) W) : ∃ es, Errs W es := by
  rw [MakeChecks.laidMetH_plain _ _ _ (by kernel_rfl)] at h
  obtain ⟨ps, hv, hnd, hrows⟩ := h
  obtain ⟨es, h1, h2, _, h4⟩ := sentinels errTexts errVars ps (by kernel_rfl) (fun g hg => by
    have hall : (errVars.all fun g => ((Tryd.prog.globals[g]?).map (·.type)) == some 26) = true := by kernel_rfl
    simpa using List.all_eq_true.1 hall g hg) hv hnd hrows
  exact ⟨es, h1, h2, h4⟩
end Go.Proofs.YtmhelmmonkgmmaaDoor
namespace Go.Proofs.YtmhelmmonkgmmaaDoor
open Go.ChangeShapes Go.WideShapes Go.ChangeAt Go.RowKit
theorem var_lt {W : World} {name : String} {g : Nat} {cs : Array Value} {v : Value} (hg : Tryd.prog.globalNamed name = some g) (hv : W.var? Tryd.prog name = some cs) (h0 : cs[0]? = some v) : g < W.heap.size := by
  have h := World.var?_cell hg hv 0
  rw [h0] at h
  exact block_lt_of_cell (a := ⟨g, 0, none⟩) (by simpa using h)
theorem var_there {W : World} {name : String} {g : Nat} {cs : Array Value} (hg : Tryd.prog.globalNamed name = some g) (hv : W.var? Tryd.prog name = some cs) : g < W.heap.size := by
  rcases Nat.lt_or_ge g W.heap.size with h | h
  · exact h
  · simp [World.var?, hg, Array.getElem?_eq_none h] at hv
theorem row_of_ints {W : World} {a : Addr} {L : Nat} {zs : List Int} (hl : L ≤ zs.length) (hw : ∀ n ∈ zs, (Lit.int .u8 n).wf = true) (hc : ∀ i, i < zs.length → W.cell? (a.add i) = some (.int .u8 (zs.getD i 0))) :
    Row W W.heap.size (some a) ((zs.take L).map fun z => UInt8.ofNat z.toNat) := by
  by_cases h0 : L = 0
  · subst h0; exact .inl (by simp)
  · obtain ⟨b, off, rfl, hc2⟩ := ints_at hc (by omega)
    have hlt := block_lt_of_cell (hc2 0 (by omega))
    refine .inr ⟨b, off, rfl, hlt, fun j u hu => ?_⟩
    rw [List.getElem?_map] at hu
    have hj : j < L := by
      rcases Nat.lt_or_ge j L with h | h
      · exact h
      · rw [List.getElem?_eq_none (by rw [List.length_take]; omega)] at hu; cases hu
    have hjz : j < zs.length := by omega
    rw [List.getElem?_take_of_lt hj, List.getElem?_eq_getElem hjz] at hu
    simp only [Option.map_some, Option.some.injEq] at hu
    have hb := bounds_u8 (hw zs[j] (List.getElem_mem _))
    rw [hc2 j hjz, ← hu]
    simp only [cellOf, UInt8.toNat_ofNat']
    simp [List.getD, hjz]
    omega
theorem cells_bs : Tryd.prog.cellsOf 22 = 1 := by kernel_rfl
set_option maxRecDepth 100000 in
/-- A slice of slices of bytes that comes in. -/
theorem open_parts {H : Type} {enc : TypeId × Value → H} {W : World} {r : Reach} {b0 : Nat} {v : Value} {d : DataW H} {p : List MemPlace} (hv : Value.okWide Tryd.prog W r b0 52 v) (h : DataW.Trod enc Tryd.prog W 0 (fun _ => true) true 52 v d p) :
    ∃ D c ps, v = .slice D ps.length c ∧ Parts W W.heap.size D ps ∧ ps.length ≤ c ∧ c ≤ maxLen := by
  obtain ⟨a0, len, cap, rfl⟩ := okWide_slice Tryd.underlying52 hv
  obtain ⟨fuel, hf⟩ := h
  rcases Go.Deep.open_int_rows Tryd.underlying52 Tryd.underlying22 Tryd.underlying5 cells_bs cells_u8 hf with ⟨hcs, _⟩ | ⟨a, l, c, A, L, C, Z, hcs, _, hl, hm, _, hr⟩
  · simp [Value.cells] at hcs
    obtain ⟨rfl, rfl, rfl⟩ := hcs
    exact ⟨none, 0, [], rfl, .inl rfl, Nat.le_refl _, Nat.zero_le _⟩
  · simp [Value.cells] at hcs
    obtain ⟨rfl, rfl, rfl⟩ := hcs
    refine ⟨some a, cap, (List.range len).map fun r => ((Z r).take (L r)).map fun z => UInt8.ofNat z.toNat, by simp, ?_, by simpa using hl, hm⟩
    by_cases h0 : len = 0
    · subst h0; exact .inl (by simp)
    · obtain ⟨b, off, spot⟩ := a
      have hspot : spot = none := by simpa [Addr.add] using World.cell?_spot (hr 0 (by omega)).1
      subst hspot
      have hlt := block_lt_of_cell (hr 0 (by omega)).1
      refine .inr ⟨b, off, rfl, by simpa [Addr.add] using hlt, fun j us hu => ?_⟩
      have hj : j < len := by
        rcases Nat.lt_or_ge j len with h | h
        · exact h
        · rw [List.getElem?_eq_none (by simpa using h)] at hu; cases hu
      rw [List.getElem?_map, List.getElem?_range hj] at hu
      simp only [Option.map_some, Option.some.injEq] at hu
      subst hu
      obtain ⟨h1, h2, h3, h4, h5, h6, h7⟩ := hr j (by omega)
      rw [Go.WideShapes.add_plain] at h1
      have hlen : (((Z j).take (L j)).map fun z => UInt8.ofNat z.toNat).length = L j := by simp; omega
      refine ⟨_, h1, A j, C j, by rw [hlen], ?_, by rw [hlen]; exact h2, h3, h6⟩
      cases hA : A j with
      | none =>
        have := h6 hA
        exact .inl (List.eq_nil_of_length_eq_zero (by rw [hlen]; omega))
      | some a' => exact row_of_ints (by omega) h5 (fun i hi => (h7 a' hA).2 i (by omega))
/-- A list of laid variables in two parts. -/
theorem laid_split {W : World} : ∀ (l1 l2 : List (String × DataW Unit)) (ps : List MemPlace), DataW.LaidVars Tryd.prog W (l1 ++ l2) ps → ∃ p1 p2, ps = p1 ++ p2 ∧ DataW.LaidVars Tryd.prog W l1 p1 ∧ DataW.LaidVars Tryd.prog W l2 p2
  | [], l2, ps, h => ⟨[], ps, rfl, rfl, h⟩
  | x :: l1, l2, ps, h => by
    obtain ⟨g, t, cs, f, p, q, h1, h2, h3, h4, h5, rfl⟩ := h
    obtain ⟨p1, p2, rfl, h6, h7⟩ := laid_split l1 l2 q h5
    exact ⟨_, p2, by simp only [List.append_assoc], ⟨g, t, cs, f, p, p1, h1, h2, h3, h4, h6, rfl⟩, h7⟩
theorem errs_vars {W : World} {ps : List MemPlace} (hv : DataW.LaidVars Tryd.prog W (errTexts.map fun x => (x.1, .iface "*errors.errorString" (.ptr (.agg [.lit (.string x.2)])))) ps) (hnd : ps.Nodup)
    (hrows : ∀ b off, MemPlace.cell b off ∈ ps → (∃ c t, W.heap[b]? = some (.cells c t (0, 0))) ∧ ∀ u v, W.cell? ⟨b, off, none⟩ = some (.iface u v) → Value.okWide Tryd.prog W .any 0 u v) : ∃ es, Errs W es := by
  obtain ⟨es, h1, h2, _, h4⟩ := sentinels errTexts errVars ps (by kernel_rfl) (fun g hg => by
    have hall : (errVars.all fun g => ((Tryd.prog.globals[g]?).map (·.type)) == some 26) = true := by kernel_rfl
    simpa using List.all_eq_true.1 hall g hg) hv hnd hrows
  exact ⟨es, h1, h2, h4⟩
end Go.Proofs.YtmhelmmonkgmmaaDoor
namespace Go.Proofs.YtmhelmmonkgmmaaDoor
open Go.RowKit
theorem start_tab : (Rows.laid_fellowship_sha_start : DataW Unit) = Lib.tabData .u32 (shaStart.list.map fun x => (x.toNat : Int)) := by rfl
theorem rounds_tab : (Rows.laid_fellowship_sha_rounds : DataW Unit) = Lib.tabData .u32 (shaK.map fun x => (x.toNat : Int)) := by rfl
theorem tab_range {W : World} {name : String} {g : Nat} {cs : Array Value} (l : List (BitVec 32)) (hg : Tryd.prog.globalNamed name = some g) (hv : W.var? Tryd.prog name = some cs) (hc : cs.toList = (l.map fun x => (x.toNat : Int)).map fun z => Value.int .u32 z) : W.rangeAt g 0 (l.map wcell) := by
  intro j v hj
  have h := World.var?_cell hg hv j
  have e : cs[j]? = some v := by
    rw [← Array.getElem?_toList, hc, List.map_map]
    exact hj
  rw [e] at h
  simpa using h
theorem hash_eql (bs : List UInt8) (w : World) : (binOp .eql 30 (hashVal (shaSum bs)) (hashVal (shaSum bs))).run Tryd.prog w = .ok (.bool true) w := by
  have h := run_eql_bytes (P := Tryd.prog) w 30 5 32 Tryd.underlying30 Tryd.underlying5 (fun w => by
    obtain ⟨i0, hi0, hs0⟩ := Option.map_eq_some_iff.1 size_u8
    simp [sizeOf, typeInfo, hi0, hs0]) (shaSum bs) (shaSum bs) (shaSum_length bs) (shaSum_length bs)
  rw [beq_self_eq_true] at h
  exact h
theorem hash_neq (bs : List UInt8) (w : World) : (binOp .neq 30 (hashVal (shaSum bs)) (hashVal (shaSum bs))).run Tryd.prog w = .ok (.bool false) w := by
  have h := run_equalIn_bytes (P := Tryd.prog) w 9998 30 5 32 Tryd.underlying30 Tryd.underlying5 (fun w => by
    obtain ⟨i0, hi0, hs0⟩ := Option.map_eq_some_iff.1 size_u8
    simp [sizeOf, typeInfo, hi0, hs0]) (shaSum bs) (shaSum bs) (shaSum_length bs) (shaSum_length bs)
  rw [beq_self_eq_true] at h
  have h2 := run_neq_struct (P := Tryd.prog) w 30 ((shaSum bs).map cellOf).toArray ((shaSum bs).map cellOf).toArray
  unfold hashVal
  rw [h2]
  have h3 : (Op.equalIn 10000 30 (.agg ((shaSum bs).map cellOf).toArray) (.agg ((shaSum bs).map cellOf).toArray)).run Tryd.prog w = .ok true w := h
  rw [h3]
  rfl
theorem hash_guard (op : BinOp) (x y : Operand) (ds es : List UInt8) (w : World) : (eqGuard op 30 x y (hashVal ds) (hashVal es)).run Tryd.prog w = .ok () w := run_eqGuard_agg w op 30 x y _ _ (by kernel_rfl)
end Go.Proofs.YtmhelmmonkgmmaaDoor
namespace Go.Proofs.YtmhelmmonkgmmaaDoor
open Go.RowKit
theorem tabs_of {W : World} (h : laidMetH Tryd.prog [("fellowship/api.ErrRange", Rows.laid_fellowship_api_ErrRange), ("fellowship/api.ErrLong", Rows.laid_fellowship_api_ErrLong), ("fellowship/sha.start", Rows.laid_fellowship_sha_start), ("fellowship/sha.rounds", Rows.laid_fellowship_sha_rounds)] W) : Tabs W ∧ 21 ≤ W.heap.size := by
  rw [MakeChecks.laidMetH_plain _ _ _ (by kernel_rfl)] at h
  obtain ⟨ps, hv, _, _⟩ := h
  obtain ⟨g0, t0, cs0, f0, p0, q0, hg0, ht0, hv0, hd0, hq0, rfl⟩ := hv
  obtain ⟨g1, t1, cs1, f1, p1, q1, hg1, ht1, hv1, hd1, hq1, rfl⟩ := hq0
  obtain ⟨g2, t2, cs2, f2, p2, q2, hg2, ht2, hv2, hd2, hq2, rfl⟩ := hq1
  obtain ⟨g3, t3, cs3, f3, p3, q3, hg3, ht3, hv3, hd3, _, rfl⟩ := hq2
  have l0 := var_there hg0 hv0
  have l1 := var_there hg1 hv1
  have l2 := var_there hg2 hv2
  have l3 := var_there hg3 hv3
  obtain rfl : 0 = g0 := Option.some.inj ((show Tryd.prog.globalNamed "fellowship/api.ErrRange" = some 0 by kernel_rfl).symm.trans hg0)
  obtain rfl : 1 = g1 := Option.some.inj ((show Tryd.prog.globalNamed "fellowship/api.ErrLong" = some 1 by kernel_rfl).symm.trans hg1)
  obtain rfl : 19 = g2 := Option.some.inj ((show Tryd.prog.globalNamed "fellowship/sha.start" = some 19 by kernel_rfl).symm.trans hg2)
  obtain rfl : 20 = g3 := Option.some.inj ((show Tryd.prog.globalNamed "fellowship/sha.rounds" = some 20 by kernel_rfl).symm.trans hg3)
  obtain rfl : 84 = t2 := Option.some.inj ((show (Tryd.prog.globals[19]?).map (·.type) = some 84 by kernel_rfl).symm.trans ht2)
  obtain rfl : 91 = t3 := Option.some.inj ((show (Tryd.prog.globals[20]?).map (·.type) = some 91 by kernel_rfl).symm.trans ht3)
  rw [start_tab] at hd2
  rw [rounds_tab] at hd3
  have c2 := Lib.cells_of_tab Tryd.underlying84 Tryd.underlying61 (by kernel_rfl) (by kernel_rfl) hd2
  have c3 := Lib.cells_of_tab Tryd.underlying91 Tryd.underlying61 (by kernel_rfl) (by kernel_rfl) hd3
  exact ⟨⟨tab_range shaStart.list hg2 hv2 c2, tab_range shaK hg3 hv3 c3⟩, by omega⟩
end Go.Proofs.YtmhelmmonkgmmaaDoor
