/- Package derive: Secret. -/
import Derived.Test.YtmhelmmonkgmmaaDoorDLabel
import Derived.Deep.RegionHeld3
import Derived.Laws.Cover3
namespace Go.Proofs.YtmhelmmonkgmmaaDoor
open Go.RowKit
set_option maxRecDepth 100000 in
set_option maxHeartbeats 800000 in
theorem secret_any (D : Option Addr) (d m n k : Nat) (sec lb : List UInt8) (ps : List (List UInt8)) (w : World) (hK : Tabs w) (hg : 21 ≤ w.heap.size) (hs : sec.length = 32) (hl : lb.length = n) (hn : n ≤ 200) (hpl : ps.length = m) (hP : Parts w w.heap.size D ps) (hm : m ≤ 1000000) (hfl : ps.flatten.length = k) (hk : k ≤ 16384) :
    Calls Tryd.prog 16 #[hashVal sec, .string (str lb), .slice D m d] w fun e w' => e = .returned (hashVal (labelL sec lb ps.flatten 32)) ∧ Below w.heap.size w w' := by
  have HL := Lib.hid hl
  have HPL := Lib.hid hpl
  have HSL := Lib.hid hs
  have HFL := Lib.hid hfl
  have HJE := Lib.hid (joinL_short ps (by omega))
  clear hl hpl hs hfl
  have HXL := Lib.hid (labelL_length sec lb ps.flatten 32 (by omega))
  go_enter Tryd.func16, Tryd.ntmps16
  go_wp2_with (first
    | (refine take_step rfl 30 _ rfl sec rfl ?_
       intro w0 hB0 hC0 hz0
       clear hz0)
    | (refine zero_step rfl 30 rfl 32 zero_h32 ?_
       intro w1 hb1 hR1 hz1
       clear hz1
       have hB1 := below_then hB0 hb1
       have hC1 := hC0.on hb1
       have HNE : Hid (w.heap.size < w0.heap.size) := hC0.lt
       clear hB0 hC0 hb1
       generalize w0.heap.size = gr at *))
  have hrg := hC1.rangeAll
  have hu := Tryd.underlying30
  have hi : (Tryd.prog.info? 30).map (·.size) = some (sec.map cellOf).length := by rw [List.length_map, HSL.out]; exact size_h32
  have HJ := Lib.hid (fun W (hW : Below w1.heap.size w1 W) => joined_any D d m k ps W HPL.out ((hP.below (hB1.trans (hW.mono hB1.size))).more (Nat.le_trans hB1.size hW.size)) hm (by rw [HJE.out, HFL.out]))
  have HQ := Lib.hid (fun W (hW : Below w1.heap.size w1 W) => show Tabs W ∧ 21 ≤ W.heap.size from ⟨hK.below (hB1.trans (hW.mono hB1.size)), by have := hB1.size; have := hW.size; omega⟩)
  clear hP
  go_region_held3 (fun w' => Below w1.heap.size w1 w' ∧ w'.rangeAt w.heap.size 0 (sec.map cellOf)) (first | exact ⟨(Below.refl _ _), hrg⟩ | exact ⟨(Below.refl _ _).drew, hrg⟩ | exact ⟨‹_›, rangeAt_below hrg ‹_›⟩)
    (first
      | (go_at_call 26
         refine (HJ.out _ (by first | exact (Below.refl _ _).drew | exact (Below.refl _ _))).mono ?_
         clear HJ
         rintro e w2 ⟨A2, c2, rfl, a1, a2, a3, a4, hb2⟩
         rw [HJE.out] at a4
         replace hb2 : Below w1.heap.size w1 w2 := Below.trans (Below.refl w1.heap.size w1).drew hb2)
      | (go_at_call 15
         refine (label_any A2 c2 k n 32 sec lb ps.flatten _ (HQ.out _ hb2).1 (HQ.out _ hb2).2 HSL.out HL.out hn HFL.out a4 a1 a2 a3 hk (by omega)).mono ?_
         rintro e w3 ⟨A3, c3, rfl, b1, b2, b3, b4, hb3⟩
         replace hb3 : Below w1.heap.size w1 w3 := below_then hb2 hb3
         clear a4))
  obtain ⟨b, off, rfl⟩ := b4.some (by rw [HXL.out]; omega)
  have hR3 := hR1.on hb3
  have hB3 := below_then hB1 hb3
  have hgr : w.heap.size ≤ gr := Nat.le_of_lt HNE.out
  have hat : ∀ w, (Instr.arrayAt 30 (.slice (some ⟨b, off, none⟩) 32 c3)).run Tryd.prog w = .ok (.pointer (some ⟨b, off, none⟩)) w := fun w => run_arrayAt w 30 _ 32 _ 32 c3 Tryd.underlying30 (Nat.le_refl _)
  clear hrg hu hi hC1 hR1 hB1 hb2 hb3
  go_wp2_with (first
    | (refine load_row_step rfl 30 (.tmp 21) rfl w3.heap.size b off 32 _ _ rfl b4 Tryd.underlying30 size_h32 HXL.out ?_)
    | (refine set_step rfl 30 _ _ rfl gr 32 _ (labelL sec lb ps.flatten 32) rfl rfl hR3 (by simp) size_h32 HXL.out ?_
       intro w4 hb4 hR4 _))
  exact ret_hash Tryd.results16 gr _ rfl hR4 Tryd.underlying30 size_h32 HXL.out rfl ⟨rfl, hB3.trans (hb4.below hgr hB3.size)⟩
theorem noughts_hash : ∀ w, (Instr.build 30 #[]).run Tryd.prog w = .ok (hashVal nought32) w := fun w => by
  have h := zero_h32 w
  have e : hashVal nought32 = .agg (List.replicate 32 (cellOf 0)).toArray := by unfold hashVal nought32; rw [List.map_replicate]
  rw [e]
  simp [Instr.build, h, Instr.fill, Value.cells]
set_option maxRecDepth 100000 in
set_option maxHeartbeats 800000 in
theorem secret_none (D : Option Addr) (d m n k : Nat) (sec lb : List UInt8) (ps : List (List UInt8)) (E : Addr) (w : World) (hs : sec.length = 32) (hl : lb.length = n) (hpl : ps.length = m) (hP : Parts w w.heap.size D ps) (hm : m ≤ 1000000) (hfl : (joinL ps).length = k) (h : 200 < n ∨ 16384 < k) (hE : w.cell? ⟨1, 0, none⟩ = some (errAt E)) :
    Calls Tryd.prog 16 #[hashVal sec, .string (str lb), .slice D m d] w fun e w' => e = .returned (hashVal nought32) ∧ Below w.heap.size w w' := by
  have HL := Lib.hid hl
  have HPL := Lib.hid hpl
  have HSL := Lib.hid hs
  have HFL := Lib.hid hfl
  have HE := Lib.hid hE
  clear hl hpl hs hfl hE
  go_enter Tryd.func16, Tryd.ntmps16
  go_wp2_with (first
    | (refine take_step rfl 30 _ rfl sec rfl ?_
       intro w0 hB0 hC0 hz0
       clear hz0)
    | (refine zero_step rfl 30 rfl 32 zero_h32 ?_
       intro w1 hb1 hR1 hz1
       clear hz1
       have hB1 := below_then hB0 hb1
       have hC1 := hC0.on hb1
       have HNE : Hid (w.heap.size < w0.heap.size) := hC0.lt
       clear hB0 hC0 hb1
       generalize w0.heap.size = gr at *))
  have hrg := hC1.rangeAll
  have hu := Tryd.underlying30
  have hi : (Tryd.prog.info? 30).map (·.size) = some (sec.map cellOf).length := by rw [List.length_map, HSL.out]; exact size_h32
  have HJ := Lib.hid (fun W (hW : Below w1.heap.size w1 W) => joined_any D d m k ps W HPL.out ((hP.below (hB1.trans (hW.mono hB1.size))).more (Nat.le_trans hB1.size hW.size)) hm HFL.out)
  have HQ := Lib.hid (fun W (hW : Below w1.heap.size w1 W) => show W.cell? ⟨1, 0, none⟩ = some (errAt E) from ((hB1.trans (hW.mono hB1.size)).cell (block_lt_of_cell HE.out)).trans HE.out)
  clear hP
  go_region_held3 (fun w' => Below w1.heap.size w1 w' ∧ w'.rangeAt w.heap.size 0 (sec.map cellOf)) (first | exact ⟨(Below.refl _ _), hrg⟩ | exact ⟨(Below.refl _ _).drew, hrg⟩ | exact ⟨‹_›, rangeAt_below hrg ‹_›⟩)
    (first
      | (go_at_call 26
         refine (HJ.out _ (by first | exact (Below.refl _ _).drew | exact (Below.refl _ _))).mono ?_
         clear HJ
         rintro e w2 ⟨A2, c2, rfl, a1, a2, a3, a4, hb2⟩
         replace hb2 : Below w1.heap.size w1 w2 := Below.trans (Below.refl w1.heap.size w1).drew hb2)
      | (go_at_call 15
         refine (label_long A2 c2 k n 32 sec lb E _ HL.out h (by omega) (HQ.out _ hb2)).mono ?_
         rintro e w3 ⟨rfl, hb3⟩
         replace hb3 : Below w1.heap.size w1 w3 := below_then hb2 hb3
         clear a4))
  have hR3 := hR1.on hb3
  have hB3 := below_then hB1 hb3
  have hgr : w.heap.size ≤ gr := Nat.le_of_lt HNE.out
  clear hrg hu hi hC1 hR1 hB1 hb2 hb3
  go_wp2_with (first
    | (refine build_step rfl 30 [] rfl [] rfl _ noughts_hash ?_)
    | (refine set_step rfl 30 _ _ rfl gr 32 _ nought32 rfl rfl hR3 (by simp) size_h32 rfl ?_
       intro w4 hb4 hR4 _))
  exact ret_hash Tryd.results16 gr _ rfl hR4 Tryd.underlying30 size_h32 (show nought32.length = 32 from rfl) rfl ⟨rfl, hB3.trans (hb4.below hgr hB3.size)⟩
end Go.Proofs.YtmhelmmonkgmmaaDoor
