/- Part 4 of what the laws of this seat share: VSeq, VSum, WOrders, WLoops, WLoose. -/
import Derived.OwnWalkIn
import Derived.LoopNIn
import Derived.LoopIn
import Derived.Shelf.Abstract
import Derived.Deep.RegionHeld
import Derived.RegionTactic
import Derived.StillTail
import Derived.Test.YtoggkhjaghkpnaaDoorPart3
namespace Go.Proofs.YtoggkhjaghkpnaaDoor
open Go.RowKit
/-- 'b[l:]' of a block of 128 bytes. -/
theorem block_from (g l : Nat) (w : World) (h1 : l < 128) :
    (Instr.sliceAt 90 (.pointer (some ⟨g, 0, none⟩)) (some (.int .i64 (l : Int))) none none).run Tryd.prog w = .ok (.slice (some ⟨g, l, none⟩) (128 - l) (128 - l)) w := by
  obtain ⟨i0, hi0, hs0⟩ := Option.map_eq_some_iff.1 size_u8
  have h4 : (l : Int) ≤ 128 := by omega
  have h5 : ¬ 128 = l := by omega
  simp [Instr.sliceAt, Instr.sureAddr, run_underlying Tryd.underlying90, Instr.sliceBounds, run_sliceBound, sizeOf, typeInfo, hi0, hs0, h4, h5, Addr.add]
  exact fun e => e.symm
theorem RowG.cut {w : World} {G : Nat → Prop} {A : Option Addr} {us : List UInt8} (h : RowG w G A us) (l cap : Nat) (hl : us.length ≤ cap) : RowG w G (cutA A l cap) (us.drop l) := by
  unfold cutA
  split
  · exact .inl (List.drop_eq_nil_of_le (by omega))
  · rcases h with rfl | ⟨b, off, rfl, hb, hc⟩
    · exact .inl (by simp)
    · refine .inr ⟨b, off + l, by simp [Addr.add_mid], hb, fun j u hu => ?_⟩
      rw [List.getElem?_drop] at hu
      rw [Nat.add_assoc]
      exact hc (l + j) u hu
/-- The waiting bytes of a message of which c have been taken. -/
def Waits (ms rest : List UInt8) (c : Nat) : Prop := rest.length = 128 ∧ rest.take (c % 128) = (ms.drop (128 * (c / 128))).take (c % 128)
theorem waits_put {ms rest us : List UInt8} {c q : Nat} (h : Waits ms rest c) (hu : us.take q = (ms.drop c).take q) (hq : us.length = q ∨ q ≤ us.length) (hl : c % 128 + q ≤ 128) :
    (restPut rest (us.take q) (c % 128)).length = 128 ∧ (restPut rest (us.take q) (c % 128)).take (c % 128 + q) = (ms.drop (128 * (c / 128))).take (c % 128 + q) := by
  have hlen : (us.take q).length = q := by rw [List.length_take]; omega
  refine ⟨by rw [restPut_length _ _ _ (by rw [hlen, h.1]; exact hl)]; exact h.1, ?_⟩
  have e := restPut_take rest (us.take q) (c % 128) (by rw [hlen, h.1]; exact hl)
  rw [hlen] at e
  rw [e, h.2, hu, List.take_add, List.drop_drop, show 128 * (c / 128) + c % 128 = c by omega]
theorem waits_less {ms rest us : List UInt8} {c q : Nat} (h : Waits ms rest c) (hu : us.take q = (ms.drop c).take q) (hq : q ≤ us.length) (hl : c % 128 + q < 128) : Waits ms (restPut rest (us.take q) (c % 128)) (c + q) := by
  obtain ⟨h1, h2⟩ := waits_put h hu (.inr hq) (by omega)
  refine ⟨h1, ?_⟩
  rw [show (c + q) % 128 = c % 128 + q by omega, show (c + q) / 128 = c / 128 by omega]
  exact h2
theorem waits_full {ms rest us : List UInt8} {c q : Nat} (h : Waits ms rest c) (hu : us.take q = (ms.drop c).take q) (hq : q ≤ us.length) (hl : c % 128 + q = 128) : restPut rest (us.take q) (c % 128) = (ms.drop (128 * (c / 128))).take 128 := by
  obtain ⟨h1, h2⟩ := waits_put h hu (.inr hq) (by omega)
  rw [hl, List.take_of_length_le (by omega)] at h2
  exact h2
theorem waits_new {ms rest : List UInt8} {c : Nat} (h : rest.length = 128) (hc : c % 128 = 0) : Waits ms rest c := ⟨h, by rw [hc]; simp⟩
theorem rest_splice (rest us : List UInt8) (h : Nat) : splice (rest.map cellOf) h (us.map cellOf) = (restPut rest us h).map cellOf := by
  simp [splice, restPut, List.map_take, List.map_drop]
/-- Slices of bytes that stand at an address, in blocks of which G holds. -/
def PartsG (w : World) (G : Nat → Prop) (g : Nat) (ps : List (List UInt8)) : Prop := G g ∧ ∀ j us, ps[j]? = some us → ∃ v, w.cell? ⟨g, j, none⟩ = some v ∧ PartG w G v us
theorem PartsG.keep {w w' : World} {G : Nat → Prop} {g : Nat} {ps : List (List UInt8)} (h : PartsG w G g ps) (hk : ∀ b, G b → w'.heap[b]? = w.heap[b]?) : PartsG w' G g ps :=
  ⟨h.1, fun j us hu => by
    obtain ⟨v, h1, h2⟩ := h.2 j us hu
    exact ⟨v, (World.cell?_of_block (hk g h.1)).trans h1, h2.keep hk⟩⟩
/-- A block's bytes as yield is handed them. -/
def blockArg (ms : List UInt8) (k : Nat) : Array Value := #[hashVal ((ms.drop (128 * k)).take 128)]
/-- c bytes have been taken: so many rounds, the others wait. -/
def Takes (T : Nat → Prop) (l : Nat) (J : Nat → World → Prop) (W1 : World) (ms : List UInt8) (wr : World) (c : Nat) : Prop :=
  ∃ rest, Waits ms rest c ∧ Cells wr W1.heap.size (rest.map cellOf) 90 ∧ J (c / 128) wr ∧ Turns (fun b => (T b ∨ b = l) ∨ b = W1.heap.size) W1 wr
set_option maxRecDepth 100000 in
set_option maxHeartbeats 1000000 in
theorem blocks1_any (Bp g n c0 N : Nat) (ps : List (List UInt8)) (T : Nat → Prop) (w : World) (hl : ps.length = n) (hn1 : n ≤ 1000000) (hm : ps.flatten.length = 128 * N) (hT : ∀ k, T k → k < w.heap.size) (hBp : Bp < w.heap.size)
    (hb : w.cell? ⟨Bp, 0, none⟩ = some (.slice (some ⟨g, 0, none⟩) n c0)) (hP : PartsG w (fun b => b < w.heap.size ∧ ¬ T b) g ps) :
    SeqAll Tryd.prog 74 #[.pointer (some ⟨Bp, 0, none⟩)] N (blockArg ps.flatten) T w := by
  intro l J W1 hb1 hl1 hl2 hJ hY hJ0
  have HL := Lib.hid hl
  have HM := Lib.hid hm
  generalize hms : ps.flatten = ms at *
  replace hms := Lib.hid hms
  clear hl hm
  have hcp : W1.cell? ⟨Bp, 0, none⟩ = some (.slice (some ⟨g, 0, none⟩) n c0) := (hb1.cell (p := ⟨Bp, 0, none⟩) hBp).trans hb
  have hP1 := hP.keep (w' := W1) fun b hb => hb1.block b hb.1
  clear hP hb
  refine callsIn_of_wp Tryd.func74 rfl trivial ?_ rfl
  simp only [Tryd.ntmps74, List.size_toArray, List.length_cons, List.length_nil, Nat.reduceAdd, Nat.reduceSub, Array.replicate_succ, Array.replicate_zero, List.push_toArray, List.append_toArray, List.nil_append, List.cons_append]
  gi_wp2_with (refine one_in rfl (fun Q0 hQ0 => alloc_step rfl 90 rfl _ zero_block (fun w' hw' => by subst hw'; exact hQ0)) ?_
               have hC2 := Cells.new W1 (List.replicate 128 (cellOf 0)).toArray 90
               have hB2 : Below W1.heap.size W1 (W1.alloc (.cells (List.replicate 128 (cellOf 0)).toArray 90)) := (Below.refl _ _).alloc (Nat.le_refl _) _
               generalize W1.alloc (.cells (List.replicate 128 (cellOf 0)).toArray 90) = W2 at *
               have hcp2 := (hB2.cell (p := ⟨Bp, 0, none⟩) (by show Bp < _; omega)).trans hcp)
  have hst : Takes T l J W1 ms W2 0 := ⟨List.replicate 128 0, waits_new (by simp) rfl, by rw [List.map_replicate]; exact hC2, hJ _ _ _ hJ0 hB2, Turns.of_below hB2⟩
  clear hC2 hB2 hcp2 hJ0
  have hkeep : ∀ wr, Turns (fun b => (T b ∨ b = l) ∨ b = W1.heap.size) W1 wr → ∀ b, (b < w.heap.size ∧ ¬ T b) → wr.heap[b]? = W1.heap[b]? := fun wr ht b hb => ht.block b (by omega) (by
    rintro ((h | h) | h)
    · exact hb.2 h
    · omega
    · omega)
  have HKP := Lib.hid hkeep
  clear hkeep
  gi_loopw [4, 10] (fun h i wr => ∃ k : Nat, k ≤ n ∧ i = .int .i64 k ∧ h = .int .i64 (((ps.take k).flatten.length % 128 : Nat) : Int) ∧ Takes T l J W1 ms wr (ps.take k).flatten.length) (fun _ i _ => n - (intOf i).toNat)
  case atStart => exact ⟨0, Nat.zero_le _, rfl, rfl, hst⟩
  case round =>
    clear hst
    obtain ⟨k, hk, rfl, rfl, hst⟩ := hrel
    by_cases hlt : k < n
    · have hlt2 : k < ps.length := by rw [HL.out]; exact hlt
      obtain ⟨v, hc1, A, cap, rfl, hrow, hcap1, hcap2, hA⟩ := hP1.2 k _ (List.getElem?_eq_getElem hlt2)
      have HE := Lib.hid (show (ps.take (k + 1)).flatten.length = (ps.take k).flatten.length + ps[k].length by rw [take_snoc ps k hlt2, List.flatten_append]; simp)
      have hle2 := flatten_take_le ps (k + 1)
      rw [hms.out, HM.out] at hle2
      have hus : ps[k] = (ms.drop (ps.take k).flatten.length).take ps[k].length := by
        rw [← hms.out]
        conv => rhs; arg 2; arg 2; rw [← List.take_append_drop k ps, List.flatten_append]
        rw [List.drop_left, List.drop_eq_getElem_cons hlt2, List.flatten_cons, List.take_left]
      have hc2 : wr.cell? ⟨g, k, none⟩ = some (.slice A ps[k].length cap) := by
        obtain ⟨rest, _, _, _, ht⟩ := hst
        exact (World.cell?_of_block (HKP.out wr ht g hP1.1)).trans hc1
      rw [HE.out] at hle2
      generalize hEE : (ps.take (k + 1)).flatten.length = ee at *
      replace hEE := Lib.hid hEE
      generalize (ps.take k).flatten.length = c at *
      generalize ps[k] = us at *
      generalize hul : us.length = m at *
      have i1 : (0 : Int) ≤ (k : Int) := by omega
      have i2 : (k : Int) < (n : Int) := by omega
      have HU := Lib.hid hus
      have HUL := Lib.hid hul
      clear hus hul hc1
      gi_wp2
      gi_loopw [4, 6] (fun h p wr => ∃ (c m cap : Nat) (A : Option Addr) (us : List UInt8), h = .int .i64 ((c % 128 : Nat) : Int) ∧ p = .slice A m cap ∧ us.length = m ∧ m ≤ cap ∧ cap ≤ maxLen ∧ RowG W1 (fun b => b < w.heap.size ∧ ¬ T b) A us ∧ c + m = ee ∧ us = (ms.drop c).take m ∧ Takes T l J W1 ms wr c) (fun _ p _ => lenOf p)
      case atStart => exact ⟨c, m, cap, A, us, rfl, rfl, HUL.out, hcap1, hcap2, hrow, HE.out.symm, HU.out, hst⟩
      case round =>
        have hee : ee ≤ 128 * N := by have := HE.out; omega
        clear hst hc2 hrow hcap1 hcap2 hA hle2 HE HU HUL
        obtain ⟨c, m, cap, A, us, rfl, rfl, hul, hcap1, hcap2, hrow, hce, hus, rest, hw, hC, hj, ht⟩ := hrel
        have HU := Lib.hid hus
        have HUL := Lib.hid hul
        have HCE := Lib.hid hce
        have HW := Lib.hid hw
        have hrl := hw.1
        have HRL := Lib.hid hrl
        have hh128 : c % 128 < 128 := Nat.mod_lt _ (by omega)
        clear hus hul hce hw hrl
        by_cases hm0 : 0 < m
        · have hcut := block_from W1.heap.size (c % 128) wr hh128
          obtain ⟨q, hq⟩ : ∃ q, min m (128 - c % 128) = q := ⟨_, rfl⟩
          have hq1 : q ≤ m := by omega
          have hq2 : c % 128 + q ≤ 128 := by omega
          have hq3 : 0 < q := by omega
          have HQ := Lib.hid hq
          have HT1 : Hid (us.take (128 - c % 128) = us.take q) := by
            show _ = _
            have := HUL.out
            rcases Nat.lt_or_ge m (128 - c % 128) with h | h
            · rw [List.take_of_length_le (by omega), List.take_of_length_le (by omega)]
            · rw [show q = 128 - c % 128 by omega]
          have HT2 : Hid (us.take q = (ms.drop c).take q) := by show _ = _; rw [HU.out, List.take_take, Nat.min_eq_left hq1]
          have hthere : wr.there W1.heap.size (c % 128) q := hC.there _ _ (by rw [List.length_map, HRL.out]; exact hq2)
          have hrow2 := (hrow.keep (w' := wr) (HKP.out wr ht)).row (B := W1.heap.size) (fun b hb => Nat.lt_of_lt_of_le hb.1 hb1.size)
          have m1 : (0 : Int) < (m : Int) := by omega
          clear hq
          by_cases hf : c % 128 + q < 128
          · have HW2 := Lib.hid (waits_less HW.out HT2.out (by rw [HUL.out]; exact hq1) hf)
            have e1 : (c + q) % 128 = c % 128 + q := by omega
            have e2 : (c + q) / 128 = c / 128 := by omega
            have HE1 := Lib.hid e1
            have HE2 := Lib.hid e2
            clear e1 e2
            generalize hhd : c % 128 = h at *
            have f1 : (h : Int) + (q : Int) < 128 := by omega
            gi_wp2_with (first
              | (refine one_in rfl (fun Q0 hQ0 => copy_row rfl (.tmp 18) (.tmp 19) rfl W1.heap.size h (128 - h) (128 - h) m cap W1.heap.size q A us rfl rfl HUL.out HQ.out hrow2 hthere (fun w' hw' => by subst hw'; exact hQ0)) ?_
                 rw [HT1.out]
                 have hB3 : But W1.heap.size wr (wr.setCells W1.heap.size h ((us.take q).map cellOf)) := (But.refl _ _).setCells _ _
                 have hC3 := hC.setCells (cs := (us.take q).map cellOf) (o := h) (by rw [List.length_map, List.length_map, List.length_take, HUL.out, HRL.out]; omega)
                 rw [rest_splice] at hC3
                 generalize wr.setCells W1.heap.size h ((us.take q).map cellOf) = w3 at *)
              | (refine one_in rfl (fun Q0 hQ0 => cut_from rfl (.tmp 21) (.tmp 22) rfl A m cap q rfl rfl hq1 hQ0) ?_))
            go_roundw
            case rel =>
              refine ⟨c + q, m - q, cap - q, cutA A q cap, us.drop q, by rw [HE1.out]; go_num, rfl, by rw [List.length_drop, HUL.out], by omega, by omega, hrow.cut q cap (by rw [HUL.out]; exact hcap1), by have := HCE.out; omega, ?_, ?_⟩
              · rw [HU.out, List.drop_take, List.drop_drop]
              · refine ⟨_, HW2.out, hC3, ?_, ht.trans (Turns.of_but hB3 (.inr rfl))⟩
                rw [HE2.out]
                exact hJ _ _ _ hj (hB3.below (Nat.le_refl _) ht.size)
            case measure => simp only [lenOf]; omega
          · have hf2 : c % 128 + q = 128 := by omega
            have HB := Lib.hid (waits_full HW.out HT2.out (by rw [HUL.out]; exact hq1) hf2)
            have e1 : (c + q) % 128 = 0 := by omega
            have e2 : (c + q) / 128 = c / 128 + 1 := by omega
            have HE1 := Lib.hid e1
            have HE2 := Lib.hid e2
            have hkN : c / 128 < N := by have := HCE.out; omega
            have HBL : Hid (((ms.drop (128 * (c / 128))).take 128).length = 128) := by
              show _ = _
              rw [List.length_take, List.length_drop, HM.out]
              omega
            have HY : Hid (∀ W, J (c / 128) W → W1.heap.size ≤ W.heap.size → YieldAt Fence.wide 0 Tryd.prog l #[.agg (((ms.drop (128 * (c / 128))).take 128).map cellOf).toArray] W fun e W' => e = .returned (.bool true) ∧ J (c / 128 + 1) W' ∧ Turns (fun b => T b ∨ b = l) W W') := fun W h1 h2 => hY (c / 128) W hkN h1 h2
            clear e1 e2 hkN hf
            generalize hhd : c % 128 = h at *
            generalize hbk : (ms.drop (128 * (c / 128))).take 128 = bk at *
            have HX : Hid ((bk.map cellOf).toArray.size = 128) := by show _ = _; rw [List.size_toArray, List.length_map, HBL.out]
            have hi : (Tryd.prog.info? 90).map (·.size) = some (bk.map cellOf).toArray.size := by rw [HX.out]; exact size_block
            have f1 : (h : Int) + (q : Int) = 128 := by omega
            replace hbk := Lib.hid hbk
            replace hhd := Lib.hid hhd
            gi_wp2_with (first
              | (refine one_in rfl (fun Q0 hQ0 => copy_row rfl (.tmp 18) (.tmp 19) rfl W1.heap.size h (128 - h) (128 - h) m cap W1.heap.size q A us rfl rfl HUL.out HQ.out hrow2 hthere (fun w' hw' => by subst hw'; exact hQ0)) ?_
                 rw [HT1.out]
                 have hB3 : But W1.heap.size wr (wr.setCells W1.heap.size h ((us.take q).map cellOf)) := (But.refl _ _).setCells _ _
                 have hC3 := hC.setCells (cs := (us.take q).map cellOf) (o := h) (by rw [List.length_map, List.length_map, List.length_take, HUL.out, HRL.out]; omega)
                 rw [rest_splice, HB.out] at hC3
                 generalize wr.setCells W1.heap.size h ((us.take q).map cellOf) = w3 at *
                 generalize hvs : bk.map cellOf = vs at *
                 have hj3 := hJ _ _ _ hj (hB3.below (Nat.le_refl _) ht.size)
                 obtain ⟨fn, tmps, assign, body, hy, hR⟩ := HY.out w3 hj3 (Nat.le_trans ht.size hB3.size)
                 replace hvs := Lib.hid hvs)
              | (refine one_in rfl (fun Q0 hQ0 => cut_from rfl (.tmp 21) (.tmp 22) rfl A m cap q rfl rfl hq1 hQ0) ?_)
              | (refine one_in rfl (fun Q0 hQ0 => wpList_load_row rfl 90 _ rfl W1.heap.size rfl 90 _ (0, 0) _ hC3 Tryd.underlying90 rfl hi hQ0) ?_))
            refine ⟨rfl, hR.mono ?_⟩
            rintro e w4 ⟨rfl, hj4, ht4⟩
            gi_wp2
            go_roundw
            case rel =>
              refine ⟨c + q, m - q, cap - q, cutA A q cap, us.drop q, by rw [HE1.out]; rfl, rfl, by rw [List.length_drop, HUL.out], by omega, by omega, hrow.cut q cap (by rw [HUL.out]; exact hcap1), by have := HCE.out; omega, ?_, ?_⟩
              · rw [HU.out, List.drop_take, List.drop_drop]
              · refine ⟨bk, waits_new HBL.out HE1.out, ?_, ?_, ?_⟩
                · rw [hvs.out]
                  exact hC3.turns ht4 (by
                    rintro (h | h)
                    · have := hT _ h
                      have := hb1.size
                      omega
                    · omega)
                · rw [HE2.out]; exact hj4
                · exact (ht.trans (Turns.of_but hB3 (.inr rfl))).trans (ht4.mono fun _ h => .inl h)
            case measure => simp only [lenOf]; omega
        · obtain rfl : m = 0 := by omega
          have hcc : c = ee := by have := HCE.out; omega
          gi_wp2
          go_roundw
          case rel => exact ⟨k + 1, by omega, by go_num, by rw [hEE.out, hcc], by rw [hEE.out, ← hcc]; exact ⟨rest, HW.out, hC, hj, ht⟩⟩
          case measure => simp [intOf]; omega
    · obtain rfl : k = n := by omega
      have e1 : ps.take k = ps := List.take_of_length_le (by rw [HL.out]; omega)
      rw [e1, hms.out, HM.out] at hst
      gi_wp2
      go_end0
      obtain ⟨rest, _, _, hj, _⟩ := hst
      rw [Nat.mul_div_cancel_left _ (by omega : 0 < 128)] at hj
      exact ⟨⟨_, rfl⟩, hj⟩
end Go.Proofs.YtoggkhjaghkpnaaDoor
namespace Go.Proofs.YtoggkhjaghkpnaaDoor
open Go.RowKit Go.Shelf
theorem blocks_any (v : Value) (A : Option Addr) (n c : Nat) (w : World) (hv : v = .slice A n c) :
    Calls Tryd.prog 46 #[v] w fun e w' => e = .returned (.func (.func 74) #[] #[.pointer (some ⟨w.heap.size, 0, none⟩)]) ∧ Below w.heap.size w w' ∧ w'.cell? ⟨w.heap.size, 0, none⟩ = some v ∧ w'.heap.size = w.heap.size + 1 := by
  subst hv
  have HC := Lib.hid (Cells.new w #[.slice A n c] 32)
  have HB : Hid (Below w.heap.size w (w.alloc (.cells #[.slice A n c] 32))) := (Below.refl _ _).alloc (Nat.le_refl _) _
  have HS : Hid ((w.alloc (.cells #[.slice A n c] 32)).heap.size = w.heap.size + 1) := by show _ = _; simp
  go_enter Tryd.func46, Tryd.ntmps46
  go_wp2
  go_ret
  exact ⟨rfl, HB.out, HC.out.get rfl, HS.out⟩
/-- What stands between two rounds of Sum: k blocks have been taken. -/
def SumAt (w : World) (ms : List UInt8) (k : Nat) (W : World) : Prop :=
  Below w.heap.size w W ∧ TabsW W ∧ Cells W w.heap.size (List.replicate 64 (cellOf 0)) 54 ∧ Cells W (w.heap.size + 1) (chainVal (widChain ms k)) 84
theorem SumAt.start {w W : World} {ms : List UInt8} (h1 : Below w.heap.size w W) (h2 : TabsW W) (h3 : Cells W w.heap.size (List.replicate 64 (cellOf 0)) 54) (h4 : Cells W (w.heap.size + 1) (chainVal widStart) 84) : SumAt w ms 0 W :=
  ⟨h1, h2, h3, by unfold widChain; exact h4⟩
theorem SumAt.next {w W : World} {ms : List UInt8} {k : Nat} (h1 : Below w.heap.size w W) (h2 : TabsW W) (h3 : Cells W w.heap.size (List.replicate 64 (cellOf 0)) 54) (h4 : Cells W (w.heap.size + 1) (chainVal (widBlock (widChain ms k) ((ms.drop (128 * k)).take 128))) 84) : SumAt w ms (k + 1) W :=
  ⟨h1, h2, h3, by unfold widChain; exact h4⟩
theorem SumAt.keep {w W W' : World} {ms : List UInt8} {k B : Nat} (h : SumAt w ms k W) (hb : Below B W W') (hB : w.heap.size + 2 ≤ B) (hg1 : 2 < w.heap.size) (hg2 : 3 < w.heap.size) : SumAt w ms k W' :=
  ⟨h.1.trans (hb.mono (by omega)), h.2.1.keep hb (Nat.lt_of_lt_of_le hg1 (by omega)) (Nat.lt_of_lt_of_le hg2 (by omega)), h.2.2.1.below hb (by omega), h.2.2.2.below hb (by omega)⟩
set_option maxRecDepth 100000 in
set_option maxHeartbeats 1000000 in
theorem wideSum_any (D : Option Addr) (d n : Nat) (ps : List (List UInt8)) (w : World) (hK : TabsW w) (hl : ps.length = n) (hP : Parts w w.heap.size D ps) (hn1 : n ≤ 90000) (hn : ps.flatten.length ≤ 900000) :
    Calls Tryd.prog 20 #[.slice D n d] w (gvn (hashVal (widSum ps.flatten)) w) := by
  have HL := Lib.hid hl
  clear hl
  have hg1 := hK.lt.1
  have hg2 := hK.lt.2
  obtain ⟨ms, hms⟩ : ∃ ms, (ps ++ [widEnd ps.flatten.length]).flatten = ms := ⟨_, rfl⟩
  replace hms := Lib.hid hms
  have HZ : Hid ((chainVal widStart).toArray.size = 8) := rfl
  have hi0 : (Tryd.prog.info? 84).map (·.size) = some (chainVal widStart).toArray.size := by rw [HZ.out]; exact size_chain
  have HI0 : Hid ((Tryd.prog.info? 84).map (·.size) = some (chainVal widStart).length) := size_chain
  have H1 : Hid ((chainVal widStart).toArray.all (·.oneCell') = true) := vcells_one _
  have HR : Hid (∀ W, Below w.heap.size w W → W.rangeAt 2 0 (chainVal widStart)) := fun W hb => (hK.below hb).1
  refine (callsIn_wide (n := 0)).1 (callsIn_of_wp_marks Tryd.func20 rfl trivial (wpIn_wide.2 ?_))
  simp only [Tryd.ntmps20, List.size_toArray, List.length_cons, List.length_nil, Nat.reduceAdd, Nat.reduceSub, Array.replicate_succ, Array.replicate_zero, List.push_toArray, List.append_toArray, List.nil_append, List.cons_append]
  generalize hcs : chainVal widStart = cs at *
  replace hcs := Lib.hid hcs
  have HZ2 : Hid (cs.length = 8) := by show _ = _; rw [← hcs.out]; rfl
  go_wp2_with (first
    | (refine alloc_step rfl 54 rfl _ zero_apiwide ?_
       intro w1 hw1
       have hB1 : Below w.heap.size w w1 := by rw [hw1]; exact (Below.refl _ _).alloc (Nat.le_refl _) _
       have hR1 : Cells w1 w.heap.size (List.replicate 64 (cellOf 0)) 54 := by rw [hw1]; exact Cells.new w _ _
       have hs1 : w1.heap.size = w.heap.size + 1 := by rw [hw1]; simp
       have hrg := HR.out w1 hB1
       clear hw1)
    | (refine wpList_load_mid rfl 84 _ rfl 2 0 rfl cs _ hrg Tryd.underlying84 rfl HI0.out ?_)
    | (refine alloc_step rfl 84 rfl _ zero_chain ?_
       intro w2 hw2
       have hB2 : Below w.heap.size w w2 := by rw [hw2]; exact hB1.alloc hB1.size _
       have hR2 : Cells w2 w.heap.size (List.replicate 64 (cellOf 0)) 54 := by rw [hw2]; exact hR1.alloc _
       have hC2 : Cells w2 (w.heap.size + 1) (List.replicate 8 (vcell 0)) 84 := by rw [hw2, ← hs1]; exact Cells.new w1 _ _
       have hs2 : w2.heap.size = w.heap.size + 2 := by rw [hw2]; simp [hs1]
       have hT2 : w2.there (w.heap.size + 1) 0 cs.toArray.size := by rw [HZ.out]; exact hC2.there 0 8 (by simp)
       rw [hs1]
       clear hw2 hB1 hR1 hrg)
    | (refine wpList_store_mid rfl 84 _ _ rfl (w.heap.size + 1) 0 cs.toArray rfl rfl hT2 hi0 H1.out ?_))
  have hB3 : Below w.heap.size w (w2.setCells (w.heap.size + 1) 0 cs) := below_setCells hB2 (by omega) _ _
  have hR3 : Cells (w2.setCells (w.heap.size + 1) 0 cs) w.heap.size (List.replicate 64 (cellOf 0)) 54 := hR2.otherCells (by omega) _ _
  have hC3 : Cells (w2.setCells (w.heap.size + 1) 0 cs) (w.heap.size + 1) cs 84 := by
    have h := hC2.setCells (cs := cs) (o := 0) (by rw [HZ2.out]; simp)
    rw [splice_all _ _ (by rw [HZ2.out]; simp)] at h
    exact h
  have hs3 : (w2.setCells (w.heap.size + 1) 0 cs).heap.size = w.heap.size + 2 := by rw [(heap_setCells _ _ _ _).2.2.2.1]; exact hs2
  generalize w2.setCells (w.heap.size + 1) 0 cs = w3 at *
  rw [← hcs.out] at hC3
  have hS3 : SumAt w ms 0 w3 := SumAt.start hB3 (hK.below hB3) hR3 hC3
  clear hB2 hR2 hC2 hT2 hs2 hs1 hC3 hR3
  refine (ended_any D d n w.heap.size ps w3 HL.out hB3.size (hP.below hB3) (by omega) hn).mono ?_
  rintro e w4 ⟨g, c, rfl, hB4, hE4⟩
  go_wp2_with fail
  refine (blocks_any _ (some ⟨g, 0, none⟩) (n + 1) c w4 rfl).mono ?_
  rintro e w5 ⟨rfl, hB5, hc5, hs5⟩
  go_wp2_with fail
  have hB6 : Below w3.heap.size w3 w5 := hB4.trans (hB5.mono hB4.size)
  have hz4 := hB4.size
  have HMM : Hid (ms = widPadded ps.flatten) := by
    show _ = _
    rw [← hms.out, List.flatten_append, widPadded]
    simp
  have hlen : ms.length = 128 * (ms.length / 128) := by
    have := widPadded_mod ps.flatten
    rw [← HMM.out] at this
    omega
  have hPG : PartsG w5 (fun b => b < w5.heap.size ∧ ¬ b = w.heap.size + 1) g (ps ++ [widEnd ps.flatten.length]) := by
    have hmono : ∀ b, (b < w.heap.size ∨ (w3.heap.size ≤ b ∧ b < w4.heap.size)) → b < w5.heap.size ∧ ¬ b = w.heap.size + 1 := fun b hb => by omega
    refine ⟨hmono g (.inr ⟨hE4.1, hE4.2.1⟩), fun j us hu => ?_⟩
    obtain ⟨v, h1, h2⟩ := hE4.2.2 j us hu
    refine ⟨v, (hB5.cell (p := ⟨g, j, none⟩) hE4.2.1).trans h1, ?_⟩
    exact (h2.keep fun b hb => hB5.block b (by omega)).mono hmono
  have hseq := blocks1_any w4.heap.size g (n + 1) c (ms.length / 128) _ (fun b => b = w.heap.size + 1) w5 (by rw [List.length_append, HL.out]; rfl) (by omega) (by rw [hms.out]; exact hlen) (fun k hk => by omega) (by omega) hc5 hPG
  rw [hms.out] at hseq
  refine wp_rangeFunc_all rfl (enters_of Tryd.func74 (by kernel_rfl) rfl) hseq (fun _ => rfl) (fun k hk => by omega) (SumAt w ms) (fun k W W' h hb => h.keep hb (by omega) hg1 hg2) (hS3.keep hB6 (by omega) hg1 hg2) ?_ ?_
  · intro l k W hk hl1 hl2 hI
    have HBL : Hid (((ms.drop (128 * k)).take 128).length = 128) := by
      show _ = _
      rw [List.length_take, List.length_drop]
      omega
    have HN : Hid (chainVal (widChain ms (k + 1)) = chainVal (widBlock (widChain ms k) ((ms.drop (128 * k)).take 128))) := rfl
    refine region_in (fun h => by obtain ⟨_, _, h⟩ := h; exact h) (by intro o ho c; simp at ho; rcases ho with rfl | rfl <;> simp) ?_
    rw [show blockArg ms k = #[hashVal ((ms.drop (128 * k)).take 128)] from rfl, one_param]
    change wpList _ _ _ _ { tmps := #[.slice D n d, undef, .pointer (some ⟨w.heap.size, 0, none⟩), .pointer (some ⟨w.heap.size + 1, 0, none⟩), undef, .agg cs.toArray, .slice D n d, .slice (some ⟨g, 0, none⟩) (n + 1) c, .func (.func 74) #[] #[.pointer (some ⟨w4.heap.size, 0, none⟩)], .agg (((ms.drop (128 * k)).take 128).map cellOf).toArray, undef, undef, undef, undef, undef], defers := [] } W
    have hvl : Hid (((((ms.drop (128 * k)).take 128).map cellOf)).length = 128) := by show _ = _; rw [List.length_map, HBL.out]
    have hvo : Hid (∀ v ∈ ((ms.drop (128 * k)).take 128).map cellOf, v.oneCell' = true) := cells8_one _
    generalize (ms.drop (128 * k)).take 128 = bk at *
    generalize hvs : bk.map cellOf = vs at *
    replace hvs := Lib.hid hvs
    have HVS : Hid (vs.toArray.size = 128) := by show _ = _; rw [List.size_toArray, hvl.out]
    have hi : (Tryd.prog.info? 90).map (·.size) = some vs.toArray.size := by rw [HVS.out]; exact size_block
    have HI := Lib.hid hI
    clear hI hseq
    go_wp2_with (first
      | (refine alloc_step rfl 90 rfl _ zero_block ?_
         intro w6 hw6
         have hB7 : Below W.heap.size W w6 := by rw [hw6]; exact (Below.refl _ _).alloc (Nat.le_refl _) _
         have hC7 : Cells w6 W.heap.size (List.replicate 128 (cellOf 0)) 90 := by rw [hw6]; exact Cells.new W _ _
         clear hw6
         have hT7 : w6.there W.heap.size 0 vs.toArray.size := by rw [HVS.out]; exact hC7.there 0 128 (by simp))
      | (refine wpList_store_mid rfl 90 _ _ rfl W.heap.size 0 vs.toArray rfl rfl hT7 hi (all_oneCell_toArray hvo.out) ?_))
    have hC8 : Cells (w6.setCells W.heap.size 0 vs) W.heap.size vs 90 := by
      have h := hC7.setCells (cs := vs) (o := 0) (by rw [hvl.out]; simp)
      rw [splice_all _ _ (by rw [hvl.out]; simp)] at h
      exact h
    refine ⟨below_setCells hB7 (Nat.le_refl _) _ _, fun W₂ ht2 hI2 => ?_⟩
    have hC9 := hC8.turns ht2 (by omega)
    have hz2 := hC9.lt
    clear hC8 hC7 hT7 hB7 ht2
    change Code.wpIn _ _ _ _ _ { tmps := #[.slice D n d, undef, .pointer (some ⟨w.heap.size, 0, none⟩), .pointer (some ⟨w.heap.size + 1, 0, none⟩), .pointer (some ⟨W.heap.size, 0, none⟩), .agg cs.toArray, .slice D n d, .slice (some ⟨g, 0, none⟩) (n + 1) c, .func (.func 74) #[] #[.pointer (some ⟨w4.heap.size, 0, none⟩)], .agg vs.toArray, undef, undef, undef, undef, undef], defers := [] } W₂
    refine wpIn_block (region_in (fun h => by obtain ⟨_, _, h⟩ := h; exact h) (by intro o ho c; simp at ho; rcases ho with rfl | rfl | rfl | rfl <;> simp) ?_)
    obtain ⟨hI3, hT3, hR3, hL3⟩ := hI2
    have HO : Hid (∃ o : Wct, widChain ms k = o) := ⟨_, rfl⟩
    obtain ⟨o, ho⟩ := HO.out
    clear HO
    rw [ho] at hL3 HN
    obtain ⟨ys, hys⟩ : ∃ ys, chainVal o = ys := ⟨_, rfl⟩
    obtain ⟨zs, hzs⟩ : ∃ zs, chainVal (widBlock o bk) = zs := ⟨_, rfl⟩
    have HYL : Hid (ys.toArray.size = 8) := by show _ = _; rw [← hys]; rfl
    have HZL : Hid (zs.length = 8) := by show _ = _; rw [← hzs]; rfl
    have HZS : Hid (zs.toArray.size = 8) := by show _ = _; rw [List.size_toArray, HZL.out]
    have HZO : Hid (∀ v ∈ zs, v.oneCell' = true) := by
      show ∀ v ∈ zs, v.oneCell' = true
      rw [← hzs]
      intro v hv
      obtain ⟨x, _, rfl⟩ := List.mem_map.1 hv
      rfl
    rw [hys] at hL3
    have hiy : (Tryd.prog.info? 84).map (·.size) = some ys.toArray.size := by rw [HYL.out]; exact size_chain
    have hiz : (Tryd.prog.info? 84).map (·.size) = some zs.toArray.size := by rw [HZS.out]; exact size_chain
    have HY := Lib.hid hys
    have HZZ := Lib.hid hzs
    have HO := Lib.hid ho
    clear hys hzs ho HI
    go_wp2_with (first
      | (refine wpList_load_row rfl 84 _ rfl (w.heap.size + 1) rfl 84 _ (0, 0) _ hL3 Tryd.underlying84 rfl hiy ?_)
      | (refine wpList_load_row rfl 90 _ rfl W.heap.size rfl 90 _ (0, 0) _ hC9 Tryd.underlying90 rfl hi ?_))
    refine (worked_any o bk ys vs W₂ hT3 HY.out.symm hvs.out.symm HBL.out).mono ?_
    rintro e w7 ⟨rfl, hB8⟩
    rw [HZZ.out]
    have hL4 := hL3.below hB8 hL3.lt
    have hR4 := hR3.below hB8 hR3.lt
    have hT4 : w7.there (w.heap.size + 1) 0 zs.toArray.size := by rw [HZS.out]; exact hL4.there 0 8 (by rw [← List.size_toArray, HYL.out]; exact Nat.le_refl _)
    go_wp2_with (refine wpList_store_mid rfl 84 _ _ rfl (w.heap.size + 1) 0 zs.toArray rfl rfl hT4 hiz (all_oneCell_toArray HZO.out) ?_)
    have hY4 : ys.length = 8 := by rw [← List.size_toArray]; exact HYL.out
    have hL5 : Cells (w7.setCells (w.heap.size + 1) 0 zs) (w.heap.size + 1) zs 84 := by
      have h := hL4.setCells (cs := zs) (o := 0) (by rw [HZL.out, hY4]; exact Nat.le_refl _)
      rw [splice_all _ _ (by rw [HZL.out, hY4])] at h
      exact h
    have hR5 : Cells (w7.setCells (w.heap.size + 1) 0 zs) w.heap.size (List.replicate 64 (cellOf 0)) 54 := hR4.otherCells (by omega) _ _
    have hB9 : But (w.heap.size + 1) W₂ (w7.setCells (w.heap.size + 1) 0 zs) := (But.of_below hB8).setCells _ _
    generalize w7.setCells (w.heap.size + 1) 0 zs = w8 at *
    have hB10 : Below w.heap.size W₂ w8 := hB9.below (by omega) hI3.size
    rw [← HZZ.out, ← HN.out] at hL5
    exact ⟨Turns.of_but hB9 rfl, hI3.trans hB10, hT3.keep hB10 hg1 hg2, hR5, hL5⟩
  · intro W hI hsz hKd
    obtain ⟨hI3, hT3, hR3, hL3⟩ := hI
    have HD : Hid (words8 (widChain ms (ms.length / 128)).list = widSum ps.flatten) := by
      show _ = _
      rw [HMM.out]
      rfl
    obtain ⟨o, ho⟩ : ∃ o : Wct, widChain ms (ms.length / 128) = o := ⟨_, rfl⟩
    rw [ho] at hL3 HD
    obtain ⟨ys, hys⟩ : ∃ ys, chainVal o = ys := ⟨_, rfl⟩
    have HYL : Hid (ys.toArray.size = 8) := by show _ = _; rw [← hys]; rfl
    rw [hys] at hL3
    have hiy : (Tryd.prog.info? 84).map (·.size) = some ys.toArray.size := by rw [HYL.out]; exact size_chain
    have HY := Lib.hid hys
    clear hys ho hseq
    go_wp2_with (refine wpList_load_row rfl 84 _ rfl (w.heap.size + 1) rfl 84 _ (0, 0) _ hL3 Tryd.underlying84 rfl hiy ?_)
    refine (digest64_any o ys W HY.out.symm).mono ?_
    rintro e w6 ⟨rfl, hB7⟩
    rw [HD.out]
    have hR7 := hR3.below hB7 hR3.lt
    have hB8 := hI3.trans (hB7.mono hI3.size)
    have hKd2 : w6.heap[w5.heap.size]? = some (.deferred (some [])) := (hB7.block _ hsz).trans hKd
    have HV : Hid (hashVal (widSum ps.flatten) = .agg ((widSum ps.flatten).map cellOf).toArray) := rfl
    have HW : Hid (((widSum ps.flatten).map cellOf).length = 64) := by show _ = _; rw [List.length_map, widSum_length]
    have HP : Hid (∀ v ∈ (widSum ps.flatten).map cellOf, v.oneCell' = true) := cells8_one _
    rw [HV.out]
    generalize (widSum ps.flatten).map cellOf = vs at *
    have HS : Hid (vs.toArray.size = 64) := by show _ = _; rw [List.size_toArray, HW.out]
    have hi : (Tryd.prog.info? 54).map (·.size) = some vs.toArray.size := by rw [HS.out]; exact size_apiwide
    have hT : w6.there w.heap.size 0 vs.toArray.size := by rw [HS.out]; exact hR7.there 0 64 (by simp)
    go_wp2_with (refine wpList_store_mid rfl 54 _ _ rfl w.heap.size 0 vs.toArray rfl rfl hT hi (all_oneCell_toArray HP.out) ?_)
    have hC := hR7.setCells (cs := vs) (o := 0) (by simp [HW.out])
    rw [splice_all _ _ (by simp [HW.out])] at hC
    have hB9 : Below w.heap.size w (w6.setCells w.heap.size 0 vs) := below_setCells hB8 (Nat.le_refl _) _ _
    have hKd3 : (w6.setCells w.heap.size 0 vs).heap[w5.heap.size]? = some (.deferred (some [])) := ((heap_setCells _ _ _ _).2.2.2.2 _ (by omega)).trans hKd2
    generalize w6.setCells w.heap.size 0 vs = w8 at *
    rw [hs5] at hKd3
    refine ⟨by simp, .inl ⟨_, _, rfl, run_takeDeferred hKd3, ?_⟩⟩
    have hC2 : Cells (w8.putObj (w4.heap.size + 1) (.deferred none)) w.heap.size vs 54 := (World.putObj_heap_other (by omega)).trans hC
    exact ⟨_, results_cell_row Tryd.results20 _ _ w.heap.size 54 vs.toArray (0, 0) _ rfl hC2 Tryd.underlying54 rfl hi, by rw [HV.out], hB9.trans ((turns_putObj w8 (w4.heap.size + 1) _).below hB9.size (fun k e => by omega))⟩
end Go.Proofs.YtoggkhjaghkpnaaDoor
namespace Go.Proofs.YtoggkhjaghkpnaaDoor
open Go.RowKit
section
variable {P : Program} {ops : Array Oper} {Q : Exit → Act → World → Prop} {md : Region.Mode} {S : World → Prop} {c : Nat}
/-- Operation c waits for operation i. -/
def waitsFor (md : Region.Mode) (ops : Array Oper) (c i : Nat) : Bool := match ops[c]? with
  | some oc => oc.after.any fun e => Region.binds md e && e.on == i
  | none => false
/-- One operation can come up. -/
theorem wpAny_one {i : Nat} {o : Oper} {fuel : Nat} {listed : Array Bool} {a : Act} {w : World} (hr : Region.ready md ops listed = [i]) (ho : ops[i]? = some o)
    (h : ∀ K' : Act → World → Prop, Shut (∀ a w, wpAny P md ops Q fuel (listed.setIfInBounds i true) a w → K' a w) → if Region.wanted o (yielded ops a.tmps) = true then Oper.wp P o a w K' Q else K' (a.put o.dst undef) w) : wpAny P md ops Q (fuel + 1) listed a w :=
  wpAny_ready hr (by simp) (AllReady.cons ho h AllReady.nil)
/-- From here on the rest comes in the text's order. -/
theorem wpAny_rest {l : List Oper} {fuel : Nat} {listed : Array Bool} {a : Act} {w : World} (n : Nat) (hf : fuel = (l.drop n).length) (hB : Region.seqB md l.toArray (l.drop n).length n listed = true) (h : wpList P l.toArray Q (l.drop n) a w) : wpAny P md l.toArray Q fuel listed a w := by
  subst hf
  exact wpAny_of_seq (l.drop n) n listed a w (fun j => by simp [List.getElem?_drop]) hB h
end
theorem frame_of (n : Nat) (a : Act) (hs : a.tmps.size = n) (hd : a.defers = []) : ∃ u : Nat → Value, a = ⟨((List.range n).map u).toArray, []⟩ := by
  obtain ⟨t, d⟩ := a
  simp only at hs hd
  subst hd
  refine ⟨fun i => t.getD i undef, ?_⟩
  congr 1
  apply Array.ext_getElem?
  intro i
  by_cases h : i < n
  · simp [h, hs]
  · simp [h, hs]
section
variable {P : Program} {ops : Array Oper} {Q : Exit → Act → World → Prop} {md : Region.Mode}
/-- Whatever order the operations of L come up in, it comes to one of these ends (what is listed, how many are left). -/
def looseB (md : Region.Mode) (ops : Array Oper) (L : List Nat) (fins : List (Array Bool × Nat)) : Nat → Array Bool → Bool
  | 0, listed => fins.contains (listed, 0)
  | k + 1, listed => fins.contains (listed, k + 1) || (!(Region.ready md ops listed).isEmpty && (Region.ready md ops listed).all fun i => L.contains i && looseB md ops L fins k (listed.setIfInBounds i true))
theorem wpAny_loose {L : List Nat} {fins : List (Array Bool × Nat)} (I : Array Bool → Act → World → Prop)
    (hstep : ∀ i ∈ L, ∀ listed a w, I listed a w → i ∈ Region.ready md ops listed → wpOp P ops Q i (I (listed.setIfInBounds i true)) a w)
    (hend : ∀ f ∈ fins, ∀ a w, I f.1 a w → wpAny P md ops Q f.2 f.1 a w) :
    ∀ (k : Nat) (listed : Array Bool) (a : Act) (w : World), looseB md ops L fins k listed = true → I listed a w → wpAny P md ops Q k listed a w
  | 0, listed, a, w, hB, hI => hend (listed, 0) (by simpa [looseB] using hB) a w hI
  | k + 1, listed, a, w, hB, hI => by
    rw [looseB, Bool.or_eq_true] at hB
    rcases hB with hB | hB
    · exact hend (listed, k + 1) (by simpa using hB) a w hI
    rw [Bool.and_eq_true, List.all_eq_true] at hB
    refine ⟨fun h0 => ?_, fun i hi => ?_⟩
    · rw [h0] at hB
      simp at hB
    · have h := hB.2 i hi
      rw [Bool.and_eq_true] at h
      exact wpOp_mono (fun a' w' h' => wpAny_loose I hstep hend k _ a' w' h.2 h') (hstep i (by simpa using h.1) listed a w hI hi)
/-- What a loose operation finds: only new memory, the frame as it was but for the loose ones' slots, and what those yield that it waits for. -/
structure LooseAt (w0 : World) (a0 : Act) (slots : List (Nat × Nat)) (prop : Nat → Value → World → Prop) (listed : Array Bool) (a : Act) (w : World) : Prop where
  below : Below w0.heap.size w0 w
  size : a.tmps.size = a0.tmps.size
  defers : a.defers = a0.defers
  same : ∀ s, (∀ p ∈ slots, p.2 ≠ s) → a.tmps.getD s undef = a0.tmps.getD s undef
  fact : ∀ p ∈ slots, listed.getD p.1 false = true → prop p.1 (a.tmps.getD p.2 undef) w
theorem ready_has {i j : Nat} {listed : Array Bool} (hr : i ∈ Region.ready md ops listed) (hw : waitsFor md ops i j = true) : listed.getD j false = true := by
  obtain ⟨_, o, ho, hall⟩ := mem_ready.1 hr
  simp only [waitsFor, ho] at hw
  obtain ⟨e, he, hb⟩ := Array.any_eq_true'.1 hw
  simp only [Bool.and_eq_true, beq_iff_eq] at hb
  have h1 := hall e he hb.1
  rwa [hb.2] at h1
theorem put_getD_ne (a : Act) (s t : Nat) (v : Value) (h : s ≠ t) : (a.put (some s) v).tmps.getD t undef = a.tmps.getD t undef := by
  simp only [Act.put, Array.getD_eq_getD_getElem?]
  rw [Array.getElem?_setIfInBounds_ne h]
theorem put_getD_eq (a : Act) (s : Nat) (v : Value) (h : s < a.tmps.size) : (a.put (some s) v).tmps.getD s undef = v := by
  simp [Act.put, h]
theorem loose_put {w0 : World} {a0 : Act} {slots : List (Nat × Nat)} {prop : Nat → Value → World → Prop} (hinj : (slots.map (·.2)).Nodup) (hinj1 : (slots.map (·.1)).Nodup) (N : Nat) (hN : a0.tmps.size = N) (hlt : ∀ p ∈ slots, p.2 < N)
    (hst : ∀ i v w w', prop i v w → Below w.heap.size w w' → prop i v w') {i s : Nat} (hi : (i, s) ∈ slots) {listed : Array Bool} {a : Act} {w w' : World} {v : Value} (h : LooseAt w0 a0 slots prop listed a w) (hb : Below w.heap.size w w') (hv : prop i v w') :
    LooseAt w0 a0 slots prop (listed.setIfInBounds i true) (a.put (some s) v) w' := by
  refine ⟨h.below.trans (hb.mono h.below.size), ?_, ?_, fun t ht => ?_, fun p hp hl => ?_⟩
  · rw [← h.size]; simp [Act.put]
  · rw [← h.defers]; rfl
  · rw [put_getD_ne _ _ _ _ (ht _ hi)]
    exact h.same t ht
  · by_cases e : p.1 = i
    · have e2 : p = (i, s) := by
        have : ∀ (l : List (Nat × Nat)), (l.map (·.1)).Nodup → p ∈ l → (i, s) ∈ l → p = (i, s) := by
          intro l hl h1 h2
          induction l with
          | nil => cases h1
          | cons q l ih =>
            rw [List.map_cons, List.nodup_cons] at hl
            rcases List.mem_cons.1 h1 with rfl | h1
            · rcases List.mem_cons.1 h2 with h2 | h2
              · exact h2.symm
              · exact absurd (List.mem_map.2 ⟨(i, s), h2, e.symm⟩) hl.1
            · rcases List.mem_cons.1 h2 with h2 | h2
              · rw [← h2] at hl
                exact absurd (List.mem_map.2 ⟨p, h1, e⟩) hl.1
              · exact ih hl.2 h1 h2
        exact this slots hinj1 hp hi
      subst e2
      rw [put_getD_eq _ _ _ (by rw [h.size, hN]; exact hlt _ hi)]
      exact hv
    · have hne : s ≠ p.2 := by
        intro e3
        have : ∀ (l : List (Nat × Nat)), (l.map (·.2)).Nodup → p ∈ l → (i, s) ∈ l → p = (i, s) := by
          intro l hl h1 h2
          induction l with
          | nil => cases h1
          | cons q l ih =>
            rw [List.map_cons, List.nodup_cons] at hl
            rcases List.mem_cons.1 h1 with rfl | h1
            · rcases List.mem_cons.1 h2 with h2 | h2
              · exact h2.symm
              · exact absurd (List.mem_map.2 ⟨(i, s), h2, e3⟩) hl.1
            · rcases List.mem_cons.1 h2 with h2 | h2
              · rw [← h2] at hl
                exact absurd (List.mem_map.2 ⟨p, h1, e3.symm⟩) hl.1
              · exact ih hl.2 h1 h2
        exact e (by rw [this slots hinj hp hi])
      rw [put_getD_ne _ _ _ _ hne]
      refine hst _ _ _ _ (h.fact p hp ?_) hb
      rwa [getD_set_ne false (fun e4 => e e4.symm)] at hl
/-- One loose operation. -/
theorem loose_step {w0 : World} {a0 : Act} {slots : List (Nat × Nat)} {prop : Nat → Value → World → Prop} (hinj : (slots.map (·.2)).Nodup) (hinj1 : (slots.map (·.1)).Nodup) (N : Nat) (hN : a0.tmps.size = N) (hlt : ∀ p ∈ slots, p.2 < N)
    (hst : ∀ i v w w', prop i v w → Below w.heap.size w w' → prop i v w')
    {i s : Nat} (hi : (i, s) ∈ slots) {o : Oper} (ho : ops[i]? = some o) (hd : o.dst = some s)
    (hop : ∀ a w K, Below w0.heap.size w0 w → a.tmps.size = a0.tmps.size → a.defers = a0.defers → (∀ s, (∀ p ∈ slots, p.2 ≠ s) → a.tmps.getD s undef = a0.tmps.getD s undef) →
      (∀ p ∈ slots, waitsFor md ops i p.1 = true → prop p.1 (a.tmps.getD p.2 undef) w) → (∀ v w', Below w.heap.size w w' → prop i v w' → K (a.put o.dst v) w') →
      if Region.wanted o (yielded ops a.tmps) = true then Oper.wp P o a w K Q else K (a.put o.dst undef) w)
    (listed : Array Bool) (a : Act) (w : World) (h : LooseAt w0 a0 slots prop listed a w) (hr : i ∈ Region.ready md ops listed) :
    wpOp P ops Q i (LooseAt w0 a0 slots prop (listed.setIfInBounds i true)) a w := by
  refine wpOp_step ho fun K hK => ?_
  refine hop a w K h.below h.size h.defers h.same (fun p hp hwt => h.fact p hp (ready_has hr hwt)) fun v w' hb hv => hK _ _ ?_
  rw [hd]
  exact loose_put hinj hinj1 N hN hlt hst hi h hb hv
/-- The block that a value leads to. -/
def blk : Value → Nat | .pointer (some p) => p.block | .slice (some p) _ _ => p.block | _ => 0
theorem slot_eq {slots : List (Nat × Nat)} {p q : Nat × Nat} : (slots.map (·.1)).Nodup → p ∈ slots → q ∈ slots → p.1 = q.1 → p = q := by
  intro hl h1 h2 e
  induction slots with
  | nil => cases h1
  | cons r l ih =>
    rw [List.map_cons, List.nodup_cons] at hl
    rcases List.mem_cons.1 h1 with rfl | h1
    · rcases List.mem_cons.1 h2 with h2 | h2
      · exact h2.symm
      · exact absurd (List.mem_map.2 ⟨q, h2, e.symm⟩) hl.1
    · rcases List.mem_cons.1 h2 with h2 | h2
      · rw [← h2] at hl
        exact absurd (List.mem_map.2 ⟨p, h1, e⟩) hl.1
      · exact ih hl.2 h1 h2
/-- A range in a block that stood. -/
theorem range_on {w w' : World} {b off : Nat} {cs : List Value} (h : w.rangeAt b off cs) (hlt : b < w.heap.size) (hb : Below w.heap.size w w') : w'.rangeAt b off cs := by
  intro j v hj
  rw [World.cell?_of_block (w := w) (hb.block b hlt)]
  exact h j v hj
/-- A call of a Go function. -/
theorem call_op {w : World} {o : Oper} {a : Act} {K : Act → World → Prop} (hgd : o.guard = none) (f : FuncId) (args : List Operand) (tys : Array TypeId) (ho : o.op = .call { callee := .value (.func f), args := args.toArray, argTypes := tys }) (vs : List Value) (hv : args.map a.eval = vs) (hcf : ∀ args w, (callFunc f args).run P w = .ok (.enter f args) w)
    {R : Ending → World → Prop} (hc : Calls P f vs.toArray w R) (h : ∀ e w', R e w' → ∃ v, e = .returned v ∧ K (a.put o.dst v) w') : if Region.wanted o (yielded ops a.tmps) = true then Oper.wp P o a w K Q else K (a.put o.dst undef) w := by
  rw [if_pos (by simp [Region.wanted, hgd])]
  unfold Oper.wp
  simp [execOp, ho, resolve, invoke, Act.eval, Deferred.ofValue, hv, hcf, Oper.upon]
  refine hc.mono fun e w' hR => ?_
  obtain ⟨v, rfl, hk⟩ := h e w' hR
  exact hk
theorem enters {f : FuncId} {fn : Func} (hf : P.funcs[f]? = some fn) (hn : (fn.name == "runtime.NumGoroutine") = false) (hb : fn.body.isNone = false) (args : Array Value) (w : World) : (callFunc f args).run P w = .ok (.enter f args) w := by
  have hn' : fn.name ≠ "runtime.NumGoroutine" := by simpa using hn
  have hb' : fn.body ≠ none := by intro e; rw [e] at hb; cases hb
  simp [callFunc, hf, hn', hb']
/-- An operation that only yields. -/
theorem quiet_op {w : World} {o : Oper} {a : Act} {K : Act → World → Prop} (hgd : o.guard = none) (v : Value) (hr : (execOp a.eval o).run P w = .ok (.value v) w) (h : K (a.put o.dst v) w) : if Region.wanted o (yielded ops a.tmps) = true then Oper.wp P o a w K Q else K (a.put o.dst undef) w := by
  rw [if_pos (by simp [Region.wanted, hgd])]
  unfold Oper.wp
  rw [hr]
  exact h
theorem move_op {w : World} {o : Oper} {a : Act} {K : Act → World → Prop} (hgd : o.guard = none) (x : Operand) (ho : o.op = .move x) (v : Value) (hx : a.eval x = v) (h : K (a.put o.dst v) w) : if Region.wanted o (yielded ops a.tmps) = true then Oper.wp P o a w K Q else K (a.put o.dst undef) w := by
  refine quiet_op hgd v ?_ h
  simp [execOp, ho, hx]
/-- A whole array loaded. -/
theorem load_op {w : World} {o : Oper} {a : Act} {K : Act → World → Prop} (hgd : o.guard = none) (t : TypeId) (x : Operand) (ho : o.op = .load t x) (b off : Nat) (hx : a.eval x = .pointer (some ⟨b, off, none⟩)) (cs : List Value) (d : TypeDesc) (hc : w.rangeAt b off cs)
    (hu : P.underlying t = some d) (hd : d.isRow = true) (hi : (P.info? t).map (·.size) = some cs.length) (h : K (a.put o.dst (.agg cs.toArray)) w) : if Region.wanted o (yielded ops a.tmps) = true then Oper.wp P o a w K Q else K (a.put o.dst undef) w := by
  rw [if_pos (by simp [Region.wanted, hgd])]
  exact wp_load_mid t x ho b off hx cs d hc hu hd hi h
/-- A new variable. -/
theorem alloc_op {w : World} {o : Oper} {a : Act} {K : Act → World → Prop} (hgd : o.guard = none) (t : TypeId) (ho : o.op = .alloc t) (zs : List Value) (hz : ∀ w, (zeroValue t).run P w = .ok (.agg zs.toArray) w)
    (h : ∀ w', Below w.heap.size w w' → Cells w' w.heap.size zs t → K (a.put o.dst (.pointer (some ⟨w.heap.size, 0, none⟩))) w') : if Region.wanted o (yielded ops a.tmps) = true then Oper.wp P o a w K Q else K (a.put o.dst undef) w := by
  rw [if_pos (by simp [Region.wanted, hgd])]
  unfold Oper.wp
  simp only [execOp, ho, Instr.alloc, hz, newVar, Value.cells, Sem.run_bind, Sem.run_pure, Result.andThen_ok, go_sem]
  exact h _ ((Below.refl _ _).alloc (Nat.le_refl _) _) (Cells.new w _ _)
/-- A literal of a slice. -/
theorem lit_op {w : World} {o : Oper} {a : Act} {K : Act → World → Prop} (hgd : o.guard = none) (t : TypeId) (n : Nat) (parts : List (Nat × Operand)) (ho : o.op = .buildSlice t n parts.toArray) (ps : List (Nat × Value)) (hp : (parts.map fun (i, x) => (i, a.eval x)) = ps) (e : TypeId) (vs : List Value)
    (hr : ∀ w, (Instr.buildSlice t n ps.toArray).run P w = .ok (.slice (some ⟨w.heap.size, 0, none⟩) n n) (w.alloc (.cells vs.toArray e)))
    (h : ∀ w', Below w.heap.size w w' → Cells w' w.heap.size vs e → K (a.put o.dst (.slice (some ⟨w.heap.size, 0, none⟩) n n)) w') : if Region.wanted o (yielded ops a.tmps) = true then Oper.wp P o a w K Q else K (a.put o.dst undef) w := by
  rw [if_pos (by simp [Region.wanted, hgd])]
  unfold Oper.wp
  simp only [execOp, ho, List.map_toArray, hp, hr, Sem.run_bind, Sem.run_pure, Result.andThen_ok]
  exact h _ ((Below.refl _ _).alloc (Nat.le_refl _) _) (Cells.new w _ _)
end
set_option maxRecDepth 100000 in
theorem loose_frame32 (a : Act) (hs : a.tmps.size = 32) (hd : a.defers = []) : ∃ u : Nat → Value, a = ⟨(u 0 :: u 1 :: u 2 :: u 3 :: u 4 :: u 5 :: u 6 :: u 7 :: u 8 :: u 9 :: u 10 :: u 11 :: u 12 :: u 13 :: u 14 :: u 15 :: u 16 :: u 17 :: u 18 :: u 19 :: u 20 :: u 21 :: u 22 :: u 23 :: u 24 :: u 25 :: u 26 :: u 27 :: u 28 :: u 29 :: u 30 :: u 31 :: []).toArray, []⟩ := by
  obtain ⟨u, h⟩ := frame_of 32 a hs hd
  exact ⟨u, h⟩
end Go.Proofs.YtoggkhjaghkpnaaDoor
