/- The blocks of parts, one by one: the iterator. -/
import Derived.Test.YtpbkjphdkdlhjaaDoorVEnded
import Derived.Test.YtpbkjphdkdlhjaaDoorWRange
import Derived.OwnWalkIn
import Derived.LoopNIn
import Derived.LoopIn
namespace Go.Proofs.YtpbkjphdkdlhjaaDoor
open Go.RowKit
/-- 'b[l:]' of a block of 128 bytes. -/
theorem block_from (g l : Nat) (w : World) (h1 : l < 128) :
    (Instr.sliceAt 48 (.pointer (some ⟨g, 0, none⟩)) (some (.int .i64 (l : Int))) none none).run Tryd.prog w = .ok (.slice (some ⟨g, l, none⟩) (128 - l) (128 - l)) w := by
  obtain ⟨i0, hi0, hs0⟩ := Option.map_eq_some_iff.1 size_u8
  have h4 : (l : Int) ≤ 128 := by omega
  have h5 : ¬ 128 = l := by omega
  simp [Instr.sliceAt, Instr.sureAddr, run_underlying Tryd.underlying48, Instr.sliceBounds, run_sliceBound, sizeOf, typeInfo, hi0, hs0, h4, h5, Addr.add]
  exact fun e => e.symm
theorem RowG.cut {w : World} {G : Nat → Prop} {A : Option Addr} {us : List UInt8} (h : RowG w G A us) (l cap : Nat) (hl : us.length ≤ cap) : RowG w G (cutA A l cap) (us.drop l) := by
  unfold cutA
  split
  · exact .inl (List.drop_eq_nil_of_le (by omega))
  · rcases h with rfl | ⟨b, off, rfl, hb, hc⟩
    · exact .inl (by simp)
    · refine .inr ⟨b, off + l, by simp [Addr.add_mid], hb, fun j u hu => ?_⟩
      rw [List.getElem?_drop] at hu
      rw [Nat.add_assoc]
      exact hc (l + j) u hu
/-- The waiting bytes of a message of which c have been taken. -/
def Waits (ms rest : List UInt8) (c : Nat) : Prop := rest.length = 128 ∧ rest.take (c % 128) = (ms.drop (128 * (c / 128))).take (c % 128)
theorem waits_put {ms rest us : List UInt8} {c q : Nat} (h : Waits ms rest c) (hu : us.take q = (ms.drop c).take q) (hq : us.length = q ∨ q ≤ us.length) (hl : c % 128 + q ≤ 128) :
    (restPut rest (us.take q) (c % 128)).length = 128 ∧ (restPut rest (us.take q) (c % 128)).take (c % 128 + q) = (ms.drop (128 * (c / 128))).take (c % 128 + q) := by
  have hlen : (us.take q).length = q := by rw [List.length_take]; omega
  refine ⟨by rw [restPut_length _ _ _ (by rw [hlen, h.1]; exact hl)]; exact h.1, ?_⟩
  have e := restPut_take rest (us.take q) (c % 128) (by rw [hlen, h.1]; exact hl)
  rw [hlen] at e
  rw [e, h.2, hu, List.take_add, List.drop_drop, show 128 * (c / 128) + c % 128 = c by omega]
theorem waits_less {ms rest us : List UInt8} {c q : Nat} (h : Waits ms rest c) (hu : us.take q = (ms.drop c).take q) (hq : q ≤ us.length) (hl : c % 128 + q < 128) : Waits ms (restPut rest (us.take q) (c % 128)) (c + q) := by
  obtain ⟨h1, h2⟩ := waits_put h hu (.inr hq) (by omega)
  refine ⟨h1, ?_⟩
  rw [show (c + q) % 128 = c % 128 + q by omega, show (c + q) / 128 = c / 128 by omega]
  exact h2
theorem waits_full {ms rest us : List UInt8} {c q : Nat} (h : Waits ms rest c) (hu : us.take q = (ms.drop c).take q) (hq : q ≤ us.length) (hl : c % 128 + q = 128) : restPut rest (us.take q) (c % 128) = (ms.drop (128 * (c / 128))).take 128 := by
  obtain ⟨h1, h2⟩ := waits_put h hu (.inr hq) (by omega)
  rw [hl, List.take_of_length_le (by omega)] at h2
  exact h2
theorem waits_new {ms rest : List UInt8} {c : Nat} (h : rest.length = 128) (hc : c % 128 = 0) : Waits ms rest c := ⟨h, by rw [hc]; simp⟩
theorem rest_splice (rest us : List UInt8) (h : Nat) : splice (rest.map cellOf) h (us.map cellOf) = (restPut rest us h).map cellOf := by
  simp [splice, restPut, List.map_take, List.map_drop]
/-- Slices of bytes that stand at an address, in blocks of which G holds. -/
def PartsG (w : World) (G : Nat → Prop) (g : Nat) (ps : List (List UInt8)) : Prop := G g ∧ ∀ j us, ps[j]? = some us → ∃ v, w.cell? ⟨g, j, none⟩ = some v ∧ PartG w G v us
theorem PartsG.keep {w w' : World} {G : Nat → Prop} {g : Nat} {ps : List (List UInt8)} (h : PartsG w G g ps) (hk : ∀ b, G b → w'.heap[b]? = w.heap[b]?) : PartsG w' G g ps :=
  ⟨h.1, fun j us hu => by
    obtain ⟨v, h1, h2⟩ := h.2 j us hu
    exact ⟨v, (World.cell?_of_block (hk g h.1)).trans h1, h2.keep hk⟩⟩
/-- A block's bytes as yield is handed them. -/
def blockArg (ms : List UInt8) (k : Nat) : Array Value := #[hashVal ((ms.drop (128 * k)).take 128)]
/-- c bytes have been taken: so many rounds, the others wait. -/
def Takes (T : Nat → Prop) (l : Nat) (J : Nat → World → Prop) (W1 : World) (ms : List UInt8) (wr : World) (c : Nat) : Prop :=
  ∃ rest, Waits ms rest c ∧ Cells wr W1.heap.size (rest.map cellOf) 48 ∧ J (c / 128) wr ∧ Turns (fun b => (T b ∨ b = l) ∨ b = W1.heap.size) W1 wr
set_option maxRecDepth 100000 in
set_option maxHeartbeats 1000000 in
theorem blocks1_any (Bp g n c0 N : Nat) (ps : List (List UInt8)) (T : Nat → Prop) (w : World) (hl : ps.length = n) (hn1 : n ≤ 1000000) (hm : ps.flatten.length = 128 * N) (hT : ∀ k, T k → k < w.heap.size) (hBp : Bp < w.heap.size)
    (hb : w.cell? ⟨Bp, 0, none⟩ = some (.slice (some ⟨g, 0, none⟩) n c0)) (hP : PartsG w (fun b => b < w.heap.size ∧ ¬ T b) g ps) :
    SeqAll Tryd.prog 20 #[.pointer (some ⟨Bp, 0, none⟩)] N (blockArg ps.flatten) T w := by
  intro l J W1 hb1 hl1 hl2 hJ hY hJ0
  have HL := Lib.hid hl
  have HM := Lib.hid hm
  generalize hms : ps.flatten = ms at *
  replace hms := Lib.hid hms
  clear hl hm
  have hcp : W1.cell? ⟨Bp, 0, none⟩ = some (.slice (some ⟨g, 0, none⟩) n c0) := (hb1.cell (p := ⟨Bp, 0, none⟩) hBp).trans hb
  have hP1 := hP.keep (w' := W1) fun b hb => hb1.block b hb.1
  clear hP hb
  refine callsIn_of_wp Tryd.func20 rfl trivial ?_ rfl
  simp only [Tryd.ntmps20, List.size_toArray, List.length_cons, List.length_nil, Nat.reduceAdd, Nat.reduceSub, Array.replicate_succ, Array.replicate_zero, List.push_toArray, List.append_toArray, List.nil_append, List.cons_append]
  gi_wp2_with (refine one_in rfl (fun Q0 hQ0 => alloc_step rfl 48 rfl _ zero_block (fun w' hw' => by subst hw'; exact hQ0)) ?_
               have hC2 := Cells.new W1 (List.replicate 128 (cellOf 0)).toArray 48
               have hB2 : Below W1.heap.size W1 (W1.alloc (.cells (List.replicate 128 (cellOf 0)).toArray 48)) := (Below.refl _ _).alloc (Nat.le_refl _) _
               generalize W1.alloc (.cells (List.replicate 128 (cellOf 0)).toArray 48) = W2 at *
               have hcp2 := (hB2.cell (p := ⟨Bp, 0, none⟩) (by show Bp < _; omega)).trans hcp)
  have hst : Takes T l J W1 ms W2 0 := ⟨List.replicate 128 0, waits_new (by simp) rfl, by rw [List.map_replicate]; exact hC2, hJ _ _ _ hJ0 hB2, Turns.of_below hB2⟩
  clear hC2 hB2 hcp2 hJ0
  have hkeep : ∀ wr, Turns (fun b => (T b ∨ b = l) ∨ b = W1.heap.size) W1 wr → ∀ b, (b < w.heap.size ∧ ¬ T b) → wr.heap[b]? = W1.heap[b]? := fun wr ht b hb => ht.block b (by omega) (by
    rintro ((h | h) | h)
    · exact hb.2 h
    · omega
    · omega)
  have HKP := Lib.hid hkeep
  clear hkeep
  gi_loopw [4, 10] (fun h i wr => ∃ k : Nat, k ≤ n ∧ i = .int .i64 k ∧ h = .int .i64 (((ps.take k).flatten.length % 128 : Nat) : Int) ∧ Takes T l J W1 ms wr (ps.take k).flatten.length) (fun _ i _ => n - (intOf i).toNat)
  case atStart => exact ⟨0, Nat.zero_le _, rfl, rfl, hst⟩
  case round =>
    clear hst
    obtain ⟨k, hk, rfl, rfl, hst⟩ := hrel
    by_cases hlt : k < n
    · have hlt2 : k < ps.length := by rw [HL.out]; exact hlt
      obtain ⟨v, hc1, A, cap, rfl, hrow, hcap1, hcap2, hA⟩ := hP1.2 k _ (List.getElem?_eq_getElem hlt2)
      have HE := Lib.hid (show (ps.take (k + 1)).flatten.length = (ps.take k).flatten.length + ps[k].length by rw [take_snoc ps k hlt2, List.flatten_append]; simp)
      have hle2 := flatten_take_le ps (k + 1)
      rw [hms.out, HM.out] at hle2
      have hus : ps[k] = (ms.drop (ps.take k).flatten.length).take ps[k].length := by
        rw [← hms.out]
        conv => rhs; arg 2; arg 2; rw [← List.take_append_drop k ps, List.flatten_append]
        rw [List.drop_left, List.drop_eq_getElem_cons hlt2, List.flatten_cons, List.take_left]
      have hc2 : wr.cell? ⟨g, k, none⟩ = some (.slice A ps[k].length cap) := by
        obtain ⟨rest, _, _, _, ht⟩ := hst
        exact (World.cell?_of_block (HKP.out wr ht g hP1.1)).trans hc1
      rw [HE.out] at hle2
      generalize hEE : (ps.take (k + 1)).flatten.length = ee at *
      replace hEE := Lib.hid hEE
      generalize (ps.take k).flatten.length = c at *
      generalize ps[k] = us at *
      generalize hul : us.length = m at *
      have i1 : (0 : Int) ≤ (k : Int) := by omega
      have i2 : (k : Int) < (n : Int) := by omega
      have HU := Lib.hid hus
      have HUL := Lib.hid hul
      clear hus hul hc1
      gi_wp2
      gi_loopw [4, 6] (fun h p wr => ∃ (c m cap : Nat) (A : Option Addr) (us : List UInt8), h = .int .i64 ((c % 128 : Nat) : Int) ∧ p = .slice A m cap ∧ us.length = m ∧ m ≤ cap ∧ cap ≤ maxLen ∧ RowG W1 (fun b => b < w.heap.size ∧ ¬ T b) A us ∧ c + m = ee ∧ us = (ms.drop c).take m ∧ Takes T l J W1 ms wr c) (fun _ p _ => lenOf p)
      case atStart => exact ⟨c, m, cap, A, us, rfl, rfl, HUL.out, hcap1, hcap2, hrow, HE.out.symm, HU.out, hst⟩
      case round =>
        have hee : ee ≤ 128 * N := by have := HE.out; omega
        clear hst hc2 hrow hcap1 hcap2 hA hle2 HE HU HUL
        obtain ⟨c, m, cap, A, us, rfl, rfl, hul, hcap1, hcap2, hrow, hce, hus, rest, hw, hC, hj, ht⟩ := hrel
        have HU := Lib.hid hus
        have HUL := Lib.hid hul
        have HCE := Lib.hid hce
        have HW := Lib.hid hw
        have hrl := hw.1
        have HRL := Lib.hid hrl
        have hh128 : c % 128 < 128 := Nat.mod_lt _ (by omega)
        clear hus hul hce hw hrl
        by_cases hm0 : 0 < m
        · have hcut := block_from W1.heap.size (c % 128) wr hh128
          obtain ⟨q, hq⟩ : ∃ q, min m (128 - c % 128) = q := ⟨_, rfl⟩
          have hq1 : q ≤ m := by omega
          have hq2 : c % 128 + q ≤ 128 := by omega
          have hq3 : 0 < q := by omega
          have HQ := Lib.hid hq
          have HT1 : Hid (us.take (128 - c % 128) = us.take q) := by
            show _ = _
            have := HUL.out
            rcases Nat.lt_or_ge m (128 - c % 128) with h | h
            · rw [List.take_of_length_le (by omega), List.take_of_length_le (by omega)]
            · rw [show q = 128 - c % 128 by omega]
          have HT2 : Hid (us.take q = (ms.drop c).take q) := by show _ = _; rw [HU.out, List.take_take, Nat.min_eq_left hq1]
          have hthere : wr.there W1.heap.size (c % 128) q := hC.there _ _ (by rw [List.length_map, HRL.out]; exact hq2)
          have hrow2 := (hrow.keep (w' := wr) (HKP.out wr ht)).row (B := W1.heap.size) (fun b hb => Nat.lt_of_lt_of_le hb.1 hb1.size)
          have m1 : (0 : Int) < (m : Int) := by omega
          clear hq
          by_cases hf : c % 128 + q < 128
          · have HW2 := Lib.hid (waits_less HW.out HT2.out (by rw [HUL.out]; exact hq1) hf)
            have e1 : (c + q) % 128 = c % 128 + q := by omega
            have e2 : (c + q) / 128 = c / 128 := by omega
            have HE1 := Lib.hid e1
            have HE2 := Lib.hid e2
            clear e1 e2
            generalize hhd : c % 128 = h at *
            have f1 : (h : Int) + (q : Int) < 128 := by omega
            gi_wp2_with (first
              | (refine one_in rfl (fun Q0 hQ0 => copy_row rfl (.tmp 18) (.tmp 19) rfl W1.heap.size h (128 - h) (128 - h) m cap W1.heap.size q A us rfl rfl HUL.out HQ.out hrow2 hthere (fun w' hw' => by subst hw'; exact hQ0)) ?_
                 rw [HT1.out]
                 have hB3 : But W1.heap.size wr (wr.setCells W1.heap.size h ((us.take q).map cellOf)) := (But.refl _ _).setCells _ _
                 have hC3 := hC.setCells (cs := (us.take q).map cellOf) (o := h) (by rw [List.length_map, List.length_map, List.length_take, HUL.out, HRL.out]; omega)
                 rw [rest_splice] at hC3
                 generalize wr.setCells W1.heap.size h ((us.take q).map cellOf) = w3 at *)
              | (refine one_in rfl (fun Q0 hQ0 => cut_from rfl (.tmp 21) (.tmp 22) rfl A m cap q rfl rfl hq1 hQ0) ?_))
            go_roundw
            case rel =>
              refine ⟨c + q, m - q, cap - q, cutA A q cap, us.drop q, by rw [HE1.out]; go_num, rfl, by rw [List.length_drop, HUL.out], by omega, by omega, hrow.cut q cap (by rw [HUL.out]; exact hcap1), by have := HCE.out; omega, ?_, ?_⟩
              · rw [HU.out, List.drop_take, List.drop_drop]
              · refine ⟨_, HW2.out, hC3, ?_, ht.trans (Turns.of_but hB3 (.inr rfl))⟩
                rw [HE2.out]
                exact hJ _ _ _ hj (hB3.below (Nat.le_refl _) ht.size)
            case measure => simp only [lenOf]; omega
          · have hf2 : c % 128 + q = 128 := by omega
            have HB := Lib.hid (waits_full HW.out HT2.out (by rw [HUL.out]; exact hq1) hf2)
            have e1 : (c + q) % 128 = 0 := by omega
            have e2 : (c + q) / 128 = c / 128 + 1 := by omega
            have HE1 := Lib.hid e1
            have HE2 := Lib.hid e2
            have hkN : c / 128 < N := by have := HCE.out; omega
            have HBL : Hid (((ms.drop (128 * (c / 128))).take 128).length = 128) := by
              show _ = _
              rw [List.length_take, List.length_drop, HM.out]
              omega
            have HY : Hid (∀ W, J (c / 128) W → W1.heap.size ≤ W.heap.size → YieldAt Fence.wide 0 Tryd.prog l #[.agg (((ms.drop (128 * (c / 128))).take 128).map cellOf).toArray] W fun e W' => e = .returned (.bool true) ∧ J (c / 128 + 1) W' ∧ Turns (fun b => T b ∨ b = l) W W') := fun W h1 h2 => hY (c / 128) W hkN h1 h2
            clear e1 e2 hkN hf
            generalize hhd : c % 128 = h at *
            generalize hbk : (ms.drop (128 * (c / 128))).take 128 = bk at *
            have HX : Hid ((bk.map cellOf).toArray.size = 128) := by show _ = _; rw [List.size_toArray, List.length_map, HBL.out]
            have hi : (Tryd.prog.info? 48).map (·.size) = some (bk.map cellOf).toArray.size := by rw [HX.out]; exact size_block
            have f1 : (h : Int) + (q : Int) = 128 := by omega
            replace hbk := Lib.hid hbk
            replace hhd := Lib.hid hhd
            gi_wp2_with (first
              | (refine one_in rfl (fun Q0 hQ0 => copy_row rfl (.tmp 18) (.tmp 19) rfl W1.heap.size h (128 - h) (128 - h) m cap W1.heap.size q A us rfl rfl HUL.out HQ.out hrow2 hthere (fun w' hw' => by subst hw'; exact hQ0)) ?_
                 rw [HT1.out]
                 have hB3 : But W1.heap.size wr (wr.setCells W1.heap.size h ((us.take q).map cellOf)) := (But.refl _ _).setCells _ _
                 have hC3 := hC.setCells (cs := (us.take q).map cellOf) (o := h) (by rw [List.length_map, List.length_map, List.length_take, HUL.out, HRL.out]; omega)
                 rw [rest_splice, HB.out] at hC3
                 generalize wr.setCells W1.heap.size h ((us.take q).map cellOf) = w3 at *
                 generalize hvs : bk.map cellOf = vs at *
                 have hj3 := hJ _ _ _ hj (hB3.below (Nat.le_refl _) ht.size)
                 obtain ⟨fn, tmps, assign, body, hy, hR⟩ := HY.out w3 hj3 (Nat.le_trans ht.size hB3.size)
                 replace hvs := Lib.hid hvs)
              | (refine one_in rfl (fun Q0 hQ0 => cut_from rfl (.tmp 21) (.tmp 22) rfl A m cap q rfl rfl hq1 hQ0) ?_)
              | (refine one_in rfl (fun Q0 hQ0 => wpList_load_row rfl 48 _ rfl W1.heap.size rfl 48 _ (0, 0) _ hC3 Tryd.underlying48 rfl hi hQ0) ?_))
            refine ⟨rfl, hR.mono ?_⟩
            rintro e w4 ⟨rfl, hj4, ht4⟩
            gi_wp2
            go_roundw
            case rel =>
              refine ⟨c + q, m - q, cap - q, cutA A q cap, us.drop q, by rw [HE1.out]; rfl, rfl, by rw [List.length_drop, HUL.out], by omega, by omega, hrow.cut q cap (by rw [HUL.out]; exact hcap1), by have := HCE.out; omega, ?_, ?_⟩
              · rw [HU.out, List.drop_take, List.drop_drop]
              · refine ⟨bk, waits_new HBL.out HE1.out, ?_, ?_, ?_⟩
                · rw [hvs.out]
                  exact hC3.turns ht4 (by
                    rintro (h | h)
                    · have := hT _ h
                      have := hb1.size
                      omega
                    · omega)
                · rw [HE2.out]; exact hj4
                · exact (ht.trans (Turns.of_but hB3 (.inr rfl))).trans (ht4.mono fun _ h => .inl h)
            case measure => simp only [lenOf]; omega
        · obtain rfl : m = 0 := by omega
          have hcc : c = ee := by have := HCE.out; omega
          gi_wp2
          go_roundw
          case rel => exact ⟨k + 1, by omega, by go_num, by rw [hEE.out, hcc], by rw [hEE.out, ← hcc]; exact ⟨rest, HW.out, hC, hj, ht⟩⟩
          case measure => simp [intOf]; omega
    · obtain rfl : k = n := by omega
      have e1 : ps.take k = ps := List.take_of_length_le (by rw [HL.out]; omega)
      rw [e1, hms.out, HM.out] at hst
      gi_wp2
      go_end0
      obtain ⟨rest, _, _, hj, _⟩ := hst
      rw [Nat.mul_div_cancel_left _ (by omega : 0 < 128)] at hj
      exact ⟨⟨_, rfl⟩, hj⟩
end Go.Proofs.YtpbkjphdkdlhjaaDoor
