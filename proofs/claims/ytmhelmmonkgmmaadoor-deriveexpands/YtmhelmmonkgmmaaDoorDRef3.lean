/- The document's own answers of layer 5: fellowshipref05.Secret. -/
import Derived.Test.YtmhelmmonkgmmaaDoorDRef2
namespace Go.Proofs.YtmhelmmonkgmmaaDoor
open Go.RowKit
theorem noughts_r32 : ∀ w, (Instr.build 29 #[]).run Tryd.prog w = .ok (hashVal nought32) w := fun w => by
  have h := zero_r32 w
  have e : hashVal nought32 = .agg (List.replicate 32 (cellOf 0)).toArray := by unfold hashVal nought32; rw [List.map_replicate]
  rw [e]
  simp [Instr.build, h, Instr.fill, Value.cells]
/-- 32 bytes of which the first k are written. -/
def secTo (bs : List UInt8) (k : Nat) : List UInt8 := bs.take k ++ List.replicate (32 - k) 0
theorem secTo_length (bs : List UInt8) (k : Nat) (hl : bs.length = 32) (hk : k ≤ 32) : (secTo bs k).length = 32 := by simp [secTo]; omega
theorem secTo_next (bs : List UInt8) (k : Nat) (hl : bs.length = 32) (hk : k < 32) : (secTo bs k).set k (bs[k]'(by omega)) = secTo bs (k + 1) := by
  rw [secTo, set_nextV _ k 32 _ 0 (by rw [List.length_take]; omega) hk, secTo, take_snoc bs k (by omega)]
theorem secTo_end (bs : List UInt8) (hl : bs.length = 32) : secTo bs 32 = bs := by simp [secTo, List.take_of_length_le, hl]
set_option maxRecDepth 100000 in
set_option maxHeartbeats 800000 in
theorem secretRef_any (B : Option Addr) (d m n : Nat) (sec lb ctx : List UInt8) (w : World) (hs : sec.length = 32) (hl : lb.length = n) (hn : n ≤ 200) (hbl : ctx.length = m) (hb : Row w w.heap.size B ctx) (hB : B = none → d = 0) (hm : m ≤ 16384) :
    Calls Tryd.prog 19 #[hashVal sec, .string (str lb), .slice B m d] w fun e w' => e = .returned (hashVal (labelL sec lb ctx 32)) ∧ Below w.heap.size w w' := by
  have HL := Lib.hid hl
  have HBL := Lib.hid hbl
  have HSL := Lib.hid hs
  clear hl hbl hs
  have HXL := Lib.hid (labelL_length sec lb ctx 32 (by omega))
  go_enter Tryd.func19, Tryd.ntmps19
  go_wp2_with (first
    | (refine take_step rfl 29 _ rfl sec rfl ?_
       intro w0 hB0 hC0 hz0
       clear hz0)
    | (refine zero_step rfl 29 rfl 32 zero_r32 ?_
       intro w1 hb1 hR1 hz1
       clear hz1
       have hB1 := below_then hB0 hb1
       have hC1 := hC0.on hb1
       have HN1 : Hid (w.heap.size < w0.heap.size) := hC0.lt
       clear hB0 hC0 hb1
       generalize w0.heap.size = gr at *)
    | (refine build_step rfl 29 [] rfl [] rfl _ noughts_r32 ?_)
    | (refine put_step rfl rfl 29 (.tmp 7) (.tmp 10) rfl rfl 32 nought32 rfl rfl zero_r32 size_r32 rfl ?_
       intro w2 hb2 hO2 hz2
       clear hz2
       have hB2 := below_then hB1 hb2
       have hC2 := hC1.on hb2
       have hR2 := hR1.on hb2
       have HN2 : Hid (gr < w1.heap.size) := hR1.lt
       have HN3 : Hid (w1.heap.size < w2.heap.size) := hO2.lt
       clear hB1 hC1 hR1 hb2
       generalize w1.heap.size = go at *)
    | (refine get_step rfl 29 (.tmp 3) rfl w.heap.size 32 sec _ rfl hC2 Tryd.underlying29 size_r32 HSL.out ?_))
  refine (labelRef_any B d m n 32 sec lb ctx w2 HSL.out HL.out hn HBL.out (hb.on hB2) hB hm (by omega)).mono ?_
  rintro e w3 ⟨g3, c3, rfl, a1, a2, a3, a4, hb3⟩
  have hB3 := below_then hB2 hb3
  have hR3 := hR2.on hb3
  have hO3 := hO2.on hb3
  have hno : g3 ≠ go := by have := HN3.out; omega
  clear hB2 hC2 hR2 hO2 hb3
  generalize hbs : labelL sec lb ctx 32 = bs at *
  replace hbs := Lib.hid hbs
  have H0 : Hid (nought32 = secTo bs 0) := rfl
  have HO3 := Lib.hid hO3
  have HR3 := Lib.hid hR3
  clear hO3 hR3
  generalize nought32 = no at *
  have hle : w.heap.size ≤ gr := Nat.le_of_lt HN1.out
  have hle2 : gr < go := HN2.out
  go_wp2_with fail
  go_loopw [8, 9, 16] (fun _ _ i wr => ∃ k : Nat, k ≤ 32 ∧ i = .int .i64 k ∧ But go w3 wr ∧ Cells wr go ((secTo bs k).map cellOf) 29) (fun _ _ i _ => 32 - (intOf i).toNat)
  case atStart => exact ⟨0, Nat.zero_le _, rfl, But.refl _ _, by rw [← H0.out]; exact HO3.out⟩
  case round =>
    obtain ⟨k, hk, rfl, hbt, hC⟩ := hrel
    have hRow := a4.but hbt (fun _ p hp => by cases hp; exact hno)
    by_cases hlt : k < 32
    · have i1 : (k : Int) < 32 := by omega
      have hlt2 : k < bs.length := by rw [HXL.out]; exact hlt
      obtain ⟨b', off', hA', _, hc⟩ := hRow.at k hlt2
      cases hA'
      rw [Nat.zero_add] at hc
      have HS := Lib.hid (secTo_next bs k HXL.out hlt)
      have f1 := hC.frozen k
      obtain ⟨v1, c1⟩ : ∃ v, wr.cell? ⟨go, k, none⟩ = some v := ⟨_, hC.cell k (by rw [List.length_map, secTo_length _ _ HXL.out (by omega)]; exact hlt)⟩
      have hC' := hC.set k (cellOf bs[k])
      rw [← List.map_set, HS.out] at hC'
      have HC' := Lib.hid hC'
      have HB' := Lib.hid (hbt.setCell k (cellOf bs[k]))
      clear hC' hRow
      generalize bs[k] = u at *
      go_wp2
      go_roundw
      case rel => exact ⟨k + 1, by omega, by go_num, HB'.out, HC'.out⟩
      case measure => simp [intOf]; omega
    · obtain rfl : k = 32 := by omega
      rw [secTo_end bs HXL.out] at hC
      have hR4 : Cells wr gr (List.replicate 32 (cellOf 0)) 29 := HR3.out.but hbt (by omega)
      have hB4 := hB3.trans (hbt.below (Nat.le_of_lt (Nat.lt_of_le_of_lt hle hle2)) hB3.size)
      clear hRow
      go_wp2_with (first
        | (refine get_step rfl 29 (.tmp 7) rfl go 32 bs _ rfl hC Tryd.underlying29 size_r32 HXL.out ?_)
        | (refine set_step rfl 29 _ _ rfl gr 32 _ bs rfl rfl hR4 (by simp) size_r32 HXL.out ?_
           intro w5 hb5 hR5 _))
      exact ret_hash Tryd.results19 gr _ rfl hR5 Tryd.underlying29 size_r32 HXL.out rfl ⟨by rw [hbs.out], hB4.trans (hb5.below hle hB4.size)⟩
end Go.Proofs.YtmhelmmonkgmmaaDoor
