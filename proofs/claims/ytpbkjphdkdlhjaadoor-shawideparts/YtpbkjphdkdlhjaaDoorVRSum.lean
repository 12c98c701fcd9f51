/- The document's own SHA-512: the whole of its Sum. -/
import Derived.Test.YtpbkjphdkdlhjaaDoorVR
namespace Go.Proofs.YtpbkjphdkdlhjaaDoor
open Go.RowKit
/-- 64 bytes of nought. (Named, so that a walk leaves them whole.) -/
def z64 : List Value := List.replicate 64 (cellOf 0)
theorem z64_lit : z64.toArray = #[.int .u8 0, .int .u8 0, .int .u8 0, .int .u8 0, .int .u8 0, .int .u8 0, .int .u8 0, .int .u8 0, .int .u8 0, .int .u8 0, .int .u8 0, .int .u8 0, .int .u8 0, .int .u8 0, .int .u8 0, .int .u8 0, .int .u8 0, .int .u8 0, .int .u8 0, .int .u8 0, .int .u8 0, .int .u8 0, .int .u8 0, .int .u8 0, .int .u8 0, .int .u8 0, .int .u8 0, .int .u8 0, .int .u8 0, .int .u8 0, .int .u8 0, .int .u8 0, .int .u8 0, .int .u8 0, .int .u8 0, .int .u8 0, .int .u8 0, .int .u8 0, .int .u8 0, .int .u8 0, .int .u8 0, .int .u8 0, .int .u8 0, .int .u8 0, .int .u8 0, .int .u8 0, .int .u8 0, .int .u8 0, .int .u8 0, .int .u8 0, .int .u8 0, .int .u8 0, .int .u8 0, .int .u8 0, .int .u8 0, .int .u8 0, .int .u8 0, .int .u8 0, .int .u8 0, .int .u8 0, .int .u8 0, .int .u8 0, .int .u8 0, .int .u8 0] := by rfl
theorem ones_r64 : z64.toArray.all (·.oneCell') = true := all_oneCell_toArray (by intro v hv; rw [List.eq_of_mem_replicate hv]; rfl)
set_option maxRecDepth 100000 in
set_option maxHeartbeats 1000000 in
theorem wideRefSum_any (A : Option Addr) (c n : Nat) (bs : List UInt8) (w : World) (hl : bs.length = n) (hr : Row w w.heap.size A bs) (hA : A = none → c = 0) (hn : n ≤ 900000) :
    Calls Tryd.prog 8 #[.slice A n c] w fun e w' => e = .returned (hashVal (widSum bs)) ∧ Below w.heap.size w w' := by
  have HL := Lib.hid hl
  clear hl
  go_enter Tryd.func8, Tryd.ntmps8
  go_wp2_with (refine alloc_step rfl 25 rfl _ zero_r64 ?_
               intro w0 hw0
               have hB0 : Below w.heap.size w w0 := by rw [hw0]; exact (Below.refl _ _).alloc (Nat.le_refl _) _
               have hR0 : Cells w0 w.heap.size (List.replicate 64 (cellOf 0)) 25 := by rw [hw0]; exact Cells.new w _ _
               clear hw0
               have hz := hR0.lt)
  refine (wideConstants_any w0).mono ?_
  rintro e w1 ⟨rfl, hB1, hK1⟩
  have hB2 := hB0.trans (hB1.mono hB0.size)
  have hR2 := hR0.below hB1 hR0.lt
  have hz2 := hK1.lt
  generalize w0.heap.size = gk at *
  clear hB0 hR0 hB1
  go_wp2_with fail
  have hH3 : Cells (w1.alloc (.cells #[.int .u64 7640891576956012808, .int .u64 13503953896175478587, .int .u64 4354685564936845355, .int .u64 11912009170470909681, .int .u64 5840696475078001361, .int .u64 11170449401992604703, .int .u64 2270897969802886507, .int .u64 6620516959819538809] 40)) w1.heap.size (widStart.list.map vcell) 40 := Cells.new w1 (widStart.list.map vcell).toArray 40
  have hB3 := hB2.alloc hB2.size (.cells #[.int .u64 7640891576956012808, .int .u64 13503953896175478587, .int .u64 4354685564936845355, .int .u64 11912009170470909681, .int .u64 5840696475078001361, .int .u64 11170449401992604703, .int .u64 2270897969802886507, .int .u64 6620516959819538809] 40)
  have hR3 := hR2.alloc (.cells #[.int .u64 7640891576956012808, .int .u64 13503953896175478587, .int .u64 4354685564936845355, .int .u64 11912009170470909681, .int .u64 5840696475078001361, .int .u64 11170449401992604703, .int .u64 2270897969802886507, .int .u64 6620516959819538809] 40)
  have hK3 := hK1.alloc (.cells #[.int .u64 7640891576956012808, .int .u64 13503953896175478587, .int .u64 4354685564936845355, .int .u64 11912009170470909681, .int .u64 5840696475078001361, .int .u64 11170449401992604703, .int .u64 2270897969802886507, .int .u64 6620516959819538809] 40)
  generalize w1.alloc (.cells #[.int .u64 7640891576956012808, .int .u64 13503953896175478587, .int .u64 4354685564936845355, .int .u64 11912009170470909681, .int .u64 5840696475078001361, .int .u64 11170449401992604703, .int .u64 2270897969802886507, .int .u64 6620516959819538809] 40) = w2 at *
  generalize w1.heap.size = gh at *
  have hz3 := hH3.lt
  clear hB2 hR2 hK1
  refine (widePadded_any A c n bs w2 HL.out (hr.on hB3) hA hn).mono ?_
  rintro e w3 ⟨gm, cm, rfl, hgm, hB4, hM⟩
  have HGM : Hid (gh < gm) := by show _ < _; omega
  clear hgm
  have hB5 := hB3.trans (hB4.mono hB3.size)
  have hR5 := hR3.below hB4 hR3.lt
  have hK5 := hK3.below hB4 hK3.lt
  have hH5 := hH3.below hB4 hH3.lt
  clear hB3 hR3 hK3 hH3
  have HM : Hid ((widPadded bs).length = 128 * ((widPadded bs).length / 128)) := by
    show _ = _
    have h1 := widPadded_length bs
    have h2 := widEnd_mod bs.length
    omega
  have hm1 : (widPadded bs).length / 128 ≤ 10000 := by
    have h1 := widPadded_length bs
    have h2 := widPad_pos bs.length
    have h3 := HL.out
    omega
  have HX : Hid (widSum bs = words8 (widChain (widPadded bs) ((widPadded bs).length / 128)).list) := rfl
  have HM0 : Hid (0 < (widPadded bs).length) := by show _ < _; rw [widPadded_length]; omega
  generalize widPadded bs = ms at *
  generalize hN : ms.length / 128 = N at *
  replace hN := Lib.hid hN
  go_wp2_with fail
  rw [HM.out]
  have hW0 : VW w w3 gk gh gm ((widChain ms 0).list.map vcell) ms := ⟨hB5, hR5, hK5, hH5, hM, hz, hz2, HGM.out, by
    rcases hM with e | ⟨b', off', e3, h, _⟩
    · exfalso
      subst e
      have h1 := HM0.out
      simp at h1
    · cases e3; exact h⟩
  refine vloop1 w w3 gk gh gm cm N ms _ _ hm1 HM.out ⟨0, Nat.zero_le _, ⟨rfl, rfl, rfl, rfl, rfl, rfl, rfl, trivial⟩, hW0⟩ ?_
  clear hW0 hB5 hR5 hK5 hH5 hM hB4
  rintro a5 w5 ⟨hF, hW⟩
  obtain ⟨hs0, hd0, h2, h3, h4, h5, -⟩ := hF
  obtain ⟨u, rfl⟩ := frame249 a5 hs0 hd0
  clear hs0 hd0
  change u 2 = _ at h2
  change u 3 = _ at h3
  change u 4 = _ at h4
  change u 5 = _ at h5
  rw [h2, h3, h4, h5]
  clear h2 h3 h4 h5
  have HL8 : Hid ((widChain ms N).list.length = 8) := rfl
  generalize (widChain ms N).list = l at *
  have HT6 : Hid ((w5.alloc (.cells z64.toArray 25)).there w5.heap.size 0 z64.toArray.size) := (Cells.new w5 z64.toArray 25).there 0 64 (by simp [z64])
  go_wp2_with (first
    | (rw [← z64_lit]
       refine wpList_store_mid rfl 25 _ _ rfl w5.heap.size 0 z64.toArray rfl rfl HT6.out size_r64 ones_r64 ?_))
  have hW6 := (hW.alloc (.cells z64.toArray 25)).but ((But.refl w5.heap.size _).setCells 0 z64) hW.o4
  have hO6 : Cells ((w5.alloc (.cells z64.toArray 25)).setCells w5.heap.size 0 z64) w5.heap.size (List.replicate 64 (cellOf 0)) 25 := by
    have h := (Cells.new w5 z64.toArray 25).setCells (cs := z64) (o := 0) (by simp [z64])
    rw [splice_all _ _ (by simp [z64])] at h
    exact h
  have hgo := hW.o4
  generalize (w5.alloc (.cells z64.toArray 25)).setCells w5.heap.size 0 z64 = w6 at *
  generalize w5.heap.size = go at *
  clear hW
  refine vloop5 w w6 gk gh gm cm N go l ms _ _ HL8.out hgo ⟨0, Nat.zero_le _, ⟨rfl, rfl, rfl, rfl, rfl, rfl, rfl, rfl, rfl, rfl, trivial⟩, hW6, hO6⟩ ?_
  clear hW6 hO6
  rintro a7 w7 ⟨hF, hW, hO⟩
  obtain ⟨hs0, hd0, h25, h2, h3, h4, h5, -⟩ := hF
  obtain ⟨u, rfl⟩ := frame249 a7 hs0 hd0
  clear hs0 hd0
  change u 25 = _ at h25
  change u 2 = _ at h2
  change u 3 = _ at h3
  change u 4 = _ at h4
  change u 5 = _ at h5
  rw [h25, h2, h3, h4, h5]
  clear h25 h2 h3 h4 h5
  have HV : Hid (hashVal (widSum bs) = .agg ((words8 l).map cellOf).toArray) := by show _ = _; rw [HX.out]; rfl
  have HW : Hid (((words8 l).map cellOf).length = 64) := by show _ = _; rw [List.length_map, words8_length, HL8.out]
  have HP : Hid (∀ v ∈ (words8 l).map cellOf, v.oneCell' = true) := cells8_one _
  generalize (words8 l).map cellOf = vs at *
  have HS : Hid (vs.toArray.size = 64) := by show _ = _; rw [List.size_toArray, HW.out]
  have hi : (Tryd.prog.info? 25).map (·.size) = some vs.toArray.size := by rw [HS.out]; exact size_r64
  have hT : w7.there w.heap.size 0 vs.toArray.size := by rw [HS.out]; exact hW.res.there 0 64 (by simp)
  go_wp2_with (first
    | (refine wpList_load_row rfl 25 _ rfl go rfl 25 _ (0, 0) _ hO Tryd.underlying25 rfl hi ?_)
    | (refine wpList_store_mid rfl 25 _ _ rfl w.heap.size 0 vs.toArray rfl rfl hT hi (all_oneCell_toArray HP.out) ?_))
  have hC := hW.res.setCells (cs := vs) (o := 0) (by simp [HW.out])
  rw [splice_all _ _ (by simp [HW.out])] at hC
  refine ret_block Tryd.results8 w.heap.size vs 25 rfl hC Tryd.underlying25 rfl (by simpa using hi) rfl ⟨by rw [HV.out], below_setCells hW.below (Nat.le_refl _) _ _⟩
end Go.Proofs.YtpbkjphdkdlhjaaDoor
