/- The document's own SHA-256: the whole of its Sum. -/
import Derived.Test.YtmhelmmonkgmmaaDoorRSha
namespace Go.Proofs.YtmhelmmonkgmmaaDoor
open Go.RowKit
/-- 32 bytes of nought. (Named, so that a walk leaves them whole.) -/
def z32 : List Value := List.replicate 32 (cellOf 0)
theorem z32_lit : z32.toArray = #[.int .u8 0, .int .u8 0, .int .u8 0, .int .u8 0, .int .u8 0, .int .u8 0, .int .u8 0, .int .u8 0, .int .u8 0, .int .u8 0, .int .u8 0, .int .u8 0, .int .u8 0, .int .u8 0, .int .u8 0, .int .u8 0, .int .u8 0, .int .u8 0, .int .u8 0, .int .u8 0, .int .u8 0, .int .u8 0, .int .u8 0, .int .u8 0, .int .u8 0, .int .u8 0, .int .u8 0, .int .u8 0, .int .u8 0, .int .u8 0, .int .u8 0, .int .u8 0] := by rfl
theorem ones_r32 : z32.toArray.all (·.oneCell') = true := all_oneCell_toArray (by intro v hv; rw [List.eq_of_mem_replicate hv]; rfl)
set_option maxRecDepth 100000 in
set_option maxHeartbeats 1000000 in
theorem refSum_any (A : Option Addr) (c n : Nat) (bs : List UInt8) (w : World) (hl : bs.length = n) (hr : Row w w.heap.size A bs) (hA : A = none → c = 0) (hn : n ≤ 900000) :
    Calls Tryd.prog 22 #[.slice A n c] w fun e w' => e = .returned (hashVal (shaSum bs)) ∧ Below w.heap.size w w' := by
  have HL := Lib.hid hl
  clear hl
  go_enter Tryd.func22, Tryd.ntmps22
  go_wp2_with (refine alloc_step rfl 29 rfl _ zero_r32 ?_
               intro w0 hw0
               have hB0 : Below w.heap.size w w0 := by rw [hw0]; exact (Below.refl _ _).alloc (Nat.le_refl _) _
               have hR0 : Cells w0 w.heap.size (List.replicate 32 (cellOf 0)) 29 := by rw [hw0]; exact Cells.new w _ _
               clear hw0
               have hz := hR0.lt)
  refine (constants_any w0).mono ?_
  rintro e w1 ⟨rfl, hB1, hK1⟩
  have hB2 := hB0.trans (hB1.mono hB0.size)
  have hR2 := hR0.below hB1 hR0.lt
  have hz2 := hK1.lt
  generalize w0.heap.size = gk at *
  clear hB0 hR0 hB1
  go_wp2_with fail
  have hH3 : Cells (w1.alloc (.cells #[.int .u32 1779033703, .int .u32 3144134277, .int .u32 1013904242, .int .u32 2773480762, .int .u32 1359893119, .int .u32 2600822924, .int .u32 528734635, .int .u32 1541459225] 61)) w1.heap.size (shaStart.list.map wcell) 61 := Cells.new w1 (shaStart.list.map wcell).toArray 61
  have hB3 := hB2.alloc hB2.size (.cells #[.int .u32 1779033703, .int .u32 3144134277, .int .u32 1013904242, .int .u32 2773480762, .int .u32 1359893119, .int .u32 2600822924, .int .u32 528734635, .int .u32 1541459225] 61)
  have hR3 := hR2.alloc (.cells #[.int .u32 1779033703, .int .u32 3144134277, .int .u32 1013904242, .int .u32 2773480762, .int .u32 1359893119, .int .u32 2600822924, .int .u32 528734635, .int .u32 1541459225] 61)
  have hK3 := hK1.alloc (.cells #[.int .u32 1779033703, .int .u32 3144134277, .int .u32 1013904242, .int .u32 2773480762, .int .u32 1359893119, .int .u32 2600822924, .int .u32 528734635, .int .u32 1541459225] 61)
  generalize w1.alloc (.cells #[.int .u32 1779033703, .int .u32 3144134277, .int .u32 1013904242, .int .u32 2773480762, .int .u32 1359893119, .int .u32 2600822924, .int .u32 528734635, .int .u32 1541459225] 61) = w2 at *
  generalize w1.heap.size = gh at *
  have hz3 := hH3.lt
  clear hB2 hR2 hK1
  refine (padded_any A c n bs w2 HL.out (hr.on hB3) hA hn).mono ?_
  rintro e w3 ⟨gm, cm, rfl, hgm, hB4, hM⟩
  have HGM : Hid (gh < gm) := by show _ < _; omega
  clear hgm
  have hB5 := hB3.trans (hB4.mono hB3.size)
  have hR5 := hR3.below hB4 hR3.lt
  have hK5 := hK3.below hB4 hK3.lt
  have hH5 := hH3.below hB4 hH3.lt
  clear hB3 hR3 hK3 hH3
  have HM : Hid ((shaPadded bs).length = 64 * ((shaPadded bs).length / 64)) := by
    show _ = _
    have h1 := shaPadded_length bs
    have h2 := shaEnd_mod bs.length
    omega
  have hm1 : (shaPadded bs).length / 64 ≤ 20000 := by
    have h1 := shaPadded_length bs
    have h2 := shaPad_pos bs.length
    have h3 := HL.out
    omega
  have HX : Hid (shaSum bs = words4 (shaChain (shaPadded bs) ((shaPadded bs).length / 64)).list) := rfl
  have HM0 : Hid (0 < (shaPadded bs).length) := by show _ < _; rw [shaPadded_length]; omega
  generalize shaPadded bs = ms at *
  generalize hN : ms.length / 64 = N at *
  replace hN := Lib.hid hN
  go_wp2_with fail
  rw [HM.out]
  have hW0 : RW w w3 gk gh gm ((shaChain ms 0).list.map wcell) ms := ⟨hB5, hR5, hK5, hH5, hM, hz, hz2, HGM.out, by
    rcases hM with e | ⟨b', off', e3, h, _⟩
    · exfalso
      subst e
      have h1 := HM0.out
      simp at h1
    · cases e3; exact h⟩
  refine loop1 w w3 gk gh gm cm N ms _ _ hm1 HM.out ⟨0, Nat.zero_le _, ⟨rfl, rfl, rfl, rfl, rfl, rfl, rfl, trivial⟩, hW0⟩ ?_
  clear hW0 hB5 hR5 hK5 hH5 hM hB4
  rintro a5 w5 ⟨hF, hW⟩
  obtain ⟨hs0, hd0, h2, h3, h4, h5, -⟩ := hF
  obtain ⟨u, rfl⟩ := frame271 a5 hs0 hd0
  clear hs0 hd0
  change u 2 = _ at h2
  change u 3 = _ at h3
  change u 4 = _ at h4
  change u 5 = _ at h5
  rw [h2, h3, h4, h5]
  clear h2 h3 h4 h5
  have HL8 : Hid ((shaChain ms N).list.length = 8) := rfl
  generalize (shaChain ms N).list = l at *
  have HT6 : Hid ((w5.alloc (.cells z32.toArray 29)).there w5.heap.size 0 z32.toArray.size) := (Cells.new w5 z32.toArray 29).there 0 32 (by simp [z32])
  go_wp2_with (first
    | (rw [← z32_lit]
       refine wpList_store_mid rfl 29 _ _ rfl w5.heap.size 0 z32.toArray rfl rfl HT6.out size_r32 ones_r32 ?_))
  have hW6 := (hW.alloc (.cells z32.toArray 29)).but ((But.refl w5.heap.size _).setCells 0 z32) hW.o4
  have hO6 : Cells ((w5.alloc (.cells z32.toArray 29)).setCells w5.heap.size 0 z32) w5.heap.size (List.replicate 32 (cellOf 0)) 29 := by
    have h := (Cells.new w5 z32.toArray 29).setCells (cs := z32) (o := 0) (by simp [z32])
    rw [splice_all _ _ (by simp [z32])] at h
    exact h
  have hgo := hW.o4
  generalize (w5.alloc (.cells z32.toArray 29)).setCells w5.heap.size 0 z32 = w6 at *
  generalize w5.heap.size = go at *
  clear hW
  refine loop5 w w6 gk gh gm cm N go l ms _ _ HL8.out hgo ⟨0, Nat.zero_le _, ⟨rfl, rfl, rfl, rfl, rfl, rfl, rfl, rfl, rfl, rfl, trivial⟩, hW6, hO6⟩ ?_
  clear hW6 hO6
  rintro a7 w7 ⟨hF, hW, hO⟩
  obtain ⟨hs0, hd0, h25, h2, h3, h4, h5, -⟩ := hF
  obtain ⟨u, rfl⟩ := frame271 a7 hs0 hd0
  clear hs0 hd0
  change u 25 = _ at h25
  change u 2 = _ at h2
  change u 3 = _ at h3
  change u 4 = _ at h4
  change u 5 = _ at h5
  rw [h25, h2, h3, h4, h5]
  clear h25 h2 h3 h4 h5
  have HV : Hid (hashVal (shaSum bs) = .agg ((words4 l).map cellOf).toArray) := by show _ = _; rw [HX.out]; rfl
  have HW : Hid (((words4 l).map cellOf).length = 32) := by show _ = _; rw [List.length_map, words4_length, HL8.out]
  have HP : Hid (∀ v ∈ (words4 l).map cellOf, v.oneCell' = true) := cells8_one _
  generalize (words4 l).map cellOf = vs at *
  have HS : Hid (vs.toArray.size = 32) := by show _ = _; rw [List.size_toArray, HW.out]
  have hi : (Tryd.prog.info? 29).map (·.size) = some vs.toArray.size := by rw [HS.out]; exact size_r32
  have hT : w7.there w.heap.size 0 vs.toArray.size := by rw [HS.out]; exact hW.res.there 0 32 (by simp)
  go_wp2_with (first
    | (refine wpList_load_row rfl 29 _ rfl go rfl 29 _ (0, 0) _ hO Tryd.underlying29 rfl hi ?_)
    | (refine wpList_store_mid rfl 29 _ _ rfl w.heap.size 0 vs.toArray rfl rfl hT hi (all_oneCell_toArray HP.out) ?_))
  have hC := hW.res.setCells (cs := vs) (o := 0) (by simp [HW.out])
  rw [splice_all _ _ (by simp [HW.out])] at hC
  refine ret_block Tryd.results22 w.heap.size vs 29 rfl hC Tryd.underlying29 rfl (by simpa using hi) rfl ⟨by rw [HV.out], below_setCells hW.below (Nat.le_refl _) _ _⟩
end Go.Proofs.YtmhelmmonkgmmaaDoor
