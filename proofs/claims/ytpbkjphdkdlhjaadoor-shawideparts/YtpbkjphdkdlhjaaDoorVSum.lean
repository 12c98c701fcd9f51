/- The digest of parts: package shawide's Sum. -/
import Derived.Test.YtpbkjphdkdlhjaaDoorVSeq
import Derived.Shelf.Abstract
namespace Go.Proofs.YtpbkjphdkdlhjaaDoor
open Go.RowKit Go.Shelf
theorem blocks_any (v : Value) (A : Option Addr) (n c : Nat) (w : World) (hv : v = .slice A n c) :
    Calls Tryd.prog 12 #[v] w fun e w' => e = .returned (.func (.func 20) #[] #[.pointer (some ⟨w.heap.size, 0, none⟩)]) ∧ Below w.heap.size w w' ∧ w'.cell? ⟨w.heap.size, 0, none⟩ = some v ∧ w'.heap.size = w.heap.size + 1 := by
  subst hv
  have HC := Lib.hid (Cells.new w #[.slice A n c] 22)
  have HB : Hid (Below w.heap.size w (w.alloc (.cells #[.slice A n c] 22))) := (Below.refl _ _).alloc (Nat.le_refl _) _
  have HS : Hid ((w.alloc (.cells #[.slice A n c] 22)).heap.size = w.heap.size + 1) := by show _ = _; simp
  go_enter Tryd.func12, Tryd.ntmps12
  go_wp2
  go_ret
  exact ⟨rfl, HB.out, HC.out.get rfl, HS.out⟩
/-- What stands between two rounds of Sum: k blocks have been taken. -/
def SumAt (w : World) (ms : List UInt8) (k : Nat) (W : World) : Prop :=
  Below w.heap.size w W ∧ TabsW W ∧ Cells W w.heap.size (List.replicate 64 (cellOf 0)) 26 ∧ Cells W (w.heap.size + 1) (chainVal (widChain ms k)) 42
theorem SumAt.start {w W : World} {ms : List UInt8} (h1 : Below w.heap.size w W) (h2 : TabsW W) (h3 : Cells W w.heap.size (List.replicate 64 (cellOf 0)) 26) (h4 : Cells W (w.heap.size + 1) (chainVal widStart) 42) : SumAt w ms 0 W :=
  ⟨h1, h2, h3, by unfold widChain; exact h4⟩
theorem SumAt.next {w W : World} {ms : List UInt8} {k : Nat} (h1 : Below w.heap.size w W) (h2 : TabsW W) (h3 : Cells W w.heap.size (List.replicate 64 (cellOf 0)) 26) (h4 : Cells W (w.heap.size + 1) (chainVal (widBlock (widChain ms k) ((ms.drop (128 * k)).take 128))) 42) : SumAt w ms (k + 1) W :=
  ⟨h1, h2, h3, by unfold widChain; exact h4⟩
theorem SumAt.keep {w W W' : World} {ms : List UInt8} {k B : Nat} (h : SumAt w ms k W) (hb : Below B W W') (hB : w.heap.size + 2 ≤ B) (hg1 : 0 < w.heap.size) (hg2 : 20 < w.heap.size) : SumAt w ms k W' :=
  ⟨h.1.trans (hb.mono (by omega)), h.2.1.keep hb (Nat.lt_of_lt_of_le hg1 (by omega)) (Nat.lt_of_lt_of_le hg2 (by omega)), h.2.2.1.below hb (by omega), h.2.2.2.below hb (by omega)⟩
set_option maxRecDepth 100000 in
set_option maxHeartbeats 1000000 in
theorem wideSum_any (D : Option Addr) (d n : Nat) (ps : List (List UInt8)) (w : World) (hK : TabsW w) (hl : ps.length = n) (hP : Parts w w.heap.size D ps) (hn1 : n ≤ 90000) (hn : ps.flatten.length ≤ 900000) :
    Calls Tryd.prog 7 #[.slice D n d] w fun e w' => e = .returned (hashVal (widSum ps.flatten)) ∧ Below w.heap.size w w' := by
  have HL := Lib.hid hl
  clear hl
  have hg1 := hK.lt.1
  have hg2 := hK.lt.2
  obtain ⟨ms, hms⟩ : ∃ ms, (ps ++ [widEnd ps.flatten.length]).flatten = ms := ⟨_, rfl⟩
  replace hms := Lib.hid hms
  have HZ : Hid ((chainVal widStart).toArray.size = 8) := rfl
  have hi0 : (Tryd.prog.info? 42).map (·.size) = some (chainVal widStart).toArray.size := by rw [HZ.out]; exact size_chain
  have HI0 : Hid ((Tryd.prog.info? 42).map (·.size) = some (chainVal widStart).length) := size_chain
  have H1 : Hid ((chainVal widStart).toArray.all (·.oneCell') = true) := vcells_one _
  have HR : Hid (∀ W, Below w.heap.size w W → W.rangeAt 0 0 (chainVal widStart)) := fun W hb => (hK.below hb).1
  refine (callsIn_wide (n := 0)).1 (callsIn_of_wp_marks Tryd.func7 rfl trivial (wpIn_wide.2 ?_))
  simp only [Tryd.ntmps7, List.size_toArray, List.length_cons, List.length_nil, Nat.reduceAdd, Nat.reduceSub, Array.replicate_succ, Array.replicate_zero, List.push_toArray, List.append_toArray, List.nil_append, List.cons_append]
  generalize hcs : chainVal widStart = cs at *
  replace hcs := Lib.hid hcs
  have HZ2 : Hid (cs.length = 8) := by show _ = _; rw [← hcs.out]; rfl
  go_wp2_with (first
    | (refine alloc_step rfl 26 rfl _ zero_wide ?_
       intro w1 hw1
       have hB1 : Below w.heap.size w w1 := by rw [hw1]; exact (Below.refl _ _).alloc (Nat.le_refl _) _
       have hR1 : Cells w1 w.heap.size (List.replicate 64 (cellOf 0)) 26 := by rw [hw1]; exact Cells.new w _ _
       have hs1 : w1.heap.size = w.heap.size + 1 := by rw [hw1]; simp
       have hrg := HR.out w1 hB1
       clear hw1)
    | (refine wpList_load_mid rfl 42 _ rfl 0 0 rfl cs _ hrg Tryd.underlying42 rfl HI0.out ?_)
    | (refine alloc_step rfl 42 rfl _ zero_chain ?_
       intro w2 hw2
       have hB2 : Below w.heap.size w w2 := by rw [hw2]; exact hB1.alloc hB1.size _
       have hR2 : Cells w2 w.heap.size (List.replicate 64 (cellOf 0)) 26 := by rw [hw2]; exact hR1.alloc _
       have hC2 : Cells w2 (w.heap.size + 1) (List.replicate 8 (vcell 0)) 42 := by rw [hw2, ← hs1]; exact Cells.new w1 _ _
       have hs2 : w2.heap.size = w.heap.size + 2 := by rw [hw2]; simp [hs1]
       have hT2 : w2.there (w.heap.size + 1) 0 cs.toArray.size := by rw [HZ.out]; exact hC2.there 0 8 (by simp)
       rw [hs1]
       clear hw2 hB1 hR1 hrg)
    | (refine wpList_store_mid rfl 42 _ _ rfl (w.heap.size + 1) 0 cs.toArray rfl rfl hT2 hi0 H1.out ?_))
  have hB3 : Below w.heap.size w (w2.setCells (w.heap.size + 1) 0 cs) := below_setCells hB2 (by omega) _ _
  have hR3 : Cells (w2.setCells (w.heap.size + 1) 0 cs) w.heap.size (List.replicate 64 (cellOf 0)) 26 := hR2.otherCells (by omega) _ _
  have hC3 : Cells (w2.setCells (w.heap.size + 1) 0 cs) (w.heap.size + 1) cs 42 := by
    have h := hC2.setCells (cs := cs) (o := 0) (by rw [HZ2.out]; simp)
    rw [splice_all _ _ (by rw [HZ2.out]; simp)] at h
    exact h
  have hs3 : (w2.setCells (w.heap.size + 1) 0 cs).heap.size = w.heap.size + 2 := by rw [(heap_setCells _ _ _ _).2.2.2.1]; exact hs2
  generalize w2.setCells (w.heap.size + 1) 0 cs = w3 at *
  rw [← hcs.out] at hC3
  have hS3 : SumAt w ms 0 w3 := SumAt.start hB3 (hK.below hB3) hR3 hC3
  clear hB2 hR2 hC2 hT2 hs2 hs1 hC3 hR3
  refine (ended_any D d n w.heap.size ps w3 HL.out hB3.size (hP.below hB3) (by omega) hn).mono ?_
  rintro e w4 ⟨g, c, rfl, hB4, hE4⟩
  go_wp2_with fail
  refine (blocks_any _ (some ⟨g, 0, none⟩) (n + 1) c w4 rfl).mono ?_
  rintro e w5 ⟨rfl, hB5, hc5, hs5⟩
  go_wp2_with fail
  have hB6 : Below w3.heap.size w3 w5 := hB4.trans (hB5.mono hB4.size)
  have hz4 := hB4.size
  have HMM : Hid (ms = widPadded ps.flatten) := by
    show _ = _
    rw [← hms.out, List.flatten_append, widPadded]
    simp
  have hlen : ms.length = 128 * (ms.length / 128) := by
    have := widPadded_mod ps.flatten
    rw [← HMM.out] at this
    omega
  have hPG : PartsG w5 (fun b => b < w5.heap.size ∧ ¬ b = w.heap.size + 1) g (ps ++ [widEnd ps.flatten.length]) := by
    have hmono : ∀ b, (b < w.heap.size ∨ (w3.heap.size ≤ b ∧ b < w4.heap.size)) → b < w5.heap.size ∧ ¬ b = w.heap.size + 1 := fun b hb => by omega
    refine ⟨hmono g (.inr ⟨hE4.1, hE4.2.1⟩), fun j us hu => ?_⟩
    obtain ⟨v, h1, h2⟩ := hE4.2.2 j us hu
    refine ⟨v, (hB5.cell (p := ⟨g, j, none⟩) hE4.2.1).trans h1, ?_⟩
    exact (h2.keep fun b hb => hB5.block b (by omega)).mono hmono
  have hseq := blocks1_any w4.heap.size g (n + 1) c (ms.length / 128) _ (fun b => b = w.heap.size + 1) w5 (by rw [List.length_append, HL.out]; rfl) (by omega) (by rw [hms.out]; exact hlen) (fun k hk => by omega) (by omega) hc5 hPG
  rw [hms.out] at hseq
  refine wp_rangeFunc_all rfl (enters_of Tryd.func20 (by kernel_rfl) rfl) hseq (fun _ => rfl) (fun k hk => by omega) (SumAt w ms) (fun k W W' h hb => h.keep hb (by omega) hg1 hg2) (hS3.keep hB6 (by omega) hg1 hg2) ?_ ?_
  · intro l k W hk hl1 hl2 hI
    have HBL : Hid (((ms.drop (128 * k)).take 128).length = 128) := by
      show _ = _
      rw [List.length_take, List.length_drop]
      omega
    have HN : Hid (chainVal (widChain ms (k + 1)) = chainVal (widBlock (widChain ms k) ((ms.drop (128 * k)).take 128))) := rfl
    refine region_in (fun h => by obtain ⟨_, _, h⟩ := h; exact h) (by intro o ho c; simp at ho; rcases ho with rfl | rfl <;> simp) ?_
    rw [show blockArg ms k = #[hashVal ((ms.drop (128 * k)).take 128)] from rfl, one_param]
    change wpList _ _ _ _ { tmps := #[.slice D n d, undef, .pointer (some ⟨w.heap.size, 0, none⟩), .pointer (some ⟨w.heap.size + 1, 0, none⟩), undef, .agg cs.toArray, .slice D n d, .slice (some ⟨g, 0, none⟩) (n + 1) c, .func (.func 20) #[] #[.pointer (some ⟨w4.heap.size, 0, none⟩)], .agg (((ms.drop (128 * k)).take 128).map cellOf).toArray, undef, undef, undef, undef, undef], defers := [] } W
    have hvl : Hid (((((ms.drop (128 * k)).take 128).map cellOf)).length = 128) := by show _ = _; rw [List.length_map, HBL.out]
    have hvo : Hid (∀ v ∈ ((ms.drop (128 * k)).take 128).map cellOf, v.oneCell' = true) := cells8_one _
    generalize (ms.drop (128 * k)).take 128 = bk at *
    generalize hvs : bk.map cellOf = vs at *
    replace hvs := Lib.hid hvs
    have HVS : Hid (vs.toArray.size = 128) := by show _ = _; rw [List.size_toArray, hvl.out]
    have hi : (Tryd.prog.info? 48).map (·.size) = some vs.toArray.size := by rw [HVS.out]; exact size_block
    have HI := Lib.hid hI
    clear hI hseq
    go_wp2_with (first
      | (refine alloc_step rfl 48 rfl _ zero_block ?_
         intro w6 hw6
         have hB7 : Below W.heap.size W w6 := by rw [hw6]; exact (Below.refl _ _).alloc (Nat.le_refl _) _
         have hC7 : Cells w6 W.heap.size (List.replicate 128 (cellOf 0)) 48 := by rw [hw6]; exact Cells.new W _ _
         clear hw6
         have hT7 : w6.there W.heap.size 0 vs.toArray.size := by rw [HVS.out]; exact hC7.there 0 128 (by simp))
      | (refine wpList_store_mid rfl 48 _ _ rfl W.heap.size 0 vs.toArray rfl rfl hT7 hi (all_oneCell_toArray hvo.out) ?_))
    have hC8 : Cells (w6.setCells W.heap.size 0 vs) W.heap.size vs 48 := by
      have h := hC7.setCells (cs := vs) (o := 0) (by rw [hvl.out]; simp)
      rw [splice_all _ _ (by rw [hvl.out]; simp)] at h
      exact h
    refine ⟨below_setCells hB7 (Nat.le_refl _) _ _, fun W₂ ht2 hI2 => ?_⟩
    have hC9 := hC8.turns ht2 (by omega)
    have hz2 := hC9.lt
    clear hC8 hC7 hT7 hB7 ht2
    change Code.wpIn _ _ _ _ _ { tmps := #[.slice D n d, undef, .pointer (some ⟨w.heap.size, 0, none⟩), .pointer (some ⟨w.heap.size + 1, 0, none⟩), .pointer (some ⟨W.heap.size, 0, none⟩), .agg cs.toArray, .slice D n d, .slice (some ⟨g, 0, none⟩) (n + 1) c, .func (.func 20) #[] #[.pointer (some ⟨w4.heap.size, 0, none⟩)], .agg vs.toArray, undef, undef, undef, undef, undef], defers := [] } W₂
    refine wpIn_block (region_in (fun h => by obtain ⟨_, _, h⟩ := h; exact h) (by intro o ho c; simp at ho; rcases ho with rfl | rfl | rfl | rfl <;> simp) ?_)
    obtain ⟨hI3, hT3, hR3, hL3⟩ := hI2
    have HO : Hid (∃ o : Wct, widChain ms k = o) := ⟨_, rfl⟩
    obtain ⟨o, ho⟩ := HO.out
    clear HO
    rw [ho] at hL3 HN
    obtain ⟨ys, hys⟩ : ∃ ys, chainVal o = ys := ⟨_, rfl⟩
    obtain ⟨zs, hzs⟩ : ∃ zs, chainVal (widBlock o bk) = zs := ⟨_, rfl⟩
    have HYL : Hid (ys.toArray.size = 8) := by show _ = _; rw [← hys]; rfl
    have HZL : Hid (zs.length = 8) := by show _ = _; rw [← hzs]; rfl
    have HZS : Hid (zs.toArray.size = 8) := by show _ = _; rw [List.size_toArray, HZL.out]
    have HZO : Hid (∀ v ∈ zs, v.oneCell' = true) := by
      show ∀ v ∈ zs, v.oneCell' = true
      rw [← hzs]
      intro v hv
      obtain ⟨x, _, rfl⟩ := List.mem_map.1 hv
      rfl
    rw [hys] at hL3
    have hiy : (Tryd.prog.info? 42).map (·.size) = some ys.toArray.size := by rw [HYL.out]; exact size_chain
    have hiz : (Tryd.prog.info? 42).map (·.size) = some zs.toArray.size := by rw [HZS.out]; exact size_chain
    have HY := Lib.hid hys
    have HZZ := Lib.hid hzs
    have HO := Lib.hid ho
    clear hys hzs ho HI
    go_wp2_with (first
      | (refine wpList_load_row rfl 42 _ rfl (w.heap.size + 1) rfl 42 _ (0, 0) _ hL3 Tryd.underlying42 rfl hiy ?_)
      | (refine wpList_load_row rfl 48 _ rfl W.heap.size rfl 48 _ (0, 0) _ hC9 Tryd.underlying48 rfl hi ?_))
    refine (worked_any o bk ys vs W₂ hT3 HY.out.symm hvs.out.symm HBL.out).mono ?_
    rintro e w7 ⟨rfl, hB8⟩
    rw [HZZ.out]
    have hL4 := hL3.below hB8 hL3.lt
    have hR4 := hR3.below hB8 hR3.lt
    have hT4 : w7.there (w.heap.size + 1) 0 zs.toArray.size := by rw [HZS.out]; exact hL4.there 0 8 (by rw [← List.size_toArray, HYL.out]; exact Nat.le_refl _)
    go_wp2_with (refine wpList_store_mid rfl 42 _ _ rfl (w.heap.size + 1) 0 zs.toArray rfl rfl hT4 hiz (all_oneCell_toArray HZO.out) ?_)
    have hY4 : ys.length = 8 := by rw [← List.size_toArray]; exact HYL.out
    have hL5 : Cells (w7.setCells (w.heap.size + 1) 0 zs) (w.heap.size + 1) zs 42 := by
      have h := hL4.setCells (cs := zs) (o := 0) (by rw [HZL.out, hY4]; exact Nat.le_refl _)
      rw [splice_all _ _ (by rw [HZL.out, hY4])] at h
      exact h
    have hR5 : Cells (w7.setCells (w.heap.size + 1) 0 zs) w.heap.size (List.replicate 64 (cellOf 0)) 26 := hR4.otherCells (by omega) _ _
    have hB9 : But (w.heap.size + 1) W₂ (w7.setCells (w.heap.size + 1) 0 zs) := (But.of_below hB8).setCells _ _
    generalize w7.setCells (w.heap.size + 1) 0 zs = w8 at *
    have hB10 : Below w.heap.size W₂ w8 := hB9.below (by omega) hI3.size
    rw [← HZZ.out, ← HN.out] at hL5
    exact ⟨Turns.of_but hB9 rfl, hI3.trans hB10, hT3.keep hB10 hg1 hg2, hR5, hL5⟩
  · intro W hI hsz hKd
    obtain ⟨hI3, hT3, hR3, hL3⟩ := hI
    have HD : Hid (words8 (widChain ms (ms.length / 128)).list = widSum ps.flatten) := by
      show _ = _
      rw [HMM.out]
      rfl
    obtain ⟨o, ho⟩ : ∃ o : Wct, widChain ms (ms.length / 128) = o := ⟨_, rfl⟩
    rw [ho] at hL3 HD
    obtain ⟨ys, hys⟩ : ∃ ys, chainVal o = ys := ⟨_, rfl⟩
    have HYL : Hid (ys.toArray.size = 8) := by show _ = _; rw [← hys]; rfl
    rw [hys] at hL3
    have hiy : (Tryd.prog.info? 42).map (·.size) = some ys.toArray.size := by rw [HYL.out]; exact size_chain
    have HY := Lib.hid hys
    clear hys ho hseq
    go_wp2_with (refine wpList_load_row rfl 42 _ rfl (w.heap.size + 1) rfl 42 _ (0, 0) _ hL3 Tryd.underlying42 rfl hiy ?_)
    refine (digest64_any o ys W HY.out.symm).mono ?_
    rintro e w6 ⟨rfl, hB7⟩
    rw [HD.out]
    have hR7 := hR3.below hB7 hR3.lt
    have hB8 := hI3.trans (hB7.mono hI3.size)
    have hKd2 : w6.heap[w5.heap.size]? = some (.deferred (some [])) := (hB7.block _ hsz).trans hKd
    have HV : Hid (hashVal (widSum ps.flatten) = .agg ((widSum ps.flatten).map cellOf).toArray) := rfl
    have HW : Hid (((widSum ps.flatten).map cellOf).length = 64) := by show _ = _; rw [List.length_map, widSum_length]
    have HP : Hid (∀ v ∈ (widSum ps.flatten).map cellOf, v.oneCell' = true) := cells8_one _
    rw [HV.out]
    generalize (widSum ps.flatten).map cellOf = vs at *
    have HS : Hid (vs.toArray.size = 64) := by show _ = _; rw [List.size_toArray, HW.out]
    have hi : (Tryd.prog.info? 26).map (·.size) = some vs.toArray.size := by rw [HS.out]; exact size_wide
    have hT : w6.there w.heap.size 0 vs.toArray.size := by rw [HS.out]; exact hR7.there 0 64 (by simp)
    go_wp2_with (refine wpList_store_mid rfl 26 _ _ rfl w.heap.size 0 vs.toArray rfl rfl hT hi (all_oneCell_toArray HP.out) ?_)
    have hC := hR7.setCells (cs := vs) (o := 0) (by simp [HW.out])
    rw [splice_all _ _ (by simp [HW.out])] at hC
    have hB9 : Below w.heap.size w (w6.setCells w.heap.size 0 vs) := below_setCells hB8 (Nat.le_refl _) _ _
    have hKd3 : (w6.setCells w.heap.size 0 vs).heap[w5.heap.size]? = some (.deferred (some [])) := ((heap_setCells _ _ _ _).2.2.2.2 _ (by omega)).trans hKd2
    generalize w6.setCells w.heap.size 0 vs = w8 at *
    rw [hs5] at hKd3
    refine ⟨by simp, .inl ⟨_, _, rfl, run_takeDeferred hKd3, ?_⟩⟩
    have hC2 : Cells (w8.putObj (w4.heap.size + 1) (.deferred none)) w.heap.size vs 26 := (World.putObj_heap_other (by omega)).trans hC
    exact ⟨_, results_cell_row Tryd.results7 _ _ w.heap.size 26 vs.toArray (0, 0) _ rfl hC2 Tryd.underlying26 rfl hi, by rw [HV.out], hB9.trans ((turns_putObj w8 (w4.heap.size + 1) _).below hB9.size (fun k e => by omega))⟩
end Go.Proofs.YtpbkjphdkdlhjaaDoor
