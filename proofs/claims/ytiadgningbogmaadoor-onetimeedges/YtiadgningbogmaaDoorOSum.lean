/- Package onetime: Sum, Right. -/
import Derived.Test.YtiadgningbogmaaDoorOEnd
namespace Go.Proofs.YtiadgningbogmaaDoor
open Go.RowKit
theorem coder_new (r0 r1 r2 r3 r4 : Nat) (w : World) : (Instr.build 47 #[(0, numVal [r0, r1, r2, r3, r4])]).run Tryd.prog w = .ok (.agg (coderCells [r0, r1, r2, r3, r4] [0, 0, 0, 0, 0] (List.replicate 16 0) 0).toArray) w := by kernel_rfl
theorem zero_coder : ∀ w, (zeroValue 47).run Tryd.prog w = .ok (.agg (coderCells [0, 0, 0, 0, 0] [0, 0, 0, 0, 0] (List.replicate 16 0) 0).toArray) w := (zero_of_info (P := Tryd.prog) (t := 47) (v := .agg (coderCells [0, 0, 0, 0, 0] [0, 0, 0, 0, 0] (List.replicate 16 0) 0).toArray) (n := 27) (by kernel_rfl)).1
theorem size_coder : (Tryd.prog.info? 47).map (·.size) = some 27 := by kernel_rfl
theorem coder_one (r t : List Nat) (rest : List UInt8) (h : Nat) : (coderCells r t rest h).toArray.all (·.oneCell') = true := by
  refine all_oneCell_toArray fun v hv => ?_
  simp only [coderCells, List.mem_append, List.mem_map, List.mem_singleton] at hv
  rcases hv with ((⟨x, _, rfl⟩ | ⟨x, _, rfl⟩) | ⟨x, _, rfl⟩) | rfl <;> rfl
theorem limbs_five (x : Nat) : ∃ r0 r1 r2 r3 r4, limbsOf x = [r0, r1, r2, r3, r4] := ⟨_, _, _, _, _, rfl⟩
set_option maxRecDepth 100000 in
set_option maxHeartbeats 2000000 in
theorem onetimeSum_over (D : Option Addr) (d n R : Nat) (ps : List (List UInt8)) (key kc out : List UInt8) (w : World) (HK : Hid (key.length = 32)) (HL : Hid (ps.length = n)) (hP : Parts w w.heap.size D ps) (hn1 : n ≤ 1000000) (hR : R < 1361129467683753853853498429727072845824) (HOL : Hid (out.length = 16))
    (CC : Hid (∀ W, Calls Tryd.prog 15 #[hashVal key] W fun e w' => e = .returned (hashVal kc) ∧ Below W.heap.size W w'))
    (CR : Hid (∀ W, Calls Tryd.prog 14 #[hashVal kc] W fun e w' => e = .returned (numVal (limbsOf R)) ∧ Below W.heap.size W w'))
    (CE : Hid (∀ g W, CoderOf W g R ps.flatten → Calls Tryd.prog 17 #[.pointer (some ⟨g, 0, none⟩), hashVal key] W fun e w' => e = .returned (hashVal out) ∧ But g W w')) :
    Calls Tryd.prog 8 #[hashVal key, .slice D n d] w fun e w' => e = .returned (hashVal out) ∧ Below w.heap.size w w' := by
  go_enter Tryd.func8, Tryd.ntmps8
  go_wp2_with (first
    | (refine take_step rfl 23 (.tmp 0) rfl key rfl ?_
       intro w1 hB1 hA1 hz
       clear hz)
    | (refine zero_step (o := ⟨some 4, _, _, _, _, _⟩) rfl 27 rfl 16 zero_b16 ?_
       intro w2 hb2 hZ2 hz
       have hB2 := below_then hB1 hb2
       have hA2 := hA1.on hb2
       have hg1 := hA1.lt
       clear hB1 hA1 hb2 hz)
    | (refine get_step rfl 23 _ rfl w.heap.size 32 key 5 rfl hA2 Tryd.underlying23 size_key HK.out ?_))
  refine (CC.out w2).mono ?_
  rintro e w3 ⟨rfl, hb3⟩
  have hB3 := below_then hB2 hb3
  have hA3 := hA2.on hb3
  have hZ3 := hZ2.on hb3
  clear CC hB2 hA2 hZ2 hb3
  go_wp2_with fail
  refine (CR.out w3).mono ?_
  rintro e w4 ⟨rfl, hb4⟩
  have hB4 := below_then hB3 hb4
  have hA4 := hA3.on hb4
  have hZ4 := hZ3.on hb4
  have hg2 := hZ4.lt
  clear CR hB3 hA3 hZ3 hb4
  generalize hgz : w1.heap.size = gz at *
  have HC0 : Hid (∀ W, CoderIs W w4.heap.size (limbsOf R) [0, 0, 0, 0, 0] (List.replicate 16 0) 0 → CoderOf W w4.heap.size R (ps.take 0).flatten) := fun W hc => ⟨_, _, hc, took_none _ _⟩
  have HRL : Hid ((limbsOf R).length = 5) := limbsOf_length R
  obtain ⟨r0, r1, r2, r3, r4, he⟩ := limbs_five R
  rw [he] at HC0 HRL ⊢
  have HE := Lib.hid he
  clear he
  have HCN : Hid ((coderCells [r0, r1, r2, r3, r4] [0, 0, 0, 0, 0] (List.replicate 16 0) 0).length = 27) := coderCells_length rfl rfl rfl
  have HCO := Lib.hid (coder_one [r0, r1, r2, r3, r4] [0, 0, 0, 0, 0] (List.replicate 16 0) 0)
  have HCW := Lib.hid (coder_new r0 r1 r2 r3 r4)
  have HCI : Hid (∀ W, Cells W w4.heap.size (coderCells [r0, r1, r2, r3, r4] [0, 0, 0, 0, 0] (List.replicate 16 0) 0) 47 → CoderIs W w4.heap.size [r0, r1, r2, r3, r4] [0, 0, 0, 0, 0] (List.replicate 16 0) 0) := fun W hc => ⟨rfl, rfl, rfl, hc⟩
  generalize coderCells [r0, r1, r2, r3, r4] [0, 0, 0, 0, 0] (List.replicate 16 0) 0 = cc at *
  go_wp2_with (first
    | (refine build_step rfl 47 _ rfl [(0, numVal [r0, r1, r2, r3, r4])] rfl _ HCW.out ?_)
    | (refine vput_step rfl rfl 47 (.tmp 5) (.tmp 11) rfl rfl 27 _ cc rfl rfl zero_coder rfl size_coder HCN.out HCO.out ?_
       intro w5 hb5 hc5
       have hB5 := below_then hB4 hb5
       have hA5 := hA4.on hb5
       have hZ5 := hZ4.on hb5
       have hC5 := HC0.out _ (HCI.out _ hc5)
       have hg4 : w4.heap.size < w5.heap.size := hc5.lt
       clear hB4 hA4 hZ4 hb5 hc5))
  clear HC0 HRL HE HCN HCO HCW HCI
  generalize hgc : w4.heap.size = gc at *
  go_loopw [14] (fun i wr => ∃ k : Nat, k ≤ n ∧ i = .int .i64 k ∧ Below w.heap.size w wr ∧ Cells wr w.heap.size (key.map cellOf) 23 ∧ Cells wr gz (List.replicate 16 (cellOf 0)) 27 ∧ CoderOf wr gc R (ps.take k).flatten) (fun i _ => n - (intOf i).toNat)
  case atStart => exact ⟨0, Nat.zero_le _, rfl, hB5, hA5, hZ5, hC5⟩
  case round =>
    clear hB5 hA5 hZ5 hC5
    obtain ⟨k, hk, rfl, hB, hA, hZ, hC⟩ := hrel
    by_cases hlt : k < n
    · have hlt2 : k < ps.length := by rw [HL.out]; exact hlt
      obtain ⟨b, off, A, c, rfl, hc1, hr1, h1, h2, _⟩ := (hP.below hB).at k hlt2
      have HS := Lib.hid (show (ps.take (k + 1)).flatten = (ps.take k).flatten ++ ps[k] by rw [take_snoc ps k hlt2, List.flatten_append]; simp)
      generalize ps[k] = us at *
      generalize hul : us.length = m at *
      replace hul := Lib.hid hul
      clear CE
      go_wp2_with fail
      refine (cwrite_any gc R _ us A m c wr hR hC hul.out (hr1.more hB.size) (hr1.apart (by omega)) h1 h2).mono ?_
      rintro e w6 ⟨rfl, hb6, hC6⟩
      go_wp2_with fail
      go_roundw
      case rel => exact ⟨k + 1, by omega, by go_num, hB.trans (hb6.below (by omega) hB.size), hA.but hb6 (by omega), hZ.but hb6 (by omega), by rw [HS.out]; exact hC6⟩
      case measure => simp [intOf]; omega
    · have e : ps.take k = ps := List.take_of_length_le (by rw [HL.out]; omega)
      rw [e] at hC
      clear e
      have CE2 := Lib.hid (CE.out gc wr hC)
      clear CE
      go_wp2_with (first
        | (refine get_step rfl 23 _ rfl w.heap.size 32 key 5 rfl hA Tryd.underlying23 size_key HK.out ?_))
      refine CE2.out.mono ?_
      rintro e w7 ⟨rfl, hb7⟩
      have hB7 := hB.trans (hb7.below (by omega) hB.size)
      have hZ7 := hZ.but hb7 (by omega)
      clear CE2 hB hA hZ hC hb7
      go_wp2_with (first
        | (refine set_step rfl 27 _ _ rfl gz 16 (List.replicate 16 (cellOf 0)) out rfl rfl hZ7 (by rw [List.length_replicate]) size_b16 HOL.out ?_
           intro w8 hb8 hC8 _))
      refine ret_hash Tryd.results8 gz out rfl hC8 Tryd.underlying27 size_b16 HOL.out rfl ⟨rfl, hB7.trans (hb8.below (by omega) hB7.size)⟩
theorem onetimeSum_any (D : Option Addr) (d n : Nat) (ps : List (List UInt8)) (key : List UInt8) (w : World) (hk : key.length = 32) (hl : ps.length = n) (hP : Parts w w.heap.size D ps) (hn1 : n ≤ 1000000) :
    Calls Tryd.prog 8 #[hashVal key, .slice D n d] w fun e w' => e = .returned (hashVal (polySum key ps.flatten)) ∧ Below w.heap.size w w' :=
  onetimeSum_over D d n (polyR key) ps key (polyClamp (key.take 16) ++ [0]) _ w hk hl hP hn1 (polyR_lt key hk) (polySum_length _ _) (fun W => clamped_any key W hk)
    (fun W => by
      have h := read_any (polyClamp (key.take 16) ++ [0]) W (by rw [List.length_append, polyClamp_length, List.length_take, hk]; rfl)
      rw [polyR_row] at h
      exact h)
    (fun g W hc => end_any g _ key W hk hc)
end Go.Proofs.YtiadgningbogmaaDoor
