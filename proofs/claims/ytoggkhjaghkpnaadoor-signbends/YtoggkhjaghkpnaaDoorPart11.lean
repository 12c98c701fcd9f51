/- Part 11 of what the laws of this seat share: TNum, TPlus, TMinus, WFlat3, TLess, TNext, TModulo. -/
import Derived.IntWalk
import Derived.Deep.Cut
import Derived.Test.YtoggkhjaghkpnaaDoorPart10
namespace Go.Proofs.YtoggkhjaghkpnaaDoor
open Go.RowKit
theorem zero_sn : ∀ w, (zeroValue 63).run Tryd.prog w = .ok (.agg (nzeros 8).toArray) w := (zero_of_info (P := Tryd.prog) (t := 63) (v := .agg (nzeros 8).toArray) (n := 8) (by kernel_rfl)).1
theorem zero_sr : ∀ w, (zeroValue 68).run Tryd.prog w = .ok (.agg (nzeros 16).toArray) w := (zero_of_info (P := Tryd.prog) (t := 68) (v := .agg (nzeros 16).toArray) (n := 16) (by kernel_rfl)).1
theorem size_sn : (Tryd.prog.info? 63).map (·.size) = some 8 := by kernel_rfl
theorem size_sr : (Tryd.prog.info? 68).map (·.size) = some 16 := by kernel_rfl
theorem sn_run {w : World} {g : Nat} {l : List Nat} {t' : TypeId} (hC : Cells w g (l.map ncell) t') (hl : l.length = 8) : (Instr.loadAt 63 (.pointer (some ⟨g, 0, none⟩))).run Tryd.prog w = .ok (numVal l) w := by
  have h := run_loadVar_row (P := Tryd.prog) w g t' 63 (l.map ncell).toArray (0, 0) _ hC Tryd.underlying63 rfl (by rw [List.size_toArray, List.length_map, hl]; exact size_sn)
  simp only [Instr.loadAt, Instr.sureAddr, Sem.run_bind, Sem.run_pure, Result.andThen_ok]
  exact h
theorem snTab_run {w : World} {g : Nat} {l : List Nat} (hC : Tab w g (l.map ncell)) (hl : l.length = 8) : (Instr.loadAt 63 (.pointer (some ⟨g, 0, none⟩))).run Tryd.prog w = .ok (numVal l) w := by
  obtain ⟨t', f, hC⟩ := hC
  have h := run_loadVar_row (P := Tryd.prog) w g t' 63 (l.map ncell).toArray f _ hC Tryd.underlying63 rfl (by rw [List.size_toArray, List.length_map, hl]; exact size_sn)
  simp only [Instr.loadAt, Instr.sureAddr, Sem.run_bind, Sem.run_pure, Result.andThen_ok]
  exact h
theorem build_sn0 (w : World) : (Instr.build 63 #[]).run Tryd.prog w = .ok (numVal [0, 0, 0, 0, 0, 0, 0, 0]) w := by kernel_rfl
theorem build_sn1 (x : Nat) (w : World) : (Instr.build 63 #[(0, ncell x)]).run Tryd.prog w = .ok (numVal [x, 0, 0, 0, 0, 0, 0, 0]) w := by kernel_rfl
theorem nzeros_map (n : Nat) : nzeros n = (List.replicate n 0).map ncell := by simp [nzeros]
theorem and32m (x : Nat) (h : x < 18446744073709551616) : bits .and .u64 (x : Int) 4294967295 = ((x % 4294967296 : Nat) : Int) := by
  rw [show (4294967295 : Int) = ((4294967295 : Nat) : Int) from rfl, u64_and_nat _ _ h (by omega)]
  have := Nat.and_two_pow_sub_one_eq_mod x 32
  simp only [Nat.reducePow, Nat.reduceSub] at this
  rw [this]
theorem and28m (x : Nat) (h : x < 18446744073709551616) : bits .and .u64 (x : Int) 268435455 = ((x % 268435456 : Nat) : Int) := by
  rw [show (268435455 : Int) = ((268435455 : Nat) : Int) from rfl, u64_and_nat _ _ h (by omega)]
  have := Nat.and_two_pow_sub_one_eq_mod x 28
  simp only [Nat.reducePow, Nat.reduceSub] at this
  rw [this]
theorem and1m (x : Nat) (h : x < 18446744073709551616) : bits .and .u64 (x : Int) 1 = ((x % 2 : Nat) : Int) := by
  rw [show (1 : Int) = ((1 : Nat) : Int) from rfl, u64_and_nat _ _ h (by omega)]
  have := Nat.and_two_pow_sub_one_eq_mod x 1
  simp only [Nat.reducePow, Nat.reduceSub] at this
  rw [this]
section
variable {P : Program} {w : World} {ops : Array Oper} {rest : List Oper} {o : Oper} {a : Act} {Q : Exit → Act → World → Prop}
/-- 'copy(dst, src)', both rows of any values of one cell each. -/
theorem copy_cells (hgd : o.guard = none) (d s : Operand) (T e : TypeId) (hu : P.underlying T = some (.slice e)) (hsz : (P.info? e).map (·.size) = some 1) (ho : o.op = .call { callee := .builtin .copy, args := #[d, s], argTypes := #[T, T] })
    (g off dLen dCap b bo sLen sCap m : Nat) (vs : List Value) (hd : a.eval d = .slice (some ⟨g, off, none⟩) dLen dCap) (hs : a.eval s = .slice (some ⟨b, bo, none⟩) sLen sCap) (hm : Nat.min sLen dLen = m) (hl : vs.length = m) (hr : w.rangeAt b bo vs) (ht : w.there g off m) (h1 : ∀ v ∈ vs, v.oneCell' = true)
    (h : ∀ w', w' = w.setCells g off vs → wpList P ops Q rest (a.put o.dst (.int .i64 (m : Int))) w') : wpList P ops Q (o :: rest) a w := by
  replace h := h _ rfl
  have hlen : vs.length = Nat.min sLen dLen := hl.trans hm.symm
  refine wpList_plain hgd fun K hK => ?_
  have hrun := run_copy_cells (P := P) w T T o.type e g off dLen dCap ⟨b, bo, none⟩ sLen sCap vs hu hsz hlen (fun j v hj => by
    rw [Addr.add_mid]
    exact hr j v hj) (fun j hj => (ht j (by omega)).1) (fun j hj => (ht j (by omega)).2) h1
  unfold Oper.wp
  simp only [execOp, ho, resolve, invoke, builtin, Sem.run_bind, Sem.run_pure, Result.andThen_ok, List.map_toArray, List.map_cons, List.map_nil, hd, hs, hrun]
  have e3 : goInt (vs.length : Int) = .int .i64 (m : Int) := by rw [hl]; rfl
  rw [e3]
  exact hK _ _ h
end
set_option maxRecDepth 100000 in
set_option maxHeartbeats 2000000 in
theorem scPlus_over (a b r : List Nat) (S : Nat → List Nat) (O : Nat → Nat) (w : World) (HA : Hid (∀ k, a.getD k 0 < 4294967296)) (HB : Hid (b.length = 8 ∧ ∀ k, b.getD k 0 < 4294967296)) (HL : Hid (∀ k, (S k).length = 8)) (H0 : Hid (S 0 = a ∧ O 0 = 0)) (HG : Hid (∀ k, (S k).getD k 0 = a.getD k 0))
    (HS : Hid (∀ k, S (k + 1) = (S k).set k ((a.getD k 0 + b.getD k 0 + O k) % 4294967296) ∧ O (k + 1) = (a.getD k 0 + b.getD k 0 + O k) / 4294967296)) (HO : Hid (∀ k, O k ≤ 1)) (HR : Hid (S 8 = r)) :
    Calls Tryd.prog 29 #[numVal a, numVal b] w (gvn (numVal r) w) := by
  go_enter Tryd.func29, Tryd.ntmps29
  go_wp2_with (first
    | (refine vtake_step rfl 63 (.tmp 0) rfl (a.map ncell) rfl ?_
       intro w1 hB1 hA1
       try simp only [putS]
       skip)
    | (refine vtake_step rfl 63 (.tmp 1) rfl (b.map ncell) rfl ?_
       intro w2 hb2 hC2
       have hB2 := below_then hB1 hb2
       have hA2 := hA1.on hb2
       have hg1 := hA1.lt
       clear hB1 hA1 hb2
       try simp only [putS]
       skip)
    | (refine vzero_step (o := ⟨some 4, _, _, _, _, _⟩) rfl 63 rfl (nzeros 8) zero_sn ?_
       intro w3 hb3 hZ3
       have hB3 := below_then hB2 hb3
       have hA3 := hA2.on hb3
       have hC3 := hC2.on hb3
       have hg2 := hC2.lt
       clear hB2 hA2 hC2 hb3
       try simp only [putS]
       skip))
  generalize hg : w1.heap.size = gb at *
  generalize hh : w2.heap.size = gz at *
  clear hg hh
  go_loopw [5, 8] (fun v i wr => ∃ k : Nat, k ≤ 8 ∧ i = .int .i64 k ∧ v = .int .u64 (O k : Int) ∧ Below w.heap.size w wr ∧ Cells wr w.heap.size ((S k).map ncell) 63 ∧ Cells wr gb (b.map ncell) 63 ∧ Cells wr gz (nzeros 8) 63) (fun _ i _ => 8 - (intOf i).toNat)
  case atStart => exact ⟨0, Nat.zero_le _, rfl, by rw [H0.out.2]; rfl, hB3, by rw [H0.out.1]; exact hA3, hC3, hZ3⟩
  case round =>
    clear hB3 hA3 hC3 hZ3
    obtain ⟨k, hk, rfl, rfl, hB, hS, hC, hZ⟩ := hrel
    have HLk := Lib.hid (HL.out k)
    by_cases hlt : k < 8
    · have HN := Lib.hid (HS.out k)
      have ho := HO.out k
      have hp := HA.out k
      have hq := HB.out.2 k
      have HGk := Lib.hid (HG.out k)
      have d1 := hS.get (nat_at (S k) k (by rw [HLk.out]; omega))
      have d2 := hC.get (nat_at b k (by rw [HB.out.1]; omega))
      rw [HGk.out] at d1
      obtain ⟨z, HZ⟩ := namedF (S (k + 1))
      obtain ⟨o2, HO2⟩ := namedF (O (k + 1))
      rw [HZ.out, HO2.out] at HN
      generalize S k = s at *
      generalize O k = o at *
      generalize a.getD k 0 = p at *
      generalize b.getD k 0 = y at *
      clear HA HB HL H0 HS HO HR HG HGk
      obtain ⟨x2, hx2⟩ : ∃ x2, x2 = p + y := ⟨_, rfl⟩
      have c4 : IntKind.u64.wrap ((p : Int) + (y : Int)) = (x2 : Int) := by rw [hx2]; exact wadd p y (by omega)
      obtain ⟨x, hx⟩ : ∃ x, x = x2 + o := ⟨_, rfl⟩
      have c5 : IntKind.u64.wrap ((x2 : Int) + (o : Int)) = (x : Int) := by rw [hx]; exact wadd x2 o (by omega)
      have c6 := and32m x (by omega)
      have c7 : (x : Int) / 4294967296 = (o2 : Int) := by rw [HN.out.2, ← hx2, ← hx]; rfl
      rw [← hx2, ← hx] at HN
      obtain ⟨v, HV⟩ := namedF (x % 4294967296)
      rw [HV.out] at HN c6
      clear hx2 hx HV hp hq
      have i1 : (0 : Int) ≤ (k : Int) := by omega
      have i2 : (k : Int) < 8 := by omega
      go_wp2_with fail
      go_quiet (fail)
      have hB4 : Below w.heap.size w (wr.drewN nq) := ⟨hB.os, hB.tape, hB.output, hB.size, hB.block⟩
      have hC4 := hC.drewN nq
      have hZ4 := hZ.drewN nq
      have hS4 := hS.drewN nq
      generalize wr.drewN nq = w4 at *
      clear hB hC hZ hS d1 d2
      have hT := hS4.there k 1 (by rw [List.length_map, HLk.out]; omega)
      have hE := Lib.hid (hS4.set k (ncell v))
      go_wp2_with (first
        | (refine store_step rfl 40 _ _ rfl w.heap.size k .u64 (v : Int) rfl rfl size_u64 hT ?_
           intro w5 hw5
           have hB5 : Below w.heap.size w w5 := by rw [hw5]; exact hB4.setCell (p := ⟨w.heap.size, k, none⟩) (Nat.le_refl _) _
           have hC5 : Cells w5 gb (b.map ncell) 63 := by rw [hw5]; exact hC4.other (by show gb ≠ w.heap.size; omega) _
           have hZ5 : Cells w5 gz (nzeros 8) 63 := by rw [hw5]; exact hZ4.other (by show gz ≠ w.heap.size; omega) _
           have hS5 : Cells w5 w.heap.size (z.map ncell) 63 := by rw [hw5, HN.out.1, ← nset_map]; exact hE.out
           clear hw5 hT hE hB4 hC4 hZ4 hS4))
      go_roundw
      case rel => exact ⟨k + 1, by omega, by go_num, by rw [HO2.out], hB5, by rw [HZ.out]; exact hS5, hC5, hZ5⟩
      case measure => simp [intOf]; omega
    · obtain rfl : k = 8 := by omega
      rw [HR.out] at hS HLk
      go_wp2_with (first
        | (refine sget_step rfl 63 _ rfl w.heap.size 8 (r.map ncell) rfl hS Tryd.underlying63 rfl size_sn (by rw [List.length_map, HLk.out]) ?_)
        | (refine vset_step rfl 63 _ _ rfl gz 8 (nzeros 8) (r.map ncell) rfl rfl hZ rfl size_sn (by rw [List.length_map, HLk.out]) (ncells_one r) ?_
           intro w7 hb7 hC7 _))
      exact sret Tryd.results29 gz (r.map ncell) rfl hC7 Tryd.underlying63 rfl size_sn (by rw [List.length_map, HLk.out]) rfl ⟨rfl, hB.trans (hb7.below (by omega) hB.size)⟩
theorem scPlus_any (n m : Nat) (w : World) (hn : n < mm) (hm : m < mm) : Calls Tryd.prog 29 #[numVal (nD n), numVal (nD m)] w (gvn (numVal (nD ((n + m) % mm))) w) := by
  have h := plS_all (b := nD m) (nD_D8 n)
  rw [pre_nD n hn, pre_nD m hm] at h
  refine scPlus_over (nD n) (nD m) _ (fun k => (plS (nD n) (nD m) k).1) (fun k => (plS (nD n) (nD m) k).2) w (nD_D8 n).2 (nD_D8 m) (fun k => cyTo_length _ _ _ k) ⟨rfl, rfl⟩ (fun k => cyTo_ahead _ _ _ k k (Nat.le_refl _)) (fun k => ?_) (fun k => ?_) h
  · rw [plS_next]; exact ⟨rfl, rfl⟩
  · refine cyTo_le _ _ 0 1 (by decide) (fun j => ?_) k
    have h1 := (nD_D8 n).2 j
    have h2 := (nD_D8 m).2 j
    omega
set_option maxRecDepth 100000 in
set_option maxHeartbeats 2000000 in
theorem scScaled_over (a r : List Nat) (t : Nat) (S : Nat → List Nat) (O : Nat → Nat) (w : World) (ht : t ≤ 4294967296) (HA : Hid (∀ k, a.getD k 0 < 4294967296)) (HL : Hid (∀ k, (S k).length = 8)) (H0 : Hid (S 0 = a ∧ O 0 = 0)) (HG : Hid (∀ k, (S k).getD k 0 = a.getD k 0))
    (HS : Hid (∀ k, S (k + 1) = (S k).set k ((a.getD k 0 * t + O k) % 4294967296) ∧ O (k + 1) = (a.getD k 0 * t + O k) / 4294967296)) (HO : Hid (∀ k, O k ≤ 4294967295)) (HR : Hid (S 8 = r)) :
    Calls Tryd.prog 79 #[numVal a, ncell t] w (gvn (numVal r) w) := by
  go_enter Tryd.func79, Tryd.ntmps79
  go_wp2_with (first
    | (refine vtake_step rfl 63 (.tmp 0) rfl (a.map ncell) rfl ?_
       intro w1 hB1 hA1
       try simp only [putS]
       skip)
    | (refine vzero_step (o := ⟨some 4, _, _, _, _, _⟩) rfl 63 rfl (nzeros 8) zero_sn ?_
       intro w3 hb3 hZ3
       have hB3 := below_then hB1 hb3
       have hA3 := hA1.on hb3
       have hg2 := hA1.lt
       clear hB1 hA1 hb3
       try simp only [putS]
       skip))
  generalize hh : w1.heap.size = gz at *
  clear hh
  go_loopw [5, 8] (fun v i wr => ∃ k : Nat, k ≤ 8 ∧ i = .int .i64 k ∧ v = .int .u64 (O k : Int) ∧ Below w.heap.size w wr ∧ Cells wr w.heap.size ((S k).map ncell) 63 ∧ Cells wr gz (nzeros 8) 63) (fun _ i _ => 8 - (intOf i).toNat)
  case atStart => exact ⟨0, Nat.zero_le _, rfl, by rw [H0.out.2]; rfl, hB3, by rw [H0.out.1]; exact hA3, hZ3⟩
  case round =>
    clear hB3 hA3 hZ3
    obtain ⟨k, hk, rfl, rfl, hB, hS, hZ⟩ := hrel
    have HLk := Lib.hid (HL.out k)
    by_cases hlt : k < 8
    · have HN := Lib.hid (HS.out k)
      have ho := HO.out k
      have hp := HA.out k
      have HGk := Lib.hid (HG.out k)
      have d1 := hS.get (nat_at (S k) k (by rw [HLk.out]; omega))
      rw [HGk.out] at d1
      obtain ⟨z, HZ⟩ := namedF (S (k + 1))
      obtain ⟨o2, HO2⟩ := namedF (O (k + 1))
      rw [HZ.out, HO2.out] at HN
      generalize S k = s at *
      generalize O k = o at *
      generalize a.getD k 0 = p at *
      clear HA HL H0 HS HO HR HG HGk
      have hpt : p * t ≤ 4294967295 * 4294967296 := Nat.mul_le_mul (by omega) ht
      obtain ⟨x2, hx2⟩ : ∃ x2, x2 = p * t := ⟨_, rfl⟩
      have c4 : IntKind.u64.wrap ((p : Int) * (t : Int)) = (x2 : Int) := by rw [hx2]; exact wmul p t (by omega)
      rw [← hx2] at hpt HN
      obtain ⟨x, hx⟩ : ∃ x, x = x2 + o := ⟨_, rfl⟩
      have c5 : IntKind.u64.wrap ((x2 : Int) + (o : Int)) = (x : Int) := by rw [hx]; exact wadd x2 o (by omega)
      have c6 := and32m x (by omega)
      have c7 : (x : Int) / 4294967296 = (o2 : Int) := by rw [HN.out.2, ← hx]; rfl
      rw [← hx] at HN
      obtain ⟨v, HV⟩ := namedF (x % 4294967296)
      rw [HV.out] at HN c6
      clear hx2 hx HV hp hpt
      have i1 : (0 : Int) ≤ (k : Int) := by omega
      have i2 : (k : Int) < 8 := by omega
      have hT := hS.there k 1 (by rw [List.length_map, HLk.out]; omega)
      have hE := Lib.hid (hS.set k (ncell v))
      go_wp2_with (first
        | (refine store_step rfl 40 _ _ rfl w.heap.size k .u64 (v : Int) rfl rfl size_u64 hT ?_
           intro w5 hw5
           have hB5 : Below w.heap.size w w5 := by rw [hw5]; exact hB.setCell (p := ⟨w.heap.size, k, none⟩) (Nat.le_refl _) _
           have hZ5 : Cells w5 gz (nzeros 8) 63 := by rw [hw5]; exact hZ.other (by show gz ≠ w.heap.size; omega) _
           have hS5 : Cells w5 w.heap.size (z.map ncell) 63 := by rw [hw5, HN.out.1, ← nset_map]; exact hE.out
           clear hw5 hT hE hB hZ hS d1))
      go_roundw
      case rel => exact ⟨k + 1, by omega, by go_num, by rw [HO2.out], hB5, by rw [HZ.out]; exact hS5, hZ5⟩
      case measure => simp [intOf]; omega
    · obtain rfl : k = 8 := by omega
      rw [HR.out] at hS HLk
      go_wp2_with (first
        | (refine sget_step rfl 63 _ rfl w.heap.size 8 (r.map ncell) rfl hS Tryd.underlying63 rfl size_sn (by rw [List.length_map, HLk.out]) ?_)
        | (refine vset_step rfl 63 _ _ rfl gz 8 (nzeros 8) (r.map ncell) rfl rfl hZ rfl size_sn (by rw [List.length_map, HLk.out]) (ncells_one r) ?_
           intro w7 hb7 hC7 _))
      exact sret Tryd.results79 gz (r.map ncell) rfl hC7 Tryd.underlying63 rfl size_sn (by rw [List.length_map, HLk.out]) rfl ⟨rfl, hB.trans (hb7.below (by omega) hB.size)⟩
theorem scScaled_any (n t : Nat) (w : World) (hn : n < mm) (ht : t ≤ 4294967296) : Calls Tryd.prog 79 #[numVal (nD n), ncell t] w (gvn (numVal (nD (n * t % mm))) w) := by
  have h := scS_all (nD_D8 n) t
  rw [pre_nD n hn] at h
  refine scScaled_over (nD n) _ t (fun k => (scS (nD n) t k).1) (fun k => (scS (nD n) t k).2) w ht (nD_D8 n).2 (fun k => cyTo_length _ _ _ k) ⟨rfl, rfl⟩ (fun k => cyTo_ahead _ _ _ k k (Nat.le_refl _)) (fun k => ?_) (fun k => scS_le (nD_D8 n) ht k) h
  rw [scS_next]; exact ⟨rfl, rfl⟩
/-- What wraps round below nought, in a word of 64 bits. -/
def lowW (p y o : Nat) : Nat := (p + 18446744073709551616 - y - o) % 18446744073709551616
theorem lowW_is (p y o : Nat) (hp : p < 4294967296) (hy : y < 4294967296) (ho : o ≤ 1) : IntKind.u64.wrap (IntKind.u64.wrap ((p : Int) - (y : Int)) - (o : Int)) = (lowW p y o : Int) ∧ lowW p y o % 4294967296 = (p + 4294967296 - y - o) % 4294967296 ∧ lowW p y o / 4294967296 % 2 = 1 - (p + 4294967296 - y - o) / 4294967296 := by
  rw [IntKind.wrap_u64, IntKind.wrap_u64, lowW]
  refine ⟨by omega, by omega, ?_⟩
  rcases Nat.lt_or_ge p (y + o) with h | h
  · rw [show (p + 4294967296 - y - o) / 4294967296 = 0 by omega, show (p + 18446744073709551616 - y - o) % 18446744073709551616 = p + 18446744073709551616 - y - o by omega, show (p + 18446744073709551616 - y - o) / 4294967296 = 4294967295 by omega]
  · rw [show (p + 4294967296 - y - o) / 4294967296 = 1 by omega, show (p + 18446744073709551616 - y - o) % 18446744073709551616 = p - y - o by omega, show (p - y - o) / 4294967296 = 0 by omega]
set_option maxRecDepth 100000 in
set_option maxHeartbeats 2000000 in
theorem scMinus_over (a b r : List Nat) (c : Bool) (S : Nat → List Nat) (O : Nat → Nat) (w : World) (HA : Hid (∀ k, a.getD k 0 < 4294967296)) (HB : Hid (b.length = 8 ∧ ∀ k, b.getD k 0 < 4294967296)) (HL : Hid (∀ k, (S k).length = 8)) (H0 : Hid (S 0 = a ∧ O 0 = 0)) (HG : Hid (∀ k, (S k).getD k 0 = a.getD k 0))
    (HS : Hid (∀ k, S (k + 1) = (S k).set k ((a.getD k 0 + 4294967296 - b.getD k 0 - O k) % 4294967296) ∧ O (k + 1) = 1 - (a.getD k 0 + 4294967296 - b.getD k 0 - O k) / 4294967296)) (HO : Hid (∀ k, O k ≤ 1)) (HR : Hid (S 8 = r)) (HC : Hid (((O 8 : Int) == 1) = c)) :
    Calls Tryd.prog 34 #[numVal a, numVal b] w (gvn (.tuple #[numVal r, .bool c]) w) := by
  go_enter Tryd.func34, Tryd.ntmps34
  go_wp2_with (first
    | (refine vtake_step rfl 63 (.tmp 0) rfl (a.map ncell) rfl ?_
       intro w1 hB1 hA1
       try simp only [putS]
       skip)
    | (refine vtake_step rfl 63 (.tmp 1) rfl (b.map ncell) rfl ?_
       intro w2 hb2 hC2
       have hB2 := below_then hB1 hb2
       have hA2 := hA1.on hb2
       have hg1 := hA1.lt
       clear hB1 hA1 hb2
       try simp only [putS]
       skip)
    | (refine vzero_step (o := ⟨some 4, _, _, _, _, _⟩) rfl 63 rfl (nzeros 8) zero_sn ?_
       intro w3 hb3 hZ3
       have hB3 := below_then hB2 hb3
       have hA3 := hA2.on hb3
       have hC3 := hC2.on hb3
       have hg2 := hC2.lt
       clear hB2 hA2 hC2 hb3
       try simp only [putS]
       skip))
  generalize hg : w1.heap.size = gb at *
  generalize hh : w2.heap.size = gz at *
  clear hg hh
  go_loopw [6, 9] (fun v i wr => ∃ k : Nat, k ≤ 8 ∧ i = .int .i64 k ∧ v = .int .u64 (O k : Int) ∧ Below w.heap.size w wr ∧ Cells wr w.heap.size ((S k).map ncell) 63 ∧ Cells wr gb (b.map ncell) 63 ∧ Cells wr gz (nzeros 8) 63) (fun _ i _ => 8 - (intOf i).toNat)
  case atStart => exact ⟨0, Nat.zero_le _, rfl, by rw [H0.out.2]; rfl, hB3, by rw [H0.out.1]; exact hA3, hC3, hZ3⟩
  case round =>
    clear hB3 hA3 hC3 hZ3
    obtain ⟨k, hk, rfl, rfl, hB, hS, hC, hZ⟩ := hrel
    have HLk := Lib.hid (HL.out k)
    by_cases hlt : k < 8
    · have HN := Lib.hid (HS.out k)
      have ho := HO.out k
      have hp := HA.out k
      have hq := HB.out.2 k
      have HGk := Lib.hid (HG.out k)
      have d1 := hS.get (nat_at (S k) k (by rw [HLk.out]; omega))
      have d2 := hC.get (nat_at b k (by rw [HB.out.1]; omega))
      rw [HGk.out] at d1
      obtain ⟨z, HZ⟩ := namedF (S (k + 1))
      obtain ⟨o2, HO2⟩ := namedF (O (k + 1))
      rw [HZ.out, HO2.out] at HN
      generalize S k = s at *
      generalize O k = o at *
      generalize a.getD k 0 = p at *
      generalize b.getD k 0 = y at *
      clear HA HB HL H0 HS HO HR HG HGk HC
      have hlow := lowW_is p y o hp hq ho
      have hlt2 : lowW p y o < 18446744073709551616 := Nat.mod_lt _ (by decide)
      generalize lowW p y o = x at *
      obtain ⟨c5, hv, hu⟩ := hlow
      rw [← hv, ← hu] at HN
      have c6 := and32m x hlt2
      have c7 : bits .and .u64 ((x : Int) / 4294967296) 1 = (o2 : Int) := by rw [HN.out.2]; exact and1m (x / 4294967296) (by omega)
      obtain ⟨v, HV⟩ := namedF (x % 4294967296)
      rw [HV.out] at HN c6
      clear HV hp hq hv hu hlt2 ho
      have i1 : (0 : Int) ≤ (k : Int) := by omega
      have i2 : (k : Int) < 8 := by omega
      go_wp2_with fail
      go_quiet (fail)
      have hB4 : Below w.heap.size w (wr.drewN nq) := ⟨hB.os, hB.tape, hB.output, hB.size, hB.block⟩
      have hC4 := hC.drewN nq
      have hZ4 := hZ.drewN nq
      have hS4 := hS.drewN nq
      generalize wr.drewN nq = w4 at *
      clear hB hC hZ hS d1 d2
      have hT := hS4.there k 1 (by rw [List.length_map, HLk.out]; omega)
      have hE := Lib.hid (hS4.set k (ncell v))
      go_wp2_with (first
        | (refine store_step rfl 40 _ _ rfl w.heap.size k .u64 (v : Int) rfl rfl size_u64 hT ?_
           intro w5 hw5
           have hB5 : Below w.heap.size w w5 := by rw [hw5]; exact hB4.setCell (p := ⟨w.heap.size, k, none⟩) (Nat.le_refl _) _
           have hC5 : Cells w5 gb (b.map ncell) 63 := by rw [hw5]; exact hC4.other (by show gb ≠ w.heap.size; omega) _
           have hZ5 : Cells w5 gz (nzeros 8) 63 := by rw [hw5]; exact hZ4.other (by show gz ≠ w.heap.size; omega) _
           have hS5 : Cells w5 w.heap.size (z.map ncell) 63 := by rw [hw5, HN.out.1, ← nset_map]; exact hE.out
           clear hw5 hT hE hB4 hC4 hZ4 hS4))
      go_roundw
      case rel => exact ⟨k + 1, by omega, by go_num, by rw [HO2.out], hB5, by rw [HZ.out]; exact hS5, hC5, hZ5⟩
      case measure => simp [intOf]; omega
    · obtain rfl : k = 8 := by omega
      rw [HR.out] at hS HLk
      generalize O 8 = o at *
      go_wp2_with (first
        | (refine sget_step rfl 63 _ rfl w.heap.size 8 (r.map ncell) rfl hS Tryd.underlying63 rfl size_sn (by rw [List.length_map, HLk.out]) ?_)
        | (refine vset_step rfl 63 _ _ rfl gz 8 (nzeros 8) (r.map ncell) rfl rfl hZ rfl size_sn (by rw [List.length_map, HLk.out]) (ncells_one r) ?_
           intro w7 hb7 hC7 _))
      rw [HC.out]
      exact vret2 Tryd.results34 gz (r.map ncell) (.bool c) rfl rfl hC7 Tryd.underlying63 size_sn (by rw [List.length_map, HLk.out]) rfl ⟨rfl, hB.trans (hb7.below (by omega) hB.size)⟩
theorem scMinus_any (n m : Nat) (w : World) (hn : n < mm) (hm : m < mm) : Calls Tryd.prog 34 #[numVal (nD n), numVal (nD m)] w (gvn (.tuple #[numVal (nD ((n + mm - m) % mm)), .bool (decide (n < m))]) w) := by
  have h := mnS_all (nD_D8 n) (nD_D8 m)
  rw [pre_nD n hn, pre_nD m hm] at h
  refine scMinus_over (nD n) (nD m) _ _ (fun k => (mnS (nD n) (nD m) k).1) (fun k => (mnS (nD n) (nD m) k).2) w (nD_D8 n).2 (nD_D8 m) (fun k => (mnS_D8 (nD_D8 n) k).1) ⟨rfl, rfl⟩ (fun k => mnS_ahead _ _ k k (Nat.le_refl _)) (fun k => ?_) (fun k => mnS_owe _ _ k) h.1 ?_
  · rw [mnS]; exact ⟨rfl, rfl⟩
  · show _ = _
    rw [h.2]
    by_cases hc : n < m
    · rw [if_pos hc, decide_eq_true hc]; rfl
    · rw [if_neg hc, decide_eq_false hc]; rfl
section
variable {P : Program} {ops : Array Oper} {Q : Exit → Act → World → Prop} {md : Region.Mode}
/-- Each operation waits for earlier ones alone. -/
def earlyB (md : Region.Mode) (ops : Array Oper) : Bool := (List.range ops.size).all fun i => match ops[i]? with
  | some o => o.after.all fun e => !Region.binds md e || Nat.blt e.on i
  | none => true
/-- The first k of n have come up. -/
def preA (n k : Nat) : Array Bool := ((List.range n).map fun i => Nat.blt i k).toArray
theorem preA_get (n k i : Nat) (d : Bool) (h : i < n) : (preA n k).getD i d = Nat.blt i k := by simp [preA, h]
theorem preA_zero (n : Nat) : preA n 0 = Array.replicate n false := by
  apply Array.ext_getElem?
  intro i
  by_cases h : i < n
  · simp [preA, h, show Nat.blt i 0 = false from Bool.eq_false_iff.2 (by rw [Ne, Nat.blt_eq]; omega)]
  · simp [preA, h]
theorem preA_set (n k : Nat) : (preA n k).setIfInBounds k true = preA n (k + 1) := by
  apply Array.ext_getElem?
  intro i
  rw [Array.getElem?_setIfInBounds]
  by_cases h : i < n
  · by_cases e : k = i
    · subst e
      simp [preA, h, Nat.blt_eq]
    · have : Nat.blt i k = Nat.blt i (k + 1) := by
        rw [Bool.eq_iff_iff, Nat.blt_eq, Nat.blt_eq]
        omega
      simp [preA, h, e, this]
  · by_cases e : k = i
    · subst e
      simp [preA, h]
    · simp [preA, h, e]
theorem wpOps_of_any (hE : earlyB md ops = true) : ∀ (n k : Nat) (a : Act) (w : World), k + n = ops.size → wpAny P md ops Q n (preA ops.size k) a w → wpOps P ops Q (List.range' k n) a w
  | 0, _, _, _, _, h => h.2
  | n + 1, k, a, w, hk, h => by
    rw [List.range'_succ, wpOps_cons]
    have hr : k ∈ Region.ready md ops (preA ops.size k) := by
      have hlt : k < ops.size := by omega
      refine mem_ready.2 ⟨by rw [preA_get _ _ _ _ hlt]; exact Bool.eq_false_iff.2 (by rw [Ne, Nat.blt_eq]; omega), ops[k], by simp [hlt], fun e he hb => ?_⟩
      rw [earlyB, List.all_eq_true] at hE
      have h1 := hE k (List.mem_range.2 hlt)
      rw [Array.getElem?_eq_getElem hlt] at h1
      have h2 := (Array.all_eq_true'.1 h1) e he
      rw [hb] at h2
      have h3 : Nat.blt e.on k = true := by simpa using h2
      rw [preA_get _ _ _ _ (Nat.lt_trans (by simpa [Nat.blt_eq] using h3) hlt)]
      exact h3
    refine wpOp_mono (fun a w hh => wpOps_of_any hE n (k + 1) a w (by omega) ?_) (h.2 k hr)
    rwa [preA_set] at hh
theorem wp_region_flat {id : Nat} {a : Act} {w : World} (hE : earlyB md ops = true) (h : wpAny P md ops Q ops.size (Array.replicate ops.size false) a w) : (Code.region id ops false).wp P Q a w := by
  refine wp_region ?_
  rw [List.range_eq_range']
  refine wpOps_of_any hE ops.size 0 a w (by omega) ?_
  rw [preA_zero]
  exact h
end
end Go.Proofs.YtoggkhjaghkpnaaDoor
namespace Go.Proofs.YtoggkhjaghkpnaaDoor
open Go.RowKit
set_option maxRecDepth 100000 in
set_option maxHeartbeats 1000000 in
theorem scLess_over (a b d s ol : List Nat) (c : Bool) (w : World)
    (Ha : Hid (a.length = 8))
    (Hb : Hid (b.length = 8))
    (Hd : Hid (d.length = 8))
    (Hs : Hid (s.length = 8))
    (Hol : Hid (ol.length = 8))
    (CM : Hid (∀ W, Calls Tryd.prog 34 #[numVal a, numVal b] W (gvn (.tuple #[numVal d, .bool c]) W)))
    (CP : Hid (c = true → ∀ W, Calls Tryd.prog 29 #[numVal d, numVal ol] W (gvn (numVal s) W)))
    (hO : Tab w 0 (ol.map ncell)) :
    Calls Tryd.prog 28 #[numVal a, numVal b] w (gvn (numVal (bif c then s else d)) w) := by
  go_enter Tryd.func28, Tryd.ntmps28
  go_wp2_with (first
    | (refine vtake_step rfl 63 (.tmp 0) rfl (a.map ncell) rfl ?_
       intro w1 hb1 hva1
       have hB1 := hb1
       have hgea : w.heap.size ≤ w.heap.size := Nat.le_refl _
       have hvo1 := hO.on hb1
       have hneoa := Nat.ne_of_lt hO.lt
       clear hO hb1
       try simp only [putS]
       skip)
    | (refine vtake_step rfl 63 (.tmp 1) rfl (b.map ncell) rfl ?_
       intro w2 hb2 hvb2
       have hB2 := below_then hB1 hb2
       have hgeb : w.heap.size ≤ w1.heap.size := hB1.size
       have hvo2 := hvo1.on hb2
       have hneob := Nat.ne_of_lt hvo1.lt
       have hva2 := hva1.on hb2
       have hneab := Nat.ne_of_lt hva1.lt
       clear hB1 hvo1 hva1 hb2
       try simp only [putS]
       skip)
    | (refine vzero_step (o := ⟨some 4, _, _, _, _, _⟩) rfl 63 rfl (nzeros 8) zero_sn ?_
       intro w3 hb3 hvr3
       have hB3 := below_then hB2 hb3
       have hger : w.heap.size ≤ w2.heap.size := hB2.size
       have hvo3 := hvo2.on hb3
       have hneor := Nat.ne_of_lt hvo2.lt
       have hva3 := hva2.on hb3
       have hnear := Nat.ne_of_lt hva2.lt
       have hvb3 := hvb2.on hb3
       have hnebr := Nat.ne_of_lt hvb2.lt
       clear hB2 hvo2 hva2 hvb2 hb3
       try simp only [putS]
       skip)
    | (refine sget_step rfl 63 (.tmp 2) rfl w.heap.size 8 (a.map ncell) rfl hva3 Tryd.underlying63 rfl size_sn (by rw [List.length_map, Ha.out]) ?_
       try simp only [putS]
       skip)
    | (refine sget_step rfl 63 (.tmp 3) rfl w1.heap.size 8 (b.map ncell) rfl hvb3 Tryd.underlying63 rfl size_sn (by rw [List.length_map, Hb.out]) ?_
       try simp only [putS]
       skip))
  generalize hqb : w1.heap.size = gb at *
  clear hqb
  generalize hqr : w2.heap.size = gr at *
  clear hqr
  refine (CM.out w3).mono ?_
  rintro e w4 ⟨rfl, hb4⟩
  have hB4 := below_then hB3 hb4
  have hvo4 := hvo3.on hb4
  have hva4 := hva3.on hb4
  have hvb4 := hvb3.on hb4
  have hvr4 := hvr3.on hb4
  clear hB3 hvo3 hva3 hvb3 hvr3 hb4
  cases c
  · go_wp2_with (first
      | (refine vput_step rfl rfl 63 (.tmp 5) (.tmp 11) rfl rfl 8 (nzeros 8) (d.map ncell) rfl rfl zero_sn rfl size_sn (by rw [List.length_map, Hd.out]) (ncells_one _) ?_
         intro w5 hb5 hvd5
         have hB5 := below_then hB4 hb5
         have hged : w.heap.size ≤ w4.heap.size := hB4.size
         have hvo5 := hvo4.on hb5
         have hneod := Nat.ne_of_lt hvo4.lt
         have hva5 := hva4.on hb5
         have hnead := Nat.ne_of_lt hva4.lt
         have hvb5 := hvb4.on hb5
         have hnebd := Nat.ne_of_lt hvb4.lt
         have hvr5 := hvr4.on hb5
         have hnerd := Nat.ne_of_lt hvr4.lt
         clear hB4 hvo4 hva4 hvb4 hvr4 hb5
         try simp only [putS]
         skip)
      | (refine sget_step rfl 63 (.tmp 5) rfl w4.heap.size 8 (d.map ncell) rfl hvd5 Tryd.underlying63 rfl size_sn (by rw [List.length_map, Hd.out]) ?_
         try simp only [putS]
         skip)
      | (refine vset_step rfl 63 (.tmp 4) (.tmp 17) rfl gr 8 (nzeros 8) (d.map ncell) rfl rfl hvr5 rfl size_sn (by rw [List.length_map, Hd.out]) (ncells_one _) ?_
         intro w6 hb6 hvr6 hz6
         have hB6 : Below w.heap.size w w6 := hB5.trans (hb6.below hger hB5.size)
         have hvo6 := hvo5.but hb6 hneor
         have hva6 := hva5.but hb6 hnear
         have hvb6 := hvb5.but hb6 hnebr
         have hvd6 := hvd5.but hb6 (Ne.symm hnerd)
         clear hB5 hvr5 hb6 hz6 hvo5 hva5 hvb5 hvd5
         skip))
    generalize hqd : w4.heap.size = gd at *
    clear hqd
    exact sret Tryd.results28 gr (d.map ncell) rfl hvr6 Tryd.underlying63 rfl size_sn (by rw [List.length_map, Hd.out]) rfl ⟨rfl, hB6⟩
  · go_wp2_with (first
      | (refine vput_step rfl rfl 63 (.tmp 5) (.tmp 11) rfl rfl 8 (nzeros 8) (d.map ncell) rfl rfl zero_sn rfl size_sn (by rw [List.length_map, Hd.out]) (ncells_one _) ?_
         intro w5 hb5 hvd5
         have hB5 := below_then hB4 hb5
         have hged : w.heap.size ≤ w4.heap.size := hB4.size
         have hvo5 := hvo4.on hb5
         have hneod := Nat.ne_of_lt hvo4.lt
         have hva5 := hva4.on hb5
         have hnead := Nat.ne_of_lt hva4.lt
         have hvb5 := hvb4.on hb5
         have hnebd := Nat.ne_of_lt hvb4.lt
         have hvr5 := hvr4.on hb5
         have hnerd := Nat.ne_of_lt hvr4.lt
         clear hB4 hvo4 hva4 hvb4 hvr4 hb5
         try simp only [putS]
         skip)
      | (refine sget_step rfl 63 (.tmp 5) rfl w4.heap.size 8 (d.map ncell) rfl hvd5 Tryd.underlying63 rfl size_sn (by rw [List.length_map, Hd.out]) ?_
         try simp only [putS]
         skip)
      | (refine tget_step rfl 63 (.global 0) rfl 0 8 (ol.map ncell) rfl hvo5 Tryd.underlying63 rfl size_sn (by rw [List.length_map, Hol.out]) ?_
         try simp only [putS]
         skip))
    generalize hqd : w4.heap.size = gd at *
    clear hqd
    refine ((CP.out (by simp)) w5).mono ?_
    rintro e w7 ⟨rfl, hb7⟩
    have hB7 := below_then hB5 hb7
    have hvo7 := hvo5.on hb7
    have hva7 := hva5.on hb7
    have hvb7 := hvb5.on hb7
    have hvr7 := hvr5.on hb7
    have hvd7 := hvd5.on hb7
    clear hB5 hvo5 hva5 hvb5 hvr5 hvd5 hb7
    go_wp2_with (first
      | (refine vset_step rfl 63 (.tmp 4) (.tmp 16) rfl gr 8 (nzeros 8) (s.map ncell) rfl rfl hvr7 rfl size_sn (by rw [List.length_map, Hs.out]) (ncells_one _) ?_
         intro w8 hb8 hvr8 hz8
         have hB8 : Below w.heap.size w w8 := hB7.trans (hb8.below hger hB7.size)
         have hvo8 := hvo7.but hb8 hneor
         have hva8 := hva7.but hb8 hnear
         have hvb8 := hvb7.but hb8 hnebr
         have hvd8 := hvd7.but hb8 (Ne.symm hnerd)
         clear hB7 hvr7 hb8 hz8 hvo7 hva7 hvb7 hvd7
         skip))
    exact sret Tryd.results28 gr (s.map ncell) rfl hvr8 Tryd.underlying63 rfl size_sn (by rw [List.length_map, Hs.out]) rfl ⟨rfl, hB8⟩
theorem scLess_any (n m : Nat) (w : World) (hn : n < mm) (hm : m < mm) (h : m ≤ n + NP.LL) (hO : Tab w 0 ((nD NP.LL).map ncell)) : Calls Tryd.prog 28 #[numVal (nD n), numVal (nD m)] w (gvn (numVal (nD (if n < m then n + NP.LL - m else n - m))) w) := by
  have hL : NP.LL < mm := by decide
  have e2 : mm = 115792089237316195423570985008687907853269984665640564039457584007913129639936 := rfl
  have hL2 : NP.LL = 7237005577332262213973186563042994240857116359379907606001950938285454250989 := rfl
  have h1 := scLess_over (nD n) (nD m) (nD ((n + mm - m) % mm)) (nD (((n + mm - m) % mm + NP.LL) % mm)) (nD NP.LL) (decide (n < m)) w rfl rfl rfl rfl rfl (fun W => scMinus_any n m W hn hm) (fun _ W => scPlus_any _ NP.LL W (Nat.mod_lt _ (by decide)) hL) hO
  have e : (bif decide (n < m) then nD (((n + mm - m) % mm + NP.LL) % mm) else nD ((n + mm - m) % mm)) = nD (if n < m then n + NP.LL - m else n - m) := by
    generalize mm = M at *
    generalize NP.LL = L at *
    by_cases hc : n < m
    · rw [decide_eq_true hc, if_pos hc, cond_true, Nat.mod_eq_of_lt (a := n + M - m) (by omega)]
      congr 1
      rw [show n + M - m + L = n + L - m + M by omega, Nat.add_mod_right, Nat.mod_eq_of_lt (by omega)]
    · rw [decide_eq_false hc, if_neg hc, cond_false, show n + M - m = n - m + M by omega, Nat.add_mod_right, Nat.mod_eq_of_lt (by omega)]
  rw [e] at h1
  exact h1
theorem splice_up (s n : List Nat) (hs : s.length = 8) (hn : n.length = 8) : splice (s.map ncell) 1 ((n.take 7).map ncell) = (s.take 1 ++ n.take 7).map ncell := by
  rw [splice, List.length_map, List.length_take, hn, List.drop_of_length_le (by rw [List.length_map, hs]; decide), List.append_nil, ← List.map_take, List.map_append]
def scNextVs5 (n : List Nat) (limb : Nat) (g_base : Nat) (gr : Nat) (top : Nat) (gs : Nat) (q : Nat) (p : Nat) (s0 : List Nat) (z : Nat) (v : List Nat) (tl : List Nat) (m : List Nat) (r : List Nat) : List Value :=
  (numVal n) :: (ncell limb) :: ptr g_base :: undef :: ptr gr :: (ncell top) :: ptr gs :: (.pointer (some ⟨g_base, 7, none⟩)) :: (ncell q) :: (.int .u64 (IntKind.u64.wrap ((q : Int) * 16))) :: (.pointer (some ⟨g_base, 6, none⟩)) :: (ncell p) :: (.int .u64 ((p : Int) / 268435456)) :: (ncell top) :: (ncell limb) :: (numVal s0) :: (.slice (some ⟨gs, 1, none⟩) 7 7) :: (.slice (some ⟨g_base, 0, none⟩) 8 8) :: (.int .i64 7) :: (.pointer (some ⟨gs, 7, none⟩)) :: (ncell p) :: (ncell z) :: (.pointer (some ⟨gs, 7, none⟩)) :: (numVal v) :: (numVal tl) :: (ncell top) :: (numVal m) :: (numVal r) :: []
set_option maxRecDepth 100000 in
set_option maxHeartbeats 1000000 in
theorem scNext_over (n s0 u v m r ol tl : List Nat) (limb p q top z : Nat) (w : World)
    (Hn : Hid (n.length = 8))
    (Hs0 : Hid (s0.length = 8))
    (Hu : Hid (u.length = 8))
    (Hv : Hid (v.length = 8))
    (Hr : Hid (r.length = 8))
    (Htl : Hid (tl.length = 8))
    (HP : Hid ((n.map ncell)[6]? = some (ncell p)))
    (HQ : Hid ((n.map ncell)[7]? = some (ncell q)))
    (HTOP : Hid (bits .or .u64 (IntKind.u64.wrap ((q : Int) * 16)) ((p : Int) / 268435456) = (top : Int)))
    (HU : Hid (s0.take 1 ++ n.take 7 = u))
    (HU7 : Hid ((u.map ncell)[7]? = some (ncell p)))
    (hc8 : bits .and .u64 (p : Int) 268435455 = (z : Int))
    (HV : Hid (u.set 7 z = v))
    (BS : ∀ w, (Instr.build 63 #[(0, ncell limb)]).run Tryd.prog w = .ok (numVal s0) w)
    (CS : Hid (∀ W, Calls Tryd.prog 79 #[numVal tl, ncell top] W (gvn (numVal m) W)))
    (CL : Hid (∀ W, Tab W 0 (ol.map ncell) → Calls Tryd.prog 28 #[numVal v, numVal m] W (gvn (numVal r) W)))
    (hO : Tab w 0 (ol.map ncell))
    (hT : Tab w 7 (tl.map ncell)) :
    Calls Tryd.prog 56 #[numVal n, ncell limb] w (gvn (numVal r) w) := by
  have c8 := hc8
  clear hc8
  go_enter Tryd.func56, Tryd.ntmps56
  go_upto_region 1 with (first
    | (refine vtake_step rfl 63 (.tmp 0) rfl (n.map ncell) rfl ?_
       intro w1 hb1 hvn1
       have hB1 := hb1
       have hgen : w.heap.size ≤ w.heap.size := Nat.le_refl _
       have hvo1 := hO.on hb1
       have hneon := Nat.ne_of_lt hO.lt
       have hvt1 := hT.on hb1
       have hnetn := Nat.ne_of_lt hT.lt
       clear hO hT hb1
       try simp only [putS]
       skip)
    | (refine vzero_step (o := ⟨some 4, _, _, _, _, _⟩) rfl 63 rfl (nzeros 8) zero_sn ?_
       intro w2 hb2 hvr2
       have hB2 := below_then hB1 hb2
       have hger : w.heap.size ≤ w1.heap.size := hB1.size
       have hvo2 := hvo1.on hb2
       have hneor := Nat.ne_of_lt hvo1.lt
       have hvt2 := hvt1.on hb2
       have hnetr := Nat.ne_of_lt hvt1.lt
       have hvn2 := hvn1.on hb2
       have hnenr := Nat.ne_of_lt hvn1.lt
       clear hB1 hvo1 hvt1 hvn1 hb2
       try simp only [putS]
       skip))
  generalize hqr : w1.heap.size = gr at *
  clear hqr
  have d6 := hvn2.get HP.out
  have d7 := hvn2.get HQ.out
  have c1 := HTOP.out
  go_wp2_with (first
    | (refine build_step rfl 63 _ rfl [(0, ncell limb)] rfl _ BS ?_
       try simp only [putS]
       skip)
    | (refine vput_step rfl rfl 63 (.tmp 6) (.tmp 15) rfl rfl 8 (nzeros 8) (s0.map ncell) rfl rfl zero_sn rfl size_sn (by rw [List.length_map, Hs0.out]) (ncells_one _) ?_
       intro w3 hb3 hvs3
       have hB3 := below_then hB2 hb3
       have hges : w.heap.size ≤ w2.heap.size := hB2.size
       have hvo3 := hvo2.on hb3
       have hneos := Nat.ne_of_lt hvo2.lt
       have hvt3 := hvt2.on hb3
       have hnets := Nat.ne_of_lt hvt2.lt
       have hvn3 := hvn2.on hb3
       have hnens := Nat.ne_of_lt hvn2.lt
       have hvr3 := hvr2.on hb3
       have hners := Nat.ne_of_lt hvr2.lt
       clear hB2 hvo2 hvt2 hvn2 hvr2 hb3
       try simp only [putS]
       skip))
  generalize hqs : w2.heap.size = gs at *
  clear hqs
  refine wp_region_tail 2 (by kernel_rfl) (by kernel_rfl) ?_
  intro w50 hw50
  have hB50 : Below w.heap.size w w50 := by rw [hw50]; exact hB3.drew
  have hvo50 := hvo3.drew
  rw [← hw50] at hvo50
  have hvt50 := hvt3.drew
  rw [← hw50] at hvt50
  have hvn50 := hvn3.drew
  rw [← hw50] at hvn50
  have hvr50 := hvr3.drew
  rw [← hw50] at hvr50
  have hvs50 := hvs3.drew
  rw [← hw50] at hvs50
  clear hw50 hB3 hvo3 hvt3 hvn3 hvr3 hvs3
  simp only [List.take_succ_cons, List.take_zero, List.drop_succ_cons, List.drop_zero]
  repeat still_step
  refine wpStill_nil ?_
  go_wp2_with (first
    | (refine copy_cells rfl (.tmp 16) (.tmp 17) 117 40 Tryd.underlying117 size_u64 rfl gs 1 _ _ w.heap.size 0 _ _ 7 ((n.take 7).map ncell) rfl rfl rfl (by rw [List.length_map, List.length_take, Hn.out]; rfl) (by rw [List.map_take]; exact hvn50.range 0 7) (hvs50.there 1 7 (by rw [List.length_map, Hs0.out]; decide)) (by intro x hx; obtain ⟨y, _, rfl⟩ := List.mem_map.1 hx; rfl) ?_
       intro w51 hw51
       have hb51 : But gs w50 w51 := by rw [hw51]; exact (But.refl gs w50).setCells _ _
       have hvs51 : Cells w51 gs (u.map ncell) 63 := by
         rw [hw51, ← HU.out, ← splice_up s0 n Hs0.out Hn.out]
         exact hvs50.setCells (by rw [List.length_map, List.length_map, List.length_take, Hn.out, Hs0.out]; decide)
       have hB51 := hB50.trans (hb51.below hges hB50.size)
       have hvn51 := hvn50.but hb51 hnens
       have hvr51 := hvr50.but hb51 hners
       have hvo51 := hvo50.but hb51 hneos
       have hvt51 := hvt50.but hb51 hnets
       have d8 := hvs51.get HU7.out
       have hTT := hvs51.there 7 1 (by rw [List.length_map, Hu.out]; decide)
       clear hw51 hb51 hB50 hvn50 hvr50 hvs50 hvo50 hvt50
       try simp only [putS]
       skip)
    | (refine store_step rfl 40 _ _ rfl gs 7 .u64 (z : Int) rfl rfl size_u64 hTT ?_
       intro w52 hw52
       have hb52 : But gs w51 w52 := by rw [hw52]; exact (But.refl gs w51).setCells 7 [ncell z]
       have hvs52 : Cells w52 gs (v.map ncell) 63 := by rw [hw52, ← HV.out, ← nset_map]; exact hvs51.set 7 _
       have hB52 := hB51.trans (hb52.below hges hB51.size)
       have hvn52 := hvn51.but hb52 hnens
       have hvr52 := hvr51.but hb52 hners
       have hvo52 := hvo51.but hb52 hneos
       have hvt52 := hvt51.but hb52 hnets
       clear hw52 hb52 hB51 hvn51 hvr51 hvs51 hvo51 hvt51 d8 hTT))
  go_wp2_with fail
  replace hvo52 := hvo52.drew
  replace hvt52 := hvt52.drew
  replace hvn52 := hvn52.drew
  replace hvr52 := hvr52.drew
  replace hvs52 := hvs52.drew
  refine wp_region_any (by kernel_rfl) ?_
  refine wpAny_flatM (L := [0, 1, 2, 3, 4]) (by kernel_rfl) _ _ (scNextVs5 n limb w.heap.size gr top gs q p s0 z v tl m r) [] 63 (nzeros 8) [0, 1, 2, 3, 4, 5, 6, 7, 8, 9, 10, 11, 12, 13, 14, 15, 16, 17, 18, 19, 20, 21, 22] (by kernel_rfl) (by kernel_rfl) ?_ zero_sn ?_ (by rfl) ?_ 1 (by kernel_rfl) ?_
  · intro p hp
    exact absurd hp List.not_mem_nil
  · repeat refine all_cons rfl ?_
    exact all_nil
  · refine all_cons (.inr (mL 23 rfl fun w hb => sn_run (hvs52.on hb) Hv.out)) ?_
    refine all_cons (.inr (mL 24 rfl fun w hb => snTab_run (hvt52.on hb) Htl.out)) ?_
    refine all_cons (.inr (mV 25 rfl (.inl rfl) rfl)) ?_
    refine all_cons (.inr (mC 26 rfl Tryd.func79 fun w hb => CS.out w)) ?_
    refine all_cons (.inr (mC 27 rfl Tryd.func28 fun w hb => CL.out w (hvo52.on hb))) ?_
    exact all_nil
  intro w4 g hb4 hN4 hap4
  clear hN4 hap4
  have hB4 := below_then (show Below w.heap.size w w52.drew from hB52.drew) hb4
  have hvo4 := hvo52.on hb4
  have hvt4 := hvt52.on hb4
  have hvn4 := hvn52.on hb4
  have hvr4 := hvr52.on hb4
  have hvs4 := hvs52.on hb4
  clear hB52 hvo52 hvt52 hvn52 hvr52 hvs52 hb4
  refine wpAny_rest 5 rfl (by kernel_rfl) ?_
  refine vset_step rfl 63 (.tmp 4) (.tmp 27) rfl gr 8 (nzeros 8) (r.map ncell) rfl rfl hvr4 rfl size_sn (by rw [List.length_map, Hr.out]) (ncells_one _) ?_
  intro w5 hb5 hvr5 hz5
  have hB5 : Below w.heap.size w w5 := hB4.trans (hb5.below hger hB4.size)
  have hvo5 := hvo4.but hb5 hneor
  have hvt5 := hvt4.but hb5 hnetr
  have hvn5 := hvn4.but hb5 hnenr
  have hvs5 := hvs4.but hb5 (Ne.symm hners)
  clear hB4 hvr4 hb5 hz5 hvo4 hvt4 hvn4 hvs4
  rename_i K hKK
  show Exit.then K _ Exit.normal (⟨(scNextVs5 n limb w.heap.size gr top gs q p s0 z v tl m r).toArray, []⟩ : Act) w5
  simp only [Exit.then]
  refine hKK _ _ ?_
  clear hKK K g
  simp only [scNextVs5, ptr]
  go_wp2
  exact sret Tryd.results56 gr (r.map ncell) rfl hvr5 Tryd.underlying63 rfl size_sn (by rw [List.length_map, Hr.out]) rfl ⟨rfl, hB5⟩
theorem or_top (p q : Nat) (hp : p < 4294967296) (hq : q < 4294967296) : bits .or .u64 (IntKind.u64.wrap ((q : Int) * 16)) ((p : Int) / 268435456) = ((q * 16 + p / 268435456 : Nat) : Int) := by
  have e := wmul q 16 (by omega)
  rw [show ((16 : Nat) : Int) = 16 from rfl] at e
  rw [e, show (p : Int) / 268435456 = ((p / 268435456 : Nat) : Int) from rfl, u64_or_nat _ _ (by omega) (by omega), nat_join 4 _ _ (by omega) (by omega)]
theorem div_split (x m t : Nat) (h : x / m = t) : x = t * m + x % m := by
  rw [← h, Nat.mul_comm]; exact (Nat.div_add_mod x m).symm
theorem scNext_any (n limb : Nat) (w : World) (hn : n < NP.LL) (hl : limb < 4294967296) (hO : Tab w 0 ((nD NP.LL).map ncell)) (hT : Tab w 7 ((nD tailN).map ncell)) :
    Calls Tryd.prog 56 #[numVal (nD n), ncell limb] w (gvn (numVal (nD ((n * 4294967296 + limb) % NP.LL))) w) := by
  have hnm : n < mm := Nat.lt_trans hn (by decide)
  have hD := nD_D8 n
  obtain ⟨h1, h2, h3⟩ := upL_set (nD n) limb hD hl
  rw [pre_nD n hnm] at h2 h3
  have ht := next_top_le n hn
  have hs := next_small _ ht
  have hsm := Nat.lt_trans hs (show NP.LL < mm by decide)
  have hr := next_rest (n * 4294967296 + limb) ((n * 4294967296 + limb) % 7237005577332262213973186563042994240829374041602535252466099000494570602496) (n / 1684996666696914987166688442938726917102321526408785780068975640576) (Nat.mod_lt _ (by decide)) ht (div_split _ _ _ (next_top n limb hl))
  have hv := h1.is
  rw [h2] at hv
  have hlt := h1.lt
  rw [h2] at hlt
  have hp := hD.2 6
  have hq := hD.2 7
  have h6 := nat_at (nD n) 6 (by rw [nD_length]; decide)
  have h7 := nat_at (nD n) 7 (by rw [nD_length]; decide)
  have hu7 : ((upL (nD n) limb).map ncell)[7]? = some (ncell ((nD n).getD 6 0)) := rfl
  have hor := or_top ((nD n).getD 6 0) ((nD n).getD 7 0) hp hq
  rw [h3] at hor
  generalize (nD n).getD 6 0 = p at *
  generalize (nD n).getD 7 0 = q at *
  generalize n / 1684996666696914987166688442938726917102321526408785780068975640576 = t at *
  generalize (n * 4294967296 + limb) % 7237005577332262213973186563042994240829374041602535252466099000494570602496 = x at *
  refine scNext_over (nD n) [limb, 0, 0, 0, 0, 0, 0, 0] (upL (nD n) limb) ((upL (nD n) limb).set 7 (p % 268435456)) (nD (tailN * t)) (nD ((n * 4294967296 + limb) % NP.LL)) (nD NP.LL) (nD tailN) limb p q t (p % 268435456) w rfl rfl rfl rfl rfl rfl h6 h7 hor rfl hu7 (and28m p (by omega)) rfl (build_sn1 limb) (fun W => ?_) (fun W hW => ?_) hO hT
  · have h := scScaled_any tailN t W (by decide) ht
    rw [Nat.mod_eq_of_lt hsm] at h
    exact h
  · have h := scLess_any x (tailN * t) W hlt hsm (Nat.le_trans (Nat.le_of_lt hs) (Nat.le_add_left _ _)) hW
    rw [hr, ← hv] at h
    exact h
theorem sr_at (g k : Nat) (hk : k < 16) (w : World) : (Instr.indexAt 68 (.pointer (some ⟨g, 0, none⟩)) (.int .i64 (k : Int))).run Tryd.prog w = .ok (.pointer (some ⟨g, k, none⟩)) w := by
  have i2 : (k : Int) < 16 := by omega
  go_simp
theorem load_u64 {w : World} {g j v : Nat} (h : w.cell? ⟨g, j, none⟩ = some (ncell v)) : (Instr.loadAt 40 (.pointer (some ⟨g, j, none⟩))).run Tryd.prog w = .ok (ncell v) w := by
  go_simp
def scModuloVs5 (q : List Nat) (g_base : Nat) (gr : Nat) (gn : Nat) (k : Nat) (l : List Nat) (x : Nat) (nx : List Nat) : List Value :=
  (numVal q) :: ptr g_base :: ptr gr :: ptr gn :: (.int .i64 (k : Int)) :: (.int .i64 ((k : Int) + 1)) :: (.bool true) :: (.int .i64 ((k : Int) + 1)) :: (.int .i64 (k : Int)) :: (numVal l) :: (.int .i64 (k : Int)) :: (.pointer (some ⟨g_base, k, none⟩)) :: (ncell x) :: (numVal nx) :: undef :: []
set_option maxRecDepth 100000 in
set_option maxHeartbeats 1000000 in
theorem scModulo_over (q ol tl : List Nat) (X : Nat → List Nat) (w : World)
    (Hq : Hid (q.length = 16))
    (HL : Hid (∀ j, (X j).length = 8))
    (HX16 : Hid (X 16 = [0, 0, 0, 0, 0, 0, 0, 0]))
    (CN : Hid (∀ k : Nat, k < 16 → ∀ W, Tab W 0 (ol.map ncell) → Tab W 7 (tl.map ncell) → Calls Tryd.prog 56 #[numVal (X (k + 1)), ncell (q.getD k 0)] W (gvn (numVal (X k)) W)))
    (hO : Tab w 0 (ol.map ncell))
    (hT : Tab w 7 (tl.map ncell)) :
    Calls Tryd.prog 31 #[numVal q] w (gvn (numVal (X 0)) w) := by
  go_enter Tryd.func31, Tryd.ntmps31
  go_wp2_with (first
    | (refine vtake_step rfl 68 (.tmp 0) rfl (q.map ncell) rfl ?_
       intro w1 hb1 hvq1
       have hB1 := hb1
       have hgeq : w.heap.size ≤ w.heap.size := Nat.le_refl _
       have hvo1 := hO.on hb1
       have hneoq := Nat.ne_of_lt hO.lt
       have hvt1 := hT.on hb1
       have hnetq := Nat.ne_of_lt hT.lt
       clear hO hT hb1
       try simp only [putS]
       skip)
    | (refine vzero_step (o := ⟨some 2, _, _, _, _, _⟩) rfl 63 rfl (nzeros 8) zero_sn ?_
       intro w2 hb2 hvr2
       have hB2 := below_then hB1 hb2
       have hger : w.heap.size ≤ w1.heap.size := hB1.size
       have hvo2 := hvo1.on hb2
       have hneor := Nat.ne_of_lt hvo1.lt
       have hvt2 := hvt1.on hb2
       have hnetr := Nat.ne_of_lt hvt1.lt
       have hvq2 := hvq1.on hb2
       have hneqr := Nat.ne_of_lt hvq1.lt
       clear hB1 hvo1 hvt1 hvq1 hb2
       try simp only [putS]
       skip))
  generalize hqr : w1.heap.size = gr at *
  clear hqr
  refine wp_scope_once 0 (fun a' w' => ∃ (j gn : Nat) (u5 u6 u7 u8 u9 u10 u11 u12 u13 : Value), j ≤ 16 ∧ Below w.heap.size w w' ∧ w.heap.size ≤ gn ∧ w.heap.size ≠ gn ∧ gr ≠ gn ∧ 0 ≠ gn ∧ 7 ≠ gn ∧ Cells w' (w.heap.size) (q.map ncell) 68 ∧ Cells w' gr (nzeros 8) 63 ∧ Cells w' gn ((X j).map ncell) 63 ∧ Tab w' 0 (ol.map ncell) ∧ Tab w' 7 (tl.map ncell) ∧
      a' = { tmps := #[numVal q, .pointer (some ⟨w.heap.size, 0, none⟩), .pointer (some ⟨gr, 0, none⟩), .pointer (some ⟨gn, 0, none⟩), .int .i64 (j : Int), u5, u6, u7, u8, u9, u10, u11, u12, u13, undef], defers := [] })
    (fun a' _ => (intOf (a'.tmps.getD 4 undef)).toNat) rfl ?_ ?_
  · intro hp
    go_wp2_with (first
      | (refine vzero_step (o := ⟨some 3, _, _, _, _, _⟩) rfl 63 rfl (nzeros 8) zero_sn ?_
         intro w3 hb3 hvn3
         have hB3 := below_then hB2 hb3
         have hgen : w.heap.size ≤ w2.heap.size := hB2.size
         have hvo3 := hvo2.on hb3
         have hneon := Nat.ne_of_lt hvo2.lt
         have hvt3 := hvt2.on hb3
         have hnetn := Nat.ne_of_lt hvt2.lt
         have hvq3 := hvq2.on hb3
         have hneqn := Nat.ne_of_lt hvq2.lt
         have hvr3 := hvr2.on hb3
         have hnern := Nat.ne_of_lt hvr2.lt
         clear hB2 hvo2 hvt2 hvq2 hvr2 hb3
         try simp only [putS]
         skip))
    generalize hqn : w2.heap.size = gn at *
    clear hqn
    go_step3
    rename_i K hK
    exact hK _ _ (hp.out _ _ ⟨16, _, _, _, _, _, _, _, _, _, _, Nat.le_refl _, hB3, hgen, hneqn, hnern, hneon, hnetn, hvq3, hvr3, by rw [HX16.out]; exact hvn3, hvo3, hvt3, rfl⟩)
  · clear hB2 hvo2 hvt2 hvq2 hvr2
    rintro a' wl ⟨j, gn, u5, u6, u7, u8, u9, u10, u11, u12, u13, hj, hBl, hgen, hneqn, hnern, hneon, hnetn, hvql, hvrl, hvnl, hvol, hvtl, rfl⟩
    by_cases h0 : 0 < j
    · obtain ⟨k, rfl⟩ : ∃ k, j = k + 1 := ⟨j - 1, by omega⟩
      have hk : k < 16 := by omega
      have e1 : (((k + 1 : Nat) : Int)) = (k : Int) + 1 := by omega
      have e2 : (k : Int) + 1 - 1 = (k : Int) := by omega
      have i0 : (0 : Int) < (k : Int) + 1 := by omega
      have i3 : IntKind.i64.wrap (k : Int) = (k : Int) := IntWalk.i64_in _ (by omega)
      rw [e1]
      have HLl := Lib.hid (HL.out (k + 1))
      have HLn := Lib.hid (HL.out k)
      have HXk := Lib.hid (nat_at q k (by rw [Hq.out]; exact hk))
      have CNk := Lib.hid (CN.out k hk)
      obtain ⟨l, HXl⟩ := namedF (X (k + 1))
      obtain ⟨nx, HXn⟩ := namedF (X k)
      rw [HXl.out] at HLl CNk hvnl
      rw [HXn.out] at HLn CNk
      generalize q.getD k 0 = x at *
      clear HL CN HX16 HXl hj
      go_wp2_with fail
      replace hvol := hvol.drew
      replace hvtl := hvtl.drew
      replace hvql := hvql.drew
      replace hvrl := hvrl.drew
      replace hvnl := hvnl.drew
      refine wp_region_any (by kernel_rfl) ?_
      refine wpAny_flatM (L := [0, 1, 2, 3, 4]) (by kernel_rfl) _ _ (scModuloVs5 q w.heap.size gr gn k l x nx) [] 63 (nzeros 8) [0, 1, 2, 3, 4, 5, 6, 7, 8, 14] (by kernel_rfl) (by kernel_rfl) ?_ zero_sn ?_ (by rfl) ?_ 1 (by kernel_rfl) ?_
      · intro p hp
        exact absurd hp List.not_mem_nil
      · repeat refine all_cons rfl ?_
        exact all_nil
      · refine all_cons (.inr (mL 9 rfl fun w hb => sn_run (hvnl.on hb) HLl.out)) ?_
        refine all_cons (.inr (mV 10 rfl (.inl rfl) rfl)) ?_
        refine all_cons (.inr (mI 11 rfl fun w => sr_at _ k hk w)) ?_
        refine all_cons (.inr (mL 12 rfl fun w hb => load_u64 ((hvql.on hb).get HXk.out))) ?_
        refine all_cons (.inr (mC 13 rfl Tryd.func56 fun w hb => CNk.out w (hvol.on hb) (hvtl.on hb))) ?_
        exact all_nil
      intro w4 g hb4 hN4 hap4
      clear hN4 hap4
      have hB4 := below_then (show Below w.heap.size w wl.drew from hBl.drew) hb4
      have hvo4 := hvol.on hb4
      have hvt4 := hvtl.on hb4
      have hvq4 := hvql.on hb4
      have hvr4 := hvrl.on hb4
      have hvn4 := hvnl.on hb4
      clear hBl hvol hvtl hvql hvrl hvnl hb4
      refine wpAny_rest 5 rfl (by kernel_rfl) ?_
      refine vset_step rfl 63 (.tmp 3) (.tmp 13) rfl gn 8 (l.map ncell) (nx.map ncell) rfl rfl hvn4 (by rw [List.length_map, HLl.out]) size_sn (by rw [List.length_map, HLn.out]) (ncells_one _) ?_
      intro w5 hb5 hvn5 hz5
      have hB5 : Below w.heap.size w w5 := hB4.trans (hb5.below hgen hB4.size)
      have hvo5 := hvo4.but hb5 hneon
      have hvt5 := hvt4.but hb5 hnetn
      have hvq5 := hvq4.but hb5 hneqn
      have hvr5 := hvr4.but hb5 hnern
      clear hB4 hvn4 hb5 hz5 hvo4 hvt4 hvq4 hvr4
      rename_i K hKK
      show Exit.then K _ Exit.normal (⟨(scModuloVs5 q w.heap.size gr gn k l x nx).toArray, []⟩ : Act) w5
      simp only [Exit.then]
      refine hKK _ _ ?_
      clear hKK K g
      simp only [scModuloVs5, ptr]
      go_wp2_with fail
      go_step3
      exact ⟨rfl, ⟨k, gn, _, _, _, _, _, _, _, _, _, by omega, hB5, hgen, hneqn, hnern, hneon, hnetn, hvq5, hvr5, by rw [HXn.out]; exact hvn5, hvo5, hvt5, rfl⟩, by simp [intOf] <;> omega⟩
    · obtain rfl : j = 0 := by omega
      have HL0 := Lib.hid (HL.out 0)
      rw [show (((0 : Nat) : Int)) = 0 from rfl]
      go_wp2_with (first
        | (refine sget_step rfl 63 (.tmp 3) rfl gn 8 ((X 0).map ncell) rfl hvnl Tryd.underlying63 rfl size_sn (by rw [List.length_map, HL0.out]) ?_
           try simp only [putS]
           skip)
        | (refine vset_step rfl 63 (.tmp 2) (.tmp 14) rfl gr 8 (nzeros 8) ((X 0).map ncell) rfl rfl hvrl rfl size_sn (by rw [List.length_map, HL0.out]) (ncells_one _) ?_
           intro w6 hb6 hvr6 hz6
           have hB6 : Below w.heap.size w w6 := hBl.trans (hb6.below hger hBl.size)
           have hvo6 := hvol.but hb6 hneor
           have hvt6 := hvtl.but hb6 hnetr
           have hvq6 := hvql.but hb6 hneqr
           have hvn6 := hvnl.but hb6 (Ne.symm hnern)
           clear hBl hvrl hb6 hz6 hvol hvtl hvql hvnl
           skip))
      simp only [Exit.jump]
      exact sret Tryd.results31 gr ((X 0).map ncell) rfl hvr6 Tryd.underlying63 rfl size_sn (by rw [List.length_map, HL0.out]) rfl ⟨rfl, hB6⟩
end Go.Proofs.YtoggkhjaghkpnaaDoor
