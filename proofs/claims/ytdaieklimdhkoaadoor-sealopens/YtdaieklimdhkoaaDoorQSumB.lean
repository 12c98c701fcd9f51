/- The document's Sum: the loop over the blocks. -/
import Derived.Test.YtdaieklimdhkoaaDoorQSumA
namespace Go.Proofs.YtdaieklimdhkoaaDoor
open Go.RowKit
/-- 'append(out, b...)', the length as a letter. -/
theorem append_rowN {w : World} {ops : Array Oper} {rest : List Oper} {o : Oper} {a : Act} {Q : Exit → Act → World → Prop} (hgd : o.guard = none) (s x : Operand)
    (ho : o.op = .call { callee := .builtin .append, args := #[s, x], argTypes := #[24, 24] }) (base : Nat)
    (v : Value) (bs us : List UInt8) (B : Nat) (A : Option Addr) (n c : Nat) (hs : a.eval s = v) (hown : Owns w base v bs) (hx : a.eval x = .slice A n c) (hn : us.length = n) (hA : A = none → c = 0) (hr : Row w B A us)
    (hlen : bs.length + us.length ≤ 1000000) (hbase : base ≤ w.heap.size)
    (h : ∀ v' w', Owns w' base v' (bs ++ us) → Below base w w' → wpList Tryd.prog ops Q rest (a.put o.dst v') w') : wpList Tryd.prog ops Q (o :: rest) a w := by
  subst hn
  exact append_row hgd s x ho base v bs us B A c hs hown hx hA hr hlen hbase h
/-- At the head of the loop over the blocks, k of them taken in. -/
def IC (w : World) (A : Option Addr) (n c : Nat) (key bs : List UInt8) (r : Nat) (Ar : Option Addr) (nr cr : Nat) (a : Act) (wr : World) : Prop :=
  ∃ k Ah nh ch, 16 * k < n + 16 ∧ Fr 105 ([(10, .slice Ar nr cr), (11, .slice Ah nh ch), (12, .int .i64 ((16 * k : Nat) : Int))] ++ sumS w A n c) a ∧ PB w wr key ∧ RowI wr wr.heap.size Ar (digs r) ∧ RowI wr wr.heap.size Ah (digs (polyH r bs k)) ∧ (digs (polyH r bs k)).length = nh
def muC (n : Nat) (a : Act) (_ : World) : Nat := n + 16 - (intOf (a.tmps.getD 12 undef)).toNat
theorem poly_small (h b r : Nat) (h1 : h < polyP) (h2 : b < 256 ^ 17) (h3 : r < 256 ^ 16) : h < 256 ^ 40 ∧ h + b < 256 ^ 40 ∧ (h + b) * r < 256 ^ 40 := by
  have hp : polyP = 2 ^ 130 - 5 := rfl
  have hb : h + b < 256 ^ 18 := by omega
  have h4 : (h + b) * r ≤ 256 ^ 18 * 256 ^ 16 := Nat.mul_le_mul (Nat.le_of_lt hb) (Nat.le_of_lt h3)
  have h5 : (256 : Nat) ^ 18 * 256 ^ 16 < 256 ^ 40 := by decide
  omega
set_option maxRecDepth 100000 in
set_option maxHeartbeats 4000000 in
theorem roundC (w : World) (A : Option Addr) (n c : Nat) (key bs : List UInt8) (r : Nat) (Ar : Option Addr) (nr cr k : Nat) (Ah : Option Addr) (nh ch : Nat) (wr : World) (a : Act) (Q0 : Exit → Act → World → Prop) (hr : Row w w.heap.size A bs) (hl : bs.length = n) (hc : n ≤ c) (hn : n ≤ 100000) (hr2 : r < 256 ^ 16) (HNR : Hid ((digs r).length = nr)) (hk : 16 * k < n)
    (hF : Fr 105 ([(10, .slice Ar nr cr), (11, .slice Ah nh ch), (12, .int .i64 ((16 * k : Nat) : Int))] ++ sumS w A n c) a) (hW : PB w wr key) (hR : RowI wr wr.heap.size Ar (digs r)) (hH : RowI wr wr.heap.size Ah (digs (polyH r bs k))) (HNH : Hid ((digs (polyH r bs k)).length = nh)) :
    Code.wp Tryd.prog (sumBody 2) (Exit.then (fun a' w' => IC w A n c key bs r Ar nr cr a' w' ∧ muC n a' w' < muC n a wr) Q0) a wr := by
  have HNX : Hid (polyH r bs (k + 1) = (polyH r bs k + lev ((bs.drop (16 * k)).take 16 ++ [1])) * r % polyP) := rfl
  have hlt := polyH_lt r bs k
  have hrow : Row wr w.heap.size (cutA A (16 * k) c) ((bs.drop (16 * k)).take 16) := by
    have h := (hr.below hW.below).cut (16 * k) c (by omega)
    rw [← List.take_append_drop 16 (bs.drop (16 * k))] at h
    exact h.head
  have hbl : ((bs.drop (16 * k)).take 16).length = min 16 (n - 16 * k) := by rw [List.length_take, List.length_drop, hl]
  have hA0 : cutA A (16 * k) c = none → c - 16 * k = 0 := by
    intro h
    exfalso
    have h0 := cutA_none h
    rcases hr with h3 | ⟨_, _, h3, _⟩
    · rw [h3] at hl; simp at hl; omega
    · rw [h0] at h3; cases h3
  obtain ⟨nx, HX1⟩ := named (polyH r bs (k + 1))
  rw [HX1.out] at HNX
  obtain ⟨blk, HBK⟩ := named ((bs.drop (16 * k)).take 16)
  rw [HBK.out] at hrow hbl HNX
  obtain ⟨h, HH⟩ := named (polyH r bs k)
  rw [HH.out] at hH HNH HNX hlt
  have hb1 : lev (blk ++ [1]) < 256 ^ 17 := by
    have h1 := lev_lt (blk ++ [1])
    have h2 : (blk ++ [1]).length ≤ 17 := by rw [List.length_append, hbl]; simp; omega
    have h3 : 256 ^ (blk ++ [1]).length ≤ 256 ^ 17 := Nat.pow_le_pow_right (by omega) h2
    omega
  have hs3 := Lib.hid (poly_small h _ r hlt hb1 hr2)
  have hb1H := Lib.hid hb1
  have hr2H := Lib.hid hr2
  have hr40 : nr ≤ 16 := by rw [← HNR.out]; exact digs_length_le r 16 hr2
  have hh40 : nh ≤ 40 := by rw [← HNH.out]; exact digs_length_le h 40 hs3.out.1
  have hslc := fun e (h1 : 16 * k ≤ e) (h2 : e ≤ n) => slice_mid A n c (16 * k) e h1 h2 hc
  generalize hpp : 16 * k = p at *
  replace hpp := Lib.hid hpp
  have HBL := Lib.hid hbl
  have HA0 := Lib.hid hA0
  clear hlt hb1 hr2 hbl hr hA0 hl
  generalize cutA A p c = A1 at *
  have HE := Lib.hid (Owns.lit (base := wr.heap.size) wr [] (Nat.le_refl _) (by simp))
  have hB0 : Below wr.heap.size wr (wr.alloc (.cells (rowCells []) 5)) := (Below.refl _ _).alloc (Nat.le_refl _) _
  have hrow0 : Row (wr.alloc (.cells (rowCells []) 5)) w.heap.size A1 blk := hrow.below (hB0.mono hW.below.size)
  have hpI : (p : Int) < (n : Int) := by omega
  obtain ⟨hs0, hd0, h10, h11, h12, h1, h2, h4, -⟩ := hF
  obtain ⟨u, rfl⟩ := frame105 a hs0 hd0
  clear hs0 hd0
  change u 10 = _ at h10
  change u 11 = _ at h11
  change u 12 = _ at h12
  change u 1 = _ at h1
  change u 2 = _ at h2
  change u 4 = _ at h4
  rw [h10, h11, h12, h1, h2, h4]
  clear h10 h11 h12 h1 h2 h4
  conv => arg 2; whnf
  by_cases h16 : p + 16 ≤ n
  · have hsl := hslc (p + 16) (by omega) h16
    obtain ⟨m, HMM⟩ := named 16
    have hm16 : m ≤ 16 := by rw [← HMM.out]; exact Nat.le_refl _
    rw [show p + 16 - p = m by rw [← HMM.out]; omega, show ((p + 16 : Nat) : Int) = (p : Int) + 16 by omega] at hsl
    have h16I : ¬ (n : Int) < (p : Int) + 16 := by omega
    have HM : Hid (blk.length = m) := by show _ = _; rw [HBL.out, ← HMM.out]; omega
    clear hslc HBL
    go_wp2_with (first
      | (at_builtin
         refine append_rowN rfl (.tmp 69) (.tmp 73) rfl wr.heap.size _ [] blk w.heap.size A1 m (c - p) rfl HE.out rfl HM.out HA0.out hrow0 (by rw [HM.out]; simp; omega) (by simp) ?_
         intro v1 w1 hown1 hB1
         rw [List.nil_append] at hown1
         have hB1w := Lib.hid (hB0.trans hB1)
         have hC5 : Row (w1.alloc (.cells #[.int .u8 1] 5)) (w1.alloc (.cells #[.int .u8 1] 5)).heap.size (some ⟨w1.heap.size, 0, none⟩) [1] := (Cells.new w1 ([1].map cellOf).toArray 5).all
         have hown1a := hown1.kept_alloc (.cells #[.int .u8 1] 5)
         have hz1 := hB1w.out.size
         have hB5 := Lib.hid (hB1w.out.alloc hz1 (.cells #[.int .u8 1] 5))
         have hz5 := hB5.out.size
         clear hown1 hB1 hrow hrow0 hB0 HE hsl)
      | (at_builtin
         refine append_rowN rfl (.tmp 74) (.tmp 75) rfl wr.heap.size _ blk [1] _ (some ⟨w1.heap.size, 0, none⟩) 1 1 rfl hown1a rfl rfl (fun h => by cases h) hC5 (by rw [HM.out]; simp; omega) hz5 ?_
         intro v2 w2 hown2 hB2
         have hB2w := Lib.hid (hB5.out.trans hB2)
         clear hown1a hB5 hB2 hC5
         have HML : Hid ((blk ++ [1]).length = m + 1) := by
           show _ = _
           rw [List.length_append, HM.out]
           rfl
         obtain ⟨bl1, HB1⟩ := named (blk ++ [1])
         rw [HB1.out] at hown2 HNX HML hb1H hs3
         obtain ⟨A5, c5, rfl, hc5, hc5m, hA5, hrow5⟩ := hown2.form2
         rw [HML.out] at hc5 ⊢))
    obtain ⟨x1, HX⟩ := named (lev bl1)
    rw [HX.out] at HNX hb1H hs3
    have CN := Lib.hid (number_any A5 (m + 1) c5 bl1 w2 HML.out hrow5 (by omega))
    rw [HX.out] at CN
    obtain ⟨d1, HD1⟩ := named (digs x1)
    obtain ⟨n1, HN1⟩ := named d1.length
    have h17 : n1 ≤ 17 := by rw [← HN1.out, ← HD1.out]; exact digs_length_le _ 17 hb1H.out
    obtain ⟨x2, HX2⟩ := named (h + x1)
    obtain ⟨d2, HD2⟩ := named (digs x2)
    obtain ⟨n2, HN2⟩ := named d2.length
    rw [HX2.out] at HNX hs3
    have h40 : n2 ≤ 40 := by rw [← HN2.out, ← HD2.out]; exact digs_length_le _ 40 hs3.out.2.1
    obtain ⟨x3, HX3⟩ := named (x2 * r)
    obtain ⟨d3, HD3⟩ := named (digs x3)
    obtain ⟨n3, HN3⟩ := named d3.length
    rw [HX3.out] at HNX hs3
    rw [HD1.out] at CN
    refine CN.out.mono ?_
    rintro e w3 ⟨A6, c6, rfl, -, hc6, hc6m, hr6, hB3⟩
    rw [HN1.out]
    have hBa := below_then hB2w.out hB3
    have CA := Lib.hid (add_any Ah A6 nh n1 ch c6 h x1 _ d1 w3 rfl HD1.out.symm HNH.out HN1.out (hH.on hBa) hr6 (by omega) (by omega))
    rw [HX2.out, HD2.out] at CA
    clear CN hrow5 hown2
    go_wp2_with fail
    refine CA.out.mono ?_
    rintro e w4 ⟨A7, c7, rfl, -, hc7, hc7m, hr7, hB4⟩
    rw [HN2.out]
    have hBb := below_then hBa hB4
    have CT := Lib.hid (refTimes_any A7 Ar n2 nr c7 cr x2 r d2 _ w4 HD2.out.symm rfl HN2.out HNR.out hr7 (hR.on hBb) (by omega) (by omega))
    rw [HX3.out, HD3.out] at CT
    clear CA hr6
    go_wp2_with fail
    refine CT.out.mono ?_
    rintro e w5 ⟨A8, c8, rfl, -, hc8, hc8m, hr8, hB5⟩
    rw [HN3.out] at hc8 ⊢
    have hBc := below_then hBb hB5
    have CM := Lib.hid (refMod_any A8 n3 c8 x3 d3 w5 HD3.out.symm HN3.out hr8 hc8 hc8m hs3.out.2.2)
    rw [← HNX.out] at CM
    clear CT hr7
    go_wp2_with fail
    refine CM.out.mono ?_
    rintro e w6 ⟨A9, c9, rfl, hc9, hc9m, hr9, hB6⟩
    have hBd := below_then hBc hB6
    clear CM hr8
    obtain ⟨n9, HN9⟩ := named (digs nx).length
    rw [HN9.out]
    go_wp2_with fail
    refine ⟨⟨k + 1, A9, n9, c9, by have := hpp.out; omega, ⟨rfl, rfl, rfl, rfl, ?_, rfl, rfl, rfl, trivial⟩, hW.on hBd, hR.on hBd, by rw [HX1.out]; exact hr9, by rw [HX1.out]; exact HN9.out⟩, ?_⟩
    · show Value.int .i64 ((p : Int) + 16) = Value.int .i64 ((16 * (k + 1) : Nat) : Int)
      have e1 := hpp.out
      rw [← e1]
      congr 1
    · show n + 16 - ((p : Int) + 16).toNat < n + 16 - ((p : Int)).toNat
      omega
  · have hsl := hslc n (by omega) (Nat.le_refl _)
    obtain ⟨m, HMM⟩ := named (n - p)
    have hm16 : m ≤ 16 := by rw [← HMM.out]; omega
    rw [HMM.out] at hsl
    have h16I : (n : Int) < (p : Int) + 16 := by omega
    have HM : Hid (blk.length = m) := by show _ = _; rw [HBL.out, ← HMM.out]; omega
    clear hslc HBL
    go_wp2_with (first
      | (at_builtin
         refine append_rowN rfl (.tmp 69) (.tmp 73) rfl wr.heap.size _ [] blk w.heap.size A1 m (c - p) rfl HE.out rfl HM.out HA0.out hrow0 (by rw [HM.out]; simp; omega) (by simp) ?_
         intro v1 w1 hown1 hB1
         rw [List.nil_append] at hown1
         have hB1w := Lib.hid (hB0.trans hB1)
         have hC5 : Row (w1.alloc (.cells #[.int .u8 1] 5)) (w1.alloc (.cells #[.int .u8 1] 5)).heap.size (some ⟨w1.heap.size, 0, none⟩) [1] := (Cells.new w1 ([1].map cellOf).toArray 5).all
         have hown1a := hown1.kept_alloc (.cells #[.int .u8 1] 5)
         have hz1 := hB1w.out.size
         have hB5 := Lib.hid (hB1w.out.alloc hz1 (.cells #[.int .u8 1] 5))
         have hz5 := hB5.out.size
         clear hown1 hB1 hrow hrow0 hB0 HE hsl)
      | (at_builtin
         refine append_rowN rfl (.tmp 74) (.tmp 75) rfl wr.heap.size _ blk [1] _ (some ⟨w1.heap.size, 0, none⟩) 1 1 rfl hown1a rfl rfl (fun h => by cases h) hC5 (by rw [HM.out]; simp; omega) hz5 ?_
         intro v2 w2 hown2 hB2
         have hB2w := Lib.hid (hB5.out.trans hB2)
         clear hown1a hB5 hB2 hC5
         have HML : Hid ((blk ++ [1]).length = m + 1) := by
           show _ = _
           rw [List.length_append, HM.out]
           rfl
         obtain ⟨bl1, HB1⟩ := named (blk ++ [1])
         rw [HB1.out] at hown2 HNX HML hb1H hs3
         obtain ⟨A5, c5, rfl, hc5, hc5m, hA5, hrow5⟩ := hown2.form2
         rw [HML.out] at hc5 ⊢))
    obtain ⟨x1, HX⟩ := named (lev bl1)
    rw [HX.out] at HNX hb1H hs3
    have CN := Lib.hid (number_any A5 (m + 1) c5 bl1 w2 HML.out hrow5 (by omega))
    rw [HX.out] at CN
    obtain ⟨d1, HD1⟩ := named (digs x1)
    obtain ⟨n1, HN1⟩ := named d1.length
    have h17 : n1 ≤ 17 := by rw [← HN1.out, ← HD1.out]; exact digs_length_le _ 17 hb1H.out
    obtain ⟨x2, HX2⟩ := named (h + x1)
    obtain ⟨d2, HD2⟩ := named (digs x2)
    obtain ⟨n2, HN2⟩ := named d2.length
    rw [HX2.out] at HNX hs3
    have h40 : n2 ≤ 40 := by rw [← HN2.out, ← HD2.out]; exact digs_length_le _ 40 hs3.out.2.1
    obtain ⟨x3, HX3⟩ := named (x2 * r)
    obtain ⟨d3, HD3⟩ := named (digs x3)
    obtain ⟨n3, HN3⟩ := named d3.length
    rw [HX3.out] at HNX hs3
    rw [HD1.out] at CN
    refine CN.out.mono ?_
    rintro e w3 ⟨A6, c6, rfl, -, hc6, hc6m, hr6, hB3⟩
    rw [HN1.out]
    have hBa := below_then hB2w.out hB3
    have CA := Lib.hid (add_any Ah A6 nh n1 ch c6 h x1 _ d1 w3 rfl HD1.out.symm HNH.out HN1.out (hH.on hBa) hr6 (by omega) (by omega))
    rw [HX2.out, HD2.out] at CA
    clear CN hrow5 hown2
    go_wp2_with fail
    refine CA.out.mono ?_
    rintro e w4 ⟨A7, c7, rfl, -, hc7, hc7m, hr7, hB4⟩
    rw [HN2.out]
    have hBb := below_then hBa hB4
    have CT := Lib.hid (refTimes_any A7 Ar n2 nr c7 cr x2 r d2 _ w4 HD2.out.symm rfl HN2.out HNR.out hr7 (hR.on hBb) (by omega) (by omega))
    rw [HX3.out, HD3.out] at CT
    clear CA hr6
    go_wp2_with fail
    refine CT.out.mono ?_
    rintro e w5 ⟨A8, c8, rfl, -, hc8, hc8m, hr8, hB5⟩
    rw [HN3.out] at hc8 ⊢
    have hBc := below_then hBb hB5
    have CM := Lib.hid (refMod_any A8 n3 c8 x3 d3 w5 HD3.out.symm HN3.out hr8 hc8 hc8m hs3.out.2.2)
    rw [← HNX.out] at CM
    clear CT hr7
    go_wp2_with fail
    refine CM.out.mono ?_
    rintro e w6 ⟨A9, c9, rfl, hc9, hc9m, hr9, hB6⟩
    have hBd := below_then hBc hB6
    clear CM hr8
    obtain ⟨n9, HN9⟩ := named (digs nx).length
    rw [HN9.out]
    go_wp2_with fail
    refine ⟨⟨k + 1, A9, n9, c9, by have := hpp.out; omega, ⟨rfl, rfl, rfl, rfl, ?_, rfl, rfl, rfl, trivial⟩, hW.on hBd, hR.on hBd, by rw [HX1.out]; exact hr9, by rw [HX1.out]; exact HN9.out⟩, ?_⟩
    · show Value.int .i64 ((p : Int) + 16) = Value.int .i64 ((16 * (k + 1) : Nat) : Int)
      have e1 := hpp.out
      rw [← e1]
      congr 1
    · show n + 16 - ((p : Int) + 16).toNat < n + 16 - ((p : Int)).toNat
      omega
/-- Behind it. -/
def XC (w : World) (A : Option Addr) (n c : Nat) (key bs : List UInt8) (r : Nat) (a : Act) (wr : World) : Prop :=
  ∃ Ah nh ch, Fr 105 ([(11, .slice Ah nh ch)] ++ sumS w A n c) a ∧ PB w wr key ∧ RowI wr wr.heap.size Ah (digs (polyH r bs ((n + 15) / 16))) ∧ (digs (polyH r bs ((n + 15) / 16))).length = nh
set_option maxRecDepth 100000 in
set_option maxHeartbeats 4000000 in
theorem loopC (w : World) (A : Option Addr) (n c : Nat) (key bs : List UInt8) (r : Nat) (Ar : Option Addr) (nr cr : Nat) (wr : World) (a : Act) (Q0 : Exit → Act → World → Prop) (hr : Row w w.heap.size A bs) (hl : bs.length = n) (hc : n ≤ c) (hn : n ≤ 100000) (hr2 : r < 256 ^ 16) (HNR : Hid ((digs r).length = nr))
    (hI : IC w A n c key bs r Ar nr cr a wr) (hX : ∀ a wr, XC w A n c key bs r a wr → Q0 (.exit 4) a wr) : Code.wp Tryd.prog (Code.loop (sumBody 2)) Q0 a wr := by
  refine wp_loop (IC w A n c key bs r Ar nr cr) (muC n) hI ?_
  clear hI a wr
  rintro a wr ⟨k, Ah, nh, ch, hk, hF, hW, hR, hH, hN⟩
  by_cases h1 : 16 * k < n
  · exact roundC w A n c key bs r Ar nr cr k Ah nh ch wr a Q0 hr hl hc hn hr2 HNR h1 hF hW hR hH hN
  have HK : Hid ((n + 15) / 16 = k) := by show _ = _; omega
  have HX := Lib.hid hX
  have HHH := Lib.hid hH
  have HNN := Lib.hid hN
  have h1I : ¬ ((16 * k : Nat) : Int) < (n : Int) := by omega
  clear hX hH hN hl hr hR
  generalize 16 * k = p at *
  obtain ⟨hs0, hd0, h10, h11, h12, h1, h2, h4, -⟩ := hF
  obtain ⟨u, rfl⟩ := frame105 a hs0 hd0
  clear hs0 hd0
  change u 10 = _ at h10
  change u 11 = _ at h11
  change u 12 = _ at h12
  change u 1 = _ at h1
  change u 2 = _ at h2
  change u 4 = _ at h4
  rw [h10, h11, h12, h1, h2, h4]
  clear h10 h11 h12 h1 h2 h4
  conv => arg 2; whnf
  go_wp2
  exact HX.out _ _ ⟨Ah, nh, ch, ⟨rfl, rfl, rfl, rfl, rfl, rfl, trivial⟩, hW, by rw [HK.out]; exact HHH.out, by rw [HK.out]; exact HNN.out⟩
end Go.Proofs.YtdaieklimdhkoaaDoor
