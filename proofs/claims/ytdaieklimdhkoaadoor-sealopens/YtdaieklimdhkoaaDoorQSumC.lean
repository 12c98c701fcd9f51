/- The document's Sum: the code laid down, and the whole. -/
import Derived.Test.YtdaieklimdhkoaaDoorQSumB
import Derived.Test.YtdaieklimdhkoaaDoorPart9
namespace Go.Proofs.YtdaieklimdhkoaaDoor
open Go.RowKit
/-- The code's bytes, k of them laid. -/
def outTo (ss : List Nat) : Nat → List UInt8
  | 0 => List.replicate 16 0
  | k + 1 => (outTo ss k).set k (UInt8.ofNat (ss.getD k 0))
theorem outTo_length (ss : List Nat) : ∀ k, (outTo ss k).length = 16
  | 0 => by simp [outTo]
  | k + 1 => by rw [outTo, List.length_set, outTo_length]
theorem outTo_get (ss : List Nat) : ∀ k i, i < 16 → (outTo ss k)[i]? = some (if i < k then UInt8.ofNat (ss.getD i 0) else 0)
  | 0, i, hi => by
    rw [if_neg (by omega)]
    show (List.replicate 16 (0 : UInt8))[i]? = _
    rw [List.getElem?_replicate, if_pos hi]
  | k + 1, i, hi => by
    rw [outTo, List.getElem?_set]
    by_cases e : k = i
    · subst e
      rw [if_pos rfl, outTo_length, if_pos hi, if_pos (by omega)]
    · rw [if_neg e, outTo_get ss k i hi]
      by_cases h : i < k
      · rw [if_pos h, if_pos (by omega)]
      · rw [if_neg h, if_neg (by omega)]
theorem digs_get (x i : Nat) : (digs x).getD i 0 = x / 256 ^ i % 256 := by
  induction i generalizing x with
  | zero =>
    by_cases h : x = 0
    · subst h; rw [digs_zero]; rfl
    · rw [digs_pos h, Nat.pow_zero, Nat.div_one]; rfl
  | succ i ih =>
    by_cases h : x = 0
    · subst h; rw [digs_zero]; simp
    · rw [digs_pos h, List.getD_cons_succ, ih, Nat.div_div_eq_div_mul, Nat.pow_succ, Nat.mul_comm 256]
theorem outTo_all (x k : Nat) (h : k = 16 ∨ (digs x).length ≤ k) : outTo (digs x) k = putL x 16 := by
  apply List.ext_getElem?
  intro i
  by_cases hi : i < 16
  · rw [outTo_get _ k i hi, putL, List.getElem?_map, List.getElem?_range hi]
    show _ = some (byteAt x i)
    congr 1
    have e : byteAt x i = UInt8.ofNat ((digs x).getD i 0) := by
      rw [digs_get, byteAt]
      apply UInt8.toNat_inj.1
      rw [UInt8.toNat_ofNat', UInt8.toNat_ofNat', Nat.mod_mod]
    rw [e]
    by_cases h2 : i < k
    · rw [if_pos h2]
    · rw [if_neg h2, List.getD_eq_getElem?_getD, List.getElem?_eq_none (by omega)]
      rfl
  · rw [List.getElem?_eq_none (by rw [outTo_length]; omega), List.getElem?_eq_none (by rw [putL_length]; omega)]
theorem byte_of (x : Nat) (h : x < 256) : (x : Int) = ((UInt8.ofNat x).toNat : Int) := by
  rw [UInt8.toNat_ofNat']; omega
/-- At the head of the loop that lays the code down, k bytes laid. -/
def ID (w : World) (A : Option Addr) (n c : Nat) (key : List UInt8) (ss : List Nat) (As : Option Addr) (ns cs go : Nat) (a : Act) (wr : World) : Prop :=
  ∃ k : Nat, k ≤ 16 ∧ Fr 105 ([(14, .slice As ns cs), (15, .pointer (some ⟨go, 0, none⟩)), (16, .int .i64 (k : Int))] ++ sumS w A n c) a ∧ PB w wr key ∧ RowI wr go As ss ∧ go < wr.heap.size ∧ Cells wr go ((outTo ss k).map cellOf) 45
def muD (a : Act) (_ : World) : Nat := 16 - (intOf (a.tmps.getD 16 undef)).toNat
set_option maxRecDepth 100000 in
set_option maxHeartbeats 4000000 in
theorem roundD (w : World) (A : Option Addr) (n c : Nat) (key : List UInt8) (ss : List Nat) (As : Option Addr) (ns cs go k : Nat) (wr : World) (a : Act) (Q0 : Exit → Act → World → Prop) (HSL : Hid (ss.length = ns)) (hd : ∀ x ∈ ss, x < 256) (hgo : w.heap.size + 2 ≤ go) (hk : k < 16) (hk2 : k < ns)
    (hF : Fr 105 ([(14, .slice As ns cs), (15, .pointer (some ⟨go, 0, none⟩)), (16, .int .i64 (k : Int))] ++ sumS w A n c) a) (hW : PB w wr key) (hS : RowI wr go As ss) (hgw : go < wr.heap.size) (hO : Cells wr go ((outTo ss k).map cellOf) 45) :
    Code.wp Tryd.prog (sumBody 3) (Exit.then (fun a' w' => ID w A n c key ss As ns cs go a' w' ∧ muD a' w' < muD a wr) Q0) a wr := by
  have HN : Hid (outTo ss (k + 1) = (outTo ss k).set k (UInt8.ofNat (ss.getD k 0))) := rfl
  obtain ⟨n1, HN1⟩ := named (outTo ss (k + 1))
  rw [HN1.out] at HN
  have HOL := Lib.hid (outTo_length ss k)
  have hx : ss.getD k 0 < 256 := by
    have hk3 : k < ss.length := by rw [HSL.out]; exact hk2
    rw [getD_get ss k hk3]
    exact hd _ (List.getElem_mem hk3)
  obtain ⟨b, off, rfl, hb, hcell⟩ := hS.at k (by rw [HSL.out]; exact hk2)
  have hf := hO.frozen k
  obtain ⟨v4, hv4⟩ : ∃ v, wr.cell? ⟨go, k, none⟩ = some v := ⟨_, hO.cell k (by rw [List.length_map, HOL.out]; exact hk)⟩
  generalize ss.getD k 0 = x at *
  generalize HOK : outTo ss k = ok at *
  replace HOK := Lib.hid HOK
  have BO := Lib.hid (byte_of x hx)
  have i1 : (k : Int) < 16 := by omega
  have i2 : (k : Int) < (ns : Int) := by omega
  have i3 : (0 : Int) ≤ (k : Int) := by omega
  have hdH := Lib.hid hd
  clear hd
  obtain ⟨hs0, hd0, h14, h15, h16, h1, h2, h4, -⟩ := hF
  obtain ⟨u, rfl⟩ := frame105 a hs0 hd0
  clear hs0 hd0
  change u 14 = _ at h14
  change u 15 = _ at h15
  change u 16 = _ at h16
  change u 1 = _ at h1
  change u 2 = _ at h2
  change u 4 = _ at h4
  rw [h14, h15, h16, h1, h2, h4]
  clear h14 h15 h16 h1 h2 h4
  conv => arg 2; whnf
  go_wp2_with fail
  rw [BO.out]
  refine ⟨⟨k + 1, by omega, ⟨rfl, rfl, rfl, rfl, by show Value.int .i64 ((k : Int) + 1) = _; go_num, rfl, rfl, rfl, trivial⟩, hW.but ((But.refl go wr).setCell k _) hgo, hS.but ((But.refl go wr).setCell k _) (Nat.le_refl _) (by omega), by simpa using hgw, ?_⟩, ?_⟩
  · rw [HN1.out, HN.out, List.map_set]
    exact hO.set k _
  · show 16 - ((k : Int) + 1).toNat < 16 - ((k : Int)).toNat
    omega
/-- Behind it. -/
def XD (w : World) (A : Option Addr) (n c : Nat) (key out : List UInt8) (go : Nat) (a : Act) (wr : World) : Prop :=
  Fr 105 ([(15, .pointer (some ⟨go, 0, none⟩))] ++ sumS w A n c) a ∧ PB w wr key ∧ Cells wr go (out.map cellOf) 45
set_option maxRecDepth 100000 in
set_option maxHeartbeats 4000000 in
theorem loopD (w : World) (A : Option Addr) (n c : Nat) (key out : List UInt8) (ss : List Nat) (As : Option Addr) (ns cs go : Nat) (wr : World) (a : Act) (Q0 : Exit → Act → World → Prop) (HSL : Hid (ss.length = ns)) (hd : ∀ x ∈ ss, x < 256) (hgo : w.heap.size + 2 ≤ go) (hout : ∀ k, k = 16 ∨ ns ≤ k → outTo ss k = out)
    (hI : ID w A n c key ss As ns cs go a wr) (hX : ∀ a wr, XD w A n c key out go a wr → Q0 (.exit 6) a wr) : Code.wp Tryd.prog (Code.loop (sumBody 3)) Q0 a wr := by
  refine wp_loop (ID w A n c key ss As ns cs go) muD hI ?_
  clear hI a wr
  rintro a wr ⟨k, hk, hF, hW, hS, hgw, hO⟩
  have HX := Lib.hid hX
  by_cases h1 : k < 16
  · by_cases h2 : k < ns
    · exact roundD w A n c key ss As ns cs go k wr a Q0 HSL hd hgo h1 h2 hF hW hS hgw hO
    · rw [hout k (.inr (by omega))] at hO
      have i1 : (k : Int) < 16 := by omega
      have i2 : ¬ (k : Int) < (ns : Int) := by omega
      have hOH := Lib.hid hO
      clear hX hout hd hO
      obtain ⟨hs0, hd0, h14, h15, h16, h1, h2, h4, -⟩ := hF
      obtain ⟨u, rfl⟩ := frame105 a hs0 hd0
      clear hs0 hd0
      change u 14 = _ at h14
      change u 15 = _ at h15
      change u 16 = _ at h16
      change u 1 = _ at h1
      change u 2 = _ at h2
      change u 4 = _ at h4
      rw [h14, h15, h16, h1, h2, h4]
      clear h14 h15 h16 h1 h2 h4
      conv => arg 2; whnf
      go_wp2
      exact HX.out _ _ ⟨⟨rfl, rfl, rfl, rfl, rfl, rfl, trivial⟩, hW, hOH.out⟩
  · rw [hout k (.inl (by omega))] at hO
    have i1 : ¬ (k : Int) < 16 := by omega
    have hOH := Lib.hid hO
    clear hX hout hd hO
    obtain ⟨hs0, hd0, h14, h15, h16, h1, h2, h4, -⟩ := hF
    obtain ⟨u, rfl⟩ := frame105 a hs0 hd0
    clear hs0 hd0
    change u 14 = _ at h14
    change u 15 = _ at h15
    change u 16 = _ at h16
    change u 1 = _ at h1
    change u 2 = _ at h2
    change u 4 = _ at h4
    rw [h14, h15, h16, h1, h2, h4]
    clear h14 h15 h16 h1 h2 h4
    conv => arg 2; whnf
    go_wp2
    exact HX.out _ _ ⟨⟨rfl, rfl, rfl, rfl, rfl, rfl, trivial⟩, hW, hOH.out⟩
theorem row_cells {w : World} {g : Nat} {l : List UInt8} {rest : List Value} {t : TypeId} (h : Cells w g (l.map cellOf ++ rest) t) : Row w w.heap.size (some ⟨g, 0, none⟩) l :=
  .inr ⟨g, 0, rfl, h.lt, fun j u hu => by
    rw [Nat.zero_add]
    refine h.get ?_
    have hj : j < l.length := (List.getElem?_eq_some_iff.1 hu).1
    rw [List.getElem?_append_left (by rw [List.length_map]; exact hj), List.getElem?_map, hu]; rfl⟩
set_option maxRecDepth 100000 in
set_option maxHeartbeats 4000000 in
/-- The document's Sum. -/
theorem refSum7_any (A : Option Addr) (n c : Nat) (key bs : List UInt8) (w : World) (hk : key.length = 32) (hl : bs.length = n) (hr : Row w w.heap.size A bs) (hc : n ≤ c) (hn : n ≤ 100000) :
    Calls Tryd.prog 35 #[hashVal key, .slice A n c] w fun e w' => e = .returned (hashVal (polySum key bs)) ∧ Below w.heap.size w w' := by
  have HL := Lib.hid hl
  have HK := Lib.hid hk
  have HKT : Hid ((key.take 16).length = 16) := by show _ = _; rw [List.length_take, hk]; rfl
  have HKD : Hid ((key.drop 16).length = 16) := by show _ = _; rw [List.length_drop, hk]
  have HKDT : Hid ((key.drop 16).take 16 = key.drop 16) := by show _ = _; rw [List.take_of_length_le (by rw [HKD.out]; exact Nat.le_refl _)]
  have HR16 : Hid (polyR key < 256 ^ 16) := by
    show _ < _
    have h := lev_lt (polyClamp (key.take 16))
    rw [polyClamp_length, HKT.out] at h
    exact h
  have HRL : Hid (polyR key = lev (clampB (clampA (key.take 16) 4) 3)) := rfl
  have HPS : Hid (polySum key bs = putL (polyH (polyR key) bs ((n + 15) / 16) + polyS key) 16) := by show _ = _; rw [← hl]; rfl
  have HSS : Hid (polyS key = lev (key.drop 16)) := rfl
  have HSB : Hid (polyS key < 256 ^ 16) := by
    show _ < _
    have h := lev_lt (key.drop 16)
    rw [HKD.out] at h
    exact h
  have HHB := Lib.hid (polyH_lt (polyR key) bs ((n + 15) / 16))
  clear hl hk
  obtain ⟨kt, HKTN⟩ := named (key.take 16)
  rw [HKTN.out] at HKT HRL
  obtain ⟨kd, HKDN⟩ := named (key.drop 16)
  rw [HKDN.out] at HKD HKDT HSS
  obtain ⟨r, HRN⟩ := named (polyR key)
  rw [HRN.out] at HRL HR16 HPS HHB
  obtain ⟨sK, HSN⟩ := named (polyS key)
  rw [HSN.out] at HSS HSB HPS
  obtain ⟨ps, HPN⟩ := named (polySum key bs)
  rw [HPN.out] at HPS ⊢
  have HPL : Hid (ps.length = 16) := by show _ = _; rw [← HPN.out]; exact polySum_length _ _
  have HVK := Lib.hid (show hashVal key = hashVal key from rfl)
  go_enter Tryd.func35, Tryd.ntmps35
  go_wp2_with (first
    | (refine take_step rfl 22 (.tmp 0) rfl key rfl ?_
       intro w0 hB0 hC0 hz0)
    | (refine zero_step (o := ⟨some 4, _, _, _, _, _⟩) rfl 45 rfl 16 zero_b16 ?_
       intro w1 hB1 hC1 hz1
       rw [hz0] at hz1 hC1 ⊢
       have hW : PB w w1 key := ⟨below_then hB0 hB1, hC0.on hB1, hC1⟩
       have HZ1 := Lib.hid hz1
       clear hB0 hC0 hz0 hB1 hC1 hz1
       have HE := Lib.hid (Owns.lit (base := w1.heap.size) w1 [] (Nat.le_refl _) (by simp))
       have hBn : Below w1.heap.size w1 (w1.alloc (.cells (rowCells []) 5)) := (Below.refl _ _).alloc (Nat.le_refl _) _
       have hrk : Row (w1.alloc (.cells (rowCells []) 5)) (w1.alloc (.cells (rowCells []) 5)).heap.size (some ⟨w.heap.size, 0, none⟩) kt := by
         have h := (hW.on hBn).key.all
         rw [← List.take_append_drop 16 key, HKTN.out] at h
         exact h.head)
    | (at_builtin
       refine append_rowN rfl (.tmp 17) (.tmp 18) rfl w1.heap.size _ [] kt _ (some ⟨w.heap.size, 0, none⟩) 16 32 rfl HE.out rfl HKT.out (fun h => by cases h) hrk (by rw [HKT.out]; simp) (by simp) ?_
       intro v2 w2 hown2 hB2
       rw [List.nil_append] at hown2
       obtain ⟨gk, ck, rest, rfl, hgk, hck, hckm, hCk⟩ := hown2.cells (by rw [HKT.out]; omega)
       rw [HKT.out] at hck ⊢
       have hW2 := hW.on (hBn.trans hB2)
       have HGK : Hid (w.heap.size + 2 ≤ gk) := by show _ ≤ _; have := HZ1.out; omega
       clear hW HE hBn hrk hB2 hown2 hgk HZ1))
  have hL0 : Cells (w2.alloc (.cells #[.int .i64 3, .int .i64 7, .int .i64 11, .int .i64 15] 3)) w2.heap.size ([3, 7, 11, 15].map icell) 3 := Cells.new w2 ([3, 7, 11, 15].map icell).toArray 3
  have hBn : Below w2.heap.size w2 (w2.alloc (.cells #[.int .i64 3, .int .i64 7, .int .i64 11, .int .i64 15] 3)) := (Below.refl _ _).alloc (Nat.le_refl _) _
  have hW3 := hW2.on hBn
  have hCk3 := hCk.on hBn
  have hgl := hCk.lt
  refine loopA w A n c gk ck w2.heap.size key kt rest _ _ _ HKT.out HGK.out hgl ⟨0, by omega, ⟨rfl, rfl, rfl, rfl, rfl, rfl, rfl, rfl, rfl, trivial⟩, hW3, hCk3, hL0⟩ ?_
  clear hW3 hCk3 hL0 hBn hgl hCk hW2 w2 HVK w1
  rintro a3 w3 ⟨hF, hW, hCk⟩
  obtain ⟨hs0, hd0, h5, h1, h2, h4, -⟩ := hF
  obtain ⟨u, rfl⟩ := frame105 a3 hs0 hd0
  clear hs0 hd0
  change u 5 = _ at h5
  change u 1 = _ at h1
  change u 2 = _ at h2
  change u 4 = _ at h4
  rw [h5, h1, h2, h4]
  clear h5 h1 h2 h4
  have HKL : Hid ((clampA kt 4).length = 16) := by show _ = _; rw [clampA_length]; exact HKT.out
  obtain ⟨ka, HKA⟩ := named (clampA kt 4)
  rw [HKA.out] at HKL hCk HRL
  go_wp2_with fail
  have hL0 : Cells (w3.alloc (.cells #[.int .i64 4, .int .i64 8, .int .i64 12] 3)) w3.heap.size ([4, 8, 12].map icell) 3 := Cells.new w3 ([4, 8, 12].map icell).toArray 3
  have hBn : Below w3.heap.size w3 (w3.alloc (.cells #[.int .i64 4, .int .i64 8, .int .i64 12] 3)) := (Below.refl _ _).alloc (Nat.le_refl _) _
  have hW3 := hW.on hBn
  have hCk3 := hCk.on hBn
  have hgl := hCk.lt
  refine loopB w A n c gk ck w3.heap.size key ka rest _ _ _ HKL.out HGK.out hgl ⟨0, by omega, ⟨rfl, rfl, rfl, rfl, rfl, rfl, rfl, rfl, rfl, trivial⟩, hW3, hCk3, hL0⟩ ?_
  clear hW3 hCk3 hL0 hBn hgl hCk hW w3
  rintro a4 w4 ⟨hF, hW, hCk⟩
  obtain ⟨hs0, hd0, h5, h1, h2, h4, -⟩ := hF
  obtain ⟨u, rfl⟩ := frame105 a4 hs0 hd0
  clear hs0 hd0
  change u 5 = _ at h5
  change u 1 = _ at h1
  change u 2 = _ at h2
  change u 4 = _ at h4
  rw [h5, h1, h2, h4]
  clear h5 h1 h2 h4
  have HKL2 : Hid ((clampB ka 3).length = 16) := by show _ = _; rw [clampB_length]; exact HKL.out
  obtain ⟨kb, HKB⟩ := named (clampB ka 3)
  rw [HKB.out] at HKL2 hCk HRL
  have CN := Lib.hid (number_any (some ⟨gk, 0, none⟩) 16 ck kb w4 HKL2.out (row_cells hCk) (by omega))
  rw [← HRL.out] at CN
  obtain ⟨nr, HNR⟩ := named (digs r).length
  go_wp2_with fail
  refine CN.out.mono ?_
  rintro e w5 ⟨Ar, cr, rfl, -, hcr, hcrm, hrr, hB5⟩
  rw [HNR.out]
  have hW5 := hW.on hB5
  clear CN hCk hW hB5
  go_wp2_with fail
  have hBn : Below w5.heap.size w5 (w5.alloc (.cells #[] 3)) := (Below.refl _ _).alloc (Nat.le_refl _) _
  refine loopC w A n c key bs r Ar nr cr _ _ _ hr HL.out hc hn HR16.out HNR ⟨0, some ⟨w5.heap.size, 0, none⟩, 0, 0, by omega, ⟨rfl, rfl, rfl, rfl, rfl, rfl, rfl, rfl, trivial⟩, hW5.on hBn, hrr.on hBn, .inl digs_zero, by show (digs 0).length = 0; rw [digs_zero]; rfl⟩ ?_
  clear hBn hrr hW5 w5 w4
  rintro a6 w6 ⟨Ah, nh, ch, hF, hW, hH, hNH⟩
  obtain ⟨hs0, hd0, h11, h1, h2, h4, -⟩ := hF
  obtain ⟨u, rfl⟩ := frame105 a6 hs0 hd0
  clear hs0 hd0
  change u 11 = _ at h11
  change u 1 = _ at h1
  change u 2 = _ at h2
  change u 4 = _ at h4
  rw [h11, h1, h2, h4]
  clear h11 h1 h2 h4
  obtain ⟨h, HHN⟩ := named (polyH r bs ((n + 15) / 16))
  rw [HHN.out] at hH hNH HPS HHB
  have HNH := Lib.hid hNH
  have hb40 : Hid (h < 256 ^ 40 ∧ h + sK < 256 ^ 40) := by
    have h1 := HHB.out
    have h2 := HSB.out
    have hp : polyP = 2 ^ 130 - 5 := rfl
    show _ ∧ _
    omega
  have hnh : nh ≤ 40 := by rw [← HNH.out]; exact digs_length_le h 40 hb40.out.1
  clear hNH
  have hrk : Row w6 w6.heap.size (some ⟨w.heap.size, 16, none⟩) kd := by
    have h1 := hW.key.all.piece 16 16
    rw [HKDN.out, HKDT.out] at h1
    exact h1
  have CN := Lib.hid (number_any (some ⟨w.heap.size, 16, none⟩) 16 16 kd w6 HKD.out hrk (by omega))
  rw [← HSS.out] at CN
  obtain ⟨ns, HNS⟩ := named (digs sK).length
  have hns : ns ≤ 16 := by rw [← HNS.out]; exact digs_length_le sK 16 HSB.out
  clear hrk
  go_wp2_with fail
  refine CN.out.mono ?_
  rintro e w7 ⟨A7, c7, rfl, -, hc7, hc7m, hr7, hB7⟩
  rw [HNS.out]
  have hW7 := hW.on hB7
  have CA := Lib.hid (add_any Ah A7 nh ns ch c7 h sK _ _ w7 rfl rfl HNH.out HNS.out (hH.on hB7) hr7 (by omega) (by omega))
  obtain ⟨x, HXN⟩ := named (h + sK)
  rw [HXN.out] at CA HPS
  clear CN hW hH hB7
  obtain ⟨ss, HSSN⟩ := named (digs x)
  rw [HSSN.out] at CA
  obtain ⟨nx, HNX⟩ := named ss.length
  go_wp2_with fail
  refine CA.out.mono ?_
  rintro e w8 ⟨A8, c8, rfl, -, hc8, hc8m, hr8, hB8⟩
  rw [HNX.out]
  have hW8 := hW7.on hB8
  clear CA hW7 hr7 hB8
  go_wp2_with (first
    | (refine put_step rfl rfl 45 (.tmp 15) (.tmp 86) rfl rfl 16 (List.replicate 16 0) rfl rfl zero_b16 size_b16 rfl ?_
       intro w9 hB9 hC9 hz9
       have hW9 := hW8.on hB9
       have hr9 := hr8.below hB9
       have HZ9 : Hid (w8.heap.size < w9.heap.size) := by show _ < _; omega
       clear hz9))
  have HGO : Hid (w.heap.size + 2 ≤ w8.heap.size) := by
    show _ ≤ _
    have := hW8.res.lt
    omega
  have HOUT : Hid (∀ k, k = 16 ∨ nx ≤ k → outTo ss k = ps) := by
    intro k hk
    rw [HPS.out, ← HSSN.out]
    refine outTo_all x k ?_
    rw [HSSN.out, HNX.out]
    exact hk
  have HDD : Hid (∀ z ∈ ss, z < 256) := by rw [← HSSN.out]; exact digs_lt x
  refine loopD w A n c key ps ss A8 nx c8 w8.heap.size _ _ _ HNX HDD.out HGO.out HOUT.out ⟨0, by omega, ⟨rfl, rfl, rfl, rfl, rfl, rfl, rfl, rfl, trivial⟩, hW9, hr9, HZ9.out, hC9⟩ ?_
  generalize w8.heap.size = go at *
  clear hW9 hr9 HZ9 hC9 hB9 hW8 hr8
  rintro a10 w10 ⟨hF, hW, hO⟩
  obtain ⟨hs0, hd0, h15, h1, h2, h4, -⟩ := hF
  obtain ⟨u, rfl⟩ := frame105 a10 hs0 hd0
  clear hs0 hd0
  change u 15 = _ at h15
  change u 1 = _ at h1
  change u 2 = _ at h2
  change u 4 = _ at h4
  rw [h15, h1, h2, h4]
  clear h15 h1 h2 h4
  go_wp2_with (first
    | (refine get_step rfl 45 (.tmp 15) rfl go 16 ps _ rfl hO Tryd.underlying45 size_b16 HPL.out ?_)
    | (refine set_step rfl 45 (.tmp 4) (.tmp 104) rfl (w.heap.size + 1) 16 (List.replicate 16 (cellOf 0)) ps rfl rfl hW.res (by rw [List.length_replicate]) size_b16 HPL.out ?_
       intro w11 hb11 hC11 hz11))
  refine ret_hash Tryd.results35 (w.heap.size + 1) ps rfl hC11 Tryd.underlying45 size_b16 HPL.out rfl ⟨rfl, hW.below.trans (hb11.below (by omega) hW.below.size)⟩
end Go.Proofs.YtdaieklimdhkoaaDoor
