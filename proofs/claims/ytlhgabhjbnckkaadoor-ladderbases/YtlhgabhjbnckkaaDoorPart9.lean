/- Part 9 of what the laws of this seat share: WTab, FRoot, FRead, FBytes, FWritten, FSmall. -/
import Derived.Test.YtlhgabhjbnckkaaDoorPart8
namespace Go.Proofs.YtlhgabhjbnckkaaDoor
open Go.RowKit
/-- A package variable's block is just these cells. -/
def Tab (w : World) (g : Nat) (vs : List Value) : Prop := ∃ t f, w.heap[g]? = some (.cells vs.toArray t f)
theorem Tab.lt {w : World} {g : Nat} {vs : List Value} (h : Tab w g vs) : g < w.heap.size := by obtain ⟨t, f, h⟩ := h; exact heap_lt h
theorem Tab.below {w w' : World} {B g : Nat} {vs : List Value} (h : Tab w g vs) (hb : Below B w w') (hg : g < B) : Tab w' g vs := by obtain ⟨t, f, h⟩ := h; exact ⟨t, f, (hb.block g hg).trans h⟩
theorem Tab.on {w w' : World} {g : Nat} {vs : List Value} (h : Tab w g vs) (hb : Below w.heap.size w w') : Tab w' g vs := h.below hb h.lt
theorem Tab.but {w w' : World} {b g : Nat} {vs : List Value} (h : Tab w g vs) (hb : But b w w') (hg : g ≠ b) : Tab w' g vs := by
  have hl := h.lt
  obtain ⟨t, f, h⟩ := h
  exact ⟨t, f, (hb.block g hl hg).trans h⟩
theorem Tab.drew {w : World} {g : Nat} {vs : List Value} (h : Tab w g vs) : Tab w.drew g vs := h
theorem Tab.of_var {P : Program} {W : World} {name : String} {g : Nat} {cs : List Value} (hg : P.globalNamed name = some g) (hv : W.var? P name = some cs.toArray) : Tab W g cs := by
  unfold World.var? at hv
  rw [hg, Option.bind_some] at hv
  cases h : W.heap[g]? with
  | none => rw [h] at hv; cases hv
  | some o =>
    rw [h] at hv
    cases o with
    | cells c t f =>
      obtain rfl : c = cs.toArray := by simpa using hv
      exact ⟨t, f, h⟩
    | _ => cases hv
section
variable {P : Program} {w : World} {ops : Array Oper} {rest : List Oper} {o : Oper} {a : Act} {Q : Exit → Act → World → Prop}
/-- Such a variable as a value. -/
theorem tget_step (hgd : o.guard = none) (t : TypeId) (x : Operand) (ho : o.op = .load t x) (g n : Nat) (vs : List Value) {d : TypeDesc} (hx : a.eval x = .pointer (some ⟨g, 0, none⟩)) (hC : Tab w g vs) (hu : P.underlying t = some d)
    (hd : (match d with | .struct _ | .array _ _ => true | _ => false) = true) (hs : (P.info? t).map (·.size) = some n) (hl : vs.length = n) (h : wpList P ops Q rest (a.put o.dst (.agg vs.toArray)) w) : wpList P ops Q (o :: rest) a w := by
  obtain ⟨t', f, hC⟩ := hC
  exact wpList_load_row hgd t x ho g hx t' vs.toArray f _ hC hu hd (by rw [List.size_toArray, hl]; exact hs) h
end
end Go.Proofs.YtlhgabhjbnckkaaDoor
namespace Go.Proofs.YtlhgabhjbnckkaaDoor
open Go.RowKit
/-- A function whose results are a struct or an array in a block of its own, and a plain value. -/
theorem sret2 {P : Program} {fn : Func} {R : Ending → World → Prop} {a : Act} {w : World} {p u : Tmp} {ty : TypeId} {d : TypeDesc} {n : Nat} (hres : fn.results = #[.cell p ty, .tmp u]) (g : Nat) (vs : List Value) (v : Value)
    (hp : a.tmps.getD p undef = .pointer (some ⟨g, 0, none⟩)) (hv : a.tmps.getD u undef = v) (hg : Cells w g vs ty) (hu : P.underlying ty = some d) (hd : (match d with | .struct _ | .array _ _ => true | _ => false) = true) (hi : (P.info? ty).map (·.size) = some n) (hl : vs.length = n)
    (hdf : a.defers = []) (hR : R (.returned (.tuple #[.agg vs.toArray, v])) w) : bodyPost P fn R .ret a w := by
  have hp' : a.tmps[p]?.getD undef = .pointer (some ⟨g, 0, none⟩) := by simpa using hp
  have hv' : a.tmps[u]?.getD undef = v := by simpa using hv
  have hrun : (results fn a.tmps).run P w = .ok (.tuple #[.agg vs.toArray, v]) w := by
    simp [results, hres, hp', hv', asAddr, run_loadVar_row w g ty ty vs.toArray (0, 0) _ hg hu hd (by rw [List.size_toArray, hl]; exact hi)]
  exact bodyPost_ret hrun hdf hR
def rootVs1 (a o s q r0 _r1 _p0 _p1 _ng _pk _z _u : List Nat) (ga gz _gn : Nat) (_b1 _b2 _od : Bool) : List Value :=
  (numVal a) :: (.pointer (some ⟨ga, 0, none⟩)) :: (.pointer (some ⟨gz, 0, none⟩)) :: (.bool false) :: (undef) :: (numVal a) :: (numVal o) :: (numVal s) :: (numVal a) :: (numVal q) :: (numVal r0) :: undef :: undef :: undef :: undef :: undef :: undef :: undef :: undef :: undef :: undef :: undef :: undef :: undef :: undef :: undef :: undef :: undef :: undef :: undef :: undef :: undef :: undef :: []

def rootVs2 (a o s q r0 _r1 p0 _p1 _ng _pk _z _u : List Nat) (ga gz gn : Nat) (b1 _b2 _od : Bool) : List Value :=
  (numVal a) :: (.pointer (some ⟨ga, 0, none⟩)) :: (.pointer (some ⟨gz, 0, none⟩)) :: (.bool false) :: (.pointer (some ⟨gn, 0, none⟩)) :: (numVal a) :: (numVal o) :: (numVal s) :: (numVal a) :: (numVal q) :: (numVal r0) :: (numVal r0) :: (numVal p0) :: (numVal a) :: (.bool b1) :: (.bool (!b1)) :: undef :: undef :: undef :: undef :: undef :: undef :: undef :: undef :: undef :: undef :: undef :: undef :: undef :: undef :: undef :: undef :: undef :: []

def rootVs4a (a o s q r0 _r1 p0 p1 _ng _pk _z _u : List Nat) (ga gz gn : Nat) (_b1 b2 _od : Bool) : List Value :=
  (numVal a) :: (.pointer (some ⟨ga, 0, none⟩)) :: (.pointer (some ⟨gz, 0, none⟩)) :: (.bool false) :: (.pointer (some ⟨gn, 0, none⟩)) :: (numVal a) :: (numVal o) :: (numVal s) :: (numVal a) :: (numVal q) :: (numVal r0) :: (numVal r0) :: (numVal p0) :: (numVal a) :: (.bool true) :: (.bool (!true)) :: undef :: undef :: undef :: undef :: (numVal r0) :: (numVal p1) :: (numVal a) :: (.bool b2) :: (.bool (!b2)) :: undef :: undef :: undef :: undef :: undef :: undef :: undef :: undef :: []

def rootVs6a (a o s q r0 _r1 p0 p1 ng pk z _u : List Nat) (ga gz gn : Nat) (_b1 _b2 od : Bool) : List Value :=
  (numVal a) :: (.pointer (some ⟨ga, 0, none⟩)) :: (.pointer (some ⟨gz, 0, none⟩)) :: (.bool false) :: (.pointer (some ⟨gn, 0, none⟩)) :: (numVal a) :: (numVal o) :: (numVal s) :: (numVal a) :: (numVal q) :: (numVal r0) :: (numVal r0) :: (numVal p0) :: (numVal a) :: (.bool true) :: (.bool (!true)) :: undef :: undef :: undef :: undef :: (numVal r0) :: (numVal p1) :: (numVal a) :: (.bool true) :: (.bool (!true)) :: undef :: (numVal r0) :: (.bool od) :: (numVal z) :: (numVal r0) :: (numVal ng) :: (numVal r0) :: (numVal pk) :: []

def rootVs4b (a o s q r0 r1 p0 p1 _ng _pk _z u : List Nat) (ga gz gn : Nat) (_b1 b2 _od : Bool) : List Value :=
  (numVal a) :: (.pointer (some ⟨ga, 0, none⟩)) :: (.pointer (some ⟨gz, 0, none⟩)) :: (.bool false) :: (.pointer (some ⟨gn, 0, none⟩)) :: (numVal a) :: (numVal o) :: (numVal s) :: (numVal a) :: (numVal q) :: (numVal r0) :: (numVal r0) :: (numVal p0) :: (numVal a) :: (.bool false) :: (.bool (!false)) :: (numVal r0) :: (numVal u) :: (numVal u) :: (numVal r1) :: (numVal r1) :: (numVal p1) :: (numVal a) :: (.bool b2) :: (.bool (!b2)) :: undef :: undef :: undef :: undef :: undef :: undef :: undef :: undef :: []

def rootVs6b (a o s q r0 r1 p0 p1 ng pk z u : List Nat) (ga gz gn : Nat) (_b1 _b2 od : Bool) : List Value :=
  (numVal a) :: (.pointer (some ⟨ga, 0, none⟩)) :: (.pointer (some ⟨gz, 0, none⟩)) :: (.bool false) :: (.pointer (some ⟨gn, 0, none⟩)) :: (numVal a) :: (numVal o) :: (numVal s) :: (numVal a) :: (numVal q) :: (numVal r0) :: (numVal r0) :: (numVal p0) :: (numVal a) :: (.bool false) :: (.bool (!false)) :: (numVal r0) :: (numVal u) :: (numVal u) :: (numVal r1) :: (numVal r1) :: (numVal p1) :: (numVal a) :: (.bool true) :: (.bool (!true)) :: undef :: (numVal r1) :: (.bool od) :: (numVal z) :: (numVal r1) :: (numVal ng) :: (numVal r1) :: (numVal pk) :: []
/-- The root of less 1 that the program holds. -/
def ttN : Nat := 19681161376707505956807079304988542015446066515923890162744021073123829784752
/-- What a root would be. -/
def rtN (n : Nat) : Nat := if pwN n 7237005577332262213973186563042994240829374041602535252466099000494570602494 * pwN n 7237005577332262213973186563042994240829374041602535252466099000494570602494 % pp = n then pwN n 7237005577332262213973186563042994240829374041602535252466099000494570602494 else pwN n 7237005577332262213973186563042994240829374041602535252466099000494570602494 * ttN % pp
def isSN (n : Nat) : Bool := decide (rtN n * rtN n % pp = n)
/-- The even one of a number and what is 0 less it. -/
def evenN (r : Nat) : Nat := if r % 2 = 1 then (pp - r) % pp else r
theorem rtN_lt (n : Nat) : rtN n < pp := by
  rw [rtN]
  split
  · exact pwN_lt _ _
  · exact Nat.mod_lt _ (by decide)
end Go.Proofs.YtlhgabhjbnckkaaDoor
namespace Go.Proofs.YtlhgabhjbnckkaaDoor
open Go.RowKit
theorem size_k32 : (Tryd.prog.info? 23).map (·.size) = some 32 := by kernel_rfl
theorem zero_k32 : ∀ w, (zeroValue 23).run Tryd.prog w = .ok (.agg (List.replicate 32 (cellOf 0)).toArray) w := (zero_of_info (P := Tryd.prog) (t := 23) (v := .agg (List.replicate 32 (cellOf 0)).toArray) (n := 32) (by kernel_rfl)).1
/-- Two words' bits side by side. -/
theorem win_or (a b s Q : Nat) (hQ : Q = 2 ^ s) (hs : s ≤ 64) (ha : a < Q) : bits .or .u64 (a : Int) (IntKind.u64.wrap ((b : Int) * (Q : Int))) = ((a + b * Q % 18446744073709551616 : Nat) : Int) := by
  have hq : Q ≤ 18446744073709551616 := by rw [hQ]; exact Nat.le_trans (Nat.pow_le_pow_right (by decide) hs) (by decide)
  have e : IntKind.u64.wrap ((b : Int) * (Q : Int)) = ((b * Q % 18446744073709551616 : Nat) : Int) := by rw [IntKind.wrap_u64, ← Int.natCast_mul]; omega
  have hd : Q ∣ 18446744073709551616 := by rw [hQ, show 18446744073709551616 = 2 ^ 64 from rfl]; exact Nat.pow_dvd_pow 2 hs
  have hm : b * Q % 18446744073709551616 % 2 ^ s = 0 := by rw [← hQ, Nat.mod_mod_of_dvd _ hd, Nat.mul_mod_left]
  rw [e, u64_or_nat _ _ (by omega) (Nat.mod_lt _ (by decide)), Nat.or_comm, nat_join s _ _ hm (by rw [← hQ]; exact ha), Nat.add_comm]
theorem win_and (a b s Q : Nat) (hQ : Q = 2 ^ s) (hs : s ≤ 64) (ha : a < Q) (h : a + b * Q % 18446744073709551616 < 18446744073709551616) : bits .and .u64 (bits .or .u64 (a : Int) (IntKind.u64.wrap ((b : Int) * (Q : Int)))) 2251799813685247 = (((a + b * Q % 18446744073709551616) % 2251799813685248 : Nat) : Int) := by
  rw [win_or a b s Q hQ hs ha, and51 _ h]
/-- A limb out of two words. -/
def winW (a b p q : Nat) : Nat := (a / p + b * q % 18446744073709551616) % 2251799813685248
/-- The limbs of four words. -/
def winL (x : List Nat) (k : Nat) : Nat := [winW (x.getD 0 0) (x.getD 1 0) 1 18446744073709551616, winW (x.getD 0 0) (x.getD 1 0) 2251799813685248 8192, winW (x.getD 1 0) (x.getD 2 0) 274877906944 67108864, winW (x.getD 2 0) (x.getD 3 0) 33554432 549755813888, winW (x.getD 3 0) (x.getD 4 0) 4096 4503599627370496].getD k 0
set_option maxRecDepth 100000 in
set_option maxHeartbeats 2000000 in
theorem readF_over (b : List UInt8) (x0 x1 x2 x3 x4 : Nat) (r : List Nat) (S T : Nat → List Nat) (w : World) (HB : Hid (b.length = 32)) (HL : Hid (∀ k, k ≤ 4 → (S k).length = 5)) (H0 : Hid (S 0 = [0, 0, 0, 0, 0])) (HS : Hid (∀ k, k < 4 → S (k + 1) = (S k).set k (bigN ((b.drop (8 * k)).take 8).reverse))) (HX : Hid (S 4 = [x0, x1, x2, x3, x4]))
    (HT : Hid (∀ k, k ≤ 5 → (T k).length = 5)) (HT0 : Hid (T 0 = [0, 0, 0, 0, 0])) (HTS : Hid (∀ k, k < 5 → T (k + 1) = (T k).set k (winL [x0, x1, x2, x3, x4] k))) (HR : Hid (T 5 = r))
    (HM : Hid (bits .and .u64 (bits .or .u64 (x0 : Int) (IntKind.u64.wrap ((x1 : Int) * 18446744073709551616))) 2251799813685247 = ((winL [x0, x1, x2, x3, x4] 0 : Nat) : Int) ∧ bits .and .u64 (bits .or .u64 ((x0 : Int) / 2251799813685248) (IntKind.u64.wrap ((x1 : Int) * 8192))) 2251799813685247 = ((winL [x0, x1, x2, x3, x4] 1 : Nat) : Int) ∧
      bits .and .u64 (bits .or .u64 ((x1 : Int) / 274877906944) (IntKind.u64.wrap ((x2 : Int) * 67108864))) 2251799813685247 = ((winL [x0, x1, x2, x3, x4] 2 : Nat) : Int) ∧ bits .and .u64 (bits .or .u64 ((x2 : Int) / 33554432) (IntKind.u64.wrap ((x3 : Int) * 549755813888))) 2251799813685247 = ((winL [x0, x1, x2, x3, x4] 3 : Nat) : Int) ∧
      bits .and .u64 (bits .or .u64 ((x3 : Int) / 4096) (IntKind.u64.wrap ((x4 : Int) * 4503599627370496))) 2251799813685247 = ((winL [x0, x1, x2, x3, x4] 4 : Nat) : Int))) :
    Calls Tryd.prog 36 #[hashVal b] w fun e w' => e = .returned (numVal r) ∧ Below w.heap.size w w' := by
  go_enter Tryd.func36, Tryd.ntmps36
  go_wp2_with (first
    | (refine take_step rfl 23 (.tmp 0) rfl b rfl ?_
       intro w1 hB1 hA1 hz
       clear hz)
    | (refine vzero_step (o := ⟨some 2, _, _, _, _, _⟩) rfl 46 rfl (nzeros 5) zero_numF ?_
       intro w2 hb2 hZ2
       have hB2 := below_then hB1 hb2
       have hA2 := hA1.on hb2
       have hg1 := hA1.lt
       clear hB1 hA1 hb2)
    | (refine vzero_step (o := ⟨some 3, _, _, _, _, _⟩) rfl 45 rfl (nzeros 5) zero_arrF ?_
       intro w3 hb3 hS3
       have hB3 := below_then hB2 hb3
       have hA3 := hA2.on hb3
       have hZ3 := hZ2.on hb3
       have hg2 := hZ2.lt
       clear hB2 hA2 hZ2 hb3))
  generalize hg : w1.heap.size = gz at *
  generalize hh : w2.heap.size = gs at *
  clear hg hh
  go_loopw [10] (fun i wr => ∃ k : Nat, k ≤ 4 ∧ i = .int .i64 k ∧ Below w.heap.size w wr ∧ Cells wr w.heap.size (b.map cellOf) 23 ∧ Cells wr gz (nzeros 5) 46 ∧ Cells wr gs ((S k).map ncell) 45) (fun i _ => 4 - (intOf i).toNat)
  case atStart => exact ⟨0, Nat.zero_le _, rfl, hB3, hA3, hZ3, by rw [H0.out]; exact hS3⟩
  case round =>
    clear hB3 hA3 hZ3 hS3
    obtain ⟨k, hk, rfl, hB, hA, hZ, hS⟩ := hrel
    have HLk := Lib.hid (HL.out k hk)
    by_cases hlt : k < 4
    · have HN := Lib.hid (HS.out k hlt)
      obtain ⟨z, HZ⟩ := namedF (S (k + 1))
      rw [HZ.out] at HN
      generalize S k = s at *
      have hR : Row wr wr.heap.size (some ⟨w.heap.size, 8 * k, none⟩) ((b.drop (8 * k)).take 8) := by
        have h := hA.all.piece (8 * k) 8
        rw [Nat.zero_add] at h
        exact h
      have HC := Lib.hid (little_few (some ⟨w.heap.size, 8 * k, none⟩) (32 - 8 * k) 8 _ wr (by rw [List.length_take, List.length_drop, HB.out]; omega) hR (by omega))
      generalize bigN ((b.drop (8 * k)).take 8).reverse = x at *
      clear hR HS HL H0 HX HT HT0 HTS HR HM
      have hT := fun k (h : k < 5) => hS.there k 1 (by rw [List.length_map, HLk.out]; omega)
      have hE := Lib.hid (fun k => hS.set k (ncell x))
      rcases (show k = 0 ∨ k = 1 ∨ k = 2 ∨ k = 3 by omega) with rfl | rfl | rfl | rfl
      all_goals
        simp only [Nat.mul_zero, Nat.reduceMul, Nat.reduceSub, Nat.reduceAdd, Nat.sub_zero] at HC HN HZ
        go_wp2_with fail
        refine HC.out.mono ?_
        rintro e w4 ⟨rfl, rfl⟩
        clear HC
        go_wp2_with (first
          | (refine store_step rfl 44 _ _ rfl gs _ .u64 _ rfl rfl size_u64 (hT _ (by omega)) ?_
             intro w5 hw5
             have hB5 : Below w.heap.size w w5 := by rw [hw5]; exact hB.setCell (p := ⟨gs, _, none⟩) (by show w.heap.size ≤ gs; omega) _
             have hA5 : Cells w5 w.heap.size (b.map cellOf) 23 := by rw [hw5]; exact hA.other (by show w.heap.size ≠ gs; omega) _
             have hZ5 : Cells w5 gz (nzeros 5) 46 := by rw [hw5]; exact hZ.other (by show gz ≠ gs; omega) _
             have hS5 : Cells w5 gs (z.map ncell) 45 := by rw [hw5, HN.out, ← nset_map]; exact hE.out _
             clear hw5))
        go_roundw
        case rel =>
          rw [← HZ.out] at hS5
          first | exact ⟨1, by omega, rfl, hB5, hA5, hZ5, hS5⟩ | exact ⟨2, by omega, rfl, hB5, hA5, hZ5, hS5⟩ | exact ⟨3, by omega, rfl, hB5, hA5, hZ5, hS5⟩ | exact ⟨4, by omega, rfl, hB5, hA5, hZ5, hS5⟩
        case measure => simp [intOf]
    · obtain rfl : k = 4 := by omega
      rw [HX.out] at hS
      clear HL H0 HS HX HLk hA
      go_wp2_with (first
        | (refine vzero_step (o := ⟨some 5, _, _, _, _, _⟩) rfl 46 rfl (nzeros 5) zero_numF ?_
           intro w6 hb6 hT6
           have hB6 := below_then hB hb6
           have hZ6 := hZ.on hb6
           have hS6 := hS.on hb6
           have hg3 := hS.lt
           clear hB hZ hS hb6))
      generalize hh : wr.heap.size = gt at *
      clear hh
      have j1 : IntKind.i64.wrap 1 = 1 := by decide
      have j2 : IntKind.i64.wrap 2 = 2 := by decide
      have j3 : IntKind.i64.wrap 3 = 3 := by decide
      have j4 : IntKind.i64.wrap 4 = 4 := by decide
      have j5 : IntKind.i64.wrap 64 = 64 := by decide
      have j6 : IntKind.i64.wrap 13 = 13 := by decide
      have j7 : IntKind.i64.wrap 26 = 26 := by decide
      have j8 : IntKind.i64.wrap 39 = 39 := by decide
      have j9 : IntKind.i64.wrap 52 = 52 := by decide
      go_loopw [26] (fun i wr => ∃ k : Nat, k ≤ 5 ∧ i = .int .i64 k ∧ Below w.heap.size w wr ∧ Cells wr gz (nzeros 5) 46 ∧ Cells wr gs ([x0, x1, x2, x3, x4].map ncell) 45 ∧ Cells wr gt ((T k).map ncell) 46) (fun i _ => 5 - (intOf i).toNat)
      case atStart => exact ⟨0, Nat.zero_le _, rfl, hB6, hZ6, hS6, by rw [HT0.out]; exact hT6⟩
      case round =>
        clear hB6 hZ6 hS6 hT6
        obtain ⟨k, hk, rfl, hB, hZ, hS, hT⟩ := hrel
        have HLk := Lib.hid (HT.out k hk)
        by_cases hlt : k < 5
        · have HN := Lib.hid (HTS.out k hlt)
          obtain ⟨z, HZ⟩ := namedF (T (k + 1))
          rw [HZ.out] at HN
          generalize T k = s at *
          clear HT HT0 HTS HR
          rcases (show k = 0 ∨ k = 1 ∨ k = 2 ∨ k = 3 ∨ k = 4 by omega) with rfl | rfl | rfl | rfl | rfl
          all_goals
            simp only [Nat.reduceAdd] at HZ
            go_wp2_with fail
            refine wp_region_tail 16 (by kernel_rfl) (by kernel_rfl) ?_
            intro w4 hw4
            have hB4 : Below w.heap.size w w4 := by rw [hw4]; exact hB.drew
            have hZ4 : Cells w4 gz (nzeros 5) 46 := by rw [hw4]; exact hZ
            have hS4 : Cells w4 gs ([x0, x1, x2, x3, x4].map ncell) 45 := by rw [hw4]; exact hS
            have hT4 : Cells w4 gt (s.map ncell) 46 := by rw [hw4]; exact hT
            clear hw4 hB hZ hS hT
            have d0 := hS4.get (v := ncell x0) (j := 0) rfl
            have d1 := hS4.get (v := ncell x1) (j := 1) rfl
            have d2 := hS4.get (v := ncell x2) (j := 2) rfl
            have d3 := hS4.get (v := ncell x3) (j := 3) rfl
            have d4 := hS4.get (v := ncell x4) (j := 4) rfl
            have hTT := fun k (h : k < 5) => hT4.there k 1 (by rw [List.length_map, HLk.out]; omega)
            have h0 := hT4.set 0 (ncell (winL [x0, x1, x2, x3, x4] 0))
            have h1 := hT4.set 1 (ncell (winL [x0, x1, x2, x3, x4] 1))
            have h2 := hT4.set 2 (ncell (winL [x0, x1, x2, x3, x4] 2))
            have h3 := hT4.set 3 (ncell (winL [x0, x1, x2, x3, x4] 3))
            have h4 := hT4.set 4 (ncell (winL [x0, x1, x2, x3, x4] 4))
            rw [nset_map, ncell, ← HM.out.1] at h0
            rw [nset_map, ncell, ← HM.out.2.1] at h1
            rw [nset_map, ncell, ← HM.out.2.2.1] at h2
            rw [nset_map, ncell, ← HM.out.2.2.2.1] at h3
            rw [nset_map, ncell, ← HM.out.2.2.2.2] at h4
            obtain ⟨h0, h1, h2, h3, h4⟩ : Hid _ ∧ Hid _ ∧ Hid _ ∧ Hid _ ∧ Hid _ := ⟨Lib.hid h0, Lib.hid h1, Lib.hid h2, Lib.hid h3, Lib.hid h4⟩
            simp only [List.take_succ_cons, List.take_zero, List.drop_succ_cons, List.drop_zero]
            repeat still_step
            refine wpStill_nil ?_
            clear d0 d1 d2 d3 d4
            go_wp2_with (first
              | (refine store_step rfl 44 _ _ rfl gt _ .u64 _ rfl rfl size_u64 (hTT _ (by omega)) ?_
                 intro w5 hw5
                 have hB5 : Below w.heap.size w w5 := by rw [hw5]; exact hB4.setCell (p := ⟨gt, _, none⟩) (by show w.heap.size ≤ gt; omega) _
                 have hZ5 : Cells w5 gz (nzeros 5) 46 := by rw [hw5]; exact hZ4.other (by show gz ≠ gt; omega) _
                 have hS5 : Cells w5 gs ([x0, x1, x2, x3, x4].map ncell) 45 := by rw [hw5]; exact hS4.other (by show gs ≠ gt; omega) _
                 have hT5 : Cells w5 gt (z.map ncell) 46 := by rw [hw5, HN.out]; first | exact h0.out | exact h1.out | exact h2.out | exact h3.out | exact h4.out
                 clear hw5))
            go_roundw
            case rel =>
              rw [← HZ.out] at hT5
              first | exact ⟨1, by omega, rfl, hB5, hZ5, hS5, hT5⟩ | exact ⟨2, by omega, rfl, hB5, hZ5, hS5, hT5⟩ | exact ⟨3, by omega, rfl, hB5, hZ5, hS5, hT5⟩ | exact ⟨4, by omega, rfl, hB5, hZ5, hS5, hT5⟩ | exact ⟨5, by omega, rfl, hB5, hZ5, hS5, hT5⟩
            case measure => simp [intOf]
        · obtain rfl : k = 5 := by omega
          rw [HR.out] at hT HLk
          go_wp2_with (first
            | (refine vget_step rfl 46 _ rfl gt 5 (r.map ncell) 44 rfl hT Tryd.underlying46 size_numF (by rw [List.length_map, HLk.out]) ?_)
            | (refine vset_step rfl 46 _ _ rfl gz 5 (nzeros 5) (r.map ncell) rfl rfl hZ rfl size_numF (by rw [List.length_map, HLk.out]) (ncells_one r) ?_
               intro w7 hb7 hC7 _))
          refine vret Tryd.results36 gz (r.map ncell) rfl hC7 Tryd.underlying46 size_numF (by rw [List.length_map, HLk.out]) rfl ⟨rfl, hB.trans (hb7.below (by omega) hB.size)⟩
end Go.Proofs.YtlhgabhjbnckkaaDoor
namespace Go.Proofs.YtlhgabhjbnckkaaDoor
open Go.RowKit
/-- Four words of a number. -/
def rows4 (x : Nat) : List Nat := [x % 18446744073709551616, x / 18446744073709551616 % 18446744073709551616, x / 340282366920938463463374607431768211456 % 18446744073709551616, x / 6277101735386680763835789423207666416102355444464034512896 % 18446744073709551616]
theorem rows4_at (b : List UInt8) (hb : b.length = 32) (k : Nat) (hk : k < 4) : bigN ((b.drop (8 * k)).take 8).reverse = (rows4 (lev b)).getD k 0 := by
  rw [lev_rev, lev_take _ _ (by rw [List.length_drop]; omega), lev_drop _ _ (by omega)]
  generalize lev b = x
  rcases (show k = 0 ∨ k = 1 ∨ k = 2 ∨ k = 3 by omega) with rfl | rfl | rfl | rfl
  · show x / 256 ^ 0 % 256 ^ 8 = x % 18446744073709551616
    rw [Nat.pow_zero, Nat.div_one, show 256 ^ 8 = 18446744073709551616 from rfl]
  · show x / 256 ^ 8 % 256 ^ 8 = x / 18446744073709551616 % 18446744073709551616
    rw [show 256 ^ 8 = 18446744073709551616 from rfl]
  · show x / 256 ^ 16 % 256 ^ 8 = x / 340282366920938463463374607431768211456 % 18446744073709551616
    rw [show 256 ^ 8 = 18446744073709551616 from rfl, show 256 ^ 16 = 340282366920938463463374607431768211456 from rfl]
  · show x / 256 ^ 24 % 256 ^ 8 = x / 6277101735386680763835789423207666416102355444464034512896 % 18446744073709551616
    rw [show 256 ^ 8 = 18446744073709551616 from rfl, show 256 ^ 24 = 6277101735386680763835789423207666416102355444464034512896 from rfl]
theorem winL_0 (x0 x1 x2 x3 x4 : Nat) : winL [x0, x1, x2, x3, x4] 0 = winW x0 x1 1 18446744073709551616 := by rw [winL]; simp only [List.getD_cons_zero, List.getD_cons_succ]
theorem limb5_0 (x : Nat) : (limb5 x).getD 0 0 = x % 2251799813685248 := rfl
theorem win_0 (x : Nat) : (x % 18446744073709551616 + x / 18446744073709551616 % 18446744073709551616 * 18446744073709551616 % 18446744073709551616) % 2251799813685248 = x % 2251799813685248 := by
  omega
theorem winL_1 (x0 x1 x2 x3 x4 : Nat) : winL [x0, x1, x2, x3, x4] 1 = winW x0 x1 2251799813685248 8192 := by rw [winL]; simp only [List.getD_cons_zero, List.getD_cons_succ]
theorem limb5_1 (x : Nat) : (limb5 x).getD 1 0 = x / 2251799813685248 % 2251799813685248 := rfl
theorem win_1 (x : Nat) : (x % 18446744073709551616 / 2251799813685248 + x / 18446744073709551616 % 18446744073709551616 * 8192 % 18446744073709551616) % 2251799813685248 = x / 2251799813685248 % 2251799813685248 := by
  omega
theorem winL_2 (x0 x1 x2 x3 x4 : Nat) : winL [x0, x1, x2, x3, x4] 2 = winW x1 x2 274877906944 67108864 := by rw [winL]; simp only [List.getD_cons_zero, List.getD_cons_succ]
theorem limb5_2 (x : Nat) : (limb5 x).getD 2 0 = x / 2251799813685248 / 2251799813685248 % 2251799813685248 := rfl
theorem win_2 (x : Nat) : (x / 18446744073709551616 % 18446744073709551616 / 274877906944 + x / 340282366920938463463374607431768211456 % 18446744073709551616 * 67108864 % 18446744073709551616) % 2251799813685248 = x / 2251799813685248 / 2251799813685248 % 2251799813685248 := by
  omega
theorem winL_3 (x0 x1 x2 x3 x4 : Nat) : winL [x0, x1, x2, x3, x4] 3 = winW x2 x3 33554432 549755813888 := by rw [winL]; simp only [List.getD_cons_zero, List.getD_cons_succ]
theorem limb5_3 (x : Nat) : (limb5 x).getD 3 0 = x / 2251799813685248 / 2251799813685248 / 2251799813685248 % 2251799813685248 := rfl
theorem win_3 (x : Nat) : (x / 340282366920938463463374607431768211456 % 18446744073709551616 / 33554432 + x / 6277101735386680763835789423207666416102355444464034512896 % 18446744073709551616 * 549755813888 % 18446744073709551616) % 2251799813685248 = x / 2251799813685248 / 2251799813685248 / 2251799813685248 % 2251799813685248 := by
  omega
theorem winL_4 (x0 x1 x2 x3 x4 : Nat) : winL [x0, x1, x2, x3, x4] 4 = winW x3 x4 4096 4503599627370496 := by rw [winL]; simp only [List.getD_cons_zero, List.getD_cons_succ]
theorem limb5_4 (x : Nat) : (limb5 x).getD 4 0 = x / 2251799813685248 / 2251799813685248 / 2251799813685248 / 2251799813685248 % 2251799813685248 := rfl
theorem win_4 (x : Nat) (h : x < 115792089237316195423570985008687907853269984665640564039457584007913129639936) : (x / 6277101735386680763835789423207666416102355444464034512896 % 18446744073709551616 / 4096 + 0 * 4503599627370496 % 18446744073709551616) % 2251799813685248 = x / 2251799813685248 / 2251799813685248 / 2251799813685248 / 2251799813685248 % 2251799813685248 := by
  omega
theorem winL_is (x k : Nat) (hx : x < 115792089237316195423570985008687907853269984665640564039457584007913129639936) (hk : k < 5) : winL [x % 18446744073709551616, x / 18446744073709551616 % 18446744073709551616, x / 340282366920938463463374607431768211456 % 18446744073709551616, x / 6277101735386680763835789423207666416102355444464034512896 % 18446744073709551616, 0] k = (limb5 x).getD k 0 := by
  rcases (show k = 0 ∨ k = 1 ∨ k = 2 ∨ k = 3 ∨ k = 4 by omega) with rfl | rfl | rfl | rfl | rfl
  · rw [winL_0, limb5_0, winW, Nat.div_one, win_0]
  · rw [winL_1, limb5_1, winW, win_1]
  · rw [winL_2, limb5_2, winW, win_2]
  · rw [winL_3, limb5_3, winW, win_3]
  · rw [winL_4, limb5_4, winW, win_4 x hx]
theorem take_pad_length (l : List Nat) (h : l.length ≤ 5) (k : Nat) (hk : k ≤ l.length) : (l.take k ++ List.replicate (5 - k) 0).length = 5 := by
  rw [List.length_append, List.length_take, List.length_replicate]; omega
theorem lev_lt32 (b : List UInt8) (hb : b.length = 32) : lev b < 115792089237316195423570985008687907853269984665640564039457584007913129639936 := by
  have h := lev_lt b
  rw [hb] at h
  exact h
theorem cast_div (a b : Nat) : ((a : Int) / (b : Int)) = ((a / b : Nat) : Int) := (Int.natCast_ediv a b).symm
/-- The five windows of four words. -/
theorem wins (x0 x1 x2 x3 : Nat) (q0 : x0 < 18446744073709551616) (q1 : x1 < 18446744073709551616) (q2 : x2 < 18446744073709551616) (q3 : x3 < 18446744073709551616) :
    bits .and .u64 (bits .or .u64 (x0 : Int) (IntKind.u64.wrap ((x1 : Int) * 18446744073709551616))) 2251799813685247 = ((winL [x0, x1, x2, x3, 0] 0 : Nat) : Int) ∧ bits .and .u64 (bits .or .u64 ((x0 : Int) / 2251799813685248) (IntKind.u64.wrap ((x1 : Int) * 8192))) 2251799813685247 = ((winL [x0, x1, x2, x3, 0] 1 : Nat) : Int) ∧
      bits .and .u64 (bits .or .u64 ((x1 : Int) / 274877906944) (IntKind.u64.wrap ((x2 : Int) * 67108864))) 2251799813685247 = ((winL [x0, x1, x2, x3, 0] 2 : Nat) : Int) ∧ bits .and .u64 (bits .or .u64 ((x2 : Int) / 33554432) (IntKind.u64.wrap ((x3 : Int) * 549755813888))) 2251799813685247 = ((winL [x0, x1, x2, x3, 0] 3 : Nat) : Int) ∧
      bits .and .u64 (bits .or .u64 ((x3 : Int) / 4096) (IntKind.u64.wrap (((0 : Nat) : Int) * 4503599627370496))) 2251799813685247 = ((winL [x0, x1, x2, x3, 0] 4 : Nat) : Int) := by
  rw [winL_0, winL_1, winL_2, winL_3, winL_4, winW, winW, winW, winW, winW, Nat.div_one]
  refine ⟨?_, ?_, ?_, ?_, ?_⟩
  · exact win_and x0 x1 64 18446744073709551616 rfl (by decide) q0 (by omega)
  · have h := win_and (x0 / 2251799813685248) x1 13 8192 rfl (by decide) (by omega) (by omega)
    rw [← cast_div] at h
    exact h
  · have h := win_and (x1 / 274877906944) x2 26 67108864 rfl (by decide) (by omega) (by omega)
    rw [← cast_div] at h
    exact h
  · have h := win_and (x2 / 33554432) x3 39 549755813888 rfl (by decide) (by omega) (by omega)
    rw [← cast_div] at h
    exact h
  · have h := win_and (x3 / 4096) 0 52 4503599627370496 rfl (by decide) (by omega) (by omega)
    rw [← cast_div] at h
    exact h
theorem readF_at (b : List UInt8) (x0 x1 x2 x3 : Nat) (r : List Nat) (w : World) (hb : b.length = 32) (hr : r.length = 5) (q0 : x0 < 18446744073709551616) (q1 : x1 < 18446744073709551616) (q2 : x2 < 18446744073709551616) (q3 : x3 < 18446744073709551616)
    (hw : ∀ k, k < 4 → bigN ((b.drop (8 * k)).take 8).reverse = [x0, x1, x2, x3].getD k 0) (hl : ∀ k, k < 5 → winL [x0, x1, x2, x3, 0] k = r.getD k 0) : Calls Tryd.prog 36 #[hashVal b] w fun e w' => e = .returned (numVal r) ∧ Below w.heap.size w w' := by
  obtain ⟨r0, r1, r2, r3, r4, rfl⟩ := five_of r hr
  refine readF_over b x0 x1 x2 x3 0 [r0, r1, r2, r3, r4] (fun k => [x0, x1, x2, x3].take k ++ List.replicate (5 - k) 0) (fun k => [r0, r1, r2, r3, r4].take k ++ List.replicate (5 - k) 0) w hb (fun k hk => take_pad_length _ (Nat.le_of_ble_eq_true rfl) k hk) rfl (fun k hk => ?_) rfl (fun k hk => take_pad_length _ (Nat.le_of_ble_eq_true rfl) k hk) rfl (fun k hk => ?_) rfl (wins x0 x1 x2 x3 q0 q1 q2 q3)
  · rw [hw k hk]
    rcases (show k = 0 ∨ k = 1 ∨ k = 2 ∨ k = 3 by omega) with rfl | rfl | rfl | rfl <;> rfl
  · rw [hl k hk]
    rcases (show k = 0 ∨ k = 1 ∨ k = 2 ∨ k = 3 ∨ k = 4 by omega) with rfl | rfl | rfl | rfl | rfl <;> rfl
theorem readF_any (b : List UInt8) (w : World) (hb : b.length = 32) : Calls Tryd.prog 36 #[hashVal b] w fun e w' => e = .returned (numVal (limb5 (lev b))) ∧ Below w.heap.size w w' :=
  readF_at b _ _ _ _ _ w hb (limb5_length _) (Nat.mod_lt _ (by decide)) (Nat.mod_lt _ (by decide)) (Nat.mod_lt _ (by decide)) (Nat.mod_lt _ (by decide)) (fun k hk => rows4_at b hb k hk) (fun k hk => winL_is (lev b) k (lev_lt32 b hb) hk)
set_option maxRecDepth 100000 in
theorem readE_over (b : List UInt8) (s r : List Nat) (w : World) (HB : Hid (b.length = 32)) (HR : Hid (r.length = 5)) (CP : Hid (∀ W, Calls Tryd.prog 36 #[hashVal b] W fun e w' => e = .returned (numVal s) ∧ Below W.heap.size W w'))
    (CL : Hid (∀ W, Calls Tryd.prog 35 #[numVal s] W fun e w' => e = .returned (numVal r) ∧ Below W.heap.size W w')) (BE : ∀ w, (Instr.build 48 #[(0, numVal r)]).run Tryd.prog w = .ok (numVal r) w) :
    Calls Tryd.prog 21 #[hashVal b] w fun e w' => e = .returned (numVal r) ∧ Below w.heap.size w w' := by
  go_enter Tryd.func21, Tryd.ntmps21
  go_wp2_with (first
    | (refine take_step rfl 23 (.tmp 0) rfl b rfl ?_
       intro w1 hB1 hA1 hz
       clear hz
       try simp only [Act.put, List.setIfInBounds_toArray, List.set_cons_zero, List.set_cons_succ]
       skip)
    | (refine vzero_step rfl 48 rfl (nzeros 5) zero_elem ?_
       intro w3 hb3 hZ3
       have hB3 := below_then hB1 hb3
       have hA3 := hA1.on hb3
       have hle := hB1.size
       clear hB1 hA1 hb3
       try simp only [Act.put, List.setIfInBounds_toArray, List.set_cons_zero, List.set_cons_succ]
       skip)
    | (refine get_step rfl 23 (.tmp 1) rfl w.heap.size 32 b _ rfl hA3 Tryd.underlying23 size_k32 HB.out ?_
       clear hA3
       try simp only [Act.put, List.setIfInBounds_toArray, List.set_cons_zero, List.set_cons_succ]
       skip))
  generalize w1.heap.size = gz at *
  refine (CP.out w3).mono ?_
  rintro e w4 ⟨rfl, hb4⟩
  have hB4 := below_then hB3 hb4
  have hZ4 := hZ3.on hb4
  clear CP hB3 hZ3 hb4
  go_wp2_with fail
  refine (CL.out w4).mono ?_
  rintro e w5 ⟨rfl, hb5⟩
  have hB5 := below_then hB4 hb5
  have hZ5 := hZ4.on hb5
  clear CL hB4 hZ4 hb5
  go_wp2_with (first
    | (refine build_step rfl 48 _ rfl [(0, numVal r)] rfl _ BE ?_)
    | (refine vset_step rfl 48 _ _ rfl gz 5 (nzeros 5) (r.map ncell) rfl rfl hZ5 rfl size_elem (by rw [List.length_map, HR.out]) (ncells_one _) ?_
       intro w6 hb6 hC6 _))
  refine sret Tryd.results21 gz (r.map ncell) rfl hC6 Tryd.underlying48 rfl size_elem (by rw [List.length_map, HR.out]) rfl ⟨rfl, hB5.trans (hb6.below hle hB5.size)⟩
/-- The number of a key. -/
def keyN (b : List UInt8) : Nat := lev b % 57896044618658097711785492504343953926634992332820282019728792003956564819968 % pp
theorem keyN_lt (b : List UInt8) : keyN b < pp := Nat.mod_lt _ (by decide)
theorem val5_lim (x : Nat) : val5 (lx x 0) (lx x 1) (lx x 2) (lx x 3) (lx x 4) = x % 57896044618658097711785492504343953926634992332820282019728792003956564819968 := by
  have e : ∀ k, lx (x % 57896044618658097711785492504343953926634992332820282019728792003956564819968) k = lx x k := fun k => by rw [lx, limb5_mod]; rfl
  rw [← e 0, ← e 1, ← e 2, ← e 3, ← e 4]
  exact val5_limbs _ (Nat.mod_lt _ (by decide))
theorem readE_any (b : List UInt8) (w : World) (hb : b.length = 32) : Calls Tryd.prog 21 #[hashVal b] w fun e w' => e = .returned (elV (keyN b)) ∧ Below w.heap.size w w' := by
  have hx := lx_lt (lev b)
  refine readE_over b (limb5 (lev b)) (limb5 (keyN b)) w hb rfl (fun W => readF_any b W hb) (fun W => ?_) (build_elN _ rfl)
  have h := least_any (lx (lev b) 0) (lx (lev b) 1) (lx (lev b) 2) (lx (lev b) 3) (lx (lev b) 4) _ W (by have := hx 0; omega) (by have := hx 1; omega) (by have := hx 2; omega) (by have := hx 3; omega) (by have := hx 4; omega) rfl
  rw [val5_lim] at h
  exact h
end Go.Proofs.YtlhgabhjbnckkaaDoor
namespace Go.Proofs.YtlhgabhjbnckkaaDoor
open Go.RowKit
theorem splice_put (s p : List UInt8) (o : Nat) (hp : p.length = 8) : splice (s.map cellOf) o (p.map cellOf) = (s.take o ++ p ++ s.drop (o + 8)).map cellOf := by
  simp [splice, hp, List.map_take, List.map_drop]
set_option maxRecDepth 100000 in
set_option maxHeartbeats 4000000 in
theorem writtenF_over (n0 n1 n2 n3 n4 : Nat) (r : List UInt8) (P : Nat → List UInt8) (X : Nat → Nat) (w : World)
    (HV : Hid (bits .or .u64 (n0 : Int) (IntKind.u64.wrap ((n1 : Int) * 2251799813685248)) = (X 0 : Int) ∧ bits .or .u64 ((n1 : Int) / 8192) (IntKind.u64.wrap ((n2 : Int) * 274877906944)) = (X 1 : Int) ∧ bits .or .u64 ((n2 : Int) / 67108864) (IntKind.u64.wrap ((n3 : Int) * 33554432)) = (X 2 : Int) ∧ bits .or .u64 ((n3 : Int) / 549755813888) (IntKind.u64.wrap ((n4 : Int) * 4096)) = (X 3 : Int)))
    (HX : Hid (∀ k, X k < 18446744073709551616)) (H0 : Hid (P 0 = List.replicate 32 0)) (HL : Hid (∀ k, (P k).length = 32)) (HP : Hid (∀ k, k < 4 → P (k + 1) = (P k).take (8 * k) ++ putL (X k) 8 ++ (P k).drop (8 * k + 8))) (HR : Hid (P 4 = r)) :
    Calls Tryd.prog 55 #[numVal [n0, n1, n2, n3, n4]] w fun e w' => e = .returned (hashVal r) ∧ Below w.heap.size w w' := by
  have HRL : Hid (r.length = 32) := by show _ = _; rw [← HR.out]; exact HL.out 4
  go_enter Tryd.func55, Tryd.ntmps55
  go_wp2_with (first
    | (refine vtake_step rfl 46 (.tmp 0) rfl ([n0, n1, n2, n3, n4].map ncell) rfl ?_
       intro w1 hB1 hA1)
    | (refine zero_step (o := ⟨some 2, _, _, _, _, _⟩) rfl 23 rfl 32 zero_k32 ?_
       intro w2 hb2 hZ2 hz
       have hB2 := below_then hB1 hb2
       have hA2 := hA1.on hb2
       have hg1 := hA1.lt
       clear hB1 hA1 hb2 hz)
    | (refine zero_step (o := ⟨some 3, _, _, _, _, _⟩) rfl 23 rfl 32 zero_k32 ?_
       intro w3 hb3 hS3 hz
       have hB3 := below_then hB2 hb3
       have hA3 := hA2.on hb3
       have hZ3 := hZ2.on hb3
       have hg2 := hZ2.lt
       clear hB2 hA2 hZ2 hb3 hz))
  generalize hg : w1.heap.size = gz at *
  generalize hh : w2.heap.size = gs at *
  clear hg hh
  have j1 : IntKind.i64.wrap 1 = 1 := by decide
  have j2 : IntKind.i64.wrap 2 = 2 := by decide
  have j3 : IntKind.i64.wrap 3 = 3 := by decide
  have j4 : IntKind.i64.wrap 4 = 4 := by decide
  have j5 : IntKind.i64.wrap 51 = 51 := by decide
  have j6 : IntKind.i64.wrap 38 = 38 := by decide
  have j7 : IntKind.i64.wrap 25 = 25 := by decide
  have j8 : IntKind.i64.wrap 12 = 12 := by decide
  go_loopw [11] (fun i wr => ∃ k : Nat, k ≤ 4 ∧ i = .int .i64 k ∧ Below w.heap.size w wr ∧ Cells wr w.heap.size ([n0, n1, n2, n3, n4].map ncell) 46 ∧ Cells wr gz (List.replicate 32 (cellOf 0)) 23 ∧ Cells wr gs ((P k).map cellOf) 23) (fun i _ => 4 - (intOf i).toNat)
  case atStart => exact ⟨0, Nat.zero_le _, rfl, hB3, hA3, hZ3, by rw [H0.out, List.map_replicate]; exact hS3⟩
  case round =>
    clear hB3 hA3 hZ3 hS3
    obtain ⟨k, hk, rfl, hB, hA, hZ, hS⟩ := hrel
    have HLk := Lib.hid (HL.out k)
    by_cases hlt : k < 4
    · have HN := Lib.hid (HP.out k hlt)
      have HXk := Lib.hid (HX.out k)
      have CP := Lib.hid (fun W => putLittle_in (X k) 8 W (HX.out k) (by decide))
      obtain ⟨z, HZ⟩ := namedF (P (k + 1))
      rw [HZ.out] at HN
      have HVk := Lib.hid HV.out
      have d0 := hA.get (v := ncell n0) (j := 0) rfl
      have d1 := hA.get (v := ncell n1) (j := 1) rfl
      have d2 := hA.get (v := ncell n2) (j := 2) rfl
      have d3 := hA.get (v := ncell n3) (j := 3) rfl
      have d4 := hA.get (v := ncell n4) (j := 4) rfl
      generalize P k = s at *
      clear HV HX H0 HL HP HR HRL
      rcases (show k = 0 ∨ k = 1 ∨ k = 2 ∨ k = 3 by omega) with rfl | rfl | rfl | rfl
      all_goals
        simp only [Nat.mul_zero, Nat.reduceMul, Nat.reduceAdd, Nat.zero_add] at HN HZ
        go_wp2_with fail
        go_quiet (fail)
        first | rw [HVk.out.1] | rw [HVk.out.2.1] | rw [HVk.out.2.2.1] | rw [HVk.out.2.2.2]
        have hB4 : Below w.heap.size w (wr.drewN nq) := ⟨hB.os, hB.tape, hB.output, hB.size, hB.block⟩
        have hA4 := hA.drewN nq
        have hZ4 := hZ.drewN nq
        have hS4 := hS.drewN nq
        generalize wr.drewN nq = w4 at *
        clear hB hA hZ hS d0 d1 d2 d3 d4 HVk
        have hLs : (s.map cellOf).length = 32 := by rw [List.length_map, HLk.out]
        go_wp2_with fail
        refine (CP.out w4).mono ?_
        rintro e w5 ⟨rfl, hb5, hM5⟩
        have hB5 := below_then hB4 hb5
        have hA5 := hA4.on hb5
        have hZ5 := hZ4.on hb5
        have hS5 := hS4.on hb5
        clear CP hB4 hA4 hZ4 hS4 hb5
        go_wp2_with (first
          | (refine copy_row rfl (.tmp 40) (.tmp 41) rfl gs _ _ _ 8 8 w5.heap.size 8 (some ⟨w4.heap.size, 0, none⟩) _ rfl rfl (putL_length _ _) (by decide) (hM5.row hM5.lt) (hS5.there _ 8 (by rw [hLs]; decide)) ?_
             intro w6 hw6
             rw [List.take_of_length_le (by rw [putL_length]; decide)] at hw6
             have hb6 : But gs w5 w6 := by rw [hw6]; exact (But.refl gs w5).setCells _ _
             have hS6 : Cells w6 gs (z.map cellOf) 23 := by
               rw [hw6, HN.out, ← splice_put _ _ _ (putL_length _ 8)]
               exact hS5.setCells (by rw [List.length_map, putL_length, hLs]; decide)
             have hB6 := hB5.trans (hb6.below (by omega) hB5.size)
             have hA6 := hA5.but hb6 (by omega)
             have hZ6 := hZ5.but hb6 (by omega)
             clear hw6 hb6 hB5 hA5 hZ5 hS5 hM5))
        go_roundw
        case rel =>
          rw [← HZ.out] at hS6
          first | exact ⟨1, by omega, rfl, hB6, hA6, hZ6, hS6⟩ | exact ⟨2, by omega, rfl, hB6, hA6, hZ6, hS6⟩ | exact ⟨3, by omega, rfl, hB6, hA6, hZ6, hS6⟩ | exact ⟨4, by omega, rfl, hB6, hA6, hZ6, hS6⟩
        case measure => simp [intOf]
    · obtain rfl : k = 4 := by omega
      rw [HR.out] at hS
      go_wp2_with (first
        | (refine get_step rfl 23 _ rfl gs 32 r _ rfl hS Tryd.underlying23 size_k32 HRL.out ?_)
        | (refine set_step rfl 23 _ _ rfl gz 32 (List.replicate 32 (cellOf 0)) r rfl rfl hZ List.length_replicate size_k32 HRL.out ?_
           intro w7 hb7 hC7 _))
      exact ret_hash Tryd.results55 gz r rfl hC7 Tryd.underlying23 size_k32 HRL.out rfl ⟨rfl, hB.trans (hb7.below (by omega) hB.size)⟩
/-- A number's bytes, the low one first. -/
def keyB (n : Nat) : List UInt8 := putL n 32
theorem keyB_length (n : Nat) : (keyB n).length = 32 := putL_length n 32
theorem putL_div (x j : Nat) : ∀ k, putL x (j + k) = putL x j ++ putL (x / 256 ^ j) k
  | 0 => by rw [show putL (x / 256 ^ j) 0 = [] from rfl, List.append_nil, Nat.add_zero]
  | k + 1 => by
    rw [← Nat.add_assoc, putL_succ, putL_div x j k, putL_succ, List.append_assoc, byteAt, byteAt, Nat.div_div_eq_div_mul, Nat.pow_add]
theorem putL_mod (x k : Nat) (h : k ≤ 8) : putL (x % 18446744073709551616) k = putL x k := by
  rw [putL, putL]
  refine List.map_congr_left fun i hi => ?_
  have hi' : i < 8 := by have := List.mem_range.1 hi; omega
  rw [byteAt, byteAt, ← UInt8.toNat_inj, UInt8.toNat_ofNat', UInt8.toNat_ofNat']
  rcases (show i = 0 ∨ i = 1 ∨ i = 2 ∨ i = 3 ∨ i = 4 ∨ i = 5 ∨ i = 6 ∨ i = 7 by omega) with rfl | rfl | rfl | rfl | rfl | rfl | rfl | rfl <;> simp only [Nat.reducePow, Nat.pow_zero] <;> omega
/-- The four words of a number. -/
def word4 (n k : Nat) : Nat := n / 256 ^ (8 * k) % 18446744073709551616
theorem word4_0 (n : Nat) : word4 n 0 = n % 18446744073709551616 := by rw [word4, Nat.mul_zero, Nat.pow_zero, Nat.div_one]
theorem word4_1 (n : Nat) : word4 n 1 = n / 18446744073709551616 % 18446744073709551616 := by rw [word4, show 256 ^ (8 * 1) = 18446744073709551616 from rfl]
theorem word4_2 (n : Nat) : word4 n 2 = n / 340282366920938463463374607431768211456 % 18446744073709551616 := by rw [word4, show 256 ^ (8 * 2) = 340282366920938463463374607431768211456 from rfl]
theorem word4_3 (n : Nat) : word4 n 3 = n / 6277101735386680763835789423207666416102355444464034512896 % 18446744073709551616 := by rw [word4, show 256 ^ (8 * 3) = 6277101735386680763835789423207666416102355444464034512896 from rfl]
theorem word_0 (n : Nat) : n % 2251799813685248 + n / 2251799813685248 % 2251799813685248 * 2251799813685248 % 18446744073709551616 = n % 18446744073709551616 := by omega
theorem word_1 (n : Nat) : n / 2251799813685248 % 2251799813685248 / 8192 + n / 2251799813685248 / 2251799813685248 % 2251799813685248 * 274877906944 % 18446744073709551616 = n / 18446744073709551616 % 18446744073709551616 := by omega
theorem word_2 (n : Nat) : n / 2251799813685248 / 2251799813685248 % 2251799813685248 / 67108864 + n / 2251799813685248 / 2251799813685248 / 2251799813685248 % 2251799813685248 * 33554432 % 18446744073709551616 = n / 340282366920938463463374607431768211456 % 18446744073709551616 := by omega
theorem word_3 (n : Nat) (h : n < 57896044618658097711785492504343953926634992332820282019728792003956564819968) : n / 2251799813685248 / 2251799813685248 / 2251799813685248 % 2251799813685248 / 549755813888 + n / 2251799813685248 / 2251799813685248 / 2251799813685248 / 2251799813685248 % 2251799813685248 * 4096 % 18446744073709551616 = n / 6277101735386680763835789423207666416102355444464034512896 % 18446744073709551616 := by omega
theorem words_or (n0 n1 n2 n3 n4 : Nat) (q0 : n0 < 2251799813685248) (q1 : n1 < 2251799813685248) (q2 : n2 < 2251799813685248) (q3 : n3 < 2251799813685248) :
    bits .or .u64 (n0 : Int) (IntKind.u64.wrap ((n1 : Int) * 2251799813685248)) = ((n0 + n1 * 2251799813685248 % 18446744073709551616 : Nat) : Int) ∧ bits .or .u64 ((n1 : Int) / 8192) (IntKind.u64.wrap ((n2 : Int) * 274877906944)) = ((n1 / 8192 + n2 * 274877906944 % 18446744073709551616 : Nat) : Int) ∧
    bits .or .u64 ((n2 : Int) / 67108864) (IntKind.u64.wrap ((n3 : Int) * 33554432)) = ((n2 / 67108864 + n3 * 33554432 % 18446744073709551616 : Nat) : Int) ∧ bits .or .u64 ((n3 : Int) / 549755813888) (IntKind.u64.wrap ((n4 : Int) * 4096)) = ((n3 / 549755813888 + n4 * 4096 % 18446744073709551616 : Nat) : Int) := by
  refine ⟨?_, ?_, ?_, ?_⟩
  · exact win_or n0 n1 51 2251799813685248 rfl (by decide) q0
  · have h := win_or (n1 / 8192) n2 38 274877906944 rfl (by decide) (by omega)
    rw [← cast_div] at h
    exact h
  · have h := win_or (n2 / 67108864) n3 25 33554432 rfl (by decide) (by omega)
    rw [← cast_div] at h
    exact h
  · have h := win_or (n3 / 549755813888) n4 12 4096 rfl (by decide) (by omega)
    rw [← cast_div] at h
    exact h
theorem written_at (n0 n1 n2 n3 n4 n : Nat) (w : World) (HV : bits .or .u64 (n0 : Int) (IntKind.u64.wrap ((n1 : Int) * 2251799813685248)) = (word4 n 0 : Int) ∧ bits .or .u64 ((n1 : Int) / 8192) (IntKind.u64.wrap ((n2 : Int) * 274877906944)) = (word4 n 1 : Int) ∧ bits .or .u64 ((n2 : Int) / 67108864) (IntKind.u64.wrap ((n3 : Int) * 33554432)) = (word4 n 2 : Int) ∧ bits .or .u64 ((n3 : Int) / 549755813888) (IntKind.u64.wrap ((n4 : Int) * 4096)) = (word4 n 3 : Int)) :
    Calls Tryd.prog 55 #[numVal [n0, n1, n2, n3, n4]] w fun e w' => e = .returned (hashVal (keyB n)) ∧ Below w.heap.size w w' := by
  have hl : ∀ k, (putL n (min (8 * k) 32) ++ List.replicate (32 - min (8 * k) 32) (0 : UInt8)).length = 32 := fun k => by rw [List.length_append, putL_length, List.length_replicate]; omega
  refine writtenF_over n0 n1 n2 n3 n4 (keyB n) (fun k => putL n (min (8 * k) 32) ++ List.replicate (32 - min (8 * k) 32) 0) (word4 n) w HV (fun k => Nat.mod_lt _ (by decide)) (by show _ = _; simp [putL]) hl (fun k hk => ?_) ?_
  · have e1 : min (8 * k) 32 = 8 * k := by omega
    have e2 : min (8 * (k + 1)) 32 = 8 * k + 8 := by omega
    rw [e1, e2, putL_div n (8 * k) 8, word4, putL_mod _ 8 (Nat.le_refl _)]
    rw [List.take_append_of_le_length (by rw [putL_length]; omega), List.take_of_length_le (by rw [putL_length]; omega)]
    rw [List.drop_append, List.drop_of_length_le (by rw [putL_length]; omega), putL_length, List.nil_append, List.drop_replicate]
    congr 2
    omega
  · show putL n 32 ++ List.replicate 0 0 = _
    rw [List.replicate_zero, List.append_nil]; rfl
theorem written_any (n : Nat) (w : World) (hn : n < pp) : Calls Tryd.prog 55 #[elV n] w fun e w' => e = .returned (hashVal (keyB n)) ∧ Below w.heap.size w w' := by
  have h := words_or (lx n 0) (lx n 1) (lx n 2) (lx n 3) (lx n 4) (lx_lt _ _) (lx_lt _ _) (lx_lt _ _) (lx_lt _ _)
  refine written_at (lx n 0) (lx n 1) (lx n 2) (lx n 3) (lx n 4) n w ?_
  rw [word4_0, word4_1, word4_2, word4_3, ← word_0, ← word_1, ← word_2, ← word_3 n (by simp only [pp] at hn; omega)]
  exact h
set_option maxRecDepth 100000 in
theorem bytesE_over (a : List Nat) (r : List UInt8) (w : World) (HA : Hid (a.length = 5)) (HR : Hid (r.length = 32)) (CP : Hid (∀ W, Calls Tryd.prog 55 #[numVal a] W fun e w' => e = .returned (hashVal r) ∧ Below W.heap.size W w')) :
    Calls Tryd.prog 43 #[numVal a] w fun e w' => e = .returned (hashVal r) ∧ Below w.heap.size w w' := by
  go_enter Tryd.func43, Tryd.ntmps43
  go_wp2_with (first
    | (refine vtake_step rfl 48 (.tmp 0) rfl (a.map ncell) rfl ?_
       intro w1 hB1 hA1
       try simp only [Act.put, List.setIfInBounds_toArray, List.set_cons_zero, List.set_cons_succ]
       skip)
    | (refine zero_step rfl 23 rfl 32 zero_k32 ?_
       intro w3 hb3 hZ3 hz
       have hB3 := below_then hB1 hb3
       have hA3 := hA1.on hb3
       have hle := hB1.size
       clear hB1 hA1 hb3 hz
       try simp only [Act.put, List.setIfInBounds_toArray, List.set_cons_zero, List.set_cons_succ]
       skip)
    | (refine sget_step rfl 46 (.tmp 3) rfl w.heap.size 5 (a.map ncell) rfl hA3 Tryd.underlying46 rfl size_numF (by rw [List.length_map, HA.out]) ?_
       clear hA3
       try simp only [Act.put, List.setIfInBounds_toArray, List.set_cons_zero, List.set_cons_succ]
       skip))
  generalize w1.heap.size = gz at *
  refine (CP.out w3).mono ?_
  rintro e w4 ⟨rfl, hb4⟩
  have hB4 := below_then hB3 hb4
  have hZ4 := hZ3.on hb4
  clear CP hB3 hZ3 hb4
  go_wp2_with (first
    | (refine set_step rfl 23 _ _ rfl gz 32 (List.replicate 32 (cellOf 0)) r rfl rfl hZ4 List.length_replicate size_k32 HR.out ?_
       intro w6 hb6 hC6 _))
  exact ret_hash Tryd.results43 gz r rfl hC6 Tryd.underlying23 size_k32 HR.out rfl ⟨rfl, hB4.trans (hb6.below hle hB4.size)⟩
theorem bytesE_any (n : Nat) (w : World) (hn : n < pp) : Calls Tryd.prog 43 #[elV n] w fun e w' => e = .returned (hashVal (keyB n)) ∧ Below w.heap.size w w' :=
  bytesE_over (limb5 n) (keyB n) w rfl (keyB_length n) (fun W => written_any n W hn)
end Go.Proofs.YtlhgabhjbnckkaaDoor
namespace Go.Proofs.YtlhgabhjbnckkaaDoor
open Go.RowKit
theorem limb5_word (x : Nat) (h : x < 18446744073709551616) : limb5 x = [x % 2251799813685248, x / 2251799813685248, 0, 0, 0] := by
  simp only [limb5, List.cons.injEq, and_true]
  refine ⟨trivial, ?_, ?_, ?_, ?_⟩ <;> omega
set_option maxRecDepth 100000 in
theorem small_over (x a b : Nat) (r : List Nat) (w : World) (HR : Hid (r.length = 5)) (M1 : bits .and .u64 (x : Int) 2251799813685247 = (a : Int)) (M2 : (x : Int) / 2251799813685248 = (b : Int)) (BN : ∀ w, (Instr.build 46 #[(0, ncell a), (1, ncell b)]).run Tryd.prog w = .ok (numVal r) w) (BE : ∀ w, (Instr.build 48 #[(0, numVal r)]).run Tryd.prog w = .ok (numVal r) w) :
    Calls Tryd.prog 49 #[ncell x] w fun e w' => e = .returned (numVal r) ∧ Below w.heap.size w w' := by
  go_enter Tryd.func49, Tryd.ntmps49
  go_wp2_with (first
    | (refine vzero_step rfl 48 rfl (nzeros 5) zero_elem ?_
       intro w3 hB3 hZ3)
    | (refine build_step rfl 46 _ rfl [(0, ncell a), (1, ncell b)] rfl _ BN ?_)
    | (refine build_step rfl 48 _ rfl [(0, numVal r)] rfl _ BE ?_)
    | (refine vset_step rfl 48 _ _ rfl w.heap.size 5 (nzeros 5) (r.map ncell) rfl rfl hZ3 rfl size_elem (by rw [List.length_map, HR.out]) (ncells_one _) ?_
       intro w6 hb6 hC6 _))
  exact sret Tryd.results49 w.heap.size (r.map ncell) rfl hC6 Tryd.underlying48 rfl size_elem (by rw [List.length_map, HR.out]) rfl ⟨rfl, hB3.trans (hb6.below (Nat.le_refl _) hB3.size)⟩
theorem small_any (x : Nat) (w : World) (h : x < 18446744073709551616) : Calls Tryd.prog 49 #[ncell x] w fun e w' => e = .returned (elV x) ∧ Below w.heap.size w w' :=
  small_over x (x % 2251799813685248) (x / 2251799813685248) (limb5 x) w rfl (and51 x h) rfl (fun w => by rw [limb5_word x h]; exact build_two _ _ w) (build_elV x)
/-- A small number modulo p. -/
def smallN (n : Int) : Nat := (n % (pp : Int)).toNat
set_option maxRecDepth 100000 in
theorem smallE_pos (n : Int) (x : Nat) (r : List Nat) (w : World) (h0 : ¬ n < 0) (HR : Hid (r.length = 5)) (M1 : IntKind.u64.wrap n = (x : Int)) (CS : Hid (∀ W, Calls Tryd.prog 49 #[ncell x] W fun e w' => e = .returned (numVal r) ∧ Below W.heap.size W w')) :
    Calls Tryd.prog 37 #[.int .i64 n] w fun e w' => e = .returned (numVal r) ∧ Below w.heap.size w w' := by
  go_enter Tryd.func37, Tryd.ntmps37
  go_wp2_with (first
    | (refine vzero_step rfl 48 rfl (nzeros 5) zero_elem ?_
       intro w3 hB3 hZ3))
  refine (CS.out w3).mono ?_
  rintro e w4 ⟨rfl, hb4⟩
  have hB4 := below_then hB3 hb4
  have hZ4 := hZ3.on hb4
  clear CS hB3 hZ3 hb4
  go_wp2_with (first
    | (refine vset_step rfl 48 _ _ rfl w.heap.size 5 (nzeros 5) (r.map ncell) rfl rfl hZ4 rfl size_elem (by rw [List.length_map, HR.out]) (ncells_one _) ?_
       intro w6 hb6 hC6 _))
  exact sret Tryd.results37 w.heap.size (r.map ncell) rfl hC6 Tryd.underlying48 rfl size_elem (by rw [List.length_map, HR.out]) rfl ⟨rfl, hB4.trans (hb6.below (Nat.le_refl _) hB4.size)⟩
set_option maxRecDepth 100000 in
theorem smallE_neg (n : Int) (x : Nat) (r s z : List Nat) (w : World) (h0 : n < 0) (HR : Hid (r.length = 5)) (M1 : IntKind.u64.wrap (-(IntKind.u64.wrap n)) = (x : Int)) (HN : ∀ w, (Instr.build 48 #[]).run Tryd.prog w = .ok (numVal z) w) (CS : Hid (∀ W, Calls Tryd.prog 49 #[ncell x] W fun e w' => e = .returned (numVal s) ∧ Below W.heap.size W w')) (CU : Hid (∀ W, Calls Tryd.prog 40 #[numVal z, numVal s] W fun e w' => e = .returned (numVal r) ∧ Below W.heap.size W w')) :
    Calls Tryd.prog 37 #[.int .i64 n] w fun e w' => e = .returned (numVal r) ∧ Below w.heap.size w w' := by
  go_enter Tryd.func37, Tryd.ntmps37
  go_wp2_with (first
    | (refine vzero_step rfl 48 rfl (nzeros 5) zero_elem ?_
       intro w3 hB3 hZ3)
    | (refine build_step rfl 48 [] rfl [] rfl _ HN ?_))
  refine (CS.out w3).mono ?_
  rintro e w4 ⟨rfl, hb4⟩
  have hB4 := below_then hB3 hb4
  have hZ4 := hZ3.on hb4
  clear CS hB3 hZ3 hb4
  go_wp2_with fail
  refine (CU.out w4).mono ?_
  rintro e w5 ⟨rfl, hb5⟩
  have hB5 := below_then hB4 hb5
  have hZ5 := hZ4.on hb5
  clear CU hB4 hZ4 hb5
  go_wp2_with (first
    | (refine vset_step rfl 48 _ _ rfl w.heap.size 5 (nzeros 5) (r.map ncell) rfl rfl hZ5 rfl size_elem (by rw [List.length_map, HR.out]) (ncells_one _) ?_
       intro w6 hb6 hC6 _))
  exact sret Tryd.results37 w.heap.size (r.map ncell) rfl hC6 Tryd.underlying48 rfl size_elem (by rw [List.length_map, HR.out]) rfl ⟨rfl, hB5.trans (hb6.below (Nat.le_refl _) hB5.size)⟩
theorem smallE_any (n : Int) (w : World) (h1 : -9223372036854775808 ≤ n) (h2 : n < 9223372036854775808) : Calls Tryd.prog 37 #[.int .i64 n] w fun e w' => e = .returned (elV (smallN n)) ∧ Below w.heap.size w w' := by
  by_cases h0 : n < 0
  · have hx : (-n).toNat < 18446744073709551616 := by omega
    have e1 : IntKind.u64.wrap (-(IntKind.u64.wrap n)) = (((-n).toNat : Nat) : Int) := by rw [IntKind.wrap_u64, IntKind.wrap_u64]; omega
    have e2 : smallN n = (0 + (pp - (-n).toNat)) % pp := by simp only [smallN, pp]; omega
    rw [e2]
    exact smallE_neg n (-n).toNat (limb5 _) (limb5 (-n).toNat) (limb5 0) w h0 rfl e1 build_none (fun W => small_any _ W hx) (fun W => eSub_any 0 _ W (by decide) (by simp only [pp]; omega))
  · have e1 : IntKind.u64.wrap n = ((n.toNat : Nat) : Int) := by rw [IntKind.wrap_u64]; omega
    have e2 : smallN n = n.toNat := by simp only [smallN, pp]; omega
    rw [e2]
    exact smallE_pos n n.toNat (limb5 n.toNat) w h0 rfl e1 (fun W => small_any _ W (by omega))
end Go.Proofs.YtlhgabhjbnckkaaDoor
