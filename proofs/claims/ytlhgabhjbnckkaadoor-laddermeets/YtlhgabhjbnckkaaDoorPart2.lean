/- Part 2 of what the laws of this seat share: WNum, WPut, PMath2, OMath, OMath2. -/
import Derived.ProofKit
import Derived.Test.YtlhgabhjbnckkaaDoorPart1
namespace Go.Proofs.YtlhgabhjbnckkaaDoor
open Go.RowKit Go.Stop
/-- Package api's errors in the table's order: the variables' numbers. -/
def errVars : List Nat := [1, 2, 3, 4, 0, 5, 6, 7, 8, 9, 10, 11, 12, 13, 14, 15, 16, 17, 18]
/-- Variable g holds an error whose text lies at a. -/
def ErrIs (W : World) (g : Nat) (a : Addr) : Prop := W.cell? ⟨g, 0, none⟩ = some (errAt a) ∧ ∃ c t, W.heap[a.block]? = some (.cells c t (0, 0))
theorem lt_of_heap {W : World} {b : Nat} {o : Obj} (h : W.heap[b]? = some o) : b < W.heap.size := by
  rcases Nat.lt_or_ge b W.heap.size with hlt | hge
  · exact hlt
  · rw [Array.getElem?_eq_none hge] at h; cases h
theorem ErrIs.below {W W' : World} {g : Nat} {a : Addr} (h : ErrIs W g a) (hb : Below W.heap.size W W') : ErrIs W' g a := by
  obtain ⟨h1, c, t, h2⟩ := h
  refine ⟨(hb.cell (block_lt_of_cell h1)).trans h1, c, t, (hb.block _ ?_).trans h2⟩
  rcases Nat.lt_or_ge a.block W.heap.size with hlt | hge
  · exact hlt
  · rw [Array.getElem?_eq_none hge] at h2; cases h2
/-- All of package api's errors stand, each apart from the others. -/
def Errs (W : World) (es : List Addr) : Prop := es.length = 19 ∧ es.Nodup ∧ ∀ (i g : Nat) (a : Addr), errVars[i]? = some g → es[i]? = some a → ErrIs W g a
theorem Errs.below {W W' : World} {es : List Addr} (h : Errs W es) (hb : Below W.heap.size W W') : Errs W' es :=
  ⟨h.1, h.2.1, fun i g a hg ha => (h.2.2 i g a hg ha).below hb⟩
theorem Errs.drewN {W : World} {es : List Addr} (h : Errs W es) (n : Nat) : Errs (W.drewN n) es := h
theorem Errs.var {W : World} {es : List Addr} (h : Errs W es) (i : Nat) {g : Nat} (hg : errVars[i]? = some g) : ∃ a, es[i]? = some a ∧ W.cell? ⟨g, 0, none⟩ = some (errAt a) := by
  have hi : i < es.length := by
    rcases Nat.lt_or_ge i es.length with hlt | hge
    · exact hlt
    · have h1 := h.1
      rw [List.getElem?_eq_none (by show 19 ≤ i; omega)] at hg
      cases hg
  exact ⟨es[i], List.getElem?_eq_getElem hi, (h.2.2 i g _ hg (List.getElem?_eq_getElem hi)).1⟩
theorem row_err : ∀ u, Tryd.prog.typeName? 3 u = some "*errors.errorString" → u = 101 := typeName_ptr_named (nm := "errors.errorString") (by kernel_rfl) (by kernel_rfl) (by decide)
theorem cells_es : Tryd.prog.cellsOf 126 = 1 := by kernel_rfl
theorem cells_str : Tryd.prog.cellsOf 9 = 1 := by kernel_rfl
set_option maxRecDepth 100000 in
/-- What the row's list gives, of whatever length it is. -/
theorem sentinels {W : World} : ∀ (l : List (String × List UInt8)) (gs : List Nat) (ps : List MemPlace), l.map (fun x => Tryd.prog.globalNamed x.1) = gs.map some →
    (∀ g ∈ gs, (Tryd.prog.globals[g]?).map (·.type) = some 27) → DataW.LaidVars Tryd.prog W (l.map fun x => (x.1, .iface "*errors.errorString" (.ptr (.agg [.lit (.string x.2)])))) ps → ps.Nodup →
    (∀ b off, MemPlace.cell b off ∈ ps → (∃ c t, W.heap[b]? = some (.cells c t (0, 0))) ∧ ∀ u v, W.cell? ⟨b, off, none⟩ = some (.iface u v) → Value.okWide Tryd.prog W .any 0 u v) →
    ∃ es : List Addr, es.length = gs.length ∧ es.Nodup ∧ (∀ a ∈ es, MemPlace.cell a.block a.off ∈ ps ∧ a.spot = none) ∧ ∀ (i g : Nat) (a : Addr), gs[i]? = some g → es[i]? = some a → ErrIs W g a
  | [], [], _, _, _, _, _, _ => ⟨[], rfl, List.nodup_nil, fun _ h => (by cases h), fun i g a h => by simp at h⟩
  | [], _ :: _, _, h, _, _, _, _ => by simp at h
  | _ :: _, [], _, h, _, _, _, _ => by simp at h
  | x :: l, g :: gs, ps, hgs, hts, hv, hnd, hrows => by
    rw [List.map_cons, List.map_cons, List.cons.injEq] at hgs
    obtain ⟨g0, t0, cs0, f0, p0, q0, hg0, ht0, hv0, hd0, hq, rfl⟩ := hv
    obtain rfl := Option.some.inj (hgs.1.symm.trans hg0)
    obtain rfl := Option.some.inj ((hts g List.mem_cons_self).symm.trans ht0)
    have hok : ∀ u v, cs0.toList = [.iface u v] → Value.okWide Tryd.prog W .any 0 u v := fun u v e => by
      have hc0 : cs0 = #[.iface u v] := by cases cs0; simp_all
      subst hc0
      exact (hrows g 0 (by simp [MemPlace.row])).2 u v (by simpa using World.var?_cell hg0 hv0 0)
    obtain ⟨a0, s0, hcs, hc0, _, _, rfl⟩ := errorString_of_trod Tryd.underlying27 row_err Tryd.underlying101 Tryd.underlying126 rfl rfl Tryd.underlying9 cells_es cells_str hd0 hok
    have hcs' : cs0 = #[errAt a0] := by cases cs0; simp_all
    subst hcs'
    obtain ⟨es, h1, h2, h3, h4⟩ := sentinels l gs q0 hgs.2 (fun g hg => hts g (List.mem_cons_of_mem _ hg)) hq (List.Nodup.sublist (List.sublist_append_right _ _) hnd) (fun b off hm => hrows b off (List.mem_append_right _ hm))
    have hmem : MemPlace.cell a0.block a0.off ∈ MemPlace.row ⟨g, 0, none⟩ (#[errAt a0] : Array Value).size ++ MemPlace.row a0 1 ++ q0 := by simp [MemPlace.row]
    have hsp : a0.spot = none := by simpa using World.cell?_spot hc0
    refine ⟨a0 :: es, by simp [h1], List.nodup_cons.2 ⟨fun hin => ?_, h2⟩, ?_, ?_⟩
    · have hq1 := (h3 a0 hin).1
      have hd := (List.nodup_append.1 hnd).2.2 (MemPlace.cell a0.block a0.off) (by simp [MemPlace.row]) (MemPlace.cell a0.block a0.off) hq1
      exact hd rfl
    · intro a ha
      rcases List.mem_cons.1 ha with rfl | ha
      · exact ⟨hmem, hsp⟩
      · exact ⟨List.mem_append_right _ (h3 a ha).1, (h3 a ha).2⟩
    · intro i g' a hg' ha'
      cases i with
      | zero =>
        simp at hg' ha'
        subst hg' ha'
        exact ⟨by simpa using World.var?_cell hg0 hv0 0, (hrows _ _ hmem).1⟩
      | succ i => exact h4 i g' a (by simpa using hg') (by simpa using ha')
theorem nodup_one {α : Type} : ∀ (l : List α), l.Nodup → ∀ (i k : Nat) (a : α), l[i]? = some a → l[k]? = some a → i = k
  | [], _, _, _, _, h, _ => by simp at h
  | x :: l, hn, i, k, a, hi, hk => by
    rw [List.nodup_cons] at hn
    cases i with
    | zero =>
      cases k with
      | zero => rfl
      | succ k =>
        simp at hi hk
        subst hi
        exact absurd (List.mem_of_getElem? hk) hn.1
    | succ i =>
      cases k with
      | zero =>
        simp at hi hk
        subst hk
        exact absurd (List.mem_of_getElem? hi) hn.1
      | succ k => rw [nodup_one l hn.2 i k a (by simpa using hi) (by simpa using hk)]
theorem num_nil (w : World) : Calls Tryd.prog 12 #[.nilIface] w fun e w' => e = .returned (.int .i64 0) ∧ w = w' := by
  go_enter Tryd.func12, Tryd.ntmps12
  go_wp2
  go_ret
  exact ⟨rfl, rfl⟩
set_option maxRecDepth 100000 in
set_option maxHeartbeats 1000000 in
/-- Num of the i-th error. -/
theorem num_err (es : List Addr) (i : Nat) (a : Addr) (w : World) (h : Errs w es) (ha : es[i]? = some a) :
    Calls Tryd.prog 12 #[errAt a] w fun e w' => e = .returned (.int .i64 ((i : Int) + 1)) ∧ Below w.heap.size w w' := by
  have hnd := h.2.1
  have hrow := h.2.2
  match es, h.1, ha, hnd, h with
  | [a0, a1, a2, a3, a4, a5, a6, a7, a8, a9, a10, a11, a12, a13, a14, a15, a16, a17, a18], _, ha, hnd, h =>
    have c0 := (h.2.2 0 1 a0 rfl rfl).1
    have c1 := (h.2.2 1 2 a1 rfl rfl).1
    have c2 := (h.2.2 2 3 a2 rfl rfl).1
    have c3 := (h.2.2 3 4 a3 rfl rfl).1
    have c4 := (h.2.2 4 0 a4 rfl rfl).1
    have c5 := (h.2.2 5 5 a5 rfl rfl).1
    have c6 := (h.2.2 6 6 a6 rfl rfl).1
    have c7 := (h.2.2 7 7 a7 rfl rfl).1
    have c8 := (h.2.2 8 8 a8 rfl rfl).1
    have c9 := (h.2.2 9 9 a9 rfl rfl).1
    have c10 := (h.2.2 10 10 a10 rfl rfl).1
    have c11 := (h.2.2 11 11 a11 rfl rfl).1
    have c12 := (h.2.2 12 12 a12 rfl rfl).1
    have c13 := (h.2.2 13 13 a13 rfl rfl).1
    have c14 := (h.2.2 14 14 a14 rfl rfl).1
    have c15 := (h.2.2 15 15 a15 rfl rfl).1
    have c16 := (h.2.2 16 16 a16 rfl rfl).1
    have c17 := (h.2.2 17 17 a17 rfl rfl).1
    have c18 := (h.2.2 18 18 a18 rfl rfl).1
    have HA := Lib.hid (fun (k : Nat) (b : Addr) (hb : [a0, a1, a2, a3, a4, a5, a6, a7, a8, a9, a10, a11, a12, a13, a14, a15, a16, a17, a18][k]? = some b) => show ∃ c t, w.heap[b.block]? = some (.cells c t (0, 0)) from by
      have hk : k < 19 := by
        rcases Nat.lt_or_ge k 19 with hlt | hge
        · exact hlt
        · rw [List.getElem?_eq_none (by simpa using hge)] at hb; cases hb
      exact (h.2.2 k _ b (List.getElem?_eq_getElem (by exact hk)) hb).2)
    have HD := Lib.hid (fun (k : Nat) (b : Addr) (hb : [a0, a1, a2, a3, a4, a5, a6, a7, a8, a9, a10, a11, a12, a13, a14, a15, a16, a17, a18][k]? = some b) (hki : k ≠ i) => show a ≠ b from by
      rintro rfl
      exact hki (nodup_one _ hnd _ _ _ hb ha))
    have HI := Lib.hid ha
    have hi : i < 19 := by
      rcases Nat.lt_or_ge i 19 with hlt | hge
      · exact hlt
      · rw [List.getElem?_eq_none (by simpa using hge)] at ha; cases ha
    clear hnd hrow h ha
    go_enter Tryd.func12, Tryd.ntmps12
    have hc1 : ∀ (k : Nat) (b : Addr), [a0, a1, a2, a3, a4, a5, a6, a7, a8, a9, a10, a11, a12, a13, a14, a15, a16, a17, a18][k]? = some b → (w.alloc (.cells #[errAt a0, errAt a1, errAt a2, errAt a3, errAt a4, errAt a5, errAt a6, errAt a7, errAt a8, errAt a9, errAt a10, errAt a11, errAt a12, errAt a13, errAt a14, errAt a15, errAt a16, errAt a17, errAt a18] 27)).cell? ⟨w.heap.size, k, none⟩ = some (errAt b) := by
      intro k b hb
      have h2 : ([a0, a1, a2, a3, a4, a5, a6, a7, a8, a9, a10, a11, a12, a13, a14, a15, a16, a17, a18].map errAt)[k]? = some (errAt b) := by rw [List.getElem?_map, hb]; rfl
      rw [World.cell?_alloc_at _ _ _ _ rfl, List.getElem?_toArray]
      exact h2
    have hB : Below w.heap.size w (w.alloc (.cells #[errAt a0, errAt a1, errAt a2, errAt a3, errAt a4, errAt a5, errAt a6, errAt a7, errAt a8, errAt a9, errAt a10, errAt a11, errAt a12, errAt a13, errAt a14, errAt a15, errAt a16, errAt a17, errAt a18] 27)) := (Below.refl _ _).alloc (Nat.le_refl _) _
    have HC := Lib.hid hc1
    clear hc1
    go_wp2
    generalize w.alloc (.cells #[errAt a0, errAt a1, errAt a2, errAt a3, errAt a4, errAt a5, errAt a6, errAt a7, errAt a8, errAt a9, errAt a10, errAt a11, errAt a12, errAt a13, errAt a14, errAt a15, errAt a16, errAt a17, errAt a18] 27) = w1 at *
    clear c0 c1 c2 c3 c4 c5 c6 c7 c8 c9 c10 c11 c12 c13 c14 c15 c16 c17 c18
    go_loop [4, 5, 30] (fun _ _ q => ∃ k : Nat, k ≤ i ∧ q = .int .i64 k) (fun _ _ q => 19 - (intOf q).toNat)
    case atStart => exact ⟨0, by omega, rfl⟩
    case round =>
      obtain ⟨k, hk, rfl⟩ := hrel
      have hk2 : k < [a0, a1, a2, a3, a4, a5, a6, a7, a8, a9, a10, a11, a12, a13, a14, a15, a16, a17, a18].length := by show k < 19; omega
      obtain ⟨b, hb⟩ : ∃ b, [a0, a1, a2, a3, a4, a5, a6, a7, a8, a9, a10, a11, a12, a13, a14, a15, a16, a17, a18][k]? = some b := ⟨_, List.getElem?_eq_getElem hk2⟩
      have hck := HC.out k b hb
      have i1 : (k : Int) < 19 := by omega
      rcases Nat.lt_or_eq_of_le hk with hlt | heq
      · have hne := HD.out k b hb (by omega)
        obtain ⟨ca, ta, ha1⟩ := HA.out i a HI.out
        obtain ⟨cb, tb, hb1⟩ := HA.out k b hb
        have H1 := Lib.hid (is_other a b ca cb ta tb w1 hne ((hB.block _ (lt_of_heap ha1)).trans ha1) ((hB.block _ (lt_of_heap hb1)).trans hb1))
        clear hb hne ha1 hb1
        go_wp2_with (go_at_call 28; refine (H1.out).mono ?_; rintro e w' ⟨rfl, rfl⟩)
        go_round
        case rel => exact ⟨k + 1, by omega, by go_num⟩
        case measure => simp [intOf]; omega
      · subst heq
        have hab : b = a := by have h3 := HI.out; rw [hb] at h3; exact Option.some.inj h3
        subst hab
        clear hb
        go_wp2_with (go_at_call 28; refine (is_same _ _).mono ?_; rintro e w' ⟨rfl, rfl⟩)
        go_ret
        exact ⟨rfl, hB⟩
/-- The same, the number written out. -/
theorem num_is (es : List Addr) (i : Nat) (n : Int) (a : Addr) (w : World) (h : Errs w es) (ha : es[i]? = some a) (hn : (i : Int) + 1 = n) :
    Calls Tryd.prog 12 #[errAt a] w fun e w' => e = .returned (.int .i64 n) ∧ Below w.heap.size w w' := by
  subst hn
  exact num_err es i a w h ha
end Go.Proofs.YtlhgabhjbnckkaaDoor
namespace Go.Proofs.YtlhgabhjbnckkaaDoor
open Go.RowKit
/-- A number's i-th byte from the low end; its k low bytes, the low one first. -/
def byteAt (x i : Nat) : UInt8 := UInt8.ofNat (x / 256 ^ i)
def putL (x k : Nat) : List UInt8 := (List.range k).map (byteAt x)
theorem putL_length (x k : Nat) : (putL x k).length = k := by simp [putL]
theorem putL_succ (x k : Nat) : putL x (k + 1) = putL x k ++ [byteAt x k] := by simp [putL, List.range_succ]
theorem pow_8 (i : Nat) : 2 ^ (8 * i) = 256 ^ i := by rw [Nat.pow_mul]
theorem byte_shr (x i : Nat) : (x : Int) / 2 ^ (8 * i) % 256 = ((byteAt x i).toNat : Int) := by
  rw [pow_cast, pow_8, ← Int.natCast_ediv, byteAt, UInt8.toNat_ofNat']
  omega
theorem byte_mod (x i : Nat) : ((x / 256 ^ i : Nat) : Int) % 256 = ((byteAt x i).toNat : Int) := by
  rw [byteAt, UInt8.toNat_ofNat']
  omega
theorem bigN_fold (l : List UInt8) : ∀ a : Nat, l.foldl (fun x b => x * 256 + b.toNat) a = a * 256 ^ l.length + bigN l := by
  induction l with
  | nil => intro a; simp [bigN]
  | cons u l ih =>
    intro a
    rw [List.foldl_cons, ih, show bigN (u :: l) = (u :: l).foldl (fun x b => x * 256 + b.toNat) 0 from rfl, List.foldl_cons, ih, List.length_cons, Nat.pow_succ, Nat.add_mul, Nat.zero_mul, Nat.zero_add, Nat.mul_assoc, Nat.mul_comm 256, Nat.add_assoc]
theorem bigN_cons (u : UInt8) (l : List UInt8) : bigN (u :: l) = u.toNat * 256 ^ l.length + bigN l := by
  rw [show bigN (u :: l) = (u :: l).foldl (fun x b => x * 256 + b.toNat) 0 from rfl, List.foldl_cons, bigN_fold, Nat.zero_mul, Nat.zero_add]
theorem refbig_round (l : List UInt8) (k : Nat) (hk : k < l.length) (hn : l.length ≤ 8) :
    IntKind.u64.wrap (IntKind.u64.wrap ((bigN (l.take k) : Int) * 256) + IntKind.u64.wrap (l[k].toNat : Int)) = (bigN (l.take (k + 1)) : Int) := by
  have h1 := bigN_lt (l.take k)
  have h2 : 256 ^ (l.take k).length ≤ 256 ^ 7 := pow256_le (by rw [List.length_take]; omega)
  have h3 := l[k].toNat_lt
  rw [take_snoc l k hk, bigN_snoc]
  generalize bigN (l.take k) = a at *
  generalize l[k].toNat = u at *
  rw [IntKind.wrap_u64, IntKind.wrap_u64, IntKind.wrap_u64]
  omega
theorem little_round (l : List UInt8) (k : Nat) (hk : k < l.length) (hn : l.length ≤ 8) :
    bits .or .u64 (bigN (l.take k).reverse : Int) (IntKind.u64.wrap (IntKind.u64.wrap (l[k].toNat : Int) * 2 ^ (8 * k))) = (bigN (l.take (k + 1)).reverse : Int) := by
  have h1 := bigN_lt (l.take k).reverse
  have hlk : (l.take k).reverse.length = k := by rw [List.length_reverse, List.length_take]; omega
  have h3 := l[k].toNat_lt
  rw [take_snoc l k hk, List.reverse_append, List.reverse_singleton, List.singleton_append, bigN_cons, hlk]
  rw [hlk] at h1
  have hp : 256 ^ k ≤ 256 ^ 7 := pow256_le (by omega)
  generalize bigN (l.take k).reverse = a at *
  generalize l[k].toNat = u at *
  have hu : u * 256 ^ k ≤ 255 * 256 ^ k := Nat.mul_le_mul_right _ (by omega)
  have e : IntKind.u64.wrap (IntKind.u64.wrap (u : Int) * 2 ^ (8 * k)) = ((u * 256 ^ k : Nat) : Int) := by
    rw [IntKind.wrap_u64, IntKind.wrap_u64, show (u : Int) % 18446744073709551616 = (u : Int) by omega, pow_cast, pow_8, ← Int.natCast_mul]
    omega
  rw [e, u64_or_nat _ _ (by omega) (by omega), Nat.or_comm, nat_join (8 * k) _ _ (by rw [pow_8]; exact Nat.mul_mod_left _ _) (by rw [pow_8]; exact h1)]
set_option maxRecDepth 100000 in
theorem putLittle_in (x n : Nat) (w : World) (_hx : x < 18446744073709551616) (hn : n ≤ 8) :
    Calls Tryd.prog 59 #[.int .u64 x, .int .i64 n] w fun e w' => e = .returned (.tuple #[.slice (some ⟨w.heap.size, 0, none⟩) n n, .nilIface]) ∧ Below w.heap.size w w' ∧ Made w' w.heap.size (putL x n) := by
  have hmk := make_bytes n n (Nat.le_refl _) (by omega)
  go_enter Tryd.func59, Tryd.ntmps59
  go_wp2
  go_loopw [7, 19] (fun _ i wr => ∃ k : Nat, k ≤ n ∧ i = .int .i64 k ∧ Below w.heap.size w wr ∧ Made wr w.heap.size (putL x k ++ List.replicate (n - k) 0)) (fun _ i _ => n - (intOf i).toNat)
  case atStart => exact ⟨0, Nat.zero_le _, rfl, (Below.refl _ _).alloc (Nat.le_refl _) _, by simpa [putL] using Made.new w (List.replicate n 0)⟩
  case round =>
    obtain ⟨k, hk, rfl, hB, hM⟩ := hrel
    by_cases hlt : k < n
    · have hf := hM.frozen k
      obtain ⟨v3, hc3⟩ : ∃ v, wr.cell? ⟨w.heap.size, k, none⟩ = some v := ⟨_, hM.cell k (by simp [putL]; omega)⟩
      have i1 : (0 : Int) ≤ (k : Int) := by omega
      have i2 : (k : Int) < (n : Int) := by omega
      have HS := Lib.hid (byte_shr x k)
      go_wp2
      go_roundw
      case rel =>
        rw [HS.out]
        refine ⟨k + 1, by omega, by go_num, hB.setCell (p := ⟨w.heap.size, k, none⟩) (Nat.le_refl _) _, ?_⟩
        have h := hM.set k (byteAt x k)
        rw [set_next _ k n _ (putL_length x k) hlt, ← putL_succ] at h
        exact h
      case measure => simp [intOf]; omega
    · go_wp2
      go_ret2
      refine ⟨rfl, hB, ?_⟩
      have e : k = n := by omega
      subst e
      simpa using hM
theorem putLittle_out (x n : Int) (E : Value) (w : World) (hn : n < 0 ∨ 8 < n) (hE : w.cell? ⟨1, 0, none⟩ = some E) :
    Calls Tryd.prog 59 #[.int .u64 x, .int .i64 n] w fun e w' => e = .returned (.tuple #[.slice none 0 0, E]) ∧ ∃ n, w' = w.drewN n := by
  by_cases h : n < 0
  all_goals
    try have h2 : 8 < n := by omega
    clear hn
    go_enter Tryd.func59, Tryd.ntmps59
    go_wp2
    go_quiet (fail)
    go_wp2
    go_ret2
    exact ⟨rfl, _, rfl⟩
/-- The high bytes of n, k of them, the high one first. -/
def putB (x n k : Nat) : List UInt8 := (List.range k).map fun i => byteAt x (n - 1 - i)
theorem putB_length (x n k : Nat) : (putB x n k).length = k := by simp [putB]
theorem putB_succ (x n k : Nat) : putB x n (k + 1) = putB x n k ++ [byteAt x (n - 1 - k)] := by simp [putB, List.range_succ]
theorem putB_rev (x n : Nat) : putB x n n = (putL x n).reverse := by
  refine List.ext_getElem (by simp [putB, putL]) fun i h1 h2 => ?_
  simp [putB, putL]
theorem little_few (A : Option Addr) (c n : Nat) (bs : List UInt8) (w : World) (hl : bs.length = n) (hr : Row w w.heap.size A bs) (hn : n ≤ 8) :
    Calls Tryd.prog 48 #[.slice A n c] w fun e w' => e = .returned (.tuple #[.int .u64 (bigN bs.reverse : Int), .nilIface]) ∧ w = w' := by
  subst hl
  go_enter Tryd.func48, Tryd.ntmps48
  go_wp2
  go_loop [4, 5, 6, 13] (fun x _ _ i => ∃ k : Nat, k ≤ bs.length ∧ i = .int .i64 k ∧ x = .int .u64 (bigN (bs.take k).reverse : Int)) (fun _ _ _ i => bs.length - (intOf i).toNat)
  case atStart => exact ⟨0, Nat.zero_le _, rfl, rfl⟩
  case round =>
    obtain ⟨k, hk, rfl, rfl⟩ := hrel
    by_cases hlt : k < bs.length
    · obtain ⟨b, off, rfl, hb, hc⟩ := hr.at k hlt
      go_wp2
      go_round
      case rel => exact ⟨k + 1, by omega, by go_num, by rw [little_round bs k hlt hn]⟩
      case measure => simp [intOf]; omega
    · go_wp2
      go_ret2
      exact ⟨by rw [List.take_of_length_le (by omega)]; rfl, rfl⟩
theorem little_long (A : Option Addr) (c n : Nat) (E : Value) (w : World) (hn : 8 < n) (hE : w.cell? ⟨3, 0, none⟩ = some E) :
    Calls Tryd.prog 48 #[.slice A n c] w fun e w' => e = .returned (.tuple #[.int .u64 0, E]) ∧ ∃ n, w' = w.drewN n := by
  have h : (8 : Int) < (n : Int) := by omega
  go_enter Tryd.func48, Tryd.ntmps48
  go_wp2
  go_quiet (fail)
  go_wp2
  go_ret2
  exact ⟨rfl, _, rfl⟩
theorem set_before (l : List UInt8) (m : Nat) (u : UInt8) : (List.replicate (m + 1) 0 ++ l).set m u = List.replicate m 0 ++ u :: l := by
  rw [List.replicate_succ', List.append_assoc, List.set_append_right _ _ (by simp)]
  simp
end Go.Proofs.YtlhgabhjbnckkaaDoor
namespace Go.Proofs.YtlhgabhjbnckkaaDoor
open Go.RowKit
/-- The number of a row of bytes, the low one first. -/
def lev (bs : List UInt8) : Nat := dval (bs.map (·.toNat))
theorem lev_digits (bs : List UInt8) : ∀ x ∈ bs.map (·.toNat), x < 256 := by
  intro x hx
  obtain ⟨u, _, rfl⟩ := List.mem_map.1 hx
  exact u.toNat_lt
theorem lev_lt (bs : List UInt8) : lev bs < 256 ^ bs.length := by
  have h := dval_lt _ (lev_digits bs)
  rwa [List.length_map] at h
theorem lev_append (a b : List UInt8) : lev (a ++ b) = lev a + 256 ^ a.length * lev b := by
  unfold lev
  rw [List.map_append, dval_append, List.length_map]
/-- A row of bytes as digits, its noughts at the high end struck. -/
theorem lev_digs (bs : List UInt8) : dtrim (bs.map (·.toNat)) = digs (lev bs) := dtrim_digs _ (lev_digits bs)
/-- The key's first half, clamped. -/
def polyClamp (k : List UInt8) : List UInt8 := [4, 8, 12].foldl (fun k i => k.set i (k.getD i 0 / 4 * 4)) ([3, 7, 11, 15].foldl (fun k i => k.set i (k.getD i 0 % 16)) k)
theorem polyClamp_length (k : List UInt8) : (polyClamp k).length = k.length := by simp [polyClamp]
def polyR (key : List UInt8) : Nat := lev (polyClamp (key.take 16))
def polyS (key : List UInt8) : Nat := lev (key.drop 16)
/-- The number behind n blocks. -/
def polyH (r : Nat) (bs : List UInt8) : Nat → Nat
  | 0 => 0
  | n + 1 => (polyH r bs n + lev ((bs.drop (16 * n)).take 16 ++ [1])) * r % polyP
theorem polyH_lt (r : Nat) (bs : List UInt8) (n : Nat) : polyH r bs n < polyP := by
  cases n with
  | zero => show 0 < polyP; decide
  | succ n => exact Nat.mod_lt _ (by decide)
/-- The code. -/
def polySum (key bs : List UInt8) : List UInt8 := putL (polyH (polyR key) bs ((bs.length + 15) / 16) + polyS key) 16
theorem polySum_length (key bs : List UInt8) : (polySum key bs).length = 16 := putL_length _ _
/-- A number's k low bytes are that number, modulo 256^k. -/
theorem lev_putL (x : Nat) : ∀ k, lev (putL x k) = x % 256 ^ k
  | 0 => by rw [Nat.pow_zero, Nat.mod_one]; rfl
  | k + 1 => by
    rw [putL_succ, lev_append, lev_putL x k, putL_length]
    have e : lev [byteAt x k] = x / 256 ^ k % 256 := by
      simp [lev, dval, byteAt]
    rw [e, Nat.pow_succ, Nat.mod_mul]
theorem dval_take_mod (a : List Nat) (h : ∀ x ∈ a, x < 256) (k : Nat) (hk : k ≤ a.length) : dval (a.take k) = dval a % 256 ^ k := by
  have e : dval a = dval (a.take k) + 256 ^ k * dval (a.drop k) := by
    conv => lhs; rw [← List.take_append_drop k a]
    rw [dval_append, List.length_take, Nat.min_eq_left hk]
  have h1 := dval_lt (a.take k) (fun x hx => h x (List.mem_of_mem_take hx))
  rw [List.length_take, Nat.min_eq_left hk] at h1
  rw [e, Nat.add_mul_mod_self_left, Nat.mod_eq_of_lt h1]
/- Two rows added digit by digit, with what is carried. -/
theorem carry_step (a b : List Nat) (i : Nat) (ha : i < a.length) (hb : i < b.length) : (dval (a.take i) + dval (b.take i)) / 256 ^ i + (a[i] + b[i]) = (dval (a.take (i + 1)) + dval (b.take (i + 1))) / 256 ^ i := by
  rw [dval_take a i ha, dval_take b i hb]
  have e : dval (a.take i) + 256 ^ i * a[i] + (dval (b.take i) + 256 ^ i * b[i]) = dval (a.take i) + dval (b.take i) + 256 ^ i * (a[i] + b[i]) := by
    rw [Nat.mul_add]; omega
  rw [e, Nat.add_mul_div_left _ _ (Nat.pow_pos (by omega))]
theorem carry_next (n i : Nat) : n / 256 ^ i / 256 = n / 256 ^ (i + 1) := by rw [Nat.div_div_eq_div_mul, Nat.pow_succ]
/-- The digit that comes out is the sum's own. -/
theorem carry_digit (a b : List Nat) (i : Nat) (ha : i < a.length) (hb : i < b.length) (la : ∀ x ∈ a, x < 256) (lb : ∀ x ∈ b, x < 256) : (dval (a.take (i + 1)) + dval (b.take (i + 1))) / 256 ^ i % 256 = (dval a + dval b) / 256 ^ i % 256 := by
  rw [dval_take_mod a la (i + 1) ha, dval_take_mod b lb (i + 1) hb]
  have key : ∀ u v : Nat, (u % 256 ^ (i + 1) + v % 256 ^ (i + 1)) / 256 ^ i % 256 = (u + v) / 256 ^ i % 256 := by
    intro u v
    have hm : ∀ z : Nat, z / 256 ^ i % 256 = z % 256 ^ (i + 1) / 256 ^ i := by
      intro z
      rw [Nat.pow_succ, Nat.mod_mul_right_div_self]
    rw [hm, hm, ← Nat.add_mod]
  exact key _ _
/-- Sums that are the same modulo 256^n have the same lower n digits. -/
theorem digit_same (u v n i : Nat) (hi : i < n) (h : u % 256 ^ n = v % 256 ^ n) : u / 256 ^ i % 256 = v / 256 ^ i % 256 := by
  have hm : ∀ z : Nat, z / 256 ^ i % 256 = z % 256 ^ n / 256 ^ i % 256 := by
    intro z
    obtain ⟨d, rfl⟩ : ∃ d, n = i + (d + 1) := ⟨n - i - 1, by omega⟩
    rw [Nat.pow_add, Nat.mod_mul_right_div_self, Nat.pow_succ, Nat.mod_mul_left_mod]
  rw [hm u, hm v, h]
/-- By another end of the key the codes are apart by as much as the ends are. -/
theorem polySum_apart (a b bs : List UInt8) (h : polyR a = polyR b) : (lev (polySum a bs) + polyS b) % 256 ^ 16 = (lev (polySum b bs) + polyS a) % 256 ^ 16 := by
  unfold polySum
  rw [lev_putL, lev_putL, h, Nat.mod_add_mod, Nat.mod_add_mod]
  congr 1
  omega
end Go.Proofs.YtlhgabhjbnckkaaDoor
namespace Go.Proofs.YtlhgabhjbnckkaaDoor
open Go.RowKit
/-- The number of a row of limbs (which may be 2^26 and above). -/
def lval : List Nat → Nat
  | [] => 0
  | x :: l => x + 67108864 * lval l
theorem lval_five (a b c d e : Nat) : lval [a, b, c, d, e] = a + 67108864 * (b + 67108864 * (c + 67108864 * (d + 67108864 * (e + 67108864 * 0)))) := rfl
/-- A number's five limbs. -/
def limbsOf (x : Nat) : List Nat := [x % 67108864, x / 67108864 % 67108864, x / 4503599627370496 % 67108864, x / 302231454903657293676544 % 67108864, x / 20282409603651670423947251286016 % 67108864]
theorem limbsOf_length (x : Nat) : (limbsOf x).length = 5 := rfl
theorem lval_limbsOf (x : Nat) (h : x < 1361129467683753853853498429727072845824) : lval (limbsOf x) = x := by
  rw [limbsOf, lval_five]
  omega
theorem five_of {α : Type} (n : List α) (h : n.length = 5) : ∃ a b c d e, n = [a, b, c, d, e] := by
  match n, h with
  | [a, b, c, d, e], _ => exact ⟨a, b, c, d, e, rfl⟩
/-- Sums and products of words of 64 bits. -/
def addW (x y : Nat) : Nat := (x + y) % 18446744073709551616
def mulW (x y : Nat) : Nat := (x * y) % 18446744073709551616
theorem addW_in (x y : Nat) (h : x + y < 18446744073709551616) : addW x y = x + y := Nat.mod_eq_of_lt h
theorem mulW_in (x y : Nat) (h : x * y < 18446744073709551616) : mulW x y = x * y := Nat.mod_eq_of_lt h
theorem mulW_lt (x y a b : Nat) (hx : x < a) (hy : y < b) (h : a * b ≤ 18446744073709551616) : mulW x y = x * y := by
  refine mulW_in _ _ (Nat.lt_of_lt_of_le ?_ h)
  rcases Nat.eq_zero_or_pos y with rfl | hp
  · exact Nat.mul_pos (by omega) (by omega)
  · exact Nat.mul_lt_mul'' hx hy
/-- Two numbers, limb by limb. -/
def plusTo (a b : List Nat) : Nat → List Nat
  | 0 => a
  | k + 1 => (plusTo a b k).set k (addW ((plusTo a b k).getD k 0) (b.getD k 0))
theorem plusTo_length (a b : List Nat) : ∀ k, (plusTo a b k).length = a.length
  | 0 => rfl
  | k + 1 => by rw [plusTo, List.length_set, plusTo_length]
def plusN (a b : List Nat) : List Nat := plusTo a b 5
theorem plusN_length (a b : List Nat) : (plusN a b).length = a.length := plusTo_length a b 5
/-- Carries. -/
def carTo (n : List Nat) : Nat → List Nat × Nat
  | 0 => (n, 0)
  | k + 1 => ((carTo n k).1.set k (addW ((carTo n k).1.getD k 0) (carTo n k).2 % 67108864), addW ((carTo n k).1.getD k 0) (carTo n k).2 / 67108864)
theorem carTo_length (n : List Nat) : ∀ k, (carTo n k).1.length = n.length
  | 0 => rfl
  | k + 1 => by rw [carTo, List.length_set, carTo_length]
def carN (n : List Nat) : List Nat := (carTo n 5).1
def overN (n : List Nat) : Nat := (carTo n 5).2
theorem carN_length (n : List Nat) : (carN n).length = n.length := carTo_length n 5
def foldN (n : List Nat) : List Nat := (carN n).set 0 (addW ((carN n).getD 0 0) (mulW 5 (overN n)))
theorem foldN_length (n : List Nat) : (foldN n).length = n.length := by rw [foldN, List.length_set, carN_length]
def moreN (n : List Nat) : List Nat := n.set 0 (addW (n.getD 0 0) 5)
def lessN (n : List Nat) : List Nat := n.set 0 (addW (n.getD 0 0) (mulW 5 (overN (moreN n))))
def leastN (n : List Nat) : List Nat := carN (lessN n)
theorem leastN_length (n : List Nat) : (leastN n).length = n.length := by rw [leastN, carN_length, lessN, List.length_set]
/-- Products, limb by limb: i and j. -/
def mulPart (a b : List Nat) (i j : Nat) : Nat := if 5 ≤ i + j then mulW (mulW (a.getD i 0) (b.getD j 0)) 5 else mulW (a.getD i 0) (b.getD j 0)
def mulRow (a b : List Nat) (i : Nat) (s : List Nat) : Nat → List Nat
  | 0 => s
  | j + 1 => (mulRow a b i s j).set ((i + j) % 5) (addW ((mulRow a b i s j).getD ((i + j) % 5) 0) (mulPart a b i j))
theorem mulRow_length (a b : List Nat) (i : Nat) (s : List Nat) : ∀ j, (mulRow a b i s j).length = s.length
  | 0 => rfl
  | j + 1 => by rw [mulRow, List.length_set, mulRow_length]
def mulTo (a b : List Nat) : Nat → List Nat
  | 0 => [0, 0, 0, 0, 0]
  | i + 1 => mulRow a b i (mulTo a b i) 5
theorem mulTo_length (a b : List Nat) : ∀ i, (mulTo a b i).length = 5
  | 0 => rfl
  | i + 1 => by rw [mulTo, mulRow_length, mulTo_length]
def timesN (a b : List Nat) : List Nat := foldN (foldN (mulTo a b 5))
theorem timesN_length (a b : List Nat) : (timesN a b).length = 5 := by rw [timesN, foldN_length, foldN_length, mulTo_length]
/-- Limbs below their bound. -/
def Below5 (B : Nat) (n : List Nat) : Prop := ∀ x ∈ n, x < B
theorem below5_five (B a b c d e : Nat) : Below5 B [a, b, c, d, e] ↔ a < B ∧ b < B ∧ c < B ∧ d < B ∧ e < B := by
  simp [Below5]
theorem limbsOf_below (x : Nat) : Below5 67108864 (limbsOf x) := by
  rw [limbsOf, below5_five]; omega
theorem plusN_val (a b : List Nat) (ha : a.length = 5) (hb : b.length = 5) (A B : Nat) (hA : Below5 A a) (hB : Below5 B b) (h : A + B ≤ 18446744073709551616) : lval (plusN a b) = lval a + lval b ∧ Below5 (A + B) (plusN a b) := by
  obtain ⟨a0, a1, a2, a3, a4, rfl⟩ := five_of a ha
  obtain ⟨b0, b1, b2, b3, b4, rfl⟩ := five_of b hb
  rw [below5_five] at hA hB
  have e : plusN [a0, a1, a2, a3, a4] [b0, b1, b2, b3, b4] = [addW a0 b0, addW a1 b1, addW a2 b2, addW a3 b3, addW a4 b4] := rfl
  rw [e, addW_in _ _ (by omega), addW_in _ _ (by omega), addW_in _ _ (by omega), addW_in _ _ (by omega), addW_in _ _ (by omega), lval_five, lval_five, lval_five, below5_five]
  omega
theorem car_five (a b c d e : Nat) : carTo [a, b, c, d, e] 5 = ([addW a 0 % 67108864, addW b (addW a 0 / 67108864) % 67108864, addW c (addW b (addW a 0 / 67108864) / 67108864) % 67108864, addW d (addW c (addW b (addW a 0 / 67108864) / 67108864) / 67108864) % 67108864, addW e (addW d (addW c (addW b (addW a 0 / 67108864) / 67108864) / 67108864) / 67108864) % 67108864],
    addW e (addW d (addW c (addW b (addW a 0 / 67108864) / 67108864) / 67108864) / 67108864) / 67108864) := rfl
theorem carN_val (n : List Nat) (hn : n.length = 5) (h : Below5 9223372036854775808 n) : lval (carN n) + 1361129467683753853853498429727072845824 * overN n = lval n ∧ Below5 67108864 (carN n) := by
  obtain ⟨a, b, c, d, e, rfl⟩ := five_of n hn
  rw [below5_five] at h
  unfold carN overN
  rw [car_five, addW_in a 0 (by omega), addW_in b _ (by omega), addW_in c _ (by omega), addW_in d _ (by omega), addW_in e _ (by omega)]
  simp only [lval_five, below5_five]
  generalize h1 : (a + 0) / 67108864 = x1
  generalize h2 : (b + x1) / 67108864 = x2
  generalize h3 : (c + x2) / 67108864 = x3
  generalize h4 : (d + x3) / 67108864 = x4
  omega
theorem lval_lt (n : List Nat) (hn : n.length = 5) (h : Below5 67108864 n) : lval n < 1361129467683753853853498429727072845824 := by
  obtain ⟨a, b, c, d, e, rfl⟩ := five_of n hn
  rw [below5_five] at h
  rw [lval_five]
  omega
theorem overN_eq (n : List Nat) (hn : n.length = 5) (h : Below5 9223372036854775808 n) : overN n = lval n / 1361129467683753853853498429727072845824 ∧ lval (carN n) = lval n % 1361129467683753853853498429727072845824 := by
  have h1 := carN_val n hn h
  have h2 := lval_lt (carN n) (by rw [carN_length, hn]) h1.2
  omega
theorem lval_set0 (n : List Nat) (hn : n.length = 5) (y : Nat) (h : n.getD 0 0 + y < 18446744073709551616) : lval (n.set 0 (addW (n.getD 0 0) y)) = lval n + y := by
  obtain ⟨a, b, c, d, e, rfl⟩ := five_of n hn
  have h' : a + y < 18446744073709551616 := h
  show lval [addW a y, b, c, d, e] = _
  rw [addW_in _ _ h', lval_five, lval_five]
  omega
theorem polyP_is : polyP = 1361129467683753853853498429727072845819 := rfl
theorem getD_below {B : Nat} {n : List Nat} (h : Below5 B n) (hB : 0 < B) (i : Nat) : n.getD i 0 < B := by
  rw [List.getD_eq_getElem?_getD]
  cases hi : n[i]? with
  | none => simpa using hB
  | some x => exact h x (List.mem_of_getElem? hi)
theorem foldN_mod (n : List Nat) (hn : n.length = 5) (h : Below5 9223372036854775808 n) : lval (foldN n) % polyP = lval n % polyP := by
  have h1 := carN_val n hn h
  have h2 := overN_eq n hn h
  have h3 := getD_below h1.2 (by omega) 0
  have hl : lval n < 9223372036854775808 * 20282409905883129831204239441921 := by
    obtain ⟨a, b, c, d, e, rfl⟩ := five_of n hn
    rw [below5_five] at h
    rw [lval_five]
    omega
  have ho : overN n < 274877906944 := by omega
  unfold foldN
  rw [mulW_in 5 _ (by omega), lval_set0 _ (by rw [carN_length, hn]) _ (by omega), polyP_is]
  omega
/-- Behind two folds the limbs have no more than their bits, but for the first, which is at most 5 beyond them. -/
def Fine (n : List Nat) : Prop := n.length = 5 ∧ n.getD 0 0 < 67108869 ∧ ∀ i, 0 < i → n.getD i 0 < 67108864
theorem fine_five (a b c d e : Nat) (h : Fine [a, b, c, d, e]) : a < 67108869 ∧ b < 67108864 ∧ c < 67108864 ∧ d < 67108864 ∧ e < 67108864 := by
  obtain ⟨_, h0, h1⟩ := h
  exact ⟨h0, h1 1 (by omega), h1 2 (by omega), h1 3 (by omega), h1 4 (by omega)⟩
theorem fine_mk (a b c d e : Nat) (h : a < 67108869 ∧ b < 67108864 ∧ c < 67108864 ∧ d < 67108864 ∧ e < 67108864) : Fine [a, b, c, d, e] := by
  refine ⟨rfl, h.1, fun i hi => ?_⟩
  match i, hi with
  | 1, _ => exact h.2.1
  | 2, _ => exact h.2.2.1
  | 3, _ => exact h.2.2.2.1
  | 4, _ => exact h.2.2.2.2
  | i + 5, _ => show (0 : Nat) < _; omega
theorem Fine.below {n : List Nat} (h : Fine n) : Below5 67108869 n := by
  obtain ⟨a, b, c, d, e, rfl⟩ := five_of n h.1
  have := fine_five _ _ _ _ _ h
  rw [below5_five]
  omega
theorem fine_zero : Fine [0, 0, 0, 0, 0] := fine_mk _ _ _ _ _ (by omega)
theorem foldN_fine (n : List Nat) (hn : n.length = 5) (h : Below5 1152921504606846976 n) : Fine (foldN (foldN n)) := by
  have hb : Below5 9223372036854775808 n := fun x hx => by have := h x hx; omega
  have h1 := carN_val n hn hb
  have h2 := overN_eq n hn hb
  have hl : lval n < 1152921504606846976 * 20282409905883129831204239441921 := by
    obtain ⟨a, b, c, d, e, rfl⟩ := five_of n hn
    rw [below5_five] at h
    rw [lval_five]
    omega
  have ho : overN n < 34359738368 := by omega
  obtain ⟨a, b, c, d, e, hc⟩ := five_of (carN n) (by rw [carN_length, hn])
  have hc2 := h1.2
  rw [hc, below5_five] at hc2
  have e1 : foldN n = [a + 5 * overN n, b, c, d, e] := by
    unfold foldN
    rw [hc]
    show [addW a (mulW 5 (overN n)), b, c, d, e] = _
    rw [mulW_in 5 _ (by omega), addW_in _ _ (by omega)]
  rw [e1]
  generalize overN n = o at *
  have hb2 : Below5 9223372036854775808 [a + 5 * o, b, c, d, e] := by rw [below5_five]; omega
  have h3 := carN_val _ rfl hb2
  have h4 := overN_eq _ rfl hb2
  rw [lval_five] at h4
  have ho2 : overN [a + 5 * o, b, c, d, e] < 2 := by omega
  obtain ⟨a', b', c', d', e', hc'⟩ := five_of (carN [a + 5 * o, b, c, d, e]) (by rw [carN_length]; rfl)
  have hc3 := h3.2
  rw [hc', below5_five] at hc3
  unfold foldN
  rw [hc']
  show Fine [addW a' (mulW 5 (overN [a + 5 * o, b, c, d, e])), b', c', d', e']
  rw [mulW_in 5 _ (by omega), addW_in _ _ (by omega)]
  exact fine_mk _ _ _ _ _ (by omega)
theorem mulRow_0 (a0 a1 a2 a3 a4 b0 b1 b2 b3 b4 s0 s1 s2 s3 s4 : Nat) : mulRow [a0, a1, a2, a3, a4] [b0, b1, b2, b3, b4] 0 [s0, s1, s2, s3, s4] 5 = [addW s0 (mulW a0 b0), addW s1 (mulW a0 b1), addW s2 (mulW a0 b2), addW s3 (mulW a0 b3), addW s4 (mulW a0 b4)] := rfl
theorem mulRow_1 (a0 a1 a2 a3 a4 b0 b1 b2 b3 b4 s0 s1 s2 s3 s4 : Nat) : mulRow [a0, a1, a2, a3, a4] [b0, b1, b2, b3, b4] 1 [s0, s1, s2, s3, s4] 5 = [addW s0 (mulW (mulW a1 b4) 5), addW s1 (mulW a1 b0), addW s2 (mulW a1 b1), addW s3 (mulW a1 b2), addW s4 (mulW a1 b3)] := rfl
theorem mulRow_2 (a0 a1 a2 a3 a4 b0 b1 b2 b3 b4 s0 s1 s2 s3 s4 : Nat) : mulRow [a0, a1, a2, a3, a4] [b0, b1, b2, b3, b4] 2 [s0, s1, s2, s3, s4] 5 = [addW s0 (mulW (mulW a2 b3) 5), addW s1 (mulW (mulW a2 b4) 5), addW s2 (mulW a2 b0), addW s3 (mulW a2 b1), addW s4 (mulW a2 b2)] := rfl
theorem mulRow_3 (a0 a1 a2 a3 a4 b0 b1 b2 b3 b4 s0 s1 s2 s3 s4 : Nat) : mulRow [a0, a1, a2, a3, a4] [b0, b1, b2, b3, b4] 3 [s0, s1, s2, s3, s4] 5 = [addW s0 (mulW (mulW a3 b2) 5), addW s1 (mulW (mulW a3 b3) 5), addW s2 (mulW (mulW a3 b4) 5), addW s3 (mulW a3 b0), addW s4 (mulW a3 b1)] := rfl
theorem mulRow_4 (a0 a1 a2 a3 a4 b0 b1 b2 b3 b4 s0 s1 s2 s3 s4 : Nat) : mulRow [a0, a1, a2, a3, a4] [b0, b1, b2, b3, b4] 4 [s0, s1, s2, s3, s4] 5 = [addW s0 (mulW (mulW a4 b1) 5), addW s1 (mulW (mulW a4 b2) 5), addW s2 (mulW (mulW a4 b3) 5), addW s3 (mulW (mulW a4 b4) 5), addW s4 (mulW a4 b0)] := rfl
theorem mul_small (x y : Nat) (hx : x < 268435456) (hy : y < 67108864) : x * y < 18014398509481984 := by
  rcases Nat.eq_zero_or_pos y with rfl | hp
  · omega
  · exact Nat.mul_lt_mul'' hx hy
theorem mulW_one (x y : Nat) (hx : x < 268435456) (hy : y < 67108864) : mulW x y = x * y := mulW_in _ _ (by have := mul_small x y hx hy; omega)
theorem mulW_five (x y : Nat) (hx : x < 268435456) (hy : y < 67108864) : mulW (mulW x y) 5 = x * y * 5 := by
  rw [mulW_one x y hx hy]
  exact mulW_in _ _ (by have := mul_small x y hx hy; omega)
theorem addW_col (x0 x1 x2 x3 x4 : Nat) (h : x0 + x1 + x2 + x3 + x4 < 18446744073709551616) : addW (addW (addW (addW (addW 0 x0) x1) x2) x3) x4 = x0 + x1 + x2 + x3 + x4 := by
  rw [addW_in 0 x0 (by omega), Nat.zero_add, addW_in x0 x1 (by omega), addW_in _ x2 (by omega), addW_in _ x3 (by omega), addW_in _ x4 (by omega)]
theorem mulTo_all (a0 a1 a2 a3 a4 b0 b1 b2 b3 b4 : Nat) : mulTo [a0, a1, a2, a3, a4] [b0, b1, b2, b3, b4] 5 = [addW (addW (addW (addW (addW 0 (mulW a0 b0)) (mulW (mulW a1 b4) 5)) (mulW (mulW a2 b3) 5)) (mulW (mulW a3 b2) 5)) (mulW (mulW a4 b1) 5), addW (addW (addW (addW (addW 0 (mulW a0 b1)) (mulW a1 b0)) (mulW (mulW a2 b4) 5)) (mulW (mulW a3 b3) 5)) (mulW (mulW a4 b2) 5), addW (addW (addW (addW (addW 0 (mulW a0 b2)) (mulW a1 b1)) (mulW a2 b0)) (mulW (mulW a3 b4) 5)) (mulW (mulW a4 b3) 5), addW (addW (addW (addW (addW 0 (mulW a0 b3)) (mulW a1 b2)) (mulW a2 b1)) (mulW a3 b0)) (mulW (mulW a4 b4) 5), addW (addW (addW (addW (addW 0 (mulW a0 b4)) (mulW a1 b3)) (mulW a2 b2)) (mulW a3 b1)) (mulW a4 b0)] := by
  show mulRow _ _ 4 (mulRow _ _ 3 (mulRow _ _ 2 (mulRow _ _ 1 (mulRow _ _ 0 [0, 0, 0, 0, 0] 5) 5) 5) 5) 5 = _
  rw [mulRow_0, mulRow_1, mulRow_2, mulRow_3, mulRow_4]
theorem mulCol_0 (a0 a1 a2 a3 a4 b0 b1 b2 b3 b4 : Nat) (ha : a0 < 268435456 ∧ a1 < 268435456 ∧ a2 < 268435456 ∧ a3 < 268435456 ∧ a4 < 268435456) (hb : b0 < 67108864 ∧ b1 < 67108864 ∧ b2 < 67108864 ∧ b3 < 67108864 ∧ b4 < 67108864) :
    addW (addW (addW (addW (addW 0 (mulW a0 b0)) (mulW (mulW a1 b4) 5)) (mulW (mulW a2 b3) 5)) (mulW (mulW a3 b2) 5)) (mulW (mulW a4 b1) 5) = a0 * b0 + a1 * b4 * 5 + a2 * b3 * 5 + a3 * b2 * 5 + a4 * b1 * 5 ∧ a0 * b0 + a1 * b4 * 5 + a2 * b3 * 5 + a3 * b2 * 5 + a4 * b1 * 5 < 1152921504606846976 := by
  have q0 := mul_small a0 b0 (by omega) (by omega)
  have q1 := mul_small a1 b4 (by omega) (by omega)
  have q2 := mul_small a2 b3 (by omega) (by omega)
  have q3 := mul_small a3 b2 (by omega) (by omega)
  have q4 := mul_small a4 b1 (by omega) (by omega)
  rw [mulW_one a0 b0 (by omega) (by omega), mulW_five a1 b4 (by omega) (by omega), mulW_five a2 b3 (by omega) (by omega), mulW_five a3 b2 (by omega) (by omega), mulW_five a4 b1 (by omega) (by omega)]
  exact ⟨addW_col _ _ _ _ _ (by omega), by omega⟩
theorem mulCol_1 (a0 a1 a2 a3 a4 b0 b1 b2 b3 b4 : Nat) (ha : a0 < 268435456 ∧ a1 < 268435456 ∧ a2 < 268435456 ∧ a3 < 268435456 ∧ a4 < 268435456) (hb : b0 < 67108864 ∧ b1 < 67108864 ∧ b2 < 67108864 ∧ b3 < 67108864 ∧ b4 < 67108864) :
    addW (addW (addW (addW (addW 0 (mulW a0 b1)) (mulW a1 b0)) (mulW (mulW a2 b4) 5)) (mulW (mulW a3 b3) 5)) (mulW (mulW a4 b2) 5) = a0 * b1 + a1 * b0 + a2 * b4 * 5 + a3 * b3 * 5 + a4 * b2 * 5 ∧ a0 * b1 + a1 * b0 + a2 * b4 * 5 + a3 * b3 * 5 + a4 * b2 * 5 < 1152921504606846976 := by
  have q0 := mul_small a0 b1 (by omega) (by omega)
  have q1 := mul_small a1 b0 (by omega) (by omega)
  have q2 := mul_small a2 b4 (by omega) (by omega)
  have q3 := mul_small a3 b3 (by omega) (by omega)
  have q4 := mul_small a4 b2 (by omega) (by omega)
  rw [mulW_one a0 b1 (by omega) (by omega), mulW_one a1 b0 (by omega) (by omega), mulW_five a2 b4 (by omega) (by omega), mulW_five a3 b3 (by omega) (by omega), mulW_five a4 b2 (by omega) (by omega)]
  exact ⟨addW_col _ _ _ _ _ (by omega), by omega⟩
theorem mulCol_2 (a0 a1 a2 a3 a4 b0 b1 b2 b3 b4 : Nat) (ha : a0 < 268435456 ∧ a1 < 268435456 ∧ a2 < 268435456 ∧ a3 < 268435456 ∧ a4 < 268435456) (hb : b0 < 67108864 ∧ b1 < 67108864 ∧ b2 < 67108864 ∧ b3 < 67108864 ∧ b4 < 67108864) :
    addW (addW (addW (addW (addW 0 (mulW a0 b2)) (mulW a1 b1)) (mulW a2 b0)) (mulW (mulW a3 b4) 5)) (mulW (mulW a4 b3) 5) = a0 * b2 + a1 * b1 + a2 * b0 + a3 * b4 * 5 + a4 * b3 * 5 ∧ a0 * b2 + a1 * b1 + a2 * b0 + a3 * b4 * 5 + a4 * b3 * 5 < 1152921504606846976 := by
  have q0 := mul_small a0 b2 (by omega) (by omega)
  have q1 := mul_small a1 b1 (by omega) (by omega)
  have q2 := mul_small a2 b0 (by omega) (by omega)
  have q3 := mul_small a3 b4 (by omega) (by omega)
  have q4 := mul_small a4 b3 (by omega) (by omega)
  rw [mulW_one a0 b2 (by omega) (by omega), mulW_one a1 b1 (by omega) (by omega), mulW_one a2 b0 (by omega) (by omega), mulW_five a3 b4 (by omega) (by omega), mulW_five a4 b3 (by omega) (by omega)]
  exact ⟨addW_col _ _ _ _ _ (by omega), by omega⟩
theorem mulCol_3 (a0 a1 a2 a3 a4 b0 b1 b2 b3 b4 : Nat) (ha : a0 < 268435456 ∧ a1 < 268435456 ∧ a2 < 268435456 ∧ a3 < 268435456 ∧ a4 < 268435456) (hb : b0 < 67108864 ∧ b1 < 67108864 ∧ b2 < 67108864 ∧ b3 < 67108864 ∧ b4 < 67108864) :
    addW (addW (addW (addW (addW 0 (mulW a0 b3)) (mulW a1 b2)) (mulW a2 b1)) (mulW a3 b0)) (mulW (mulW a4 b4) 5) = a0 * b3 + a1 * b2 + a2 * b1 + a3 * b0 + a4 * b4 * 5 ∧ a0 * b3 + a1 * b2 + a2 * b1 + a3 * b0 + a4 * b4 * 5 < 1152921504606846976 := by
  have q0 := mul_small a0 b3 (by omega) (by omega)
  have q1 := mul_small a1 b2 (by omega) (by omega)
  have q2 := mul_small a2 b1 (by omega) (by omega)
  have q3 := mul_small a3 b0 (by omega) (by omega)
  have q4 := mul_small a4 b4 (by omega) (by omega)
  rw [mulW_one a0 b3 (by omega) (by omega), mulW_one a1 b2 (by omega) (by omega), mulW_one a2 b1 (by omega) (by omega), mulW_one a3 b0 (by omega) (by omega), mulW_five a4 b4 (by omega) (by omega)]
  exact ⟨addW_col _ _ _ _ _ (by omega), by omega⟩
theorem mulCol_4 (a0 a1 a2 a3 a4 b0 b1 b2 b3 b4 : Nat) (ha : a0 < 268435456 ∧ a1 < 268435456 ∧ a2 < 268435456 ∧ a3 < 268435456 ∧ a4 < 268435456) (hb : b0 < 67108864 ∧ b1 < 67108864 ∧ b2 < 67108864 ∧ b3 < 67108864 ∧ b4 < 67108864) :
    addW (addW (addW (addW (addW 0 (mulW a0 b4)) (mulW a1 b3)) (mulW a2 b2)) (mulW a3 b1)) (mulW a4 b0) = a0 * b4 + a1 * b3 + a2 * b2 + a3 * b1 + a4 * b0 ∧ a0 * b4 + a1 * b3 + a2 * b2 + a3 * b1 + a4 * b0 < 1152921504606846976 := by
  have q0 := mul_small a0 b4 (by omega) (by omega)
  have q1 := mul_small a1 b3 (by omega) (by omega)
  have q2 := mul_small a2 b2 (by omega) (by omega)
  have q3 := mul_small a3 b1 (by omega) (by omega)
  have q4 := mul_small a4 b0 (by omega) (by omega)
  rw [mulW_one a0 b4 (by omega) (by omega), mulW_one a1 b3 (by omega) (by omega), mulW_one a2 b2 (by omega) (by omega), mulW_one a3 b1 (by omega) (by omega), mulW_one a4 b0 (by omega) (by omega)]
  exact ⟨addW_col _ _ _ _ _ (by omega), by omega⟩
theorem mulTo_five (a0 a1 a2 a3 a4 b0 b1 b2 b3 b4 : Nat) (ha : Below5 268435456 [a0, a1, a2, a3, a4]) (hb : Below5 67108864 [b0, b1, b2, b3, b4]) :
    mulTo [a0, a1, a2, a3, a4] [b0, b1, b2, b3, b4] 5 = [a0 * b0 + a1 * b4 * 5 + a2 * b3 * 5 + a3 * b2 * 5 + a4 * b1 * 5, a0 * b1 + a1 * b0 + a2 * b4 * 5 + a3 * b3 * 5 + a4 * b2 * 5, a0 * b2 + a1 * b1 + a2 * b0 + a3 * b4 * 5 + a4 * b3 * 5, a0 * b3 + a1 * b2 + a2 * b1 + a3 * b0 + a4 * b4 * 5, a0 * b4 + a1 * b3 + a2 * b2 + a3 * b1 + a4 * b0] ∧ Below5 1152921504606846976 [a0 * b0 + a1 * b4 * 5 + a2 * b3 * 5 + a3 * b2 * 5 + a4 * b1 * 5, a0 * b1 + a1 * b0 + a2 * b4 * 5 + a3 * b3 * 5 + a4 * b2 * 5, a0 * b2 + a1 * b1 + a2 * b0 + a3 * b4 * 5 + a4 * b3 * 5, a0 * b3 + a1 * b2 + a2 * b1 + a3 * b0 + a4 * b4 * 5, a0 * b4 + a1 * b3 + a2 * b2 + a3 * b1 + a4 * b0] := by
  rw [below5_five] at ha hb
  have h0 := mulCol_0 a0 a1 a2 a3 a4 b0 b1 b2 b3 b4 ha hb
  have h1 := mulCol_1 a0 a1 a2 a3 a4 b0 b1 b2 b3 b4 ha hb
  have h2 := mulCol_2 a0 a1 a2 a3 a4 b0 b1 b2 b3 b4 ha hb
  have h3 := mulCol_3 a0 a1 a2 a3 a4 b0 b1 b2 b3 b4 ha hb
  have h4 := mulCol_4 a0 a1 a2 a3 a4 b0 b1 b2 b3 b4 ha hb
  refine ⟨?_, (below5_five _ _ _ _ _ _).2 ⟨h0.2, h1.2, h2.2, h3.2, h4.2⟩⟩
  rw [mulTo_all, h0.1, h1.1, h2.1, h3.1, h4.1]
theorem mul_mod (a0 a1 a2 a3 a4 b0 b1 b2 b3 b4 : Nat) :
    lval [a0 * b0 + a1 * b4 * 5 + a2 * b3 * 5 + a3 * b2 * 5 + a4 * b1 * 5, a0 * b1 + a1 * b0 + a2 * b4 * 5 + a3 * b3 * 5 + a4 * b2 * 5, a0 * b2 + a1 * b1 + a2 * b0 + a3 * b4 * 5 + a4 * b3 * 5, a0 * b3 + a1 * b2 + a2 * b1 + a3 * b0 + a4 * b4 * 5, a0 * b4 + a1 * b3 + a2 * b2 + a3 * b1 + a4 * b0] % polyP = lval [a0, a1, a2, a3, a4] * lval [b0, b1, b2, b3, b4] % polyP := by
  have e : lval [a0, a1, a2, a3, a4] * lval [b0, b1, b2, b3, b4] = lval [a0 * b0 + a1 * b4 * 5 + a2 * b3 * 5 + a3 * b2 * 5 + a4 * b1 * 5, a0 * b1 + a1 * b0 + a2 * b4 * 5 + a3 * b3 * 5 + a4 * b2 * 5, a0 * b2 + a1 * b1 + a2 * b0 + a3 * b4 * 5 + a4 * b3 * 5, a0 * b3 + a1 * b2 + a2 * b1 + a3 * b0 + a4 * b4 * 5, a0 * b4 + a1 * b3 + a2 * b2 + a3 * b1 + a4 * b0] + polyP * (a1 * b4 + a2 * b3 + a3 * b2 + a4 * b1 + 67108864 * (a2 * b4 + a3 * b3 + a4 * b2 + 67108864 * (a3 * b4 + a4 * b3 + 67108864 * (a4 * b4)))) := by
    rw [lval_five, lval_five, lval_five, polyP_is]
    grind
  rw [e, Nat.add_mul_mod_self_left]
theorem timesN_val (a b : List Nat) (ha : a.length = 5) (hb : b.length = 5) (hA : Below5 268435456 a) (hB : Below5 67108864 b) : Fine (timesN a b) ∧ lval (timesN a b) % polyP = lval a * lval b % polyP := by
  obtain ⟨a0, a1, a2, a3, a4, rfl⟩ := five_of a ha
  obtain ⟨b0, b1, b2, b3, b4, rfl⟩ := five_of b hb
  obtain ⟨e, hE⟩ := mulTo_five _ _ _ _ _ _ _ _ _ _ hA hB
  unfold timesN
  rw [e]
  have hb2 : Below5 9223372036854775808 [a0 * b0 + a1 * b4 * 5 + a2 * b3 * 5 + a3 * b2 * 5 + a4 * b1 * 5, a0 * b1 + a1 * b0 + a2 * b4 * 5 + a3 * b3 * 5 + a4 * b2 * 5, a0 * b2 + a1 * b1 + a2 * b0 + a3 * b4 * 5 + a4 * b3 * 5, a0 * b3 + a1 * b2 + a2 * b1 + a3 * b0 + a4 * b4 * 5, a0 * b4 + a1 * b3 + a2 * b2 + a3 * b1 + a4 * b0] := fun x hx => by have := hE x hx; omega
  have hm := mul_mod a0 a1 a2 a3 a4 b0 b1 b2 b3 b4
  generalize [a0 * b0 + a1 * b4 * 5 + a2 * b3 * 5 + a3 * b2 * 5 + a4 * b1 * 5, a0 * b1 + a1 * b0 + a2 * b4 * 5 + a3 * b3 * 5 + a4 * b2 * 5, a0 * b2 + a1 * b1 + a2 * b0 + a3 * b4 * 5 + a4 * b3 * 5, a0 * b3 + a1 * b2 + a2 * b1 + a3 * b0 + a4 * b4 * 5, a0 * b4 + a1 * b3 + a2 * b2 + a3 * b1 + a4 * b0] = s at *
  have hs : s.length = 5 := by rw [← e]; exact mulTo_length _ _ _
  refine ⟨foldN_fine s hs hE, ?_⟩
  have h1 := carN_val s hs hb2
  have hf : Below5 9223372036854775808 (foldN s) := by
    have h2 := overN_eq s hs hb2
    have hl : lval s < 1152921504606846976 * 20282409905883129831204239441921 := by
      obtain ⟨a, b, c, d, e, rfl⟩ := five_of s hs
      rw [below5_five] at hE
      rw [lval_five]
      omega
    have ho : overN s < 34359738368 := by omega
    obtain ⟨a, b, c, d, e, hc⟩ := five_of (carN s) (by rw [carN_length, hs])
    have hc2 := h1.2
    rw [hc, below5_five] at hc2
    unfold foldN
    rw [hc]
    show Below5 _ [addW a (mulW 5 (overN s)), b, c, d, e]
    rw [mulW_in 5 _ (by omega), addW_in _ _ (by omega), below5_five]
    omega
  rw [foldN_mod _ (by rw [foldN_length, hs]) hf, foldN_mod _ hs hb2, hm]
theorem leastN_val (n : List Nat) (h : Fine n) : lval (leastN n) = lval n % polyP ∧ Below5 67108864 (leastN n) := by
  obtain ⟨a, b, c, d, e, rfl⟩ := five_of n h.1
  have hf := fine_five _ _ _ _ _ h
  have e1 : moreN [a, b, c, d, e] = [a + 5, b, c, d, e] := by
    show [addW a 5, b, c, d, e] = _
    rw [addW_in _ _ (by omega)]
  have hm := overN_eq [a + 5, b, c, d, e] rfl (by rw [below5_five]; omega)
  rw [lval_five] at hm
  have ho : overN [a + 5, b, c, d, e] < 2 := by omega
  have e2 : lessN [a, b, c, d, e] = [a + 5 * overN [a + 5, b, c, d, e], b, c, d, e] := by
    unfold lessN
    rw [e1]
    show [addW a (mulW 5 (overN [a + 5, b, c, d, e])), b, c, d, e] = _
    rw [mulW_in 5 _ (by omega), addW_in _ _ (by omega)]
  unfold leastN
  rw [e2]
  have hm2 := hm.1
  clear hm e1 e2
  generalize overN [a + 5, b, c, d, e] = o at *
  have hb : Below5 9223372036854775808 [a + 5 * o, b, c, d, e] := by rw [below5_five]; omega
  have h3 := overN_eq _ rfl hb
  refine ⟨?_, (carN_val _ rfl hb).2⟩
  rw [h3.2, lval_five, lval_five, polyP_is]
  have hz : b + 67108864 * (c + 67108864 * (d + 67108864 * (e + 67108864 * 0))) < 20282409603651670423947251286016 := by omega
  obtain ⟨hfa, _⟩ := hf
  clear hb h3 h
  generalize b + 67108864 * (c + 67108864 * (d + 67108864 * (e + 67108864 * 0))) = z at *
  rcases (show o = 0 ∨ o = 1 by omega) with rfl | rfl
  · rw [Nat.mod_eq_of_lt (by omega), Nat.mod_eq_of_lt (by omega)]
    omega
  · have e1 : a + 5 * 1 + 67108864 * z = a + 67108864 * z - 1361129467683753853853498429727072845819 + 1361129467683753853853498429727072845824 := by omega
    have e2 : a + 67108864 * z = a + 67108864 * z - 1361129467683753853853498429727072845819 + 1361129467683753853853498429727072845819 := by omega
    rw [e1, Nat.add_mod_right, Nat.mod_eq_of_lt (by omega)]
    conv => rhs; rw [e2, Nat.add_mod_right, Nat.mod_eq_of_lt (by omega)]
end Go.Proofs.YtlhgabhjbnckkaaDoor
namespace Go.Proofs.YtlhgabhjbnckkaaDoor
open Go.RowKit
theorem lev_cons (u : UInt8) (l : List UInt8) : lev (u :: l) = u.toNat + 256 * lev l := rfl
theorem lev_rev (l : List UInt8) : bigN l.reverse = lev l := by
  induction l with
  | nil => rfl
  | cons u l ih => rw [List.reverse_cons, bigN_snoc, ih, lev_cons]; omega
theorem lev_drop (b : List UInt8) (f : Nat) (hf : f ≤ b.length) : lev (b.drop f) = lev b / 256 ^ f := by
  have h := lev_append (b.take f) (b.drop f)
  rw [List.take_append_drop] at h
  have hl : (b.take f).length = f := by rw [List.length_take]; omega
  have h2 := lev_lt (b.take f)
  rw [hl] at h h2
  rw [h, Nat.add_mul_div_left _ _ (Nat.pow_pos (by omega)), Nat.div_eq_of_lt h2, Nat.zero_add]
theorem lev_take (b : List UInt8) (f : Nat) (hf : f ≤ b.length) : lev (b.take f) = lev b % 256 ^ f := by
  have h := lev_append (b.take f) (b.drop f)
  rw [List.take_append_drop] at h
  have hl : (b.take f).length = f := by rw [List.length_take]; omega
  have h2 := lev_lt (b.take f)
  rw [hl] at h h2
  rw [h, Nat.add_mul_mod_self_left, Nat.mod_eq_of_lt h2]
/-- The limb i lies in four bytes from 26 i / 8 on. -/
theorem limb_window (b : List UInt8) (hb : b.length = 17) (i : Nat) (hi : i < 5) : bigN ((b.drop (i * 26 / 8)).take 4).reverse / 2 ^ (i * 26 % 8) % 67108864 = (limbsOf (lev b)).getD i 0 := by
  rw [lev_rev, lev_take _ _ (by rw [List.length_drop]; omega), lev_drop _ _ (by omega)]
  generalize lev b = x
  match i, hi with
  | 0, _ => show x / 1 % 4294967296 / 1 % 67108864 = x % 67108864; omega
  | 1, _ => show x / 16777216 % 4294967296 / 4 % 67108864 = x / 67108864 % 67108864; omega
  | 2, _ => show x / 281474976710656 % 4294967296 / 16 % 67108864 = x / 4503599627370496 % 67108864; omega
  | 3, _ => show x / 4722366482869645213696 % 4294967296 / 64 % 67108864 = x / 302231454903657293676544 % 67108864; omega
  | 4, _ => show x / 20282409603651670423947251286016 % 4294967296 / 1 % 67108864 = x / 20282409603651670423947251286016 % 67108864; omega
/-- k limbs are read. -/
def readTo (x k : Nat) : List Nat := (limbsOf x).take k ++ List.replicate (5 - k) 0
theorem readTo_length (x k : Nat) (hk : k ≤ 5) : (readTo x k).length = 5 := by
  rw [readTo, List.length_append, List.length_take, limbsOf_length, List.length_replicate]; omega
theorem readTo_zero (x : Nat) : readTo x 0 = [0, 0, 0, 0, 0] := rfl
theorem readTo_all (x : Nat) : readTo x 5 = limbsOf x := by
  rw [readTo, List.take_of_length_le (by rw [limbsOf_length]; omega)]; simp
theorem readTo_next (x k : Nat) (hk : k < 5) : (readTo x k).set k ((limbsOf x).getD k 0) = readTo x (k + 1) := by
  match k, hk with
  | 0, _ => rfl
  | 1, _ => rfl
  | 2, _ => rfl
  | 3, _ => rfl
  | 4, _ => rfl
/-- The byte i of a number whose limbs have no more than their bits. -/
def limbByte (n : List Nat) (i : Nat) : Nat := if i * 8 / 26 + 1 < 5 then n.getD (i * 8 / 26) 0 / 2 ^ (i * 8 % 26) + n.getD (i * 8 / 26 + 1) 0 * 2 ^ (26 - i * 8 % 26) else n.getD (i * 8 / 26) 0 / 2 ^ (i * 8 % 26)
theorem limbByte_is (n : List Nat) (hn : n.length = 5) (h : Below5 67108864 n) (i : Nat) (hi : i < 16) : limbByte n i % 256 = lval n / 256 ^ i % 256 := by
  obtain ⟨a, b, c, d, e, rfl⟩ := five_of n hn
  rw [below5_five] at h
  obtain ⟨ha, hb, hc, hd, he⟩ := h
  rw [lval_five]
  rcases (show i = 0 ∨ i = 1 ∨ i = 2 ∨ i = 3 ∨ i = 4 ∨ i = 5 ∨ i = 6 ∨ i = 7 ∨ i = 8 ∨ i = 9 ∨ i = 10 ∨ i = 11 ∨ i = 12 ∨ i = 13 ∨ i = 14 ∨ i = 15 by omega) with rfl | rfl | rfl | rfl | rfl | rfl | rfl | rfl | rfl | rfl | rfl | rfl | rfl | rfl | rfl | rfl
  · show (a / 1 + b * 67108864) % 256 = (a + 67108864 * (b + 67108864 * (c + 67108864 * (d + 67108864 * (e + 67108864 * 0))))) / 1 % 256; omega
  · show (a / 256 + b * 262144) % 256 = (a + 67108864 * (b + 67108864 * (c + 67108864 * (d + 67108864 * (e + 67108864 * 0))))) / 256 % 256; omega
  · show (a / 65536 + b * 1024) % 256 = (a + 67108864 * (b + 67108864 * (c + 67108864 * (d + 67108864 * (e + 67108864 * 0))))) / 65536 % 256; omega
  · show (a / 16777216 + b * 4) % 256 = (a + 67108864 * (b + 67108864 * (c + 67108864 * (d + 67108864 * (e + 67108864 * 0))))) / 16777216 % 256; omega
  · show (b / 64 + c * 1048576) % 256 = (a + 67108864 * (b + 67108864 * (c + 67108864 * (d + 67108864 * (e + 67108864 * 0))))) / 4294967296 % 256; omega
  · show (b / 16384 + c * 4096) % 256 = (a + 67108864 * (b + 67108864 * (c + 67108864 * (d + 67108864 * (e + 67108864 * 0))))) / 1099511627776 % 256; omega
  · show (b / 4194304 + c * 16) % 256 = (a + 67108864 * (b + 67108864 * (c + 67108864 * (d + 67108864 * (e + 67108864 * 0))))) / 281474976710656 % 256; omega
  · show (c / 16 + d * 4194304) % 256 = (a + 67108864 * (b + 67108864 * (c + 67108864 * (d + 67108864 * (e + 67108864 * 0))))) / 72057594037927936 % 256; omega
  · show (c / 4096 + d * 16384) % 256 = (a + 67108864 * (b + 67108864 * (c + 67108864 * (d + 67108864 * (e + 67108864 * 0))))) / 18446744073709551616 % 256; omega
  · show (c / 1048576 + d * 64) % 256 = (a + 67108864 * (b + 67108864 * (c + 67108864 * (d + 67108864 * (e + 67108864 * 0))))) / 4722366482869645213696 % 256; omega
  · show (d / 4 + e * 16777216) % 256 = (a + 67108864 * (b + 67108864 * (c + 67108864 * (d + 67108864 * (e + 67108864 * 0))))) / 1208925819614629174706176 % 256; omega
  · show (d / 1024 + e * 65536) % 256 = (a + 67108864 * (b + 67108864 * (c + 67108864 * (d + 67108864 * (e + 67108864 * 0))))) / 309485009821345068724781056 % 256; omega
  · show (d / 262144 + e * 256) % 256 = (a + 67108864 * (b + 67108864 * (c + 67108864 * (d + 67108864 * (e + 67108864 * 0))))) / 79228162514264337593543950336 % 256; omega
  · show (e / 1) % 256 = (a + 67108864 * (b + 67108864 * (c + 67108864 * (d + 67108864 * (e + 67108864 * 0))))) / 20282409603651670423947251286016 % 256; omega
  · show (e / 256) % 256 = (a + 67108864 * (b + 67108864 * (c + 67108864 * (d + 67108864 * (e + 67108864 * 0))))) / 5192296858534827628530496329220096 % 256; omega
  · show (e / 65536) % 256 = (a + 67108864 * (b + 67108864 * (c + 67108864 * (d + 67108864 * (e + 67108864 * 0))))) / 1329227995784915872903807060280344576 % 256; omega
end Go.Proofs.YtlhgabhjbnckkaaDoor
