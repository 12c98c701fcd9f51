/- Part 11 of what the laws of this seat share: KScAlive, QInts, QEven, QAdd, QTimes, QHalved, QMod, ALess, ARegion. -/
import Derived.Deep.Cut
import Derived.Deep.WholeRow
import Derived.IntWalk
import Derived.OrdersHeld
import Derived.Test.YticgkabamelddaaDoorPart10
namespace Go.Proofs.YticgkabamelddaaDoor
open Go.RowKit
theorem load_u8 {w : World} {g j : Nat} {z : Int} (h : w.cell? ⟨g, j, none⟩ = some (.int .u8 z)) : (Instr.loadAt 5 (.pointer (some ⟨g, j, none⟩))).run Tryd.prog w = .ok (.int .u8 z) w := by
  go_simp
def alive11Vs2 (gn : Nat) (k1 : List UInt8) (nb : List UInt8) : List Value :=
  (.bool false) :: (.pointer (some ⟨gn, 0, none⟩)) :: (hashVal k1) :: (hashVal nb) :: (.pointer (some ⟨gn, 0, none⟩)) :: (.int .u8 236) :: (.bool false) :: (.bool false) :: (.pointer (some ⟨gn, 31, none⟩)) :: (.int .u8 16) :: (.bool false) :: (.bool false) :: (.bool false) :: (hashVal nb) :: (.bool true) :: (.bool false) :: (.bool false) :: undef :: undef :: undef :: undef :: undef :: undef :: undef :: []
set_option maxRecDepth 100000 in
set_option maxHeartbeats 1000000 in
theorem alive11_over (k1 nb nc : List UInt8) (w : World)
    (Hnb : Hid (nb.length = 32))
    (Hnc : Hid (nc.length = 32))
    (HD0 : Hid ((nb.map cellOf)[0]? = some (.int .u8 236)))
    (HD31 : Hid ((nb.map cellOf)[31]? = some (.int .u8 16)))
    (HNC : Hid ((nb.map cellOf).set 0 (.int .u8 237) = nc.map cellOf))
    (BK : ∀ w, (Instr.build 25 #[(0, .int .u8 1)]).run Tryd.prog w = .ok (hashVal k1) w)
    (CN : Hid (∀ W, TabsS W → Calls Tryd.prog 15 #[hashVal k1] W fun e w' => e = .returned (hashVal nb) ∧ Below W.heap.size W w'))
    (CR : Hid (∀ W, TabsS W → Calls Tryd.prog 9 #[hashVal nb] W fun e w' => e = .returned (.bool true) ∧ Below W.heap.size W w'))
    (CQ : Hid (∀ W, TabsS W → Calls Tryd.prog 9 #[hashVal nc] W fun e w' => e = .returned (.bool false) ∧ Below W.heap.size W w'))
    (hS : TabsS w) :
    Calls Tryd.prog 6 #[] w fun e w' => e = .returned (.bool true) ∧ Below w.heap.size w w' := by
  go_enter Tryd.func6, Tryd.ntmps6
  go_wp2_with (first
    | (refine build_step rfl 25 _ rfl [(0, .int .u8 1)] rfl _ BK ?_
       try simp only [Act.put, List.setIfInBounds_toArray, List.set_cons_zero, List.set_cons_succ]
       skip))
  refine (CN.out w hS).mono ?_
  rintro e w1 ⟨rfl, hb1⟩
  have hB1 := hb1
  clear  hb1
  go_upto_region 2 with (first
    | (refine vput_step rfl rfl 25 (.tmp 1) (.tmp 3) rfl rfl 32 kzeros (nb.map cellOf) rfl rfl zero_k32 rfl size_k32 (by rw [List.length_map, Hnb.out]) (kcells_one _) ?_
       intro w2 hb2 hvn2
       have hB2 := below_then hB1 hb2
       have hgen : w.heap.size ≤ w1.heap.size := hB1.size
       clear hB1 hb2
       try simp only [Act.put, List.setIfInBounds_toArray, List.set_cons_zero, List.set_cons_succ]
       skip))
  generalize hqn : w1.heap.size = gn at *
  clear hqn
  refine wp_region_flat (md := .any) (by kernel_rfl) ?_
  refine wpAny_flatM (L := [0, 1, 2, 3, 4, 5, 6, 7, 8, 9, 10, 11, 12]) (by kernel_rfl) _ _ (alive11Vs2 gn k1 nb) [] 25 kzeros [0, 1, 2, 3, 17, 18, 19, 20, 21, 22, 23] (by kernel_rfl) (by kernel_rfl) ?_ zero_k32 ?_ (by rfl) ?_ 0 (by kernel_rfl) ?_
  · intro p hp
    exact absurd hp List.not_mem_nil
  · exact all_cons rfl (all_cons rfl (all_cons rfl (all_cons rfl (all_cons rfl (all_cons rfl (all_cons rfl (all_cons rfl (all_cons rfl (all_cons rfl (all_cons rfl (all_nil)))))))))))
  · refine all_cons (.inr (mStep _ 4 rfl rfl rfl rfl (by kernel_rfl) (fun a hv => wanted_all rfl _) (fun a w K hb hv hK => mPure (.pointer (some ⟨gn, 0, none⟩)) (exec_index _ _ _ _ _ rfl _ _ _ (hv 1 (by kernel_rfl) rfl) rfl w (by kernel_rfl)) hK))) ?_
    refine all_cons (.inr (mStep _ 5 rfl rfl rfl rfl (by kernel_rfl) (fun a hv => wanted_all rfl _) (fun a w K hb hv hK => mPure (.int .u8 236) (exec_load _ _ _ _ rfl _ _ (hv 4 (by kernel_rfl) rfl) w (load_u8 ((hvn2.on hb).get HD0.out))) hK))) ?_
    refine all_cons (.inr (mStep _ 6 rfl rfl rfl rfl (by kernel_rfl) (fun a hv => wanted_all rfl _) (fun a w K hb hv hK => mPure (.bool false) (exec_bin _ _ _ _ _ _ _ rfl (.int .u8 236) (.int .u8 236) _ (hv 5 (by kernel_rfl) rfl) (by rfl) w ((fun w => by kernel_rfl) w) ((fun w => by kernel_rfl) w)) hK))) ?_
    refine all_cons (.inr (mStep _ 7 rfl rfl rfl rfl (by kernel_rfl) (fun a hv => wanted_all rfl _) (fun a w K hb hv hK => mPure (.bool false) (exec_move _ _ _ (.inl rfl) _ (hv 6 (by kernel_rfl) rfl) w) hK))) ?_
    refine all_cons (.inr (mStep _ 8 rfl rfl rfl rfl (by kernel_rfl) (fun a hv => (wanted_is (j := 3) (b := false) (c := false) rfl rfl rfl (hv 7 (by kernel_rfl) rfl)).trans rfl) (fun a w K hb hv hK => mPure (.pointer (some ⟨gn, 31, none⟩)) (exec_index _ _ _ _ _ rfl _ _ _ (hv 1 (by kernel_rfl) rfl) rfl w (by kernel_rfl)) hK))) ?_
    refine all_cons (.inr (mStep _ 9 rfl rfl rfl rfl (by kernel_rfl) (fun a hv => (wanted_is (j := 3) (b := false) (c := false) rfl rfl rfl (hv 7 (by kernel_rfl) rfl)).trans rfl) (fun a w K hb hv hK => mPure (.int .u8 16) (exec_load _ _ _ _ rfl _ _ (hv 8 (by kernel_rfl) rfl) w (load_u8 ((hvn2.on hb).get HD31.out))) hK))) ?_
    refine all_cons (.inr (mStep _ 10 rfl rfl rfl rfl (by kernel_rfl) (fun a hv => (wanted_is (j := 3) (b := false) (c := false) rfl rfl rfl (hv 7 (by kernel_rfl) rfl)).trans rfl) (fun a w K hb hv hK => mPure (.bool false) (exec_bin _ _ _ _ _ _ _ rfl (.int .u8 16) (.int .u8 16) _ (hv 9 (by kernel_rfl) rfl) (by rfl) w ((fun w => by kernel_rfl) w) ((fun w => by kernel_rfl) w)) hK))) ?_
    refine all_cons (.inr (mStep _ 11 rfl rfl rfl rfl (by kernel_rfl) (fun a hv => wanted_all rfl _) (fun a w K hb hv hK => mPure (.bool false) (pick_false _ _ _ _ _ rfl (hv 7 (by kernel_rfl) rfl) (.bool false) (hv 10 (by kernel_rfl) rfl) w) hK))) ?_
    refine all_cons (.inr (mStep _ 12 rfl rfl rfl rfl (by kernel_rfl) (fun a hv => wanted_all rfl _) (fun a w K hb hv hK => mPure (.bool false) (exec_move _ _ _ (.inl rfl) _ (hv 11 (by kernel_rfl) rfl) w) hK))) ?_
    refine all_cons (.inr (mStep _ 13 rfl rfl rfl rfl (by kernel_rfl) (fun a hv => (wanted_is (j := 8) (b := false) (c := false) rfl rfl rfl (hv 12 (by kernel_rfl) rfl)).trans rfl) (fun a w K hb hv hK => mPure (hashVal nb) (exec_load _ _ _ _ rfl _ _ (hv 1 (by kernel_rfl) rfl) w (key_run (hvn2.on hb) Hnb.out)) hK))) ?_
    refine all_cons (.inr (mStep _ 14 rfl rfl rfl rfl (by kernel_rfl) (fun a hv => (wanted_is (j := 8) (b := false) (c := false) rfl rfl rfl (hv 12 (by kernel_rfl) rfl)).trans rfl) (fun a w K hb hv hK => mCall (.bool true) 9 _ _ rfl [hashVal nb] (cons_eq (hv 13 (by kernel_rfl) rfl) (rfl)) (enters Tryd.func9 rfl rfl) (CR.out w (hS.below (below_then hB2 hb))) hK))) ?_
    refine all_cons (.inr (mStep _ 15 rfl rfl rfl rfl (by kernel_rfl) (fun a hv => (wanted_is (j := 8) (b := false) (c := false) rfl rfl rfl (hv 12 (by kernel_rfl) rfl)).trans rfl) (fun a w K hb hv hK => mPure (.bool false) (exec_not _ _ _ _ rfl (true) (hv 14 (by kernel_rfl) rfl) w) hK))) ?_
    refine all_cons (.inr (mStep _ 16 rfl rfl rfl rfl (by kernel_rfl) (fun a hv => wanted_all rfl _) (fun a w K hb hv hK => mPure (.bool false) (pick_false _ _ _ _ _ rfl (hv 12 (by kernel_rfl) rfl) (.bool false) (hv 15 (by kernel_rfl) rfl) w) hK))) ?_
    exact all_nil
  intro w3 g hb3 hN3 hap3
  clear hN3 hap3
  have hB3 := below_then hB2 hb3
  have hvn3 := hvn2.on hb3
  clear hB2 hvn2 hb3
  refine ⟨by kernel_rfl, ?_⟩
  rename_i K hKK
  show Exit.then K _ Exit.normal (⟨(alive11Vs2 gn k1 nb).toArray, []⟩ : Act) w3
  simp only [Exit.then]
  refine hKK _ _ ?_
  clear hKK K g
  simp only [alive11Vs2]
  have d0 := hvn3.get HD0.out
  have hTT := hvn3.there 0 1 (by rw [List.length_map, Hnb.out]; decide)
  go_upto_region 5 with (first
    | (refine store_step rfl 5 _ _ rfl gn 0 .u8 237 rfl rfl size_u8 hTT ?_
       intro w52 hw52
       have hb52 : But gn w3 w52 := by rw [hw52]; exact (But.refl gn w3).setCells 0 [.int .u8 237]
       have hvn52 : Cells w52 gn (nc.map cellOf) 25 := by rw [hw52, ← HNC.out]; exact hvn3.set 0 _
       have hB52 := hB3.trans (hb52.below hgen hB3.size)
       clear hw52 hb52 hB3 hvn3 d0 hTT))
  go_wp2_with (first
    | (refine get_step rfl 25 (.tmp 1) rfl gn 32 nc 5 rfl hvn52 Tryd.underlying25 size_k32 Hnc.out ?_
       try simp only [Act.put, List.setIfInBounds_toArray, List.set_cons_zero, List.set_cons_succ]
       skip))
  refine (CQ.out w52 (hS.below hB52)).mono ?_
  rintro e w4 ⟨rfl, hb4⟩
  have hB4 := below_then hB52 hb4
  have hvn4 := hvn52.on hb4
  clear hB52 hvn52 hb4
  go_wp2
  go_ret
  exact ⟨rfl, hB4⟩
end Go.Proofs.YticgkabamelddaaDoor
namespace Go.Proofs.YticgkabamelddaaDoor
open Go.RowKit
/-- A digit as a cell holds it. -/
abbrev icell (x : Nat) : Value := .int .i64 (x : Int)
/-- The address A leads to these digits, in a block below B. -/
def RowI (w : World) (B : Nat) (A : Option Addr) (ds : List Nat) : Prop :=
  ds = [] ∨ ∃ b off, A = some ⟨b, off, none⟩ ∧ b < B ∧ ∀ j x, ds[j]? = some x → w.cell? ⟨b, off + j, none⟩ = some (icell x)
section
variable {w w' : World} {B B' : Nat} {A : Option Addr} {ds : List Nat}
theorem RowI.at (h : RowI w B A ds) (k : Nat) (hk : k < ds.length) : ∃ b off, A = some ⟨b, off, none⟩ ∧ b < B ∧ w.cell? ⟨b, off + k, none⟩ = some (icell (ds.getD k 0)) := by
  rcases h with rfl | ⟨b, off, hA, hb, hc⟩
  · simp at hk
  · exact ⟨b, off, hA, hb, hc k _ (by rw [List.getD_eq_getElem?_getD, List.getElem?_eq_getElem hk]; rfl)⟩
theorem RowI.more (h : RowI w B A ds) (hB : B ≤ B') : RowI w B' A ds := by
  rcases h with rfl | ⟨b, off, hA, hb, hc⟩
  · exact .inl rfl
  · exact .inr ⟨b, off, hA, by omega, hc⟩
theorem RowI.below (h : RowI w B A ds) (hb : Below B w w') : RowI w' B A ds := by
  rcases h with rfl | ⟨b, off, hA, hlt, hc⟩
  · exact .inl rfl
  · exact .inr ⟨b, off, hA, hlt, fun j u hu => (hb.cell hlt).trans (hc j u hu)⟩
theorem RowI.on (h : RowI w w.heap.size A ds) (hb : Below w.heap.size w w') : RowI w' w'.heap.size A ds := (h.below hb).more hb.size
theorem RowI.but {b : Nat} (h : RowI w B A ds) (hb : But b w w') (hB : B ≤ b) (hw : B ≤ w.heap.size) : RowI w' B A ds := by
  rcases h with rfl | ⟨b', off, hA, hlt, hc⟩
  · exact .inl rfl
  · exact .inr ⟨b', off, hA, hlt, fun j u hu => (World.cell?_of_block (w := w) (hb.block b' (by omega) (by omega))).trans (hc j u hu)⟩
theorem RowI.take (h : RowI w B A ds) (n : Nat) : RowI w B A (ds.take n) := by
  rcases h with rfl | ⟨b, off, hA, hb, hc⟩
  · exact .inl (by simp)
  · refine .inr ⟨b, off, hA, hb, fun j u hu => hc j u ?_⟩
    rw [List.getElem?_take] at hu
    split at hu
    · exact hu
    · cases hu
end
theorem size_i64 : (Tryd.prog.info? 3).map (·.size) = some 1 := by kernel_rfl
theorem i64_info : (Tryd.prog.info? 3).map (fun i => (i.zero, i.size, i.bytes)) = some (some (.int .i64 0), 1, 8) := by kernel_rfl
/-- So many digits of nought. (Named, so that a walk leaves them whole.) -/
def izeros (n : Nat) : List Value := List.replicate n (icell 0)
theorem izeros_map (n : Nat) : izeros n = (List.replicate n 0).map icell := by simp [izeros]
set_option maxRecDepth 100000 in
/-- 'make([]int, n)'. -/
theorem make_ints (n : Nat) (hn : n ≤ 1000000) (W : World) :
    (Instr.makeSlice 49 (.int .i64 (n : Int)) (.int .i64 (n : Int))).run Tryd.prog W = .ok (.slice (some ⟨W.heap.size, 0, none⟩) n n) (W.alloc (.cells (izeros n).toArray 3)) := by
  unfold izeros
  obtain ⟨i0, hi0, hz0, hz1, hz2⟩ := info_parts i64_info
  have h := run_make (P := Tryd.prog) W 49 3 i0 (.int .i64 0) Tryd.underlying49 hi0 hz0 .i64 .i64 n n (by omega) (by omega) (by rw [hz2]; omega) (by omega)
  rw [h, Int.toNat_natCast, hz1, Nat.mul_one]
  congr 3
  apply Array.ext_getElem?
  intro i
  simp only [madeCells, Value.cells]
  by_cases h : i < n
  · simp [h, Nat.mod_one]
  · simp [h]
/-- The slice v is a row of the call's own (blocks from base on) that begins with these digits. -/
def OwnsI (w : World) (base : Nat) (v : Value) (l : List Nat) : Prop := w.ownsRow base 3 1 v l.length (l.map icell)
section
variable {w w' : World} {base : Nat} {v : Value} {l : List Nat}
theorem OwnsI.lit (w : World) (l : List Nat) (hb : base ≤ w.heap.size) (hc : l.length ≤ 1000000) : OwnsI (w.alloc (.cells (l.map icell).toArray 3)) base (.slice (some ⟨w.heap.size, 0, none⟩) l.length l.length) l := by
  have h := World.ownsRow_lit (base := base) (e := 3) (size := 1) w (l.map icell).toArray l.length hb (by simp only [maxLen]; omega) (by simp)
  simp only at h ⊢
  exact h
theorem OwnsI.kept_alloc (h : OwnsI w base v l) (o : Obj) : OwnsI (w.alloc o) base v l := World.ownsRow.alloc h o
theorem OwnsI.far (h : OwnsI w base v l) : ∀ k, v.ownBlock = some k → base ≤ k := fun k hk => (World.ownsRow.lt h k hk).1
theorem OwnsI.form (h : OwnsI w base v l) : ∃ A c, v = .slice A l.length c ∧ l.length ≤ c ∧ c ≤ maxLen ∧ (A = none → c = 0) ∧ RowI w w.heap.size A l := by
  rcases h.2 with ⟨rfl, hn⟩ | ⟨g, cap, cur, rfl, hb, hg, hnc, hcm, _⟩
  · have : l = [] := List.eq_nil_of_length_eq_zero hn
    subst this
    exact ⟨none, 0, rfl, Nat.le_refl _, Nat.zero_le _, fun _ => rfl, .inl rfl⟩
  · refine ⟨_, cap, rfl, hnc, hcm, (fun h => by cases h), .inr ⟨g, 0, rfl, (World.ownsRow.lt h g rfl).2, fun j u hu => ?_⟩⟩
    have := World.ownsRow.cells h (g := g) rfl j (icell u) (by rw [List.getElem?_map, hu]; rfl)
    rwa [Go.WideShapes.add_plain] at this
/-- The row's block, known whole. -/
theorem OwnsI.cells (h : OwnsI w base v l) (hp : 0 < l.length) : ∃ g c rest, v = .slice (some ⟨g, 0, none⟩) l.length c ∧ base ≤ g ∧ l.length ≤ c ∧ c ≤ maxLen ∧ Cells w g (l.map icell ++ rest) 3 := by
  rcases h.2 with ⟨rfl, hn⟩ | ⟨g, cap, cur, rfl, hb, hg, hnc, hcm, hsz, htk⟩
  · omega
  · refine ⟨g, cap, cur.toList.drop l.length, rfl, hb, hnc, hcm, ?_⟩
    rw [Nat.mul_one] at htk
    unfold Cells
    rw [← htk, List.take_append_drop]
    exact hg
end
/-- 'append(s, us...)' of digits. -/
theorem append_ints {w : World} {ops : Array Oper} {rest : List Oper} {o : Oper} {a : Act} {Q : Exit → Act → World → Prop} (hgd : o.guard = none) (s x : Operand)
    (ho : o.op = .call { callee := .builtin .append, args := #[s, x], argTypes := #[49, 49] }) (base B : Nat)
    (v : Value) (l us : List Nat) (b off m c : Nat) (hs : a.eval s = v) (hown : OwnsI w base v l) (hx : a.eval x = .slice (some ⟨b, off, none⟩) m c) (hm : us.length = m) (hr : RowI w B (some ⟨b, off, none⟩) us)
    (hlen : l.length + us.length ≤ 1000000) (hbase : base ≤ w.heap.size)
    (h : ∀ v' w', OwnsI w' base v' (l ++ us) → Below base w w' → wpList Tryd.prog ops Q rest (a.put o.dst v') w') : wpList Tryd.prog ops Q (o :: rest) a w := by
  subst hm
  obtain ⟨i0, hi0, hz0, hz1, hz2⟩ := info_parts i64_info
  refine wpList_append_own w hgd s x 49 ho base 3 i0 _ 1 8 Tryd.underlying49 hi0 hz0 hz1 hz2 rfl (by omega) v l.length (l.map icell) hs hown ⟨b, off, none⟩ us.length c (us.map icell) hx (by simp) ?_ ?_ (by simp only [maxLen]; omega) (by omega) hbase ?_
  · intro j u hu
    rw [List.getElem?_map] at hu
    cases hj : us[j]? with
    | none => rw [hj] at hu; cases hu
    | some q =>
      rw [hj] at hu
      rcases hr with rfl | ⟨b', off', hb1, _, hc⟩
      · simp at hj
      · cases hb1
        rw [Addr.add_mid, hc j q hj]
        exact hu
  · intro u hu
    obtain ⟨q, _, rfl⟩ := List.mem_map.1 hu
    rfl
  · intro v' w' h2 h3 _
    refine h v' w' ?_ ((Below.refl _ _).grown h3 hbase (fun k hk => hown.far k hk))
    unfold OwnsI
    simpa using h2
/-- A literal's row. -/
theorem rowI_new (w : World) (l : List Nat) : RowI (w.alloc (.cells (l.map icell).toArray 3)) (w.heap.size + 1) (some ⟨w.heap.size, 0, none⟩) l := by
  refine .inr ⟨_, 0, rfl, by omega, fun j u hu => ?_⟩
  rw [Nat.zero_add]
  exact (Cells.new w (l.map icell).toArray 3).get (by simp [hu])
/-- 'a[:i]' of digits. -/
theorem slice_toI (b off n c i : Nat) (hi : i ≤ n) (hc : n ≤ c) (hp : 0 < c) (w : World) : (Instr.slice 49 (.slice (some ⟨b, off, none⟩) n c) none (some (.int .i64 (i : Int))) none).run Tryd.prog w = .ok (.slice (some ⟨b, off, none⟩) i c) w := by
  obtain ⟨i0, hi0, hs0⟩ := Option.map_eq_some_iff.1 size_i64
  have h4 : (i : Int) ≤ (c : Int) := by omega
  have h5 : ¬ c = 0 := by omega
  simp [Instr.slice, run_underlying Tryd.underlying49, Instr.sliceBounds, run_sliceBound, sizeOf, typeInfo, hi0, h4, h5, Addr.add_mid]
theorem dtrim_take (ds : List Nat) (k : Nat) (hk : k < ds.length) (h0 : ds.getD k 0 = 0) : dtrim (ds.take (k + 1)) = dtrim (ds.take k) := by
  have e : ds[k] = 0 := by rw [List.getD_eq_getElem?_getD, List.getElem?_eq_getElem hk] at h0; exact h0
  rw [take_snoc ds k hk, dtrim_snoc, if_pos e]
theorem dtrim_stop (ds : List Nat) (k : Nat) (hk : k < ds.length) (h0 : ds.getD k 0 ≠ 0) : dtrim (ds.take (k + 1)) = ds.take (k + 1) := by
  have e : ds[k] ≠ 0 := by rw [List.getD_eq_getElem?_getD, List.getElem?_eq_getElem hk] at h0; exact h0
  rw [take_snoc ds k hk, dtrim_snoc, if_neg e]
end Go.Proofs.YticgkabamelddaaDoor
namespace Go.Proofs.YticgkabamelddaaDoor
open Go.RowKit
/-- What a call answers that makes a row of these digits. -/
def GivesI (w : World) (ds : List Nat) (e : Ending) (w' : World) : Prop :=
  ∃ A c, e = .returned (.slice A ds.length c) ∧ (A = none → c = 0) ∧ ds.length ≤ c ∧ c ≤ maxLen ∧ RowI w' w'.heap.size A ds ∧ Below w.heap.size w w'
/-- How far a row is made even behind i digits: the digits, and what is carried. -/
def evenTo (a : List Nat) : Nat → List Nat × Nat
  | 0 => ([], 0)
  | i + 1 => ((evenTo a i).1 ++ [((evenTo a i).2 + a.getD i 0) % 256], ((evenTo a i).2 + a.getD i 0) / 256)
theorem evenTo_length (a : List Nat) : ∀ i, (evenTo a i).1.length = i
  | 0 => rfl
  | i + 1 => by rw [evenTo, List.length_append, evenTo_length a i]; rfl
theorem evenTo_lt (a : List Nat) : ∀ i, ∀ x ∈ (evenTo a i).1, x < 256
  | 0 => by intro x hx; cases hx
  | i + 1 => by
    intro x hx
    rw [evenTo, List.mem_append] at hx
    rcases hx with hx | hx
    · exact evenTo_lt a i x hx
    · obtain rfl := List.mem_singleton.1 hx
      omega
theorem evenTo_val (a : List Nat) : ∀ i, dval (evenTo a i).1 + 256 ^ i * ((evenTo a i).2 + dval (a.drop i)) = dval a
  | 0 => by simp [evenTo, dval]
  | i + 1 => by
    rw [evenTo, even_step _ i _ _ (evenTo_length a i), ← evenTo_val a i]
    congr 2
    rcases Nat.lt_or_ge i a.length with h | h
    · rw [dval_drop a i h, List.getD_eq_getElem?_getD, List.getElem?_eq_getElem h]
      show _ + a[i] + _ = _
      omega
    · rw [dval_drop_end a i h, dval_drop_end a (i + 1) (by omega), List.getD_eq_getElem?_getD, List.getElem?_eq_none h]
      rfl
/-- What is carried is small. -/
theorem evenTo_over (a : List Nat) (B : Nat) (hB : ∀ x ∈ a, x ≤ B) : ∀ i, (evenTo a i).2 ≤ B
  | 0 => Nat.zero_le _
  | i + 1 => by
    have h1 := evenTo_over a B hB i
    have h2 : a.getD i 0 ≤ B := by
      rw [List.getD_eq_getElem?_getD]
      cases hi : a[i]? with
      | none => exact Nat.zero_le _
      | some x => exact hB x (List.mem_of_getElem? hi)
    show ((evenTo a i).2 + a.getD i 0) / 256 ≤ B
    omega
theorem evenTo_end (a : List Nat) (i : Nat) (h : a.length ≤ i) (h0 : (evenTo a i).2 = 0) : dtrim (evenTo a i).1 = digs (dval a) := by
  have hv := evenTo_val a i
  rw [h0, dval_drop_end a i h] at hv
  rw [dtrim_digs _ (evenTo_lt a i), ← hv]
  simp
/-- Behind the row's end what is carried falls. -/
theorem evenTo_fall (a : List Nat) (i : Nat) (h : a.length ≤ i) : (evenTo a (i + 1)).2 = (evenTo a i).2 / 256 := by
  show ((evenTo a i).2 + a.getD i 0) / 256 = _
  rw [List.getD_eq_getElem?_getD, List.getElem?_eq_none h]
  rfl
theorem evenTo_stop (a : List Nat) (B : Nat) (hB : ∀ x ∈ a, x ≤ B) (hb : B < 256 ^ 6) (k : Nat) (hk : a.length ≤ k) (h : 0 < (evenTo a k).2) : k < a.length + 6 := by
  have key : ∀ j, (evenTo a (a.length + j)).2 ≤ B / 256 ^ j := by
    intro j
    induction j with
    | zero => simpa using evenTo_over a B hB a.length
    | succ j ih =>
      rw [← Nat.add_assoc, evenTo_fall a _ (by omega), Nat.pow_succ, ← Nat.div_div_eq_div_mul]
      exact Nat.div_le_div_right ih
  rcases Nat.lt_or_ge k (a.length + 6) with h1 | h1
  · exact h1
  · obtain ⟨j, rfl⟩ : ∃ j, k = a.length + j := ⟨k - a.length, by omega⟩
    have h2 := key j
    have h3 : 256 ^ 6 ≤ 256 ^ j := pow256_le (by omega)
    rw [Nat.div_eq_of_lt (by omega)] at h2
    omega
theorem sum_mod (x y : Nat) : ((x : Int) + (y : Int)) % 256 = (((x + y) % 256 : Nat) : Int) := by omega
theorem sum_div (x y : Nat) : ((x : Int) + (y : Int)) / 256 = (((x + y) / 256 : Nat) : Int) := by omega
theorem one_mod (x : Nat) : (x : Int) % 256 = ((x % 256 : Nat) : Int) := by omega
end Go.Proofs.YticgkabamelddaaDoor
namespace Go.Proofs.YticgkabamelddaaDoor
open Go.RowKit
/-- A row's digits raised by another's, k of them. -/
def addTo (s a : List Nat) : Nat → List Nat
  | 0 => s
  | k + 1 => (addTo s a k).set k ((addTo s a k).getD k 0 + a.getD k 0)
theorem addTo_length (s a : List Nat) : ∀ k, (addTo s a k).length = s.length
  | 0 => rfl
  | k + 1 => by rw [addTo, List.length_set, addTo_length]
theorem getD_get (l : List Nat) (k : Nat) (h : k < l.length) : l.getD k 0 = l[k] := by
  rw [List.getD_eq_getElem?_getD, List.getElem?_eq_getElem h]; rfl
theorem addTo_val (s a : List Nat) (h : a.length ≤ s.length) : ∀ k, k ≤ a.length → dval (addTo s a k) = dval s + dval (a.take k)
  | 0, _ => by rw [List.take_zero]; rfl
  | k + 1, hk => by
    have h1 : k < (addTo s a k).length := by rw [addTo_length]; omega
    rw [addTo, getD_get _ k h1, dval_set _ k _ h1, addTo_val s a h k (by omega), dval_take a k (by omega), getD_get a k (by omega)]
    omega
theorem getD_set_self_le (l : List Nat) (k z : Nat) : (l.set k z).getD k 0 ≤ z := by
  rw [List.getD_eq_getElem?_getD, List.getElem?_set]
  by_cases h : k < l.length <;> simp [h]
theorem getN_set_other (l : List Nat) (k i z : Nat) (h : k ≠ i) : (l.set k z).getD i 0 = l.getD i 0 := by
  rw [List.getD_eq_getElem?_getD, List.getElem?_set, if_neg h, List.getD_eq_getElem?_getD]
theorem getD_le (l : List Nat) (C k : Nat) (h : ∀ x ∈ l, x ≤ C) : l.getD k 0 ≤ C := by
  rw [List.getD_eq_getElem?_getD]
  cases hi : l[k]? with
  | none => exact Nat.zero_le _
  | some x => exact h x (List.mem_of_getElem? hi)
theorem mem_le (l : List Nat) (C : Nat) (h : ∀ i, l.getD i 0 ≤ C) : ∀ x ∈ l, x ≤ C := by
  intro x hx
  obtain ⟨i, hi, rfl⟩ := List.getElem_of_mem hx
  rw [← getD_get l i hi]
  exact h i
theorem addTo_le (s a : List Nat) (B C : Nat) (hs : ∀ x ∈ s, x ≤ B) (ha : ∀ x ∈ a, x ≤ C) : ∀ k i, (i < k → (addTo s a k).getD i 0 ≤ B + C) ∧ (k ≤ i → (addTo s a k).getD i 0 ≤ B)
  | 0, i => ⟨fun h => by omega, fun _ => getD_le s B i hs⟩
  | k + 1, i => by
    have h1 := addTo_le s a B C hs ha k i
    have h2 := (addTo_le s a B C hs ha k k).2 (Nat.le_refl _)
    have h3 := getD_le a C k ha
    rw [addTo]
    by_cases e : k = i
    · subst e
      have h4 := getD_set_self_le (addTo s a k) k ((addTo s a k).getD k 0 + a.getD k 0)
      exact ⟨fun _ => by omega, fun h => by omega⟩
    · rw [getN_set_other _ _ _ _ e]
      exact ⟨fun h => h1.1 (by omega), fun h => h1.2 (by omega)⟩
theorem iset_map (l : List Nat) (k x : Nat) : (l.map icell).set k (icell x) = (l.set k x).map icell := by rw [List.map_set]
theorem int_at (l : List Nat) (k : Nat) (hk : k < l.length) : (l.map icell)[k]? = some (icell (l.getD k 0)) := by
  rw [List.getElem?_map, List.getD_eq_getElem?_getD, List.getElem?_eq_getElem hk]
  rfl
theorem Cells.rowI {w : World} {g : Nat} {l : List Nat} {t : TypeId} (h : Cells w g (l.map icell) t) : RowI w w.heap.size (some ⟨g, 0, none⟩) l :=
  .inr ⟨g, 0, rfl, h.lt, fun j u hu => by rw [Nat.zero_add]; exact h.get (by rw [List.getElem?_map, hu]; rfl)⟩
end Go.Proofs.YticgkabamelddaaDoor
namespace Go.Proofs.YticgkabamelddaaDoor
open Go.RowKit
/-- A row of a product: x times the digits of b, from place i on. -/
def rowTo (s b : List Nat) (i x : Nat) : Nat → List Nat
  | 0 => s
  | j + 1 => (rowTo s b i x j).set (i + j) ((rowTo s b i x j).getD (i + j) 0 + x * b.getD j 0)
theorem rowTo_length (s b : List Nat) (i x : Nat) : ∀ j, (rowTo s b i x j).length = s.length
  | 0 => rfl
  | j + 1 => by rw [rowTo, List.length_set, rowTo_length]
theorem row_ring (p q x d b : Nat) : p * x * (d + q * b) = p * x * d + p * q * (x * b) := by grind
theorem rowTo_val (s b : List Nat) (i x : Nat) : ∀ j, j ≤ b.length → i + j ≤ s.length → dval (rowTo s b i x j) = dval s + 256 ^ i * x * dval (b.take j)
  | 0, _, _ => by rw [List.take_zero]; simp [dval, rowTo]
  | j + 1, hj, hs => by
    have h1 : i + j < (rowTo s b i x j).length := by rw [rowTo_length]; omega
    rw [rowTo, getD_get _ _ h1, dval_set _ _ _ h1, rowTo_val s b i x j (by omega) (by omega), dval_take b j (by omega), getD_get b j (by omega), row_ring, Nat.pow_add]
    omega
theorem rowTo_le (s b : List Nat) (i x B : Nat) (hs : ∀ p, s.getD p 0 ≤ B) (hx : x ≤ 255) (hb : ∀ z ∈ b, z ≤ 255) : ∀ j p, (p < i + j → (rowTo s b i x j).getD p 0 ≤ B + 65025) ∧ (i + j ≤ p → (rowTo s b i x j).getD p 0 ≤ B)
  | 0, p => ⟨fun _ => by have := hs p; show s.getD p 0 ≤ _; omega, fun _ => hs p⟩
  | j + 1, p => by
    have h1 := rowTo_le s b i x B hs hx hb j p
    have h2 := (rowTo_le s b i x B hs hx hb j (i + j)).2 (Nat.le_refl _)
    have h3 : x * b.getD j 0 ≤ 255 * 255 := Nat.mul_le_mul hx (getD_le b 255 j hb)
    rw [rowTo]
    by_cases e : i + j = p
    · subst e
      have h4 := getD_set_self_le (rowTo s b i x j) (i + j) ((rowTo s b i x j).getD (i + j) 0 + x * b.getD j 0)
      exact ⟨fun _ => by omega, fun h => by omega⟩
    · rw [getN_set_other _ _ _ _ e]
      exact ⟨fun h => h1.1 (by omega), fun h => h1.2 (by omega)⟩
def prodTo (a b : List Nat) : Nat → List Nat
  | 0 => List.replicate (a.length + b.length) 0
  | i + 1 => rowTo (prodTo a b i) b i (a.getD i 0) b.length
theorem prodTo_length (a b : List Nat) : ∀ i, (prodTo a b i).length = a.length + b.length
  | 0 => by rw [prodTo, List.length_replicate]
  | i + 1 => by rw [prodTo, rowTo_length, prodTo_length]
theorem prodTo_le (a b : List Nat) (ha : ∀ z ∈ a, z ≤ 255) (hb : ∀ z ∈ b, z ≤ 255) : ∀ i p, (prodTo a b i).getD p 0 ≤ 65025 * i
  | 0, p => getD_le _ _ p (by intro z hz; rw [List.eq_of_mem_replicate hz]; exact Nat.zero_le _)
  | i + 1, p => by
    have h := rowTo_le (prodTo a b i) b i (a.getD i 0) _ (prodTo_le a b ha hb i) (getD_le a 255 i ha) hb b.length p
    rw [prodTo]
    rcases Nat.lt_or_ge p (i + b.length) with h1 | h1
    · have := h.1 h1; omega
    · have := h.2 h1; omega
theorem prod_ringQ (p x d y : Nat) : (d + p * x) * y = d * y + p * x * y := by grind
theorem prodTo_val (a b : List Nat) : ∀ i, i ≤ a.length → dval (prodTo a b i) = dval (a.take i) * dval b
  | 0, _ => by rw [prodTo, dval_zeros, List.take_zero]; simp [dval]
  | i + 1, hi => by
    rw [prodTo, rowTo_val _ _ _ _ _ (Nat.le_refl _) (by rw [prodTo_length]; omega), prodTo_val a b i (by omega), List.take_of_length_le (Nat.le_refl _), dval_take a i (by omega), getD_get a i (by omega), prod_ringQ]
end Go.Proofs.YticgkabamelddaaDoor
namespace Go.Proofs.YticgkabamelddaaDoor
open Go.RowKit
/-- What a call answers that gives two rows of digits. -/
def GivesTwo (w : World) (hs ls : List Nat) (e : Ending) (w' : World) : Prop :=
  ∃ A c B d, e = .returned (.tuple #[.slice A hs.length c, .slice B ls.length d]) ∧ RowI w' w'.heap.size A hs ∧ hs.length ≤ c ∧ c ≤ maxLen ∧ RowI w' w'.heap.size B ls ∧ ls.length ≤ d ∧ d ≤ maxLen ∧ Below w.heap.size w w'
theorem rowI_cells {w : World} {g : Nat} {l : List Nat} {rest : List Value} {t : TypeId} (h : Cells w g (l.map icell ++ rest) t) : RowI w w.heap.size (some ⟨g, 0, none⟩) l :=
  .inr ⟨g, 0, rfl, h.lt, fun j u hu => by
    rw [Nat.zero_add]
    refine h.get ?_
    have hj : j < l.length := (List.getElem?_eq_some_iff.1 hu).1
    rw [List.getElem?_append_left (by rw [List.length_map]; exact hj), List.getElem?_map, hu]; rfl⟩
/-- The digits above the low 130 bits, j of them. -/
def hTo (ds : List Nat) (j : Nat) : List Nat := (List.range j).map fun i => ds.getD (16 + i) 0 / 4 + ds.getD (16 + i + 1) 0 % 4 * 64
theorem hTo_all (ds : List Nat) : hTo ds (ds.length - 16) = dshift (ds.drop 16) := by
  apply List.ext_getElem
  · rw [dshift_length, List.length_drop, hTo, List.length_map, List.length_range]
  · intro i h1 h2
    have h3 : i < (ds.drop 16).length := by rw [dshift_length] at h2; exact h2
    have h4 : 16 + i < ds.length := by rw [List.length_drop] at h3; omega
    rw [dshift_get _ i h3]
    simp only [hTo, List.getElem_map, List.getElem_range]
    rw [getD_get ds _ h4, List.getElem_drop]
    congr 3
    rw [List.getD_eq_getElem?_getD, List.getD_eq_getElem?_getD, List.getElem?_drop]
    rfl
end Go.Proofs.YticgkabamelddaaDoor
namespace Go.Proofs.YticgkabamelddaaDoor
open Go.RowKit
theorem named {α : Type} (a : α) : ∃ z, Hid (a = z) := ⟨a, rfl⟩
theorem digs_five : digs 5 = [5] := by rw [digs_pos (by decide), show 5 / 256 = 0 from rfl, digs_zero]
/-- What a call answers that gives a row of digits. -/
def GivesR (w : World) (ds : List Nat) (e : Ending) (w' : World) : Prop :=
  ∃ A c, e = .returned (.slice A ds.length c) ∧ ds.length ≤ c ∧ c ≤ maxLen ∧ RowI w' w'.heap.size A ds ∧ Below w.heap.size w w'
/-- A row's digit, and its number, read off the world. -/
def digAt (w : World) : Option Addr → Nat → Nat
  | none, _ => 0
  | some a, j => match w.cell? ⟨a.block, a.off + j, none⟩ with
    | some (.int _ i) => i.toNat
    | _ => 0
def numOf (w : World) : Value → Nat
  | .slice A n _ => dval ((List.range n).map (digAt w A))
  | _ => 0
theorem numOf_row {w : World} {B : Nat} {A : Option Addr} {ds : List Nat} (c : Nat) (h : RowI w B A ds) : numOf w (.slice A ds.length c) = dval ds := by
  show dval ((List.range ds.length).map (digAt w A)) = dval ds
  congr 1
  rcases h with rfl | ⟨b, off, rfl, hb, hc⟩
  · rfl
  · apply List.ext_getElem
    · simp
    · intro i h1 h2
      have h3 := hc i ds[i] (List.getElem?_eq_getElem h2)
      simp only [List.getElem_map, List.getElem_range, digAt, h3]
      rfl
end Go.Proofs.YticgkabamelddaaDoor
namespace Go.Proofs.YticgkabamelddaaDoor
open Go.RowKit
theorem below_drewN {B : Nat} {w w' : World} (h : Below B w w') (n : Nat) : Below B w (w'.drewN n) := ⟨h.os, h.tape, h.output, h.size, h.block⟩
theorem OwnsI.keep {w w' : World} {base : Nat} {v : Value} {l : List Nat} (h : OwnsI w base v l) (hk : ∀ g, v.ownBlock = some g → w'.heap[g]? = w.heap[g]?) : OwnsI w' base v l := by
  obtain ⟨h1, h2⟩ := h
  refine ⟨h1, ?_⟩
  rcases h2 with h2 | ⟨g, cap, cur, hv, hg, hh, r⟩
  · exact .inl h2
  · refine .inr ⟨g, cap, cur, hv, hg, ?_, r⟩
    rw [hk g (by rw [hv]; rfl)]
    exact hh
theorem OwnsI.on {w w' : World} {base : Nat} {v : Value} {l : List Nat} (h : OwnsI w base v l) (hb : Below w.heap.size w w') : OwnsI w' base v l :=
  h.keep fun g hg => hb.block g (World.ownsRow.lt h g hg).2
/-- What a call answers that makes the order's digits. -/
def GivesOrd (w : World) (e : Ending) (w' : World) : Prop :=
  ∃ g, e = .returned (.slice (some ⟨g, 0, none⟩) 32 32) ∧ w.heap.size ≤ g ∧ Cells w' g (ordD.map icell) 3 ∧ Below w.heap.size w w'
set_option maxRecDepth 100000 in
theorem modulus_any (w : World) : Calls Tryd.prog 21 #[] w (GivesOrd w) := by
  go_enter Tryd.func21, Tryd.ntmps21
  go_wp2
  go_ret
  exact ⟨w.heap.size, rfl, Nat.le_refl _, Cells.new w _ _, (Below.refl _ _).alloc (Nat.le_refl _) _⟩
set_option maxRecDepth 100000 in
set_option maxHeartbeats 1000000 in
theorem less_over (A : Option Addr) (c : Nat) (xs ls : List Nat) (r : Bool) (w : World) (HL : Hid (xs.length = 33)) (HLS : Hid (ls.length = 33)) (hr : RowI w w.heap.size A xs) (HS : Hid (0 :: ordD = ls))
    (HF : Hid (∀ k, k < 33 → xs.take k = ls.take k → xs.getD k 0 ≠ ls.getD k 0 → decide (xs.getD k 0 < ls.getD k 0) = r)) (HE : Hid (xs.take 33 = ls.take 33 → r = false)) (HT : Hid (∀ k, k < 33 → xs.take k = ls.take k → xs.getD k 0 = ls.getD k 0 → xs.take (k + 1) = ls.take (k + 1))) :
    Calls Tryd.prog 22 #[.slice A 33 c] w fun e w' => e = .returned (.bool r) ∧ Below w.heap.size w w' := by
  have HO := Lib.hid (OwnsI.lit (base := w.heap.size) w [0] (Nat.le_refl _) (by decide))
  have hB0 : Below w.heap.size w (w.alloc (.cells ([0].map icell).toArray 3)) := (Below.refl _ _).alloc (Nat.le_refl _) _
  go_enter Tryd.func22, Tryd.ntmps22
  go_wp2_with fail
  change Below w.heap.size w (w.alloc (.cells #[.int .i64 0] 3)) at hB0
  have HO2 : Hid (OwnsI (w.alloc (.cells #[.int .i64 0] 3)) w.heap.size (.slice (some ⟨w.heap.size, 0, none⟩) 1 1) [0]) := HO.out
  clear HO
  generalize w.alloc (.cells #[.int .i64 0] 3) = w0 at *
  refine (modulus_any w0).mono ?_
  rintro e w1 ⟨g, rfl, hg, hC, hB1⟩
  have hO1 := HO2.out.on hB1
  have hB2 := below_then hB0 hB1
  have hz := hB2.size
  have hgl := hC.lt
  clear HO2 hB0 hB1 hg
  have hrow : RowI w1 (g + 1) (some ⟨g, 0, none⟩) ordD := .inr ⟨g, 0, rfl, by omega, fun j x hx => by rw [Nat.zero_add]; exact hC.get (by rw [List.getElem?_map, hx]; rfl)⟩
  go_wp2_with (first
    | (at_builtin
       refine append_ints rfl (.tmp 5) (.tmp 6) rfl w.heap.size (g + 1) _ [0] ordD g 0 32 32 rfl hO1 rfl rfl hrow (by decide) hz ?_
       intro v2 w2 hown2 hB3))
  obtain ⟨A2, c2, rfl, hc2, hcm, -, hr2⟩ := hown2.form
  have hB4 : Below w.heap.size w w2 := hB2.trans hB3
  have hrx := (hr.below hB4).more hB4.size
  clear hown2 hO1 hrow hC hB2 hB3 hgl hz
  change RowI w2 w2.heap.size A2 (0 :: ordD) at hr2
  rw [HS.out] at hr2
  clear HS
  have hlen : ([0] ++ ordD).length = 33 := rfl
  rw [hlen] at hc2 ⊢
  go_wp2_with fail
  go_loopw [4, 10] (fun _ i wr => ∃ k : Nat, k ≤ 33 ∧ i = .int .i64 k ∧ Hid (xs.take k = ls.take k) ∧ Below w2.heap.size w2 wr) (fun _ i _ => 33 - (intOf i).toNat)
  case atStart => exact ⟨0, Nat.zero_le _, rfl, by show _ = _; rw [List.take_zero, List.take_zero], Below.refl _ _⟩
  case round =>
    obtain ⟨k, hk, rfl, HK, hB⟩ := hrel
    have HFk := Lib.hid (HF.out k)
    have HTk := Lib.hid (HT.out k)
    clear HF HT
    by_cases hlt : k < 33
    · obtain ⟨b, off, rfl, hb, hcell⟩ := (hrx.on hB).at k (by rw [HL.out]; exact hlt)
      obtain ⟨b2, off2, rfl, hb2, hcell2⟩ := (hr2.on hB).at k (by rw [HLS.out]; exact hlt)
      have HF2 := Lib.hid (HFk.out hlt HK.out)
      have HT2 := Lib.hid (HTk.out hlt HK.out)
      clear HFk HTk
      have i1 : (k : Int) < 33 := by omega
      have hcd := hcell
      have hcd2 := hcell2
      generalize xs.getD k 0 = x at *
      generalize ls.getD k 0 = y at *
      by_cases hxy : x = y
      · have e1 : (x : Int) = (y : Int) := by omega
        have HT3 := Lib.hid (HT2.out hxy)
        go_wp2_with fail
        go_quiet (fail)
        go_wp2_with fail
        go_roundw
        case rel => exact ⟨k + 1, by omega, by go_num, HT3, below_drewN hB _⟩
        case measure => simp [intOf]; omega
      · have e1 : ¬ (x : Int) = (y : Int) := by omega
        have HF3 := Lib.hid (HF2.out hxy)
        go_wp2_with fail
        go_quiet (fail)
        go_wp2_with fail
        go_quiet (fail)
        go_wp2_with fail
        go_ret
        exact ⟨by rw [← HF3.out]; rfl, below_then hB4 (below_drewN (below_drewN hB _) _)⟩
    · obtain rfl : k = 33 := by omega
      have HR := Lib.hid (HE.out HK.out)
      rw [show ((33 : Nat) : Int) = 33 from rfl]
      go_wp2_with fail
      go_ret
      exact ⟨by rw [HR.out]; rfl, below_then hB4 hB⟩
theorem less_any (A : Option Addr) (c : Nat) (xs : List Nat) (w : World) (hl : xs.length = 33) (hd : Dig xs) (hr : RowI w w.heap.size A xs) :
    Calls Tryd.prog 22 #[.slice A 33 c] w fun e w' => e = .returned (.bool (decide (hval xs < NP.LL))) ∧ Below w.heap.size w w' := by
  refine less_over A c xs (0 :: ordD) _ w hl rfl hr rfl (fun k hk ht hne => ?_) (fun ht => ?_) (fun k hk ht he => ?_)
  · have h := hval_first xs (0 :: ordD) k hl hd ordD_dig (by omega) ht hne
    rw [ordD_val] at h
    congr 1
    exact propext h.symm
  · rw [List.take_of_length_le (by omega), List.take_of_length_le (by decide)] at ht
    rw [ht, ordD_val]
    exact decide_eq_false (Nat.lt_irrefl _)
  · rw [take_snoc xs k (by omega), take_snoc (0 :: ordD) k (by exact hk), ht]
    rw [getD_get xs k (by omega), getD_get (0 :: ordD) k (by exact hk)] at he
    rw [he]
end Go.Proofs.YticgkabamelddaaDoor
namespace Go.Proofs.YticgkabamelddaaDoor
open Go.RowKit
section
variable {w : World} {o : Oper} {a : Act} {K : Act → World → Prop} {Q : Exit → Act → World → Prop}
/-- 'append(s, us...)' of digits. -/
theorem wp_append_ints (s x : Operand)
    (ho : o.op = .call { callee := .builtin .append, args := #[s, x], argTypes := #[49, 49] }) (base B : Nat)
    (v : Value) (l us : List Nat) (b off m c : Nat) (hs : a.eval s = v) (hown : OwnsI w base v l) (hx : a.eval x = .slice (some ⟨b, off, none⟩) m c) (hm : us.length = m) (hr : RowI w B (some ⟨b, off, none⟩) us)
    (hlen : l.length + us.length ≤ 1000000) (hbase : base ≤ w.heap.size)
    (h : ∀ v' w', OwnsI w' base v' (l ++ us) → Below base w w' → (∀ g, v.ownBlock = some g → But g w w') → K (a.put o.dst v') w') : o.wp Tryd.prog a w K Q := by
  subst hm
  obtain ⟨i0, hi0, hz0, hz1, hz2⟩ := info_parts i64_info
  refine wp_append_own w s x 49 ho base 3 i0 _ 1 8 Tryd.underlying49 hi0 hz0 hz1 hz2 rfl (by omega) v l.length (l.map icell) hs hown ⟨b, off, none⟩ us.length c (us.map icell) hx (by simp) ?_ ?_ (by simp only [maxLen]; omega) (by omega) hbase ?_
  · intro j u hu
    rw [List.getElem?_map] at hu
    cases hj : us[j]? with
    | none => rw [hj] at hu; cases hu
    | some q =>
      rw [hj] at hu
      rcases hr with rfl | ⟨b', off', hb1, _, hc⟩
      · simp at hj
      · cases hb1
        rw [Addr.add_mid, hc j q hj]
        exact hu
  · intro u hu
    obtain ⟨q, _, rfl⟩ := List.mem_map.1 hu
    rfl
  · intro v' w' h2 h3 _
    refine h v' w' ?_ ((Below.refl _ _).grown h3 hbase (fun k hk => hown.far k hk)) (fun g hg => ⟨h3.os, h3.tape, h3.output, h3.size, fun k hk hne => h3.block k hk (fun e => hne (Option.some.inj (e.trans hg)))⟩)
    unfold OwnsI
    simpa using h2
/-- A literal of a slice. -/
theorem wp_slice_lit {P : Program} {K : Act → World → Prop} {Q : Exit → Act → World → Prop} (t : TypeId) (n : Nat) (parts : List (Nat × Operand)) (ho : o.op = .buildSlice t n parts.toArray) (ps : List (Nat × Value)) (hp : (parts.map fun (i, x) => (i, a.eval x)) = ps) (e : TypeId) (vs : Array Value)
    (hr : ∀ w, (Instr.buildSlice t n ps.toArray).run P w = .ok (.slice (some ⟨w.heap.size, 0, none⟩) n n) (w.alloc (.cells vs e)))
    (h : K (a.put o.dst (.slice (some ⟨w.heap.size, 0, none⟩) n n)) (w.alloc (.cells vs e))) : o.wp P a w K Q := by
  unfold Oper.wp
  simp only [execOp, ho, List.map_toArray, hp, hr, Sem.run_bind, Sem.run_pure, Result.andThen_ok]
  exact h
end
theorem lit_none (w : World) : (Instr.buildSlice 49 0 #[]).run Tryd.prog w = .ok (.slice (some ⟨w.heap.size, 0, none⟩) 0 0) (w.alloc (.cells #[] 3)) := by kernel_rfl
theorem lit_one (x : Nat) (w : World) : (Instr.buildSlice 49 1 #[(0, icell x)]).run Tryd.prog w = .ok (.slice (some ⟨w.heap.size, 0, none⟩) 1 1) (w.alloc (.cells ([x].map icell).toArray 3)) := by kernel_rfl
theorem exec_cut {a : Act} {o : Oper} (x : Operand) (h : o.op = .slice 49 x (some (.const (.int .i64 1))) none none) (g c : Nat) (hc : 33 ≤ c) (hx : a.eval x = .slice (some ⟨g, 0, none⟩) 33 c) (w : World) : (execOp a.eval o).run Tryd.prog w = .ok (.value (.slice (some ⟨g, 1, none⟩) 32 (c - 1))) w := by
  have hc1 : ¬ c = 1 := by omega
  obtain ⟨i0, hi0, hs0⟩ := Option.map_eq_some_iff.1 size_i64
  have hu : Tryd.prog.underlying 49 = some (.slice 3) := Tryd.underlying49
  have hrun : (Instr.sliceAt 49 (.slice (some ⟨g, 0, none⟩) 33 c) (some (.int .i64 1)) none none).run Tryd.prog w = .ok (.slice (some ⟨g, 1, none⟩) 32 (c - 1)) w := by
    have h1 : (Instr.sliceAt 49 (.slice (some ⟨g, 0, none⟩) 33 c) (some (.int .i64 1)) none none).run Tryd.prog w = (Instr.slice 49 (.slice (some ⟨g, 0, none⟩) 33 c) (some (.int .i64 1)) none none).run Tryd.prog w := by
      simp [Instr.sliceAt, run_underlying hu]
    rw [h1]
    simp [Instr.slice, run_underlying hu, Instr.sliceBounds, run_sliceBound, sizeOf, typeInfo, hi0, hs0, Addr.add, hc1]
  have he : (execOp a.eval o) = (do let v ← Instr.sliceAt 49 (a.eval x) (some (.int .i64 1)) none none; pure (.value v)) := by
    unfold execOp
    rw [h]
    rfl
  rw [he, hx, Sem.run_bind, hrun]
  rfl
theorem exec_at {a : Act} {o : Oper} (x y : Operand) (h : o.op = .indexAddr 29 x y) (b off n c k : Nat) (hk : k < n) (hx : a.eval x = .slice (some ⟨b, off, none⟩) n c) (hy : a.eval y = .int .i64 (k : Int)) (w : World) : (execOp a.eval o).run Tryd.prog w = .ok (.value (.pointer (some ⟨b, off + k, none⟩))) w := by
  have i1 : (0 : Int) ≤ (k : Int) := by omega
  have i2 : (k : Int) < (n : Int) := by omega
  refine exec_index _ _ _ _ _ h _ _ _ hx hy w ?_
  go_simp
theorem exec_byte {a : Act} {o : Oper} (x : Operand) (h : o.op = .load 5 x) (p : Addr) (q : UInt8) (hx : a.eval x = .pointer (some p)) (w : World) (hc : w.cell? p = some (cellOf q)) : (execOp a.eval o).run Tryd.prog w = .ok (.value (cellOf q)) w := by
  refine exec_load _ _ _ _ h _ _ hx w ?_
  go_simp
theorem exec_conv8 {a : Act} {o : Oper} (x : Operand) (h : o.op = .convert 5 3 x) (q : UInt8) (hx : a.eval x = cellOf q) (w : World) : (execOp a.eval o).run Tryd.prog w = .ok (.value (icell q.toNat)) w := by
  have j1 : IntKind.i64.wrap (q.toNat : Int) = (q.toNat : Int) := IntWalk.i64_in _ (by have := q.toNat_lt; omega)
  simp only [execOp, h, hx]
  go_simp
/-- An operator whose run is known. -/
theorem bin_stepA {P : Program} {w : World} {ops : Array Oper} {rest : List Oper} {o : Oper} {a : Act} {Q : Exit → Act → World → Prop} (hgd : o.guard = none) (b : BinOp) (t t2 : TypeId) (x y : Operand) (ho : o.op = .binOp b t x y t2) (vx vy v : Value) (hx : a.eval x = vx) (hy : a.eval y = vy) (hg : ∀ w, (eqGuard b t x y vx vy).run P w = .ok () w) (hr : ∀ w, (binOp b t vx vy).run P w = .ok v w)
    (h : wpList P ops Q rest (a.put o.dst v) w) : wpList P ops Q (o :: rest) a w := by
  refine wpList_plain hgd fun K hK => ?_
  exact flat_pure v (exec_bin _ _ _ _ _ _ _ ho _ _ _ hx hy w (hg w) (hr w)) (hK _ _ h)
theorem less_nought (x : Int) (b : Bool) (h : decide (x < 0) = b) (w : World) : (binOp .lss 3 (.int .i64 x) (.int .i64 0)).run Tryd.prog w = .ok (.bool b) w := by
  rw [← h]; kernel_rfl
theorem less_guard (x : Int) (w : World) (p q : Operand) : (eqGuard .lss 3 p q (.int .i64 x) (.int .i64 0)).run Tryd.prog w = .ok () w := by kernel_rfl
theorem row_one {w : World} {g x : Nat} (hc : w.cell? ⟨g, 0, none⟩ = some (icell x)) (hg : g < w.heap.size) : RowI w w.heap.size (some ⟨g, 0, none⟩) [x] :=
  .inr ⟨g, 0, rfl, hg, fun j u hu => by
    match j with
    | 0 => cases hu; exact hc
    | j + 1 => cases hu⟩
theorem cell_but {w w' : World} {b g : Nat} {v : Value} (hb : But b w w') (hg : g < w.heap.size) (hne : g ≠ b) (hc : w.cell? ⟨g, 0, none⟩ = some v) : w'.cell? ⟨g, 0, none⟩ = some v :=
  (World.cell?_of_block (w := w) (hb.block g hg hne)).trans hc
theorem cell_alloc {w : World} {g : Nat} {v : Value} (o : Obj) (hg : g < w.heap.size) (hc : w.cell? ⟨g, 0, none⟩ = some v) : (w.alloc o).cell? ⟨g, 0, none⟩ = some v :=
  (World.cell?_of_block (w := w) (Below.heap_alloc _ _ _ hg)).trans hc
theorem cell_lit (w : World) (x : Nat) : (w.alloc (.cells ([x].map icell).toArray 3)).cell? ⟨w.heap.size, 0, none⟩ = some (icell x) :=
  (Cells.new w ([x].map icell).toArray 3).get rfl
end Go.Proofs.YticgkabamelddaaDoor
