/- Part 9 of what the laws of this seat share: FRoot, FRead, FBytes. -/
import Derived.Test.YtoggkhjaghkpnaaDoorPart8
namespace Go.Proofs.YtoggkhjaghkpnaaDoor
open Go.RowKit
/-- A function whose results are a struct or an array in a block of its own, and a plain value. -/
theorem sret2 {P : Program} {fn : Func} {R : Ending → World → Prop} {a : Act} {w : World} {p u : Tmp} {ty : TypeId} {d : TypeDesc} {n : Nat} (hres : fn.results = #[.cell p ty, .tmp u]) (g : Nat) (vs : List Value) (v : Value)
    (hp : a.tmps.getD p undef = .pointer (some ⟨g, 0, none⟩)) (hv : a.tmps.getD u undef = v) (hg : Cells w g vs ty) (hu : P.underlying ty = some d) (hd : (match d with | .struct _ | .array _ _ => true | _ => false) = true) (hi : (P.info? ty).map (·.size) = some n) (hl : vs.length = n)
    (hdf : a.defers = []) (hR : R (.returned (.tuple #[.agg vs.toArray, v])) w) : bodyPost P fn R .ret a w := by
  have hp' : a.tmps[p]?.getD undef = .pointer (some ⟨g, 0, none⟩) := by simpa using hp
  have hv' : a.tmps[u]?.getD undef = v := by simpa using hv
  have hrun : (results fn a.tmps).run P w = .ok (.tuple #[.agg vs.toArray, v]) w := by
    simp [results, hres, hp', hv', asAddr, run_loadVar_row w g ty ty vs.toArray (0, 0) _ hg hu hd (by rw [List.size_toArray, hl]; exact hi)]
  exact bodyPost_ret hrun hdf hR
set_option maxRecDepth 100000 in
theorem pickE_over (yes : Bool) (a b : List Nat) (w : World) (HA : Hid (a.length = 5)) (HB : Hid (b.length = 5)) :
    Calls Tryd.prog 84 #[.bool yes, numVal a, numVal b] w (gvn (numVal (if yes then a else b)) w) := by
  go_enter Tryd.func84, Tryd.ntmps84
  cases yes
  all_goals
    go_wp2_with (first
      | (refine vtake_step rfl 44 (.tmp 1) rfl (a.map ncell) rfl ?_
         intro w1 hB1 hA1
         try simp only [putS]
         skip)
      | (refine vtake_step rfl 44 (.tmp 2) rfl (b.map ncell) rfl ?_
         intro w2 hb2 hC2
         have hB2 := below_then hB1 hb2
         have hA2 := hA1.on hb2
         clear hB1 hA1 hb2
         try simp only [putS]
         skip)
      | (refine vzero_step rfl 44 rfl (nzeros 5) zero_elem ?_
         intro w3 hb3 hZ3
         have hB3 := below_then hB2 hb3
         have hA3 := hA2.on hb3
         have hC3 := hC2.on hb3
         have hle := hB2.size
         clear hB2 hA2 hC2 hb3
         try simp only [putS]
         skip)
      | (refine sget_step rfl 44 (.tmp 4) rfl w.heap.size 5 (a.map ncell) rfl hA3 Tryd.underlying44 rfl size_elem (by rw [List.length_map, HA.out]) ?_
         try simp only [putS]
         skip)
      | (refine sget_step rfl 44 (.tmp 5) rfl w1.heap.size 5 (b.map ncell) rfl hC3 Tryd.underlying44 rfl size_elem (by rw [List.length_map, HB.out]) ?_
         try simp only [putS]
         skip)
      | (refine vset_step rfl 44 _ _ rfl w2.heap.size 5 (nzeros 5) (a.map ncell) rfl rfl hZ3 rfl size_elem (by rw [List.length_map, HA.out]) (ncells_one _) ?_
         intro w6 hb6 hC6 _
         skip)
      | (refine vset_step rfl 44 _ _ rfl w2.heap.size 5 (nzeros 5) (b.map ncell) rfl rfl hZ3 rfl size_elem (by rw [List.length_map, HB.out]) (ncells_one _) ?_
         intro w6 hb6 hC6 _
         skip))
    first
    | exact sret Tryd.results84 w2.heap.size (a.map ncell) rfl hC6 Tryd.underlying44 rfl size_elem (by rw [List.length_map, HA.out]) rfl ⟨rfl, hB3.trans (hb6.below hle hB3.size)⟩
    | exact sret Tryd.results84 w2.heap.size (b.map ncell) rfl hC6 Tryd.underlying44 rfl size_elem (by rw [List.length_map, HB.out]) rfl ⟨rfl, hB3.trans (hb6.below hle hB3.size)⟩
theorem pickE_any (yes : Bool) (n m : Nat) (w : World) : Calls Tryd.prog 84 #[.bool yes, elV n, elV m] w (gvn (elV (if yes then n else m)) w) := by
  have h := pickE_over yes (limb5 n) (limb5 m) w rfl rfl
  cases yes <;> exact h
def rootVs1 (a o s q r0 _r1 _p0 _p1 _ng _pk _z _u : List Nat) (ga gz _gn : Nat) (_b1 _b2 _od : Bool) : List Value :=
  (numVal a) :: ptr ga :: ptr gz :: (.bool false) :: (undef) :: (numVal a) :: (numVal o) :: (numVal s) :: (numVal a) :: (numVal q) :: (numVal r0) :: ud 22 []

def rootVs2 (a o s q r0 _r1 p0 _p1 _ng _pk _z _u : List Nat) (ga gz gn : Nat) (b1 _b2 _od : Bool) : List Value :=
  (numVal a) :: ptr ga :: ptr gz :: (.bool false) :: ptr gn :: (numVal a) :: (numVal o) :: (numVal s) :: (numVal a) :: (numVal q) :: (numVal r0) :: (numVal r0) :: (numVal p0) :: (numVal a) :: (.bool b1) :: (.bool (!b1)) :: ud 17 []

def rootVs4a (a o s q r0 _r1 p0 p1 _ng _pk _z _u : List Nat) (ga gz gn : Nat) (_b1 b2 _od : Bool) : List Value :=
  (numVal a) :: ptr ga :: ptr gz :: (.bool false) :: ptr gn :: (numVal a) :: (numVal o) :: (numVal s) :: (numVal a) :: (numVal q) :: (numVal r0) :: (numVal r0) :: (numVal p0) :: (numVal a) :: (.bool true) :: (.bool (!true)) :: ud 4 ((numVal r0) :: (numVal p1) :: (numVal a) :: (.bool b2) :: (.bool (!b2)) :: ud 8 [])

def rootVs6a (a o s q r0 _r1 p0 p1 ng pk z _u : List Nat) (ga gz gn : Nat) (_b1 _b2 od : Bool) : List Value :=
  (numVal a) :: ptr ga :: ptr gz :: (.bool false) :: ptr gn :: (numVal a) :: (numVal o) :: (numVal s) :: (numVal a) :: (numVal q) :: (numVal r0) :: (numVal r0) :: (numVal p0) :: (numVal a) :: (.bool true) :: (.bool (!true)) :: ud 4 ((numVal r0) :: (numVal p1) :: (numVal a) :: (.bool true) :: (.bool (!true)) :: undef :: (numVal r0) :: (.bool od) :: (numVal z) :: (numVal r0) :: (numVal ng) :: (numVal r0) :: (numVal pk) :: [])

def rootVs4b (a o s q r0 r1 p0 p1 _ng _pk _z u : List Nat) (ga gz gn : Nat) (_b1 b2 _od : Bool) : List Value :=
  (numVal a) :: ptr ga :: ptr gz :: (.bool false) :: ptr gn :: (numVal a) :: (numVal o) :: (numVal s) :: (numVal a) :: (numVal q) :: (numVal r0) :: (numVal r0) :: (numVal p0) :: (numVal a) :: (.bool false) :: (.bool (!false)) :: (numVal r0) :: (numVal u) :: (numVal u) :: (numVal r1) :: (numVal r1) :: (numVal p1) :: (numVal a) :: (.bool b2) :: (.bool (!b2)) :: ud 8 []

def rootVs6b (a o s q r0 r1 p0 p1 ng pk z u : List Nat) (ga gz gn : Nat) (_b1 _b2 od : Bool) : List Value :=
  (numVal a) :: ptr ga :: ptr gz :: (.bool false) :: ptr gn :: (numVal a) :: (numVal o) :: (numVal s) :: (numVal a) :: (numVal q) :: (numVal r0) :: (numVal r0) :: (numVal p0) :: (numVal a) :: (.bool false) :: (.bool (!false)) :: (numVal r0) :: (numVal u) :: (numVal u) :: (numVal r1) :: (numVal r1) :: (numVal p1) :: (numVal a) :: (.bool true) :: (.bool (!true)) :: undef :: (numVal r1) :: (.bool od) :: (numVal z) :: (numVal r1) :: (numVal ng) :: (numVal r1) :: (numVal pk) :: []
set_option maxRecDepth 100000 in
set_option maxHeartbeats 1000000 in
theorem root_over (a o s q r0 r1 rt p0 p1 ng pk z u : List Nat) (b1 b2 od : Bool) (w : World) (HA : Hid (a.length = 5)) (H0 : Hid (r0.length = 5)) (H1 : Hid (r1.length = 5)) (HPL : Hid (pk.length = 5)) (HZL : Hid (z.length = 5)) (HUL : Hid (u.length = 5))
    (HT : Hid (b1 = true → rt = r0)) (HF : Hid (b1 = false → rt = r1)) (hU : Tab w 10 (u.map ncell)) (HN : ∀ w, (Instr.build 44 #[]).run Tryd.prog w = .ok (numVal z) w) (BU : ∀ w, (Instr.build 44 #[(0, numVal u)]).run Tryd.prog w = .ok (numVal u) w)
    (CO : Hid (∀ W, Calls Tryd.prog 71 #[numVal a] W (gvn (numVal o) W)))
    (CS : Hid (∀ W, Calls Tryd.prog 70 #[numVal o, .int .i64 2] W (gvn (numVal s) W)))
    (CQ : Hid (∀ W, Calls Tryd.prog 60 #[numVal a] W (gvn (numVal q) W)))
    (CR : Hid (∀ W, Calls Tryd.prog 43 #[numVal s, numVal q] W (gvn (numVal r0) W)))
    (CP0 : Hid (∀ W, Calls Tryd.prog 60 #[numVal r0] W (gvn (numVal p0) W)))
    (CB1 : Hid (∀ W, Calls Tryd.prog 83 #[numVal p0, numVal a] W (gvn (.bool b1) W)))
    (CT : Hid (∀ W, Calls Tryd.prog 43 #[numVal r0, numVal u] W (gvn (numVal r1) W)))
    (CP1 : Hid (∀ W, Calls Tryd.prog 60 #[numVal rt] W (gvn (numVal p1) W)))
    (CB2 : Hid (∀ W, Calls Tryd.prog 83 #[numVal p1, numVal a] W (gvn (.bool b2) W)))
    (COD : Hid (∀ W, Calls Tryd.prog 45 #[numVal rt] W (gvn (.bool od) W)))
    (CNG : Hid (∀ W, Calls Tryd.prog 39 #[numVal z, numVal rt] W (gvn (numVal ng) W)))
    (CPK : Hid (∀ W, Calls Tryd.prog 84 #[.bool od, numVal ng, numVal rt] W (gvn (numVal pk) W))) :
    Calls Tryd.prog 63 #[numVal a] w fun e w' => (b2 = true → e = .returned (.tuple #[numVal pk, .bool true]) ∧ Below w.heap.size w w') ∧ (b2 = false → e = .returned (.tuple #[numVal z, .bool false]) ∧ Below w.heap.size w w') := by
  have hUl := hU.lt
  go_enter Tryd.func63, Tryd.ntmps63
  go_wp2_with (first
    | (refine vtake_step rfl 44 (.tmp 0) rfl (a.map ncell) rfl ?_
       intro w1 hB1 hAa
       try simp only [putS]
       skip)
    | (refine vzero_step rfl 44 rfl (nzeros 5) zero_elem ?_
       intro w9 hb hZ
       have hB := below_then hB1 hb
       have hle := hB1.size
       have hla := hAa.lt
       replace hAa := hAa.on hb
       clear hB1 hb
       try simp only [putS]
       skip))
  generalize hgz : w1.heap.size = gz at *
  clear hgz
  refine wp_region_any (by kernel_rfl) ?_
  refine wpAny_flatNew (L := [0, 1, 2, 3, 4, 5, 6]) (by kernel_rfl) _ _ (rootVs1 a o s q r0 r1 p0 p1 ng pk z u w.heap.size gz 0 b1 b2 od) [0, 1, 2, 3, 11, 12, 13, 14, 15, 16, 17, 18, 19, 20, 21, 22, 23, 24, 25, 26, 27, 28, 29, 30, 31, 32] (by kernel_rfl) 6 4 44 (nzeros 5) _ rfl rfl rfl rfl zero_elem (by kernel_rfl) (by kernel_rfl) (by kernel_rfl) (by kernel_rfl) ?_ (by rfl) ?_ 1 (by kernel_rfl) ?_
  · repeat refine all_cons rfl ?_
    exact all_nil
  · change ∀ i ∈ _, _ ∨ StepOk _ _ _ _ _ w9.drew _ i
    refine all_cons (.inr (sL 5 rfl fun w hb => elem_run (hAa.drew.on hb) HA.out)) ?_
    refine all_cons (.inr (sC 6 rfl Tryd.func71 fun w hb => CO.out w)) ?_
    refine all_cons (.inr (sC 7 rfl Tryd.func70 fun w hb => CS.out w)) ?_
    refine all_cons (.inr (sL 8 rfl fun w hb => elem_run (hAa.drew.on hb) HA.out)) ?_
    refine all_cons (.inr (sC 9 rfl Tryd.func60 fun w hb => CQ.out w)) ?_
    refine all_cons (.inr (sC 10 rfl Tryd.func43 fun w hb => CR.out w)) ?_
    refine all_cons (.inl rfl) ?_
    exact all_nil
  intro w4 gn hb4 hgn hN4
  have hB4 := below_then (show Below w.heap.size w w9.drew from hB.drew) hb4
  have hZ4 := hZ.drew.on hb4
  have hA4 := hAa.drew.on hb4
  have hG4 : Tab w4 10 (u.map ncell) := hU.below hB4 hUl
  have hzl := hZ.lt
  replace hgn : w9.heap.size ≤ gn := hgn
  refine wpAny_rest 7 rfl (by kernel_rfl) ?_
  refine vset_step rfl 44 (.tmp 4) (.tmp 10) rfl gn 5 (nzeros 5) (r0.map ncell) rfl rfl hN4 rfl size_elem (by rw [List.length_map, H0.out]) (ncells_one _) ?_
  intro w5 hb5 hE5 hz5
  have hB5 := hB4.trans (hb5.below (by omega) hB4.size)
  have hZ5 := hZ4.but hb5 (by omega)
  have hA5 := hA4.but hb5 (by omega)
  have hG5 := hG4.but hb5 (by omega)
  generalize hF : (⟨((rootVs1 a o s q r0 r1 p0 p1 ng pk z u w.heap.size gz 0 b1 b2 od).set 4 (.pointer (some ⟨gn, 0, none⟩))).toArray, []⟩ : Act) = F
  rename_i K hKK
  show Exit.then K _ Exit.normal (F.put none undef) w5
  simp only [Exit.then]
  refine hKK _ _ ?_
  subst hF
  change Code.wp _ _ _ (⟨((rootVs1 a o s q r0 r1 p0 p1 ng pk z u w.heap.size gz 0 b1 b2 od).set 4 (.pointer (some ⟨gn, 0, none⟩))).toArray, []⟩ : Act) w5
  clear hb4 hb5 hB4 hZ4 hN4 hA4 hG4 hB hZ hAa CO CS CQ CR hU hKK K
  refine wp_seq_k fun K2 hK2 => ?_
  refine wp_seq_k fun K3 hK3 => ?_
  refine wp_region_any (by kernel_rfl) ?_
  refine wpAny_flatAt (L := [0, 1, 2, 3, 4]) (by kernel_rfl) _ _ (rootVs2 a o s q r0 r1 p0 p1 ng pk z u w.heap.size gz gn b1 b2 od) [0, 1, 2, 3, 4, 5, 6, 7, 8, 9, 10, 16, 17, 18, 19, 20, 21, 22, 23, 24, 25, 26, 27, 28, 29, 30, 31, 32] (by kernel_rfl) ?_ (by rfl) ?_ 0 (by kernel_rfl) ?_
  · repeat refine all_cons rfl ?_
    exact all_nil
  · change ∀ i ∈ _, StepOk _ _ _ _ _ w5.drew _ i
    refine all_cons (sL 11 rfl fun w hb => elem_run (hE5.drew.on hb) H0.out) ?_
    refine all_cons (sC 12 rfl Tryd.func60 fun w hb => CP0.out w) ?_
    refine all_cons (sL 13 rfl fun w hb => elem_run (hA5.drew.on hb) HA.out) ?_
    refine all_cons (sC 14 rfl Tryd.func83 fun w hb => CB1.out w) ?_
    refine all_cons (stepPure _ 15 rfl rfl rfl (by kernel_rfl) (by kernel_rfl) fun a w hb hv => exec_not _ _ _ _ rfl _ (hv 14 (by kernel_rfl)) w) ?_
    exact all_nil
  intro w6 hb4
  have hB4 := below_then (show Below w.heap.size w w5.drew from hB5.drew) hb4
  have hZ4 := hZ5.drew.on hb4
  have hA4 := hA5.drew.on hb4
  have hE4 := hE5.drew.on hb4
  have hG4 := hG5.drew.on hb4
  refine ⟨by kernel_rfl, ?_⟩
  show Exit.then K3 _ Exit.normal (⟨(rootVs2 a o s q r0 r1 p0 p1 ng pk z u w.heap.size gz gn b1 b2 od).toArray, []⟩ : Act) w6
  simp only [Exit.then]
  refine hK3 _ _ ?_
  clear hK3 K3 hb4 hB5 hZ5 hA5 hE5 hG5 CP0 CB1
  refine wp_cond (t := !b1) rfl ?_
  cases b1 with
  | true =>
    show Code.skip.wp _ _ _ _
    refine wp_skip ?_
    simp only [Exit.then]
    refine hK2 _ _ ?_
    clear hK2 K2
    replace hB6 := hB4
    replace hZ6 := hZ4
    replace hA6 := hA4
    replace hE6 := hE4
    replace hG6 := hG4
    clear hB4 hZ4 hA4 hE4 hG4
    rw [HT.out rfl] at CP1 COD CNG CPK
    clear HT HF CT
    refine wp_seq_k fun K4 hK4 => ?_
    refine wp_seq_k fun K5 hK5 => ?_
    refine wp_region_any (by kernel_rfl) ?_
    refine wpAny_flatAt (L := [0, 1, 2, 3, 4]) (by kernel_rfl) _ _ (rootVs4a a o s q r0 r1 p0 p1 ng pk z u w.heap.size gz gn true b2 od) [0, 1, 2, 3, 4, 5, 6, 7, 8, 9, 10, 11, 12, 13, 14, 15, 16, 17, 18, 19, 25, 26, 27, 28, 29, 30, 31, 32] (by kernel_rfl) ?_ (by rfl) ?_ 0 (by kernel_rfl) ?_
    · repeat refine all_cons rfl ?_
      exact all_nil
    · change ∀ i ∈ _, StepOk _ _ _ _ _ w6.drew _ i
      refine all_cons (sL 20 rfl fun w hb => elem_run (hE6.drew.on hb) H0.out) ?_
      refine all_cons (sC 21 rfl Tryd.func60 fun w hb => CP1.out w) ?_
      refine all_cons (sL 22 rfl fun w hb => elem_run (hA6.drew.on hb) HA.out) ?_
      refine all_cons (sC 23 rfl Tryd.func83 fun w hb => CB2.out w) ?_
      refine all_cons (stepPure _ 24 rfl rfl rfl (by kernel_rfl) (by kernel_rfl) fun a w hb hv => exec_not _ _ _ _ rfl _ (hv 23 (by kernel_rfl)) w) ?_
      exact all_nil
    intro x1 hb4
    have hB4 := below_then (show Below w.heap.size w w6.drew from hB6.drew) hb4
    have hZ4 := hZ6.drew.on hb4
    have hA4 := hA6.drew.on hb4
    have hE4 := hE6.drew.on hb4
    have hG4 := hG6.drew.on hb4
    refine ⟨by kernel_rfl, ?_⟩
    show Exit.then K5 _ Exit.normal (⟨(rootVs4a a o s q r0 r1 p0 p1 ng pk z u w.heap.size gz gn true b2 od).toArray, []⟩ : Act) x1
    simp only [Exit.then]
    refine hK5 _ _ ?_
    clear hK5 K5 hb4
    refine wp_cond (t := !b2) rfl ?_
    cases b2 with
    | false =>
      show (Code.seq _ _).wp _ _ _ _
      simp only [rootVs4a, ptr, ud]
      go_wp2_with (first
        | (refine build_step rfl 44 [] rfl [] rfl _ HN ?_
           try simp only [putS]
           skip)
        | (refine vset_step rfl 44 _ _ rfl gz 5 (nzeros 5) (z.map ncell) rfl rfl hZ4 rfl size_elem (by rw [List.length_map, HZL.out]) (ncells_one _) ?_
           intro x2 hb5 hC5 hz7
           skip))
      exact sret2 Tryd.results63 gz (z.map ncell) _ rfl rfl hC5 Tryd.underlying44 rfl size_elem (by rw [List.length_map, HZL.out]) rfl ⟨rfl, hB4.trans (hb5.below (by omega) hB4.size)⟩
    | true =>
      show Code.skip.wp _ _ _ _
      refine wp_skip ?_
      simp only [Exit.then]
      refine hK4 _ _ ?_
      refine wp_seq_k fun K6 hK6 => ?_
      refine wp_region_any (by kernel_rfl) ?_
      refine wpAny_flatAt (L := [0, 1, 2, 3, 4, 5, 6]) (by kernel_rfl) _ _ (rootVs6a a o s q r0 r1 p0 p1 ng pk z u w.heap.size gz gn true true od) [0, 1, 2, 3, 4, 5, 6, 7, 8, 9, 10, 11, 12, 13, 14, 15, 16, 17, 18, 19, 20, 21, 22, 23, 24, 25] (by kernel_rfl) ?_ (by rfl) ?_ 2 (by kernel_rfl) ?_
      · repeat refine all_cons rfl ?_
        exact all_nil
      · change ∀ i ∈ _, StepOk _ _ _ _ _ x1.drew _ i
        refine all_cons (sL 26 rfl fun w hb => elem_run (hE4.drew.on hb) H0.out) ?_
        refine all_cons (sC 27 rfl Tryd.func45 fun w hb => COD.out w) ?_
        refine all_cons (stepPure _ 28 rfl rfl rfl (by kernel_rfl) (by kernel_rfl) fun a w hb hv => exec_build _ _ _ [] rfl [] rfl _ w (HN w)) ?_
        refine all_cons (sL 29 rfl fun w hb => elem_run (hE4.drew.on hb) H0.out) ?_
        refine all_cons (sC 30 rfl Tryd.func39 fun w hb => CNG.out w) ?_
        refine all_cons (sL 31 rfl fun w hb => elem_run (hE4.drew.on hb) H0.out) ?_
        refine all_cons (sC 32 rfl Tryd.func84 fun w hb => CPK.out w) ?_
        exact all_nil
      intro x3 hb5
      have hB5 := below_then (show Below w.heap.size w x1.drew from hB4.drew) hb5
      have hZ5 := hZ4.drew.on hb5
      refine wpAny_rest 7 rfl (by kernel_rfl) ?_
      refine vset_step rfl 44 (.tmp 2) (.tmp 32) rfl gz 5 (nzeros 5) (pk.map ncell) rfl rfl hZ5 rfl size_elem (by rw [List.length_map, HPL.out]) (ncells_one _) ?_
      intro x4 hb6 hC6 hz7
      simp only [rootVs6a, ptr, ud]
      go_wp2
      exact sret2 Tryd.results63 gz (pk.map ncell) _ rfl rfl hC6 Tryd.underlying44 rfl size_elem (by rw [List.length_map, HPL.out]) rfl ⟨rfl, hB5.trans (hb6.below (by omega) hB5.size)⟩
  | false =>
    rw [HF.out rfl] at CP1 COD CNG CPK
    clear HT HF
    show (Code.region _ _ _).wp _ _ _ _
    simp only [rootVs2, ptr, ud]
    go_wp2_with (first
      | (refine sget_step rfl 44 (.tmp 4) rfl gn 5 (r0.map ncell) rfl hE4 Tryd.underlying44 rfl size_elem (by rw [List.length_map, H0.out]) ?_
         try simp only [putS]
         skip)
      | (refine tget_step rfl 42 (.global 10) rfl 10 5 (u.map ncell) rfl hG4 Tryd.underlying42 rfl size_numF (by rw [List.length_map, HUL.out]) ?_
         try simp only [putS]
         skip)
      | (refine build_step rfl 44 _ rfl [(0, numVal u)] rfl _ BU ?_
         try simp only [putS]
         skip))
    refine (CT.out w6).mono ?_
    rintro e w7 ⟨rfl, hb7⟩
    have hB7 := below_then hB4 hb7
    have hZ7 := hZ4.on hb7
    have hA7 := hA4.on hb7
    have hE7 := hE4.on hb7
    have hG7 := hG4.on hb7
    clear hB4 hZ4 hA4 hE4 hG4 hb7 CT
    go_wp2_with (first
      | (refine vset_step rfl 44 _ _ rfl gn 5 (r0.map ncell) (r1.map ncell) rfl rfl hE7 (by rw [List.length_map, H0.out]) size_elem (by rw [List.length_map, H1.out]) (ncells_one _) ?_
         intro w8 hb8 hE8 hz8
         have hB8 := hB7.trans (hb8.below (by omega) hB7.size)
         have hZ8 := hZ7.but hb8 (by omega)
         have hA8 := hA7.but hb8 (by omega)
         have hG8 := hG7.but hb8 (by omega)
         clear hB7 hZ7 hA7 hE7 hG7 hb8
         skip))
    rename_i K4 hK4 K5 hK5
    refine wp_region_any (by kernel_rfl) ?_
    refine wpAny_flatAt (L := [0, 1, 2, 3, 4]) (by kernel_rfl) _ _ (rootVs4b a o s q r0 r1 p0 p1 ng pk z u w.heap.size gz gn false b2 od) [0, 1, 2, 3, 4, 5, 6, 7, 8, 9, 10, 11, 12, 13, 14, 15, 16, 17, 18, 19, 25, 26, 27, 28, 29, 30, 31, 32] (by kernel_rfl) ?_ (by rfl) ?_ 0 (by kernel_rfl) ?_
    · repeat refine all_cons rfl ?_
      exact all_nil
    · change ∀ i ∈ _, StepOk _ _ _ _ _ w8.drew _ i
      refine all_cons (sL 20 rfl fun w hb => elem_run (hE8.drew.on hb) H1.out) ?_
      refine all_cons (sC 21 rfl Tryd.func60 fun w hb => CP1.out w) ?_
      refine all_cons (sL 22 rfl fun w hb => elem_run (hA8.drew.on hb) HA.out) ?_
      refine all_cons (sC 23 rfl Tryd.func83 fun w hb => CB2.out w) ?_
      refine all_cons (stepPure _ 24 rfl rfl rfl (by kernel_rfl) (by kernel_rfl) fun a w hb hv => exec_not _ _ _ _ rfl _ (hv 23 (by kernel_rfl)) w) ?_
      exact all_nil
    intro x1 hb4
    have hB4 := below_then (show Below w.heap.size w w8.drew from hB8.drew) hb4
    have hZ4 := hZ8.drew.on hb4
    have hA4 := hA8.drew.on hb4
    have hE4 := hE8.drew.on hb4
    have hG4 := hG8.drew.on hb4
    refine ⟨by kernel_rfl, ?_⟩
    show Exit.then K5 _ Exit.normal (⟨(rootVs4b a o s q r0 r1 p0 p1 ng pk z u w.heap.size gz gn false b2 od).toArray, []⟩ : Act) x1
    simp only [Exit.then]
    refine hK5 _ _ ?_
    clear hK5 K5 hb4
    refine wp_cond (t := !b2) rfl ?_
    cases b2 with
    | false =>
      show (Code.seq _ _).wp _ _ _ _
      simp only [rootVs4b, ptr, ud]
      go_wp2_with (first
        | (refine build_step rfl 44 [] rfl [] rfl _ HN ?_
           try simp only [putS]
           skip)
        | (refine vset_step rfl 44 _ _ rfl gz 5 (nzeros 5) (z.map ncell) rfl rfl hZ4 rfl size_elem (by rw [List.length_map, HZL.out]) (ncells_one _) ?_
           intro x2 hb5 hC5 hz7
           skip))
      exact sret2 Tryd.results63 gz (z.map ncell) _ rfl rfl hC5 Tryd.underlying44 rfl size_elem (by rw [List.length_map, HZL.out]) rfl ⟨rfl, hB4.trans (hb5.below (by omega) hB4.size)⟩
    | true =>
      show Code.skip.wp _ _ _ _
      refine wp_skip ?_
      simp only [Exit.then]
      refine hK4 _ _ ?_
      refine wp_seq_k fun K6 hK6 => ?_
      refine wp_region_any (by kernel_rfl) ?_
      refine wpAny_flatAt (L := [0, 1, 2, 3, 4, 5, 6]) (by kernel_rfl) _ _ (rootVs6b a o s q r0 r1 p0 p1 ng pk z u w.heap.size gz gn false true od) [0, 1, 2, 3, 4, 5, 6, 7, 8, 9, 10, 11, 12, 13, 14, 15, 16, 17, 18, 19, 20, 21, 22, 23, 24, 25] (by kernel_rfl) ?_ (by rfl) ?_ 2 (by kernel_rfl) ?_
      · repeat refine all_cons rfl ?_
        exact all_nil
      · change ∀ i ∈ _, StepOk _ _ _ _ _ x1.drew _ i
        refine all_cons (sL 26 rfl fun w hb => elem_run (hE4.drew.on hb) H1.out) ?_
        refine all_cons (sC 27 rfl Tryd.func45 fun w hb => COD.out w) ?_
        refine all_cons (stepPure _ 28 rfl rfl rfl (by kernel_rfl) (by kernel_rfl) fun a w hb hv => exec_build _ _ _ [] rfl [] rfl _ w (HN w)) ?_
        refine all_cons (sL 29 rfl fun w hb => elem_run (hE4.drew.on hb) H1.out) ?_
        refine all_cons (sC 30 rfl Tryd.func39 fun w hb => CNG.out w) ?_
        refine all_cons (sL 31 rfl fun w hb => elem_run (hE4.drew.on hb) H1.out) ?_
        refine all_cons (sC 32 rfl Tryd.func84 fun w hb => CPK.out w) ?_
        exact all_nil
      intro x3 hb5
      have hB5 := below_then (show Below w.heap.size w x1.drew from hB4.drew) hb5
      have hZ5 := hZ4.drew.on hb5
      refine wpAny_rest 7 rfl (by kernel_rfl) ?_
      refine vset_step rfl 44 (.tmp 2) (.tmp 32) rfl gz 5 (nzeros 5) (pk.map ncell) rfl rfl hZ5 rfl size_elem (by rw [List.length_map, HPL.out]) (ncells_one _) ?_
      intro x4 hb6 hC6 hz7
      simp only [rootVs6b, ptr]
      go_wp2
      exact sret2 Tryd.results63 gz (pk.map ncell) _ rfl rfl hC6 Tryd.underlying44 rfl size_elem (by rw [List.length_map, HPL.out]) rfl ⟨rfl, hB5.trans (hb6.below (by omega) hB5.size)⟩
/-- The root of less 1 that the program holds. -/
def ttN : Nat := 19681161376707505956807079304988542015446066515923890162744021073123829784752
/-- What a root would be. -/
def rtN (n : Nat) : Nat := if pwN n 7237005577332262213973186563042994240829374041602535252466099000494570602494 * pwN n 7237005577332262213973186563042994240829374041602535252466099000494570602494 % pp = n then pwN n 7237005577332262213973186563042994240829374041602535252466099000494570602494 else pwN n 7237005577332262213973186563042994240829374041602535252466099000494570602494 * ttN % pp
def isSN (n : Nat) : Bool := decide (rtN n * rtN n % pp = n)
/-- The even one of a number and what is 0 less it. -/
def evenN (r : Nat) : Nat := if r % 2 = 1 then (pp - r) % pp else r
theorem rtN_lt (n : Nat) : rtN n < pp := by
  rw [rtN]
  split
  · exact pwN_lt _ _
  · exact Nat.mod_lt _ (by decide)
set_option maxRecDepth 100000 in
theorem root_any (n : Nat) (w : World) (hn : n < pp) (hU : Tab w 10 ((limb5 ttN).map ncell)) :
    Calls Tryd.prog 63 #[elV n] w fun e w' => (isSN n = true → e = .returned (.tuple #[elV (evenN (rtN n)), .bool true]) ∧ Below w.heap.size w w') ∧ (isSN n = false → e = .returned (.tuple #[elV 0, .bool false]) ∧ Below w.heap.size w w') := by
  have ht : ttN < pp := by decide
  have hr := rtN_lt n
  have e1 : (if decide (rtN n % 2 = 1) = true then (0 + (pp - rtN n)) % pp else rtN n) = evenN (rtN n) := by
    rw [evenN, Nat.zero_add]; simp
  have hp := pickE_any (decide (rtN n % 2 = 1)) ((0 + (pp - rtN n)) % pp) (rtN n)
  rw [e1] at hp
  have h := root_over (limb5 (pwN n 1)) (limb5 (pwN n 1809251394333065553493296640760748560207343510400633813116524750123642650623)) (limb5 (pwN n 7237005577332262213973186563042994240829374041602535252466099000494570602492)) (limb5 (pwN n 2)) (limb5 (pwN n 7237005577332262213973186563042994240829374041602535252466099000494570602494)) (limb5 (pwN n 7237005577332262213973186563042994240829374041602535252466099000494570602494 * ttN % pp)) (limb5 (rtN n)) (limb5 (pwN n 7237005577332262213973186563042994240829374041602535252466099000494570602494 * pwN n 7237005577332262213973186563042994240829374041602535252466099000494570602494 % pp)) (limb5 (rtN n * rtN n % pp)) (limb5 ((0 + (pp - rtN n)) % pp)) (limb5 (evenN (rtN n))) (limb5 0) (limb5 ttN) (decide (pwN n 7237005577332262213973186563042994240829374041602535252466099000494570602494 * pwN n 7237005577332262213973186563042994240829374041602535252466099000494570602494 % pp = n)) (isSN n) (decide (rtN n % 2 = 1)) w rfl rfl rfl rfl rfl rfl
    (fun e => by rw [decide_eq_true_eq] at e; show limb5 (rtN n) = _; rw [rtN, if_pos e]) (fun e => by rw [decide_eq_false_iff_not] at e; show limb5 (rtN n) = _; rw [rtN, if_neg e]) hU build_none (build_elV ttN)
    (fun W => ones250_pow n W hn) (fun W => sq_pow n 1809251394333065553493296640760748560207343510400633813116524750123642650623 2 7237005577332262213973186563042994240829374041602535252466099000494570602492 W (by decide) (by decide)) (fun W => square_pow n 1 2 W (by decide)) (fun W => times_pow n 7237005577332262213973186563042994240829374041602535252466099000494570602492 2 7237005577332262213973186563042994240829374041602535252466099000494570602494 W (by decide)) (fun W => eSquare_any _ W (pwN_lt _ _)) (fun W => by rw [pwN_one hn]; exact same_any _ _ W (Nat.mod_lt _ (by decide)) hn) (fun W => eTimes_any _ _ W (pwN_lt _ _) ht)
    (fun W => eSquare_any _ W hr) (fun W => by rw [pwN_one hn]; exact same_any _ _ W (Nat.mod_lt _ (by decide)) hn) (fun W => odd_any _ W) (fun W => eSub_any 0 _ W (by decide) hr) hp
  rw [pwN_one hn] at h
  exact h
theorem size_k32 : (Tryd.prog.info? 23).map (·.size) = some 32 := by kernel_rfl
theorem zero_k32 : ∀ w, (zeroValue 23).run Tryd.prog w = .ok (.agg (List.replicate 32 (cellOf 0)).toArray) w := (zero_of_info (P := Tryd.prog) (t := 23) (v := .agg (List.replicate 32 (cellOf 0)).toArray) (n := 32) (by kernel_rfl)).1
/-- Two words' bits side by side. -/
theorem win_or (a b s Q : Nat) (hQ : Q = 2 ^ s) (hs : s ≤ 64) (ha : a < Q) : bits .or .u64 (a : Int) (IntKind.u64.wrap ((b : Int) * (Q : Int))) = ((a + b * Q % 18446744073709551616 : Nat) : Int) := by
  have hq : Q ≤ 18446744073709551616 := by rw [hQ]; exact Nat.le_trans (Nat.pow_le_pow_right (by decide) hs) (by decide)
  have e : IntKind.u64.wrap ((b : Int) * (Q : Int)) = ((b * Q % 18446744073709551616 : Nat) : Int) := by rw [IntKind.wrap_u64, ← Int.natCast_mul]; omega
  have hd : Q ∣ 18446744073709551616 := by rw [hQ, show 18446744073709551616 = 2 ^ 64 from rfl]; exact Nat.pow_dvd_pow 2 hs
  have hm : b * Q % 18446744073709551616 % 2 ^ s = 0 := by rw [← hQ, Nat.mod_mod_of_dvd _ hd, Nat.mul_mod_left]
  rw [e, u64_or_nat _ _ (by omega) (Nat.mod_lt _ (by decide)), Nat.or_comm, nat_join s _ _ hm (by rw [← hQ]; exact ha), Nat.add_comm]
theorem win_and (a b s Q : Nat) (hQ : Q = 2 ^ s) (hs : s ≤ 64) (ha : a < Q) (h : a + b * Q % 18446744073709551616 < 18446744073709551616) : bits .and .u64 (bits .or .u64 (a : Int) (IntKind.u64.wrap ((b : Int) * (Q : Int)))) 2251799813685247 = (((a + b * Q % 18446744073709551616) % 2251799813685248 : Nat) : Int) := by
  rw [win_or a b s Q hQ hs ha, and51 _ h]
/-- A limb out of two words. -/
def winW (a b p q : Nat) : Nat := (a / p + b * q % 18446744073709551616) % 2251799813685248
/-- The limbs of four words. -/
def winL (x : List Nat) (k : Nat) : Nat := [winW (x.getD 0 0) (x.getD 1 0) 1 18446744073709551616, winW (x.getD 0 0) (x.getD 1 0) 2251799813685248 8192, winW (x.getD 1 0) (x.getD 2 0) 274877906944 67108864, winW (x.getD 2 0) (x.getD 3 0) 33554432 549755813888, winW (x.getD 3 0) (x.getD 4 0) 4096 4503599627370496].getD k 0
set_option maxRecDepth 100000 in
set_option maxHeartbeats 2000000 in
theorem readF_over (b : List UInt8) (x0 x1 x2 x3 x4 : Nat) (r : List Nat) (S T : Nat → List Nat) (w : World) (HB : Hid (b.length = 32)) (HL : Hid (∀ k, k ≤ 4 → (S k).length = 5)) (H0 : Hid (S 0 = [0, 0, 0, 0, 0])) (HS : Hid (∀ k, k < 4 → S (k + 1) = (S k).set k (bigN ((b.drop (8 * k)).take 8).reverse))) (HX : Hid (S 4 = [x0, x1, x2, x3, x4]))
    (HT : Hid (∀ k, k ≤ 5 → (T k).length = 5)) (HT0 : Hid (T 0 = [0, 0, 0, 0, 0])) (HTS : Hid (∀ k, k < 5 → T (k + 1) = (T k).set k (winL [x0, x1, x2, x3, x4] k))) (HR : Hid (T 5 = r))
    (HM : Hid (bits .and .u64 (bits .or .u64 (x0 : Int) (IntKind.u64.wrap ((x1 : Int) * 18446744073709551616))) 2251799813685247 = ((winL [x0, x1, x2, x3, x4] 0 : Nat) : Int) ∧ bits .and .u64 (bits .or .u64 ((x0 : Int) / 2251799813685248) (IntKind.u64.wrap ((x1 : Int) * 8192))) 2251799813685247 = ((winL [x0, x1, x2, x3, x4] 1 : Nat) : Int) ∧
      bits .and .u64 (bits .or .u64 ((x1 : Int) / 274877906944) (IntKind.u64.wrap ((x2 : Int) * 67108864))) 2251799813685247 = ((winL [x0, x1, x2, x3, x4] 2 : Nat) : Int) ∧ bits .and .u64 (bits .or .u64 ((x2 : Int) / 33554432) (IntKind.u64.wrap ((x3 : Int) * 549755813888))) 2251799813685247 = ((winL [x0, x1, x2, x3, x4] 3 : Nat) : Int) ∧
      bits .and .u64 (bits .or .u64 ((x3 : Int) / 4096) (IntKind.u64.wrap ((x4 : Int) * 4503599627370496))) 2251799813685247 = ((winL [x0, x1, x2, x3, x4] 4 : Nat) : Int))) :
    Calls Tryd.prog 80 #[hashVal b] w (gvn (numVal r) w) := by
  go_enter Tryd.func80, Tryd.ntmps80
  go_wp2_with (first
    | (refine take_step rfl 23 (.tmp 0) rfl b rfl ?_
       intro w1 hB1 hA1 hz
       clear hz)
    | (refine vzero_step (o := ⟨some 2, _, _, _, _, _⟩) rfl 42 rfl (nzeros 5) zero_numF ?_
       intro w2 hb2 hZ2
       have hB2 := below_then hB1 hb2
       have hA2 := hA1.on hb2
       have hg1 := hA1.lt
       clear hB1 hA1 hb2)
    | (refine vzero_step (o := ⟨some 3, _, _, _, _, _⟩) rfl 41 rfl (nzeros 5) zero_arrF ?_
       intro w3 hb3 hS3
       have hB3 := below_then hB2 hb3
       have hA3 := hA2.on hb3
       have hZ3 := hZ2.on hb3
       have hg2 := hZ2.lt
       clear hB2 hA2 hZ2 hb3))
  generalize hg : w1.heap.size = gz at *
  generalize hh : w2.heap.size = gs at *
  clear hg hh
  go_loopw [10] (fun i wr => ∃ k : Nat, k ≤ 4 ∧ i = .int .i64 k ∧ Below w.heap.size w wr ∧ Cells wr w.heap.size (b.map cellOf) 23 ∧ Cells wr gz (nzeros 5) 42 ∧ Cells wr gs ((S k).map ncell) 41) (fun i _ => 4 - (intOf i).toNat)
  case atStart => exact ⟨0, Nat.zero_le _, rfl, hB3, hA3, hZ3, by rw [H0.out]; exact hS3⟩
  case round =>
    clear hB3 hA3 hZ3 hS3
    obtain ⟨k, hk, rfl, hB, hA, hZ, hS⟩ := hrel
    have HLk := Lib.hid (HL.out k hk)
    by_cases hlt : k < 4
    · have HN := Lib.hid (HS.out k hlt)
      obtain ⟨z, HZ⟩ := namedF (S (k + 1))
      rw [HZ.out] at HN
      generalize S k = s at *
      have hR : Row wr wr.heap.size (some ⟨w.heap.size, 8 * k, none⟩) ((b.drop (8 * k)).take 8) := by
        have h := hA.all.piece (8 * k) 8
        rw [Nat.zero_add] at h
        exact h
      have HC := Lib.hid (little_few (some ⟨w.heap.size, 8 * k, none⟩) (32 - 8 * k) 8 _ wr (by rw [List.length_take, List.length_drop, HB.out]; omega) hR (by omega))
      generalize bigN ((b.drop (8 * k)).take 8).reverse = x at *
      clear hR HS HL H0 HX HT HT0 HTS HR HM
      have hT := fun k (h : k < 5) => hS.there k 1 (by rw [List.length_map, HLk.out]; omega)
      have hE := Lib.hid (fun k => hS.set k (ncell x))
      rcases (show k = 0 ∨ k = 1 ∨ k = 2 ∨ k = 3 by omega) with rfl | rfl | rfl | rfl
      all_goals
        simp only [Nat.mul_zero, Nat.reduceMul, Nat.reduceSub, Nat.reduceAdd, Nat.sub_zero] at HC HN HZ
        go_wp2_with fail
        refine HC.out.mono ?_
        rintro e w4 ⟨rfl, rfl⟩
        clear HC
        go_wp2_with (first
          | (refine store_step rfl 40 _ _ rfl gs _ .u64 _ rfl rfl size_u64 (hT _ (by omega)) ?_
             intro w5 hw5
             have hB5 : Below w.heap.size w w5 := by rw [hw5]; exact hB.setCell (p := ⟨gs, _, none⟩) (by show w.heap.size ≤ gs; omega) _
             have hA5 : Cells w5 w.heap.size (b.map cellOf) 23 := by rw [hw5]; exact hA.other (by show w.heap.size ≠ gs; omega) _
             have hZ5 : Cells w5 gz (nzeros 5) 42 := by rw [hw5]; exact hZ.other (by show gz ≠ gs; omega) _
             have hS5 : Cells w5 gs (z.map ncell) 41 := by rw [hw5, HN.out, ← nset_map]; exact hE.out _
             clear hw5))
        go_roundw
        case rel =>
          rw [← HZ.out] at hS5
          first | exact ⟨1, by omega, rfl, hB5, hA5, hZ5, hS5⟩ | exact ⟨2, by omega, rfl, hB5, hA5, hZ5, hS5⟩ | exact ⟨3, by omega, rfl, hB5, hA5, hZ5, hS5⟩ | exact ⟨4, by omega, rfl, hB5, hA5, hZ5, hS5⟩
        case measure => simp [intOf]
    · obtain rfl : k = 4 := by omega
      rw [HX.out] at hS
      clear HL H0 HS HX HLk hA
      go_wp2_with (first
        | (refine vzero_step (o := ⟨some 5, _, _, _, _, _⟩) rfl 42 rfl (nzeros 5) zero_numF ?_
           intro w6 hb6 hT6
           have hB6 := below_then hB hb6
           have hZ6 := hZ.on hb6
           have hS6 := hS.on hb6
           have hg3 := hS.lt
           clear hB hZ hS hb6))
      generalize hh : wr.heap.size = gt at *
      clear hh
      have j1 : IntKind.i64.wrap 1 = 1 := by decide
      have j2 : IntKind.i64.wrap 2 = 2 := by decide
      have j3 : IntKind.i64.wrap 3 = 3 := by decide
      have j4 : IntKind.i64.wrap 4 = 4 := by decide
      have j5 : IntKind.i64.wrap 64 = 64 := by decide
      have j6 : IntKind.i64.wrap 13 = 13 := by decide
      have j7 : IntKind.i64.wrap 26 = 26 := by decide
      have j8 : IntKind.i64.wrap 39 = 39 := by decide
      have j9 : IntKind.i64.wrap 52 = 52 := by decide
      go_loopw [26] (fun i wr => ∃ k : Nat, k ≤ 5 ∧ i = .int .i64 k ∧ Below w.heap.size w wr ∧ Cells wr gz (nzeros 5) 42 ∧ Cells wr gs ([x0, x1, x2, x3, x4].map ncell) 41 ∧ Cells wr gt ((T k).map ncell) 42) (fun i _ => 5 - (intOf i).toNat)
      case atStart => exact ⟨0, Nat.zero_le _, rfl, hB6, hZ6, hS6, by rw [HT0.out]; exact hT6⟩
      case round =>
        clear hB6 hZ6 hS6 hT6
        obtain ⟨k, hk, rfl, hB, hZ, hS, hT⟩ := hrel
        have HLk := Lib.hid (HT.out k hk)
        by_cases hlt : k < 5
        · have HN := Lib.hid (HTS.out k hlt)
          obtain ⟨z, HZ⟩ := namedF (T (k + 1))
          rw [HZ.out] at HN
          generalize T k = s at *
          clear HT HT0 HTS HR
          rcases (show k = 0 ∨ k = 1 ∨ k = 2 ∨ k = 3 ∨ k = 4 by omega) with rfl | rfl | rfl | rfl | rfl
          all_goals
            simp only [Nat.reduceAdd] at HZ
            go_wp2_with fail
            refine wp_region_tail 16 (by kernel_rfl) (by kernel_rfl) ?_
            intro w4 hw4
            have hB4 : Below w.heap.size w w4 := by rw [hw4]; exact hB.drew
            have hZ4 : Cells w4 gz (nzeros 5) 42 := by rw [hw4]; exact hZ
            have hS4 : Cells w4 gs ([x0, x1, x2, x3, x4].map ncell) 41 := by rw [hw4]; exact hS
            have hT4 : Cells w4 gt (s.map ncell) 42 := by rw [hw4]; exact hT
            clear hw4 hB hZ hS hT
            have d0 := hS4.get (v := ncell x0) (j := 0) rfl
            have d1 := hS4.get (v := ncell x1) (j := 1) rfl
            have d2 := hS4.get (v := ncell x2) (j := 2) rfl
            have d3 := hS4.get (v := ncell x3) (j := 3) rfl
            have d4 := hS4.get (v := ncell x4) (j := 4) rfl
            have hTT := fun k (h : k < 5) => hT4.there k 1 (by rw [List.length_map, HLk.out]; omega)
            have h0 := hT4.set 0 (ncell (winL [x0, x1, x2, x3, x4] 0))
            have h1 := hT4.set 1 (ncell (winL [x0, x1, x2, x3, x4] 1))
            have h2 := hT4.set 2 (ncell (winL [x0, x1, x2, x3, x4] 2))
            have h3 := hT4.set 3 (ncell (winL [x0, x1, x2, x3, x4] 3))
            have h4 := hT4.set 4 (ncell (winL [x0, x1, x2, x3, x4] 4))
            rw [nset_map, ncell, ← HM.out.1] at h0
            rw [nset_map, ncell, ← HM.out.2.1] at h1
            rw [nset_map, ncell, ← HM.out.2.2.1] at h2
            rw [nset_map, ncell, ← HM.out.2.2.2.1] at h3
            rw [nset_map, ncell, ← HM.out.2.2.2.2] at h4
            obtain ⟨h0, h1, h2, h3, h4⟩ : Hid _ ∧ Hid _ ∧ Hid _ ∧ Hid _ ∧ Hid _ := ⟨Lib.hid h0, Lib.hid h1, Lib.hid h2, Lib.hid h3, Lib.hid h4⟩
            simp only [List.take_succ_cons, List.take_zero, List.drop_succ_cons, List.drop_zero]
            repeat still_step
            refine wpStill_nil ?_
            clear d0 d1 d2 d3 d4
            go_wp2_with (first
              | (refine store_step rfl 40 _ _ rfl gt _ .u64 _ rfl rfl size_u64 (hTT _ (by omega)) ?_
                 intro w5 hw5
                 have hB5 : Below w.heap.size w w5 := by rw [hw5]; exact hB4.setCell (p := ⟨gt, _, none⟩) (by show w.heap.size ≤ gt; omega) _
                 have hZ5 : Cells w5 gz (nzeros 5) 42 := by rw [hw5]; exact hZ4.other (by show gz ≠ gt; omega) _
                 have hS5 : Cells w5 gs ([x0, x1, x2, x3, x4].map ncell) 41 := by rw [hw5]; exact hS4.other (by show gs ≠ gt; omega) _
                 have hT5 : Cells w5 gt (z.map ncell) 42 := by rw [hw5, HN.out]; first | exact h0.out | exact h1.out | exact h2.out | exact h3.out | exact h4.out
                 clear hw5))
            go_roundw
            case rel =>
              rw [← HZ.out] at hT5
              first | exact ⟨1, by omega, rfl, hB5, hZ5, hS5, hT5⟩ | exact ⟨2, by omega, rfl, hB5, hZ5, hS5, hT5⟩ | exact ⟨3, by omega, rfl, hB5, hZ5, hS5, hT5⟩ | exact ⟨4, by omega, rfl, hB5, hZ5, hS5, hT5⟩ | exact ⟨5, by omega, rfl, hB5, hZ5, hS5, hT5⟩
            case measure => simp [intOf]
        · obtain rfl : k = 5 := by omega
          rw [HR.out] at hT HLk
          go_wp2_with (first
            | (refine vget_step rfl 42 _ rfl gt 5 (r.map ncell) 40 rfl hT Tryd.underlying42 size_numF (by rw [List.length_map, HLk.out]) ?_)
            | (refine vset_step rfl 42 _ _ rfl gz 5 (nzeros 5) (r.map ncell) rfl rfl hZ rfl size_numF (by rw [List.length_map, HLk.out]) (ncells_one r) ?_
               intro w7 hb7 hC7 _))
          refine vret Tryd.results80 gz (r.map ncell) rfl hC7 Tryd.underlying42 size_numF (by rw [List.length_map, HLk.out]) rfl ⟨rfl, hB.trans (hb7.below (by omega) hB.size)⟩
/-- Four words of a number. -/
def rows4 (x : Nat) : List Nat := [x % 18446744073709551616, x / 18446744073709551616 % 18446744073709551616, x / 340282366920938463463374607431768211456 % 18446744073709551616, x / 6277101735386680763835789423207666416102355444464034512896 % 18446744073709551616]
theorem rows4_at (b : List UInt8) (hb : b.length = 32) (k : Nat) (hk : k < 4) : bigN ((b.drop (8 * k)).take 8).reverse = (rows4 (lev b)).getD k 0 := by
  rw [lev_rev, lev_take _ _ (by rw [List.length_drop]; omega), lev_drop _ _ (by omega)]
  generalize lev b = x
  rcases (show k = 0 ∨ k = 1 ∨ k = 2 ∨ k = 3 by omega) with rfl | rfl | rfl | rfl
  · show x / 256 ^ 0 % 256 ^ 8 = x % 18446744073709551616
    rw [Nat.pow_zero, Nat.div_one, show 256 ^ 8 = 18446744073709551616 from rfl]
  · show x / 256 ^ 8 % 256 ^ 8 = x / 18446744073709551616 % 18446744073709551616
    rw [show 256 ^ 8 = 18446744073709551616 from rfl]
  · show x / 256 ^ 16 % 256 ^ 8 = x / 340282366920938463463374607431768211456 % 18446744073709551616
    rw [show 256 ^ 8 = 18446744073709551616 from rfl, show 256 ^ 16 = 340282366920938463463374607431768211456 from rfl]
  · show x / 256 ^ 24 % 256 ^ 8 = x / 6277101735386680763835789423207666416102355444464034512896 % 18446744073709551616
    rw [show 256 ^ 8 = 18446744073709551616 from rfl, show 256 ^ 24 = 6277101735386680763835789423207666416102355444464034512896 from rfl]
theorem winL_0 (x0 x1 x2 x3 x4 : Nat) : winL [x0, x1, x2, x3, x4] 0 = winW x0 x1 1 18446744073709551616 := by rw [winL]; simp only [List.getD_cons_zero, List.getD_cons_succ]
theorem limb5_0 (x : Nat) : (limb5 x).getD 0 0 = x % 2251799813685248 := rfl
theorem win_0 (x : Nat) : (x % 18446744073709551616 + x / 18446744073709551616 % 18446744073709551616 * 18446744073709551616 % 18446744073709551616) % 2251799813685248 = x % 2251799813685248 := by
  omega
theorem winL_1 (x0 x1 x2 x3 x4 : Nat) : winL [x0, x1, x2, x3, x4] 1 = winW x0 x1 2251799813685248 8192 := by rw [winL]; simp only [List.getD_cons_zero, List.getD_cons_succ]
theorem limb5_1 (x : Nat) : (limb5 x).getD 1 0 = x / 2251799813685248 % 2251799813685248 := rfl
theorem win_1 (x : Nat) : (x % 18446744073709551616 / 2251799813685248 + x / 18446744073709551616 % 18446744073709551616 * 8192 % 18446744073709551616) % 2251799813685248 = x / 2251799813685248 % 2251799813685248 := by
  omega
theorem winL_2 (x0 x1 x2 x3 x4 : Nat) : winL [x0, x1, x2, x3, x4] 2 = winW x1 x2 274877906944 67108864 := by rw [winL]; simp only [List.getD_cons_zero, List.getD_cons_succ]
theorem limb5_2 (x : Nat) : (limb5 x).getD 2 0 = x / 2251799813685248 / 2251799813685248 % 2251799813685248 := rfl
theorem win_2 (x : Nat) : (x / 18446744073709551616 % 18446744073709551616 / 274877906944 + x / 340282366920938463463374607431768211456 % 18446744073709551616 * 67108864 % 18446744073709551616) % 2251799813685248 = x / 2251799813685248 / 2251799813685248 % 2251799813685248 := by
  omega
theorem winL_3 (x0 x1 x2 x3 x4 : Nat) : winL [x0, x1, x2, x3, x4] 3 = winW x2 x3 33554432 549755813888 := by rw [winL]; simp only [List.getD_cons_zero, List.getD_cons_succ]
theorem limb5_3 (x : Nat) : (limb5 x).getD 3 0 = x / 2251799813685248 / 2251799813685248 / 2251799813685248 % 2251799813685248 := rfl
theorem win_3 (x : Nat) : (x / 340282366920938463463374607431768211456 % 18446744073709551616 / 33554432 + x / 6277101735386680763835789423207666416102355444464034512896 % 18446744073709551616 * 549755813888 % 18446744073709551616) % 2251799813685248 = x / 2251799813685248 / 2251799813685248 / 2251799813685248 % 2251799813685248 := by
  omega
theorem winL_4 (x0 x1 x2 x3 x4 : Nat) : winL [x0, x1, x2, x3, x4] 4 = winW x3 x4 4096 4503599627370496 := by rw [winL]; simp only [List.getD_cons_zero, List.getD_cons_succ]
theorem limb5_4 (x : Nat) : (limb5 x).getD 4 0 = x / 2251799813685248 / 2251799813685248 / 2251799813685248 / 2251799813685248 % 2251799813685248 := rfl
theorem win_4 (x : Nat) (h : x < 115792089237316195423570985008687907853269984665640564039457584007913129639936) : (x / 6277101735386680763835789423207666416102355444464034512896 % 18446744073709551616 / 4096 + 0 * 4503599627370496 % 18446744073709551616) % 2251799813685248 = x / 2251799813685248 / 2251799813685248 / 2251799813685248 / 2251799813685248 % 2251799813685248 := by
  omega
theorem winL_is (x k : Nat) (hx : x < 115792089237316195423570985008687907853269984665640564039457584007913129639936) (hk : k < 5) : winL [x % 18446744073709551616, x / 18446744073709551616 % 18446744073709551616, x / 340282366920938463463374607431768211456 % 18446744073709551616, x / 6277101735386680763835789423207666416102355444464034512896 % 18446744073709551616, 0] k = (limb5 x).getD k 0 := by
  rcases (show k = 0 ∨ k = 1 ∨ k = 2 ∨ k = 3 ∨ k = 4 by omega) with rfl | rfl | rfl | rfl | rfl
  · rw [winL_0, limb5_0, winW, Nat.div_one, win_0]
  · rw [winL_1, limb5_1, winW, win_1]
  · rw [winL_2, limb5_2, winW, win_2]
  · rw [winL_3, limb5_3, winW, win_3]
  · rw [winL_4, limb5_4, winW, win_4 x hx]
theorem take_pad_length (l : List Nat) (h : l.length ≤ 5) (k : Nat) (hk : k ≤ l.length) : (l.take k ++ List.replicate (5 - k) 0).length = 5 := by
  rw [List.length_append, List.length_take, List.length_replicate]; omega
theorem lev_lt32 (b : List UInt8) (hb : b.length = 32) : lev b < 115792089237316195423570985008687907853269984665640564039457584007913129639936 := by
  have h := lev_lt b
  rw [hb] at h
  exact h
theorem cast_div (a b : Nat) : ((a : Int) / (b : Int)) = ((a / b : Nat) : Int) := (Int.natCast_ediv a b).symm
/-- The five windows of four words. -/
theorem wins (x0 x1 x2 x3 : Nat) (q0 : x0 < 18446744073709551616) (q1 : x1 < 18446744073709551616) (q2 : x2 < 18446744073709551616) (q3 : x3 < 18446744073709551616) :
    bits .and .u64 (bits .or .u64 (x0 : Int) (IntKind.u64.wrap ((x1 : Int) * 18446744073709551616))) 2251799813685247 = ((winL [x0, x1, x2, x3, 0] 0 : Nat) : Int) ∧ bits .and .u64 (bits .or .u64 ((x0 : Int) / 2251799813685248) (IntKind.u64.wrap ((x1 : Int) * 8192))) 2251799813685247 = ((winL [x0, x1, x2, x3, 0] 1 : Nat) : Int) ∧
      bits .and .u64 (bits .or .u64 ((x1 : Int) / 274877906944) (IntKind.u64.wrap ((x2 : Int) * 67108864))) 2251799813685247 = ((winL [x0, x1, x2, x3, 0] 2 : Nat) : Int) ∧ bits .and .u64 (bits .or .u64 ((x2 : Int) / 33554432) (IntKind.u64.wrap ((x3 : Int) * 549755813888))) 2251799813685247 = ((winL [x0, x1, x2, x3, 0] 3 : Nat) : Int) ∧
      bits .and .u64 (bits .or .u64 ((x3 : Int) / 4096) (IntKind.u64.wrap (((0 : Nat) : Int) * 4503599627370496))) 2251799813685247 = ((winL [x0, x1, x2, x3, 0] 4 : Nat) : Int) := by
  rw [winL_0, winL_1, winL_2, winL_3, winL_4, winW, winW, winW, winW, winW, Nat.div_one]
  refine ⟨?_, ?_, ?_, ?_, ?_⟩
  · exact win_and x0 x1 64 18446744073709551616 rfl (by decide) q0 (by omega)
  · have h := win_and (x0 / 2251799813685248) x1 13 8192 rfl (by decide) (by omega) (by omega)
    rw [← cast_div] at h
    exact h
  · have h := win_and (x1 / 274877906944) x2 26 67108864 rfl (by decide) (by omega) (by omega)
    rw [← cast_div] at h
    exact h
  · have h := win_and (x2 / 33554432) x3 39 549755813888 rfl (by decide) (by omega) (by omega)
    rw [← cast_div] at h
    exact h
  · have h := win_and (x3 / 4096) 0 52 4503599627370496 rfl (by decide) (by omega) (by omega)
    rw [← cast_div] at h
    exact h
theorem readF_at (b : List UInt8) (x0 x1 x2 x3 : Nat) (r : List Nat) (w : World) (hb : b.length = 32) (hr : r.length = 5) (q0 : x0 < 18446744073709551616) (q1 : x1 < 18446744073709551616) (q2 : x2 < 18446744073709551616) (q3 : x3 < 18446744073709551616)
    (hw : ∀ k, k < 4 → bigN ((b.drop (8 * k)).take 8).reverse = [x0, x1, x2, x3].getD k 0) (hl : ∀ k, k < 5 → winL [x0, x1, x2, x3, 0] k = r.getD k 0) : Calls Tryd.prog 80 #[hashVal b] w (gvn (numVal r) w) := by
  obtain ⟨r0, r1, r2, r3, r4, rfl⟩ := five_of r hr
  refine readF_over b x0 x1 x2 x3 0 [r0, r1, r2, r3, r4] (fun k => [x0, x1, x2, x3].take k ++ List.replicate (5 - k) 0) (fun k => [r0, r1, r2, r3, r4].take k ++ List.replicate (5 - k) 0) w hb (fun k hk => take_pad_length _ (Nat.le_of_ble_eq_true rfl) k hk) rfl (fun k hk => ?_) rfl (fun k hk => take_pad_length _ (Nat.le_of_ble_eq_true rfl) k hk) rfl (fun k hk => ?_) rfl (wins x0 x1 x2 x3 q0 q1 q2 q3)
  · rw [hw k hk]
    rcases (show k = 0 ∨ k = 1 ∨ k = 2 ∨ k = 3 by omega) with rfl | rfl | rfl | rfl <;> rfl
  · rw [hl k hk]
    rcases (show k = 0 ∨ k = 1 ∨ k = 2 ∨ k = 3 ∨ k = 4 by omega) with rfl | rfl | rfl | rfl | rfl <;> rfl
theorem readF_any (b : List UInt8) (w : World) (hb : b.length = 32) : Calls Tryd.prog 80 #[hashVal b] w (gvn (numVal (limb5 (lev b))) w) :=
  readF_at b _ _ _ _ _ w hb (limb5_length _) (Nat.mod_lt _ (by decide)) (Nat.mod_lt _ (by decide)) (Nat.mod_lt _ (by decide)) (Nat.mod_lt _ (by decide)) (fun k hk => rows4_at b hb k hk) (fun k hk => winL_is (lev b) k (lev_lt32 b hb) hk)
set_option maxRecDepth 100000 in
theorem readE_over (b : List UInt8) (s r : List Nat) (w : World) (HB : Hid (b.length = 32)) (HR : Hid (r.length = 5)) (CP : Hid (∀ W, Calls Tryd.prog 80 #[hashVal b] W (gvn (numVal s) W)))
    (CL : Hid (∀ W, Calls Tryd.prog 64 #[numVal s] W (gvn (numVal r) W))) (BE : ∀ w, (Instr.build 44 #[(0, numVal r)]).run Tryd.prog w = .ok (numVal r) w) :
    Calls Tryd.prog 58 #[hashVal b] w (gvn (numVal r) w) := by
  go_enter Tryd.func58, Tryd.ntmps58
  go_wp2_with (first
    | (refine take_step rfl 23 (.tmp 0) rfl b rfl ?_
       intro w1 hB1 hA1 hz
       clear hz
       try simp only [putS]
       skip)
    | (refine vzero_step rfl 44 rfl (nzeros 5) zero_elem ?_
       intro w3 hb3 hZ3
       have hB3 := below_then hB1 hb3
       have hA3 := hA1.on hb3
       have hle := hB1.size
       clear hB1 hA1 hb3
       try simp only [putS]
       skip)
    | (refine get_step rfl 23 (.tmp 1) rfl w.heap.size 32 b _ rfl hA3 Tryd.underlying23 size_k32 HB.out ?_
       clear hA3
       try simp only [putS]
       skip))
  generalize w1.heap.size = gz at *
  refine (CP.out w3).mono ?_
  rintro e w4 ⟨rfl, hb4⟩
  have hB4 := below_then hB3 hb4
  have hZ4 := hZ3.on hb4
  clear CP hB3 hZ3 hb4
  go_wp2_with fail
  refine (CL.out w4).mono ?_
  rintro e w5 ⟨rfl, hb5⟩
  have hB5 := below_then hB4 hb5
  have hZ5 := hZ4.on hb5
  clear CL hB4 hZ4 hb5
  go_wp2_with (first
    | (refine build_step rfl 44 _ rfl [(0, numVal r)] rfl _ BE ?_)
    | (refine vset_step rfl 44 _ _ rfl gz 5 (nzeros 5) (r.map ncell) rfl rfl hZ5 rfl size_elem (by rw [List.length_map, HR.out]) (ncells_one _) ?_
       intro w6 hb6 hC6 _))
  refine sret Tryd.results58 gz (r.map ncell) rfl hC6 Tryd.underlying44 rfl size_elem (by rw [List.length_map, HR.out]) rfl ⟨rfl, hB5.trans (hb6.below hle hB5.size)⟩
/-- The number of a key. -/
def keyN (b : List UInt8) : Nat := lev b % 57896044618658097711785492504343953926634992332820282019728792003956564819968 % pp
theorem keyN_lt (b : List UInt8) : keyN b < pp := Nat.mod_lt _ (by decide)
theorem val5_lim (x : Nat) : val5 (lx x 0) (lx x 1) (lx x 2) (lx x 3) (lx x 4) = x % 57896044618658097711785492504343953926634992332820282019728792003956564819968 := by
  have e : ∀ k, lx (x % 57896044618658097711785492504343953926634992332820282019728792003956564819968) k = lx x k := fun k => by rw [lx, limb5_mod]; rfl
  rw [← e 0, ← e 1, ← e 2, ← e 3, ← e 4]
  exact val5_limbs _ (Nat.mod_lt _ (by decide))
theorem readE_any (b : List UInt8) (w : World) (hb : b.length = 32) : Calls Tryd.prog 58 #[hashVal b] w (gvn (elV (keyN b)) w) := by
  have hx := lx_lt (lev b)
  refine readE_over b (limb5 (lev b)) (limb5 (keyN b)) w hb rfl (fun W => readF_any b W hb) (fun W => ?_) (build_elN _ rfl)
  have h := least_any (lx (lev b) 0) (lx (lev b) 1) (lx (lev b) 2) (lx (lev b) 3) (lx (lev b) 4) _ W (by have := hx 0; omega) (by have := hx 1; omega) (by have := hx 2; omega) (by have := hx 3; omega) (by have := hx 4; omega) rfl
  rw [val5_lim] at h
  exact h
end Go.Proofs.YtoggkhjaghkpnaaDoor
