/- Part 13 of what the laws of this seat share: TScalar, JBit, TTold, NCurve, NAssoc. -/
import Derived.Deep.Cut
import Derived.Test.YtoggkhjaghkpnaaDoorPart12
namespace Go.Proofs.YtoggkhjaghkpnaaDoor
open Go.RowKit
theorem wd_low (g : Nat) (w : World) : (Instr.sliceAt 54 (.pointer (some ⟨g, 0, none⟩)) none (some (.int .i64 32)) none).run Tryd.prog w = .ok (.slice (some ⟨g, 0, none⟩) 32 64) w := by kernel_rfl
theorem wd_high (g : Nat) (w : World) : (Instr.sliceAt 54 (.pointer (some ⟨g, 0, none⟩)) (some (.int .i64 32)) none none).run Tryd.prog w = .ok (.slice (some ⟨g, 32, none⟩) 32 32) w := by kernel_rfl
theorem key_all (g : Nat) (w : World) : (Instr.sliceAt 23 (.pointer (some ⟨g, 0, none⟩)) none none none).run Tryd.prog w = .ok (.slice (some ⟨g, 0, none⟩) 32 32) w := by kernel_rfl
theorem key_ptr (g o c : Nat) (w : World) : (Instr.arrayAt 23 (.slice (some ⟨g, o, none⟩) 32 c)).run Tryd.prog w = .ok (.pointer (some ⟨g, o, none⟩)) w := by kernel_rfl
theorem exec_sl {P : Program} (ρ : Operand → Value) (o : Oper) (t : TypeId) (x : Operand) (lo hi mx : Option Operand) (h : o.op = .slice t x lo hi mx) (vx : Value) (hx : ρ x = vx) (v : Value) (w : World) (hr : (Instr.sliceAt t vx (lo.map ρ) (hi.map ρ) (mx.map ρ)).run P w = .ok v w) : (execOp ρ o).run P w = .ok (.value v) w := by
  simp [execOp, h, hx, hr]
theorem exec_arr {P : Program} (ρ : Operand → Value) (o : Oper) (t : TypeId) (x : Operand) (h : o.op = .sliceToArrayPointer t x) (vx : Value) (hx : ρ x = vx) (v : Value) (w : World) (hr : (Instr.arrayAt t vx).run P w = .ok v w) : (execOp ρ o).run P w = .ok (.value v) w := by
  simp [execOp, h, hx, hr]
theorem key_mid {w : World} {g : Nat} {p : List UInt8} {t' : TypeId} (hC : Cells w g (p.map cellOf) t') (o : Nat) {x : List UInt8} (hp : (p.drop o).take 32 = x) (hx : x.length = 32) : (Instr.loadAt 23 (.pointer (some ⟨g, o, none⟩))).run Tryd.prog w = .ok (hashVal x) w := by
  have hr := hC.range o 32
  rw [← List.map_drop, ← List.map_take, hp] at hr
  exact run_loadAt_mid w g o 23 (x.map cellOf) _ hr Tryd.underlying23 rfl (by rw [List.length_map, hx]; exact size_k32)
set_option maxRecDepth 100000 in
set_option maxHeartbeats 1000000 in
theorem scLeast_over (kb : List UInt8) (n zz rr r ol tl : List Nat) (w : World)
    (Hkb : Hid (kb.length = 32))
    (Hr : Hid (r.length = 8))
    (CR : Hid (∀ W, Calls Tryd.prog 33 #[hashVal kb] W (gvn (numVal n) W)))
    (BZ : ∀ w, (Instr.build 63 #[]).run Tryd.prog w = .ok (numVal zz) w)
    (CB : Hid (∀ W, Calls Tryd.prog 50 #[numVal n, numVal zz] W (gvn (numVal rr) W)))
    (CM : Hid (∀ W, Tab W 0 (ol.map ncell) → Tab W 7 (tl.map ncell) → Calls Tryd.prog 31 #[numVal rr] W (gvn (numVal r) W)))
    (hO : Tab w 0 (ol.map ncell))
    (hT : Tab w 7 (tl.map ncell)) :
    Calls Tryd.prog 30 #[hashVal kb] w (gvn (numVal r) w) := by
  go_enter Tryd.func30, Tryd.ntmps30
  go_wp2_with (first
    | (refine take_step rfl 23 (.tmp 0) rfl kb rfl ?_
       intro w1 hb1 hvk1 hz
       clear hz
       have hB1 := hb1
       have hgek : w.heap.size ≤ w.heap.size := Nat.le_refl _
       have hvo1 := hO.on hb1
       have hneok := Nat.ne_of_lt hO.lt
       have hvt1 := hT.on hb1
       have hnetk := Nat.ne_of_lt hT.lt
       clear hO hT hb1
       try simp only [putS]
       skip)
    | (refine vzero_step (o := ⟨some 2, _, _, _, _, _⟩) rfl 63 rfl (nzeros 8) zero_sn ?_
       intro w2 hb2 hvr2
       have hB2 := below_then hB1 hb2
       have hger : w.heap.size ≤ w1.heap.size := hB1.size
       have hvo2 := hvo1.on hb2
       have hneor := Nat.ne_of_lt hvo1.lt
       have hvt2 := hvt1.on hb2
       have hnetr := Nat.ne_of_lt hvt1.lt
       have hvk2 := hvk1.on hb2
       have hnekr := Nat.ne_of_lt hvk1.lt
       clear hB1 hvo1 hvt1 hvk1 hb2
       try simp only [putS]
       skip)
    | (refine get_step rfl 23 (.tmp 1) rfl w.heap.size 32 kb 5 rfl hvk2 Tryd.underlying23 size_k32 Hkb.out ?_
       try simp only [putS]
       skip))
  generalize hqr : w1.heap.size = gr at *
  clear hqr
  refine (CR.out w2).mono ?_
  rintro e w3 ⟨rfl, hb3⟩
  have hB3 := below_then hB2 hb3
  have hvo3 := hvo2.on hb3
  have hvt3 := hvt2.on hb3
  have hvk3 := hvk2.on hb3
  have hvr3 := hvr2.on hb3
  clear hB2 hvo2 hvt2 hvk2 hvr2 hb3
  go_wp2_with (first
    | (refine build_step rfl 63 [] rfl [] rfl _ BZ ?_
       try simp only [putS]
       skip))
  refine (CB.out w3).mono ?_
  rintro e w4 ⟨rfl, hb4⟩
  have hB4 := below_then hB3 hb4
  have hvo4 := hvo3.on hb4
  have hvt4 := hvt3.on hb4
  have hvk4 := hvk3.on hb4
  have hvr4 := hvr3.on hb4
  clear hB3 hvo3 hvt3 hvk3 hvr3 hb4
  go_wp2_with fail
  refine (CM.out w4 hvo4 hvt4).mono ?_
  rintro e w5 ⟨rfl, hb5⟩
  have hB5 := below_then hB4 hb5
  have hvo5 := hvo4.on hb5
  have hvt5 := hvt4.on hb5
  have hvk5 := hvk4.on hb5
  have hvr5 := hvr4.on hb5
  clear hB4 hvo4 hvt4 hvk4 hvr4 hb5
  go_wp2_with (first
    | (refine vset_step rfl 63 (.tmp 2) (.tmp 7) rfl gr 8 (nzeros 8) (r.map ncell) rfl rfl hvr5 rfl size_sn (by rw [List.length_map, Hr.out]) (ncells_one _) ?_
       intro w6 hb6 hvr6 hz6
       have hB6 : Below w.heap.size w w6 := hB5.trans (hb6.below hger hB5.size)
       have hvo6 := hvo5.but hb6 hneor
       have hvt6 := hvt5.but hb6 hnetr
       have hvk6 := hvk5.but hb6 hnekr
       clear hB5 hvr5 hb6 hz6 hvo5 hvt5 hvk5
       skip))
  exact sret Tryd.results30 gr (r.map ncell) rfl hvr6 Tryd.underlying63 rfl size_sn (by rw [List.length_map, Hr.out]) rfl ⟨rfl, hB6⟩
def scAddVs1 (ab : List UInt8) (bb : List UInt8) (g_base : Nat) (gb : Nat) (gr : Nat) (n : List Nat) (m : List Nat) (s : List Nat) (ol : List Nat) (r : List Nat) (ob : List UInt8) : List Value :=
  (hashVal ab) :: (hashVal bb) :: ptr g_base :: ptr gb :: ptr gr :: (hashVal ab) :: (numVal n) :: (hashVal bb) :: (numVal m) :: (numVal s) :: (numVal ol) :: (numVal r) :: (hashVal ob) :: []
set_option maxRecDepth 100000 in
set_option maxHeartbeats 1000000 in
theorem scAdd_over (ab bb ob : List UInt8) (n m s r ol tl : List Nat) (w : World)
    (Hab : Hid (ab.length = 32))
    (Hbb : Hid (bb.length = 32))
    (Hob : Hid (ob.length = 32))
    (Hol : Hid (ol.length = 8))
    (CA : Hid (∀ W, Tab W 0 (ol.map ncell) → Tab W 7 (tl.map ncell) → Calls Tryd.prog 30 #[hashVal ab] W (gvn (numVal n) W)))
    (CB : Hid (∀ W, Tab W 0 (ol.map ncell) → Tab W 7 (tl.map ncell) → Calls Tryd.prog 30 #[hashVal bb] W (gvn (numVal m) W)))
    (CP : Hid (∀ W, Calls Tryd.prog 29 #[numVal n, numVal m] W (gvn (numVal s) W)))
    (CS : Hid (∀ W, Tab W 0 (ol.map ncell) → Calls Tryd.prog 28 #[numVal s, numVal ol] W (gvn (numVal r) W)))
    (CW : Hid (∀ W, Calls Tryd.prog 27 #[numVal r] W (gvn (hashVal ob) W)))
    (hO : Tab w 0 (ol.map ncell))
    (hT : Tab w 7 (tl.map ncell)) :
    Calls Tryd.prog 12 #[hashVal ab, hashVal bb] w (gvn (hashVal ob) w) := by
  go_enter Tryd.func12, Tryd.ntmps12
  go_wp2_with (first
    | (refine take_step rfl 23 (.tmp 0) rfl ab rfl ?_
       intro w1 hb1 hva1 hz
       clear hz
       have hB1 := hb1
       have hgea : w.heap.size ≤ w.heap.size := Nat.le_refl _
       have hvo1 := hO.on hb1
       have hneoa := Nat.ne_of_lt hO.lt
       have hvt1 := hT.on hb1
       have hneta := Nat.ne_of_lt hT.lt
       clear hO hT hb1
       try simp only [putS]
       skip)
    | (refine take_step rfl 23 (.tmp 1) rfl bb rfl ?_
       intro w2 hb2 hvb2 hz
       clear hz
       have hB2 := below_then hB1 hb2
       have hgeb : w.heap.size ≤ w1.heap.size := hB1.size
       have hvo2 := hvo1.on hb2
       have hneob := Nat.ne_of_lt hvo1.lt
       have hvt2 := hvt1.on hb2
       have hnetb := Nat.ne_of_lt hvt1.lt
       have hva2 := hva1.on hb2
       have hneab := Nat.ne_of_lt hva1.lt
       clear hB1 hvo1 hvt1 hva1 hb2
       try simp only [putS]
       skip)
    | (refine vzero_step (o := ⟨some 4, _, _, _, _, _⟩) rfl 23 rfl kzeros zero_k32 ?_
       intro w3 hb3 hvr3
       have hB3 := below_then hB2 hb3
       have hger : w.heap.size ≤ w2.heap.size := hB2.size
       have hvo3 := hvo2.on hb3
       have hneor := Nat.ne_of_lt hvo2.lt
       have hvt3 := hvt2.on hb3
       have hnetr := Nat.ne_of_lt hvt2.lt
       have hva3 := hva2.on hb3
       have hnear := Nat.ne_of_lt hva2.lt
       have hvb3 := hvb2.on hb3
       have hnebr := Nat.ne_of_lt hvb2.lt
       clear hB2 hvo2 hvt2 hva2 hvb2 hb3
       try simp only [putS]
       skip))
  generalize hqb : w1.heap.size = gb at *
  clear hqb
  generalize hqr : w2.heap.size = gr at *
  clear hqr
  replace hvo3 := hvo3.drew
  replace hvt3 := hvt3.drew
  replace hva3 := hva3.drew
  replace hvb3 := hvb3.drew
  replace hvr3 := hvr3.drew
  refine wp_region_any (by kernel_rfl) ?_
  refine wpAny_flatM (L := [0, 1, 2, 3, 4, 5, 6, 7]) (by kernel_rfl) _ _ (scAddVs1 ab bb w.heap.size gb gr n m s ol r ob) [] 63 (nzeros 8) [0, 1, 2, 3, 4] (by kernel_rfl) (by kernel_rfl) ?_ zero_sn ?_ (by rfl) ?_ 1 (by kernel_rfl) ?_
  · intro p hp
    exact absurd hp List.not_mem_nil
  · repeat refine all_cons rfl ?_
    exact all_nil
  · refine all_cons (.inr (mL 5 rfl fun w hb => key_run (hva3.on hb) Hab.out)) ?_
    refine all_cons (.inr (mC 6 rfl Tryd.func30 fun w hb => CA.out w (hvo3.on hb) (hvt3.on hb))) ?_
    refine all_cons (.inr (mL 7 rfl fun w hb => key_run (hvb3.on hb) Hbb.out)) ?_
    refine all_cons (.inr (mC 8 rfl Tryd.func30 fun w hb => CB.out w (hvo3.on hb) (hvt3.on hb))) ?_
    refine all_cons (.inr (mC 9 rfl Tryd.func29 fun w hb => CP.out w)) ?_
    refine all_cons (.inr (mL 10 rfl fun w hb => snTab_run (hvo3.on hb) Hol.out)) ?_
    refine all_cons (.inr (mC 11 rfl Tryd.func28 fun w hb => CS.out w (hvo3.on hb))) ?_
    refine all_cons (.inr (mC 12 rfl Tryd.func27 fun w hb => CW.out w)) ?_
    exact all_nil
  intro w4 g hb4 hN4 hap4
  clear hN4 hap4
  have hB4 := below_then (show Below w.heap.size w w3.drew from hB3.drew) hb4
  have hvo4 := hvo3.on hb4
  have hvt4 := hvt3.on hb4
  have hva4 := hva3.on hb4
  have hvb4 := hvb3.on hb4
  have hvr4 := hvr3.on hb4
  clear hB3 hvo3 hvt3 hva3 hvb3 hvr3 hb4
  refine wpAny_rest 8 rfl (by kernel_rfl) ?_
  refine vset_step rfl 23 (.tmp 4) (.tmp 12) rfl gr 32 kzeros (ob.map cellOf) rfl rfl hvr4 rfl size_k32 (by rw [List.length_map, Hob.out]) (kcells_one _) ?_
  intro w5 hb5 hvr5 hz5
  have hB5 : Below w.heap.size w w5 := hB4.trans (hb5.below hger hB4.size)
  have hvo5 := hvo4.but hb5 hneor
  have hvt5 := hvt4.but hb5 hnetr
  have hva5 := hva4.but hb5 hnear
  have hvb5 := hvb4.but hb5 hnebr
  clear hB4 hvr4 hb5 hz5 hvo4 hvt4 hva4 hvb4
  rename_i K hKK
  show Exit.then K _ Exit.normal (⟨(scAddVs1 ab bb w.heap.size gb gr n m s ol r ob).toArray, []⟩ : Act) w5
  simp only [Exit.then]
  refine hKK _ _ ?_
  clear hKK K g
  simp only [scAddVs1, ptr]
  go_wp2
  exact sret Tryd.results12 gr (ob.map cellOf) rfl hvr5 Tryd.underlying23 rfl size_k32 (by rw [List.length_map, Hob.out]) rfl ⟨rfl, hB5⟩
def scTimesVs1 (ab : List UInt8) (bb : List UInt8) (g_base : Nat) (gb : Nat) (gr : Nat) (n : List Nat) (m : List Nat) (s : List Nat) (r : List Nat) (ob : List UInt8) : List Value :=
  (hashVal ab) :: (hashVal bb) :: ptr g_base :: ptr gb :: ptr gr :: (hashVal ab) :: (numVal n) :: (hashVal bb) :: (numVal m) :: (numVal s) :: (numVal r) :: (hashVal ob) :: []
set_option maxRecDepth 100000 in
set_option maxHeartbeats 1000000 in
theorem scTimes_over (ab bb ob : List UInt8) (n m s r ol tl : List Nat) (w : World)
    (Hab : Hid (ab.length = 32))
    (Hbb : Hid (bb.length = 32))
    (Hob : Hid (ob.length = 32))
    (CA : Hid (∀ W, Calls Tryd.prog 33 #[hashVal ab] W (gvn (numVal n) W)))
    (CB : Hid (∀ W, Calls Tryd.prog 33 #[hashVal bb] W (gvn (numVal m) W)))
    (CP : Hid (∀ W, Calls Tryd.prog 32 #[numVal n, numVal m] W (gvn (numVal s) W)))
    (CM : Hid (∀ W, Tab W 0 (ol.map ncell) → Tab W 7 (tl.map ncell) → Calls Tryd.prog 31 #[numVal s] W (gvn (numVal r) W)))
    (CW : Hid (∀ W, Calls Tryd.prog 27 #[numVal r] W (gvn (hashVal ob) W)))
    (hO : Tab w 0 (ol.map ncell))
    (hT : Tab w 7 (tl.map ncell)) :
    Calls Tryd.prog 13 #[hashVal ab, hashVal bb] w (gvn (hashVal ob) w) := by
  go_enter Tryd.func13, Tryd.ntmps13
  go_wp2_with (first
    | (refine take_step rfl 23 (.tmp 0) rfl ab rfl ?_
       intro w1 hb1 hva1 hz
       clear hz
       have hB1 := hb1
       have hgea : w.heap.size ≤ w.heap.size := Nat.le_refl _
       have hvo1 := hO.on hb1
       have hneoa := Nat.ne_of_lt hO.lt
       have hvt1 := hT.on hb1
       have hneta := Nat.ne_of_lt hT.lt
       clear hO hT hb1
       try simp only [putS]
       skip)
    | (refine take_step rfl 23 (.tmp 1) rfl bb rfl ?_
       intro w2 hb2 hvb2 hz
       clear hz
       have hB2 := below_then hB1 hb2
       have hgeb : w.heap.size ≤ w1.heap.size := hB1.size
       have hvo2 := hvo1.on hb2
       have hneob := Nat.ne_of_lt hvo1.lt
       have hvt2 := hvt1.on hb2
       have hnetb := Nat.ne_of_lt hvt1.lt
       have hva2 := hva1.on hb2
       have hneab := Nat.ne_of_lt hva1.lt
       clear hB1 hvo1 hvt1 hva1 hb2
       try simp only [putS]
       skip)
    | (refine vzero_step (o := ⟨some 4, _, _, _, _, _⟩) rfl 23 rfl kzeros zero_k32 ?_
       intro w3 hb3 hvr3
       have hB3 := below_then hB2 hb3
       have hger : w.heap.size ≤ w2.heap.size := hB2.size
       have hvo3 := hvo2.on hb3
       have hneor := Nat.ne_of_lt hvo2.lt
       have hvt3 := hvt2.on hb3
       have hnetr := Nat.ne_of_lt hvt2.lt
       have hva3 := hva2.on hb3
       have hnear := Nat.ne_of_lt hva2.lt
       have hvb3 := hvb2.on hb3
       have hnebr := Nat.ne_of_lt hvb2.lt
       clear hB2 hvo2 hvt2 hva2 hvb2 hb3
       try simp only [putS]
       skip))
  generalize hqb : w1.heap.size = gb at *
  clear hqb
  generalize hqr : w2.heap.size = gr at *
  clear hqr
  replace hvo3 := hvo3.drew
  replace hvt3 := hvt3.drew
  replace hva3 := hva3.drew
  replace hvb3 := hvb3.drew
  replace hvr3 := hvr3.drew
  refine wp_region_any (by kernel_rfl) ?_
  refine wpAny_flatM (L := [0, 1, 2, 3, 4, 5, 6]) (by kernel_rfl) _ _ (scTimesVs1 ab bb w.heap.size gb gr n m s r ob) [] 63 (nzeros 8) [0, 1, 2, 3, 4] (by kernel_rfl) (by kernel_rfl) ?_ zero_sn ?_ (by rfl) ?_ 1 (by kernel_rfl) ?_
  · intro p hp
    exact absurd hp List.not_mem_nil
  · repeat refine all_cons rfl ?_
    exact all_nil
  · refine all_cons (.inr (mL 5 rfl fun w hb => key_run (hva3.on hb) Hab.out)) ?_
    refine all_cons (.inr (mC 6 rfl Tryd.func33 fun w hb => CA.out w)) ?_
    refine all_cons (.inr (mL 7 rfl fun w hb => key_run (hvb3.on hb) Hbb.out)) ?_
    refine all_cons (.inr (mC 8 rfl Tryd.func33 fun w hb => CB.out w)) ?_
    refine all_cons (.inr (mC 9 rfl Tryd.func32 fun w hb => CP.out w)) ?_
    refine all_cons (.inr (mC 10 rfl Tryd.func31 fun w hb => CM.out w (hvo3.on hb) (hvt3.on hb))) ?_
    refine all_cons (.inr (mC 11 rfl Tryd.func27 fun w hb => CW.out w)) ?_
    exact all_nil
  intro w4 g hb4 hN4 hap4
  clear hN4 hap4
  have hB4 := below_then (show Below w.heap.size w w3.drew from hB3.drew) hb4
  have hvo4 := hvo3.on hb4
  have hvt4 := hvt3.on hb4
  have hva4 := hva3.on hb4
  have hvb4 := hvb3.on hb4
  have hvr4 := hvr3.on hb4
  clear hB3 hvo3 hvt3 hva3 hvb3 hvr3 hb4
  refine wpAny_rest 7 rfl (by kernel_rfl) ?_
  refine vset_step rfl 23 (.tmp 4) (.tmp 11) rfl gr 32 kzeros (ob.map cellOf) rfl rfl hvr4 rfl size_k32 (by rw [List.length_map, Hob.out]) (kcells_one _) ?_
  intro w5 hb5 hvr5 hz5
  have hB5 : Below w.heap.size w w5 := hB4.trans (hb5.below hger hB4.size)
  have hvo5 := hvo4.but hb5 hneor
  have hvt5 := hvt4.but hb5 hnetr
  have hva5 := hva4.but hb5 hnear
  have hvb5 := hvb4.but hb5 hnebr
  clear hB4 hvr4 hb5 hz5 hvo4 hvt4 hva4 hvb4
  rename_i K hKK
  show Exit.then K _ Exit.normal (⟨(scTimesVs1 ab bb w.heap.size gb gr n m s r ob).toArray, []⟩ : Act) w5
  simp only [Exit.then]
  refine hKK _ _ ?_
  clear hKK K g
  simp only [scTimesVs1, ptr]
  go_wp2
  exact sret Tryd.results13 gr (ob.map cellOf) rfl hvr5 Tryd.underlying23 rfl size_k32 (by rw [List.length_map, Hob.out]) rfl ⟨rfl, hB5⟩
def scRightVs1 (kb : List UInt8) (g_base : Nat) (c : Bool) (d : List Nat) (n : List Nat) (ol : List Nat) : List Value :=
  (hashVal kb) :: ptr g_base :: (.bool false) :: undef :: (.bool c) :: (.tuple #[numVal d, .bool c]) :: (hashVal kb) :: (numVal n) :: (numVal ol) :: (.tuple #[numVal d, .bool c]) :: (numVal d) :: (.bool c) :: undef :: []
def scRightVs1N (kb : List UInt8) (g_base : Nat) (c : Bool) (d : List Nat) (n : List Nat) (ol : List Nat) (n3 : Nat) : List Value :=
  (hashVal kb) :: ptr g_base :: (.bool false) :: ptr n3 :: (.bool c) :: (.tuple #[numVal d, .bool c]) :: (hashVal kb) :: (numVal n) :: (numVal ol) :: (.tuple #[numVal d, .bool c]) :: (numVal d) :: (.bool c) :: undef :: []
set_option maxRecDepth 100000 in
set_option maxHeartbeats 1000000 in
theorem scRight_over (kb : List UInt8) (n d ol : List Nat) (c : Bool) (w : World)
    (Hkb : Hid (kb.length = 32))
    (Hd : Hid (d.length = 8))
    (Hol : Hid (ol.length = 8))
    (CA : Hid (∀ W, Calls Tryd.prog 33 #[hashVal kb] W (gvn (numVal n) W)))
    (CM : Hid (∀ W, Calls Tryd.prog 34 #[numVal n, numVal ol] W (gvn (.tuple #[numVal d, .bool c]) W)))
    (hO : Tab w 0 (ol.map ncell)) :
    Calls Tryd.prog 15 #[hashVal kb] w (gvn (.bool c) w) := by
  go_enter Tryd.func15, Tryd.ntmps15
  go_wp2_with (first
    | (refine take_step rfl 23 (.tmp 0) rfl kb rfl ?_
       intro w1 hb1 hvk1 hz
       clear hz
       have hB1 := hb1
       have hgek : w.heap.size ≤ w.heap.size := Nat.le_refl _
       have hvo1 := hO.on hb1
       have hneok := Nat.ne_of_lt hO.lt
       clear hO hb1
       try simp only [putS]
       skip))
  replace hvo1 := hvo1.drew
  replace hvk1 := hvk1.drew
  refine wp_region_any (by kernel_rfl) ?_
  refine wpAny_flatS (L := [0, 1, 2, 3, 4, 5, 6, 7, 8, 9]) (by kernel_rfl) _ _ (scRightVs1 kb w.heap.size c d n ol) [(7, 3)] (fun _ => 63) (fun _ => (nzeros 8)) (fun _ => some (8, d.map ncell)) [0, 1, 2, 12] (by kernel_rfl) (by kernel_rfl) ?_ (fun _ _ => zero_sn) ?_ ?_ ?_ (by rfl) ?_ 0 (by kernel_rfl) ?_
  · intro p hp
    rcases List.mem_cons.1 hp with rfl | hp
    · exact ⟨⟨_, rfl, rfl, rfl, rfl, by kernel_rfl, by kernel_rfl⟩⟩
    exact absurd hp List.not_mem_nil
  · intro p hp j l h
    rcases List.mem_cons.1 hp with rfl | hp
    · change some (8, d.map ncell) = some (j, l) at h
      cases h
      exact ⟨⟨_, 10, rfl, rfl, rfl, rfl, by kernel_rfl, by kernel_rfl, by kernel_rfl, rfl, by rw [List.length_map, Hd.out]; exact size_sn, by rw [List.length_map, Hd.out]; rfl, ncells_one _⟩, by decide⟩
    exact absurd hp List.not_mem_nil
  · intro p hp q hq j l l2 h1 h2
    rcases List.mem_cons.1 hp with rfl | hp
    · rcases List.mem_cons.1 hq with rfl | hq
      · rfl
      exact absurd hq List.not_mem_nil
    exact absurd hp List.not_mem_nil
  · repeat refine all_cons rfl ?_
    exact all_nil
  · refine all_cons (.inr (.inl (mL 6 rfl fun w hb => key_run (hvk1.on hb) Hkb.out))) ?_
    refine all_cons (.inr (.inl (mC 7 rfl Tryd.func33 fun w hb => CA.out w))) ?_
    refine all_cons (.inr (.inl (mL 8 rfl fun w hb => snTab_run (hvo1.on hb) Hol.out))) ?_
    refine all_cons (.inr (.inl (mC 9 rfl Tryd.func34 fun w hb => CM.out w))) ?_
    refine all_cons (.inr (.inl (mV 5 rfl (.inl rfl) rfl))) ?_
    refine all_cons (.inr (.inl (mE 10 rfl rfl rfl))) ?_
    refine all_cons (.inr (.inl (mE 11 rfl rfl rfl))) ?_
    refine all_cons (.inl ⟨(7, 3), by simp, rfl⟩) ?_
    refine all_cons (.inr (.inr ⟨(7, 3), by simp, _, rfl⟩)) ?_
    refine all_cons (.inr (.inl (mV 4 rfl (.inr rfl) rfl))) ?_
    exact all_nil
  intro w2 g hb2 hN2 hap2
  obtain ⟨hged, hvd2⟩ := hN2 (7, 3) (by simp)
  clear hN2 hap2
  have hB2 := below_then (show Below w.heap.size w w1.drew from hB1.drew) hb2
  have hlto : 0 < w1.heap.size := hvo1.lt
  have hltk : w.heap.size < w1.heap.size := hvk1.lt
  have hvo2 := hvo1.on hb2
  have hvk2 := hvk1.on hb2
  rw [show withNew g [(7, 3)] (scRightVs1 kb w.heap.size c d n ol) = scRightVs1N kb w.heap.size c d n ol (g 3) from rfl]
  replace hged : w1.heap.size ≤ g 3 := hged
  replace hvd2 : Cells w2 (g 3) (d.map ncell) 63 := hvd2
  have hneod : 0 ≠ g 3 := Nat.ne_of_lt (Nat.lt_of_lt_of_le hlto hged)
  have hnekd : w.heap.size ≠ g 3 := Nat.ne_of_lt (Nat.lt_of_lt_of_le hltk hged)
  replace hged : w.heap.size ≤ g 3 := Nat.le_trans (show w.heap.size ≤ w1.heap.size from hB1.size) hged
  clear hlto hltk
  generalize g 3 = gd at *
  clear hB1 hvo1 hvk1 hb2
  refine ⟨by kernel_rfl, ?_⟩
  rename_i K hKK
  show Exit.then K _ Exit.normal (⟨(scRightVs1N kb w.heap.size c d n ol gd).toArray, []⟩ : Act) w2
  simp only [Exit.then]
  refine hKK _ _ ?_
  clear hKK K g
  simp only [scRightVs1N, ptr]
  go_wp2
  go_ret
  exact ⟨rfl, hB2⟩
def scReduceVs1 (wb : List UInt8) (g_base : Nat) (gr : Nat) (lo : List UInt8) (nl : List Nat) (hi : List UInt8) (nh : List Nat) : List Value :=
  (hashVal wb) :: ptr g_base :: ptr gr :: undef :: undef :: (.slice (some ⟨g_base, 0, none⟩) 32 64) :: ptr g_base :: (hashVal lo) :: (numVal nl) :: (.slice (some ⟨g_base, 32, none⟩) 32 32) :: (.pointer (some ⟨g_base, 32, none⟩)) :: (hashVal hi) :: (numVal nh) :: ud 5 []
def scReduceVs1N (wb : List UInt8) (g_base : Nat) (gr : Nat) (lo : List UInt8) (nl : List Nat) (hi : List UInt8) (nh : List Nat) (n3 n4 : Nat) : List Value :=
  (hashVal wb) :: ptr g_base :: ptr gr :: ptr n3 :: ptr n4 :: (.slice (some ⟨g_base, 0, none⟩) 32 64) :: ptr g_base :: (hashVal lo) :: (numVal nl) :: (.slice (some ⟨g_base, 32, none⟩) 32 32) :: (.pointer (some ⟨g_base, 32, none⟩)) :: (hashVal hi) :: (numVal nh) :: ud 5 []
set_option maxRecDepth 100000 in
set_option maxHeartbeats 1000000 in
theorem scReduce_over (wb lo hi ob : List UInt8) (nl nh s r ol tl : List Nat) (w : World)
    (Hlo : Hid (lo.length = 32))
    (Hhi : Hid (hi.length = 32))
    (Hob : Hid (ob.length = 32))
    (Hnl : Hid (nl.length = 8))
    (Hnh : Hid (nh.length = 8))
    (HLO : Hid ((wb.drop 0).take 32 = lo))
    (HHI : Hid ((wb.drop 32).take 32 = hi))
    (CA : Hid (∀ W, Calls Tryd.prog 33 #[hashVal lo] W (gvn (numVal nl) W)))
    (CB : Hid (∀ W, Calls Tryd.prog 33 #[hashVal hi] W (gvn (numVal nh) W)))
    (CP : Hid (∀ W, Calls Tryd.prog 50 #[numVal nl, numVal nh] W (gvn (numVal s) W)))
    (CM : Hid (∀ W, Tab W 0 (ol.map ncell) → Tab W 7 (tl.map ncell) → Calls Tryd.prog 31 #[numVal s] W (gvn (numVal r) W)))
    (CW : Hid (∀ W, Calls Tryd.prog 27 #[numVal r] W (gvn (hashVal ob) W)))
    (hO : Tab w 0 (ol.map ncell))
    (hT : Tab w 7 (tl.map ncell)) :
    Calls Tryd.prog 22 #[hashVal wb] w (gvn (hashVal ob) w) := by
  go_enter Tryd.func22, Tryd.ntmps22
  go_wp2_with (first
    | (refine vtake_step rfl 54 (.tmp 0) rfl (wb.map cellOf) rfl ?_
       intro w1 hb1 hvx1
       have hB1 := hb1
       have hgex : w.heap.size ≤ w.heap.size := Nat.le_refl _
       have hvo1 := hO.on hb1
       have hneox := Nat.ne_of_lt hO.lt
       have hvt1 := hT.on hb1
       have hnetx := Nat.ne_of_lt hT.lt
       clear hO hT hb1
       try simp only [putS]
       skip)
    | (refine vzero_step (o := ⟨some 2, _, _, _, _, _⟩) rfl 23 rfl kzeros zero_k32 ?_
       intro w2 hb2 hvr2
       have hB2 := below_then hB1 hb2
       have hger : w.heap.size ≤ w1.heap.size := hB1.size
       have hvo2 := hvo1.on hb2
       have hneor := Nat.ne_of_lt hvo1.lt
       have hvt2 := hvt1.on hb2
       have hnetr := Nat.ne_of_lt hvt1.lt
       have hvx2 := hvx1.on hb2
       have hnexr := Nat.ne_of_lt hvx1.lt
       clear hB1 hvo1 hvt1 hvx1 hb2
       try simp only [putS]
       skip))
  generalize hqr : w1.heap.size = gr at *
  clear hqr
  replace hvo2 := hvo2.drew
  replace hvt2 := hvt2.drew
  replace hvx2 := hvx2.drew
  replace hvr2 := hvr2.drew
  refine wp_region_any (by kernel_rfl) ?_
  refine wpAny_flatS (L := [0, 1, 2, 3, 4, 5, 6, 7, 8, 9, 10, 11]) (by kernel_rfl) _ _ (scReduceVs1 wb w.heap.size gr lo nl hi nh) [(8, 3), (9, 4)] (fun _ => 63) (fun _ => (nzeros 8)) (fun s => bif s == 3 then some (10, nl.map ncell) else bif s == 4 then some (11, nh.map ncell) else none) [0, 1, 2, 13, 14, 15, 16, 17] (by kernel_rfl) (by kernel_rfl) ?_ (fun _ _ => zero_sn) ?_ ?_ ?_ (by rfl) ?_ 0 (by kernel_rfl) ?_
  · intro p hp
    rcases List.mem_cons.1 hp with rfl | hp
    · exact ⟨⟨_, rfl, rfl, rfl, rfl, by kernel_rfl, by kernel_rfl⟩⟩
    rcases List.mem_cons.1 hp with rfl | hp
    · exact ⟨⟨_, rfl, rfl, rfl, rfl, by kernel_rfl, by kernel_rfl⟩⟩
    exact absurd hp List.not_mem_nil
  · intro p hp j l h
    rcases List.mem_cons.1 hp with rfl | hp
    · change some (10, nl.map ncell) = some (j, l) at h
      cases h
      exact ⟨⟨_, 8, rfl, rfl, rfl, rfl, by kernel_rfl, by kernel_rfl, by kernel_rfl, rfl, by rw [List.length_map, Hnl.out]; exact size_sn, by rw [List.length_map, Hnl.out]; rfl, ncells_one _⟩, by decide⟩
    rcases List.mem_cons.1 hp with rfl | hp
    · change some (11, nh.map ncell) = some (j, l) at h
      cases h
      exact ⟨⟨_, 12, rfl, rfl, rfl, rfl, by kernel_rfl, by kernel_rfl, by kernel_rfl, rfl, by rw [List.length_map, Hnh.out]; exact size_sn, by rw [List.length_map, Hnh.out]; rfl, ncells_one _⟩, by decide⟩
    exact absurd hp List.not_mem_nil
  · intro p hp q hq j l l2 h1 h2
    rcases List.mem_cons.1 hp with rfl | hp
    · rcases List.mem_cons.1 hq with rfl | hq
      · rfl
      rcases List.mem_cons.1 hq with rfl | hq
      · change some (10, _) = some (j, l) at h1
        change some (11, _) = some (j, l2) at h2
        exact absurd ((Prod.mk.inj (Option.some.inj h1)).1.trans (Prod.mk.inj (Option.some.inj h2)).1.symm) (by decide)
      exact absurd hq List.not_mem_nil
    rcases List.mem_cons.1 hp with rfl | hp
    · rcases List.mem_cons.1 hq with rfl | hq
      · change some (11, _) = some (j, l) at h1
        change some (10, _) = some (j, l2) at h2
        exact absurd ((Prod.mk.inj (Option.some.inj h1)).1.trans (Prod.mk.inj (Option.some.inj h2)).1.symm) (by decide)
      rcases List.mem_cons.1 hq with rfl | hq
      · rfl
      exact absurd hq List.not_mem_nil
    exact absurd hp List.not_mem_nil
  · repeat refine all_cons rfl ?_
    exact all_nil
  · refine all_cons (.inr (.inl (mStep _ 5 rfl rfl rfl rfl (by kernel_rfl) (fun a hv => wanted_all rfl _) (fun a w K hb hv hK => mPure (_) (exec_sl _ _ _ _ _ _ _ rfl _ (hv 1 (by kernel_rfl) rfl) _ w (wd_low _ w)) hK)))) ?_
    refine all_cons (.inr (.inl (mStep _ 6 rfl rfl rfl rfl (by kernel_rfl) (fun a hv => wanted_all rfl _) (fun a w K hb hv hK => mPure (_) (exec_arr _ _ _ _ rfl _ (hv 5 (by kernel_rfl) rfl) _ w (key_ptr _ _ _ w)) hK)))) ?_
    refine all_cons (.inr (.inl (mL 7 rfl fun w hb => key_mid (hvx2.on hb) 0 HLO.out Hlo.out))) ?_
    refine all_cons (.inr (.inl (mC 8 rfl Tryd.func33 fun w hb => CA.out w))) ?_
    refine all_cons (.inr (.inl (mStep _ 9 rfl rfl rfl rfl (by kernel_rfl) (fun a hv => wanted_all rfl _) (fun a w K hb hv hK => mPure (_) (exec_sl _ _ _ _ _ _ _ rfl _ (hv 1 (by kernel_rfl) rfl) _ w (wd_high _ w)) hK)))) ?_
    refine all_cons (.inr (.inl (mStep _ 10 rfl rfl rfl rfl (by kernel_rfl) (fun a hv => wanted_all rfl _) (fun a w K hb hv hK => mPure (_) (exec_arr _ _ _ _ rfl _ (hv 9 (by kernel_rfl) rfl) _ w (key_ptr _ _ _ w)) hK)))) ?_
    refine all_cons (.inr (.inl (mL 11 rfl fun w hb => key_mid (hvx2.on hb) 32 HHI.out Hhi.out))) ?_
    refine all_cons (.inr (.inl (mC 12 rfl Tryd.func33 fun w hb => CB.out w))) ?_
    refine all_cons (.inl ⟨(8, 3), by simp, rfl⟩) ?_
    refine all_cons (.inl ⟨(9, 4), by simp, rfl⟩) ?_
    refine all_cons (.inr (.inr ⟨(8, 3), by simp, _, rfl⟩)) ?_
    refine all_cons (.inr (.inr ⟨(9, 4), by simp, _, rfl⟩)) ?_
    exact all_nil
  intro w3 g hb3 hN3 hap3
  obtain ⟨hgea, hva3⟩ := hN3 (8, 3) (by simp)
  obtain ⟨hgeb, hvb3⟩ := hN3 (9, 4) (by simp)
  have hneab := hap3 (8, 3) (by simp) (9, 4) (by simp) (by decide)
  clear hN3 hap3
  have hB3 := below_then (show Below w.heap.size w w2.drew from hB2.drew) hb3
  have hlto : 0 < w2.heap.size := hvo2.lt
  have hltt : 7 < w2.heap.size := hvt2.lt
  have hltx : w.heap.size < w2.heap.size := hvx2.lt
  have hltr : gr < w2.heap.size := hvr2.lt
  have hvo3 := hvo2.on hb3
  have hvt3 := hvt2.on hb3
  have hvx3 := hvx2.on hb3
  have hvr3 := hvr2.on hb3
  rw [show withNew g [(8, 3), (9, 4)] (scReduceVs1 wb w.heap.size gr lo nl hi nh) = scReduceVs1N wb w.heap.size gr lo nl hi nh (g 3) (g 4) from rfl]
  replace hgea : w2.heap.size ≤ g 3 := hgea
  replace hva3 : Cells w3 (g 3) (nl.map ncell) 63 := hva3
  replace hgeb : w2.heap.size ≤ g 4 := hgeb
  replace hvb3 : Cells w3 (g 4) (nh.map ncell) 63 := hvb3
  replace hneab : g 3 ≠ g 4 := hneab
  have hneoa : 0 ≠ g 3 := Nat.ne_of_lt (Nat.lt_of_lt_of_le hlto hgea)
  have hneta : 7 ≠ g 3 := Nat.ne_of_lt (Nat.lt_of_lt_of_le hltt hgea)
  have hnexa : w.heap.size ≠ g 3 := Nat.ne_of_lt (Nat.lt_of_lt_of_le hltx hgea)
  have hnera : gr ≠ g 3 := Nat.ne_of_lt (Nat.lt_of_lt_of_le hltr hgea)
  replace hgea : w.heap.size ≤ g 3 := Nat.le_trans (show w.heap.size ≤ w2.heap.size from hB2.size) hgea
  have hneob : 0 ≠ g 4 := Nat.ne_of_lt (Nat.lt_of_lt_of_le hlto hgeb)
  have hnetb : 7 ≠ g 4 := Nat.ne_of_lt (Nat.lt_of_lt_of_le hltt hgeb)
  have hnexb : w.heap.size ≠ g 4 := Nat.ne_of_lt (Nat.lt_of_lt_of_le hltx hgeb)
  have hnerb : gr ≠ g 4 := Nat.ne_of_lt (Nat.lt_of_lt_of_le hltr hgeb)
  replace hgeb : w.heap.size ≤ g 4 := Nat.le_trans (show w.heap.size ≤ w2.heap.size from hB2.size) hgeb
  clear hlto hltt hltx hltr
  generalize g 3 = ga at *
  generalize g 4 = gb at *
  clear hB2 hvo2 hvt2 hvx2 hvr2 hb3
  refine ⟨by kernel_rfl, ?_⟩
  rename_i K hKK
  show Exit.then K _ Exit.normal (⟨(scReduceVs1N wb w.heap.size gr lo nl hi nh ga gb).toArray, []⟩ : Act) w3
  simp only [Exit.then]
  refine hKK _ _ ?_
  clear hKK K g
  simp only [scReduceVs1N, ptr, ud]
  go_wp2_with (first
    | (refine sget_step rfl 63 (.tmp 3) rfl ga 8 (nl.map ncell) rfl hva3 Tryd.underlying63 rfl size_sn (by rw [List.length_map, Hnl.out]) ?_
       try simp only [putS]
       skip)
    | (refine sget_step rfl 63 (.tmp 4) rfl gb 8 (nh.map ncell) rfl hvb3 Tryd.underlying63 rfl size_sn (by rw [List.length_map, Hnh.out]) ?_
       try simp only [putS]
       skip))
  refine (CP.out w3).mono ?_
  rintro e w4 ⟨rfl, hb4⟩
  have hB4 := below_then hB3 hb4
  have hvo4 := hvo3.on hb4
  have hvt4 := hvt3.on hb4
  have hvx4 := hvx3.on hb4
  have hvr4 := hvr3.on hb4
  have hva4 := hva3.on hb4
  have hvb4 := hvb3.on hb4
  clear hB3 hvo3 hvt3 hvx3 hvr3 hva3 hvb3 hb4
  go_wp2_with fail
  refine (CM.out w4 hvo4 hvt4).mono ?_
  rintro e w5 ⟨rfl, hb5⟩
  have hB5 := below_then hB4 hb5
  have hvo5 := hvo4.on hb5
  have hvt5 := hvt4.on hb5
  have hvx5 := hvx4.on hb5
  have hvr5 := hvr4.on hb5
  have hva5 := hva4.on hb5
  have hvb5 := hvb4.on hb5
  clear hB4 hvo4 hvt4 hvx4 hvr4 hva4 hvb4 hb5
  go_wp2_with fail
  refine (CW.out w5).mono ?_
  rintro e w6 ⟨rfl, hb6⟩
  have hB6 := below_then hB5 hb6
  have hvo6 := hvo5.on hb6
  have hvt6 := hvt5.on hb6
  have hvx6 := hvx5.on hb6
  have hvr6 := hvr5.on hb6
  have hva6 := hva5.on hb6
  have hvb6 := hvb5.on hb6
  clear hB5 hvo5 hvt5 hvx5 hvr5 hva5 hvb5 hb6
  go_wp2_with (first
    | (refine vset_step rfl 23 (.tmp 2) (.tmp 17) rfl gr 32 kzeros (ob.map cellOf) rfl rfl hvr6 rfl size_k32 (by rw [List.length_map, Hob.out]) (kcells_one _) ?_
       intro w7 hb7 hvr7 hz7
       have hB7 : Below w.heap.size w w7 := hB6.trans (hb7.below hger hB6.size)
       have hvo7 := hvo6.but hb7 hneor
       have hvt7 := hvt6.but hb7 hnetr
       have hvx7 := hvx6.but hb7 hnexr
       have hva7 := hva6.but hb7 (Ne.symm hnera)
       have hvb7 := hvb6.but hb7 (Ne.symm hnerb)
       clear hB6 hvr6 hb7 hz7 hvo6 hvt6 hvx6 hva6 hvb6
       skip))
  exact sret Tryd.results22 gr (ob.map cellOf) rfl hvr7 Tryd.underlying23 rfl size_k32 (by rw [List.length_map, Hob.out]) rfl ⟨rfl, hB7⟩
end Go.Proofs.YtoggkhjaghkpnaaDoor
namespace Go.Proofs.YtoggkhjaghkpnaaDoor
open Go.RowKit
/-- Both tables of the package stand. -/
def TabsS (w : World) : Prop := Tab w 0 ((nD NP.LL).map ncell) ∧ Tab w 7 ((nD tailN).map ncell)
theorem TabsS.on {w w' : World} (h : TabsS w) (hb : Below w.heap.size w w') : TabsS w' := ⟨h.1.on hb, h.2.on hb⟩
theorem TabsS.below {w w' : World} (h : TabsS w) (hb : Below w.heap.size w w') : TabsS w' := h.on hb
theorem hiW_pre (q : List Nat) : ∀ k, k ≤ 16 → hiW q k * 4294967296 ^ (16 - k) + pre q (16 - k) = pre q 16
  | 0, _ => by rw [hiW, Nat.zero_mul, Nat.zero_add]
  | k + 1, h => by
    have ih := hiW_pre q k (by omega)
    obtain ⟨m, hm⟩ : ∃ m, 16 - k = m + 1 := ⟨15 - k, by omega⟩
    rw [hm, pre, Nat.pow_succ] at ih
    rw [show 16 - (k + 1) = m by omega, hiW, show 15 - k = m by omega, Nat.add_mul, Nat.mul_assoc, Nat.mul_comm 4294967296]
    omega
theorem hiW_all (q : List Nat) : hiW q 16 = pre q 16 := by
  have h := hiW_pre q 16 (Nat.le_refl _)
  rw [show 16 - 16 = 0 from rfl, pre, Nat.pow_zero, Nat.mul_one, Nat.add_zero] at h
  exact h
theorem mod_next (a x m : Nat) : (a % m * 4294967296 + x) % m = (a * 4294967296 + x) % m := by
  rw [Nat.add_mod, Nat.mod_mul_mod, ← Nat.add_mod]
theorem nD_zero : nD 0 = [0, 0, 0, 0, 0, 0, 0, 0] := by decide +kernel
theorem scModulo_any (q : List Nat) (w : World) (hq : q.length = 16) (hl : ∀ k, q.getD k 0 < 4294967296) (hT : TabsS w) :
    Calls Tryd.prog 31 #[numVal q] w (gvn (numVal (nD (pre q 16 % NP.LL))) w) := by
  have h := scModulo_over q (nD NP.LL) (nD tailN) (fun j => nD (hiW q (16 - j) % NP.LL)) w hq (fun j => rfl) (by
    show nD (hiW q (16 - 16) % NP.LL) = _
    rw [show 16 - 16 = 0 from rfl, hiW, Nat.zero_mod, nD_zero]) (fun k hk W hO hT2 => by
    have h2 := scNext_any (hiW q (16 - (k + 1)) % NP.LL) (q.getD k 0) W (Nat.mod_lt _ (by decide)) (hl k) hO hT2
    obtain ⟨m, hm⟩ : ∃ m, 16 - k = m + 1 := ⟨15 - k, by omega⟩
    rw [mod_next, show 16 - (k + 1) = m by omega] at h2
    show Calls Tryd.prog 56 #[numVal (nD (hiW q (16 - (k + 1)) % NP.LL)), ncell (q.getD k 0)] W fun e w' => e = .returned (numVal (nD (hiW q (16 - k) % NP.LL))) ∧ _
    rw [hm, hiW, show 15 - m = k by omega, show 16 - (k + 1) = m by omega]
    exact h2) hT.1 hT.2
  rw [show 16 - 0 = 16 from rfl, hiW_all] at h
  exact h
theorem pre_join (a b : List Nat) (ha : a.length = 8) : ∀ k, pre (a ++ b) (8 + k) = pre a 8 + mm * pre b k
  | 0 => by
    rw [Nat.add_zero, show pre b 0 = 0 from rfl, Nat.mul_zero, Nat.add_zero]
    refine pre_congr _ _ 8 fun i hi => ?_
    rw [List.getD_eq_getElem?_getD, List.getElem?_append_left (by omega), ← List.getD_eq_getElem?_getD]
  | k + 1 => by
    have e : (a ++ b).getD (8 + k) 0 = b.getD k 0 := by
      rw [List.getD_eq_getElem?_getD, List.getElem?_append_right (by omega), ha, Nat.add_sub_cancel_left, ← List.getD_eq_getElem?_getD]
    rw [← Nat.add_assoc, pre_next (a ++ b) (8 + k), pre_join a b ha k, pre_next b k, e, Nat.pow_add, mm_pow, Nat.mul_add, Nat.mul_left_comm, Nat.add_assoc]
theorem join_lt (n m : Nat) (k : Nat) : (nD n ++ nD m).getD k 0 < 4294967296 := by
  rcases Nat.lt_or_ge k 8 with h | h
  · rw [List.getD_eq_getElem?_getD, List.getElem?_append_left (by rw [nD_length]; exact h), ← List.getD_eq_getElem?_getD]; exact (nD_D8 n).2 k
  · rw [List.getD_eq_getElem?_getD, List.getElem?_append_right (by rw [nD_length]; exact h), ← List.getD_eq_getElem?_getD]; exact (nD_D8 m).2 _
theorem join_pre (n m : Nat) (hn : n < mm) (hm : m < mm) : pre (nD n ++ nD m) 16 = n + mm * m := by
  have h := pre_join (nD n) (nD m) (nD_length n) 8
  rw [pre_nD n hn, pre_nD m hm] at h
  exact h
theorem lev_mm (b : List UInt8) (hb : b.length = 32) : lev b < mm := lev_lt32 b hb
theorem LL_lt_mm {n : Nat} (h : n < NP.LL) : n < mm := Nat.lt_trans h (by decide)
theorem mod_LL (n : Nat) : n % NP.LL < NP.LL := Nat.mod_lt _ (by decide)
theorem scLeast_any (b : List UInt8) (w : World) (hb : b.length = 32) (hT : TabsS w) : Calls Tryd.prog 30 #[hashVal b] w (gvn (numVal (nD (lev b % NP.LL))) w) := by
  have hp := join_pre (lev b) 0 (lev_mm b hb) (by decide)
  rw [Nat.mul_zero, Nat.add_zero] at hp
  refine scLeast_over b (nD (lev b)) (nD 0) (nD (lev b) ++ nD 0) (nD (lev b % NP.LL)) (nD NP.LL) (nD tailN) w hb rfl (fun W => scRead_any b W hb) (by rw [nD_zero]; exact build_sn0) (fun W => scBeside_any _ _ W rfl rfl) (fun W hO hT2 => ?_) hT.1 hT.2
  have h := scModulo_any (nD (lev b) ++ nD 0) W rfl (join_lt _ _) ⟨hO, hT2⟩
  rw [hp] at h
  exact h
theorem scAdd_any (a b : List UInt8) (w : World) (ha : a.length = 32) (hb : b.length = 32) (hT : TabsS w) : Calls Tryd.prog 12 #[hashVal a, hashVal b] w (gvn (hashVal (putL ((lev a + lev b) % NP.LL) 32)) w) := by
  have h1 := mod_LL (lev a)
  have h2 := mod_LL (lev b)
  have hs : lev a % NP.LL + lev b % NP.LL < mm := Nat.lt_trans (Nat.add_lt_add h1 h2) (by decide)
  refine scAdd_over a b _ (nD (lev a % NP.LL)) (nD (lev b % NP.LL)) (nD (lev a % NP.LL + lev b % NP.LL)) (nD ((lev a + lev b) % NP.LL)) (nD NP.LL) (nD tailN) w ha hb (putL_length _ _) rfl (fun W hO hT2 => scLeast_any a W ha ⟨hO, hT2⟩) (fun W hO hT2 => scLeast_any b W hb ⟨hO, hT2⟩) (fun W => ?_) (fun W hO => ?_) (fun W => scWritten_any _ W) hT.1 hT.2
  · have h := scPlus_any (lev a % NP.LL) (lev b % NP.LL) W (LL_lt_mm h1) (LL_lt_mm h2)
    rw [Nat.mod_eq_of_lt hs] at h
    exact h
  · have h := scLess_any (lev a % NP.LL + lev b % NP.LL) NP.LL W hs (by decide) (Nat.le_add_left _ _) hO
    have e : (if lev a % NP.LL + lev b % NP.LL < NP.LL then lev a % NP.LL + lev b % NP.LL + NP.LL - NP.LL else lev a % NP.LL + lev b % NP.LL - NP.LL) = (lev a + lev b) % NP.LL := by
      rw [Nat.add_mod]
      generalize lev a % NP.LL = x at *
      generalize lev b % NP.LL = y at *
      generalize NP.LL = L at *
      split
      · rename_i hl
        rw [Nat.add_sub_cancel, Nat.mod_eq_of_lt hl]
      · rename_i hl
        rw [Nat.mod_eq_sub_mod (by omega), Nat.mod_eq_of_lt (by omega)]
    rw [e] at h
    exact h
theorem scTimes_any (a b : List UInt8) (w : World) (ha : a.length = 32) (hb : b.length = 32) (hT : TabsS w) : Calls Tryd.prog 13 #[hashVal a, hashVal b] w (gvn (hashVal (putL (lev a * lev b % NP.LL) 32)) w) := by
  refine scTimes_over a b _ (nD (lev a)) (nD (lev b)) (prR (lev a) (lev b)) (nD (lev a * lev b % NP.LL)) (nD NP.LL) (nD tailN) w ha hb (putL_length _ _) (fun W => scRead_any a W ha) (fun W => scRead_any b W hb) (fun W => scProduct_any _ _ W) (fun W hO hT2 => ?_) (fun W => scWritten_any _ W) hT.1 hT.2
  have h := scModulo_any (prR (lev a) (lev b)) W (prR_length _ _) (prR_lt _ _) ⟨hO, hT2⟩
  rw [prR_pre _ _ (lev_mm a ha) (lev_mm b hb)] at h
  exact h
theorem scRight_any (b : List UInt8) (w : World) (hb : b.length = 32) (hT : TabsS w) : Calls Tryd.prog 15 #[hashVal b] w (gvn (.bool (decide (lev b < NP.LL))) w) :=
  scRight_over b (nD (lev b)) (nD ((lev b + mm - NP.LL) % mm)) (nD NP.LL) _ w hb rfl rfl (fun W => scRead_any b W hb) (fun W => scMinus_any _ _ W (lev_mm b hb) (by decide)) hT.1
theorem lev_halves (b : List UInt8) (hb : b.length = 64) : lev b = lev ((b.drop 0).take 32) + mm * lev ((b.drop 32).take 32) := by
  have h := lev_append (b.take 32) (b.drop 32)
  rw [List.take_append_drop, List.length_take, Nat.min_eq_left (by omega), show (256 : Nat) ^ 32 = mm from by decide +kernel] at h
  rw [List.drop_zero, List.take_of_length_le (l := b.drop 32) (by rw [List.length_drop]; omega)]
  exact h
theorem scReduce_any (b : List UInt8) (w : World) (hb : b.length = 64) (hT : TabsS w) : Calls Tryd.prog 22 #[hashVal b] w (gvn (hashVal (putL (lev b % NP.LL) 32)) w) := by
  have l1 : ((b.drop 0).take 32).length = 32 := by rw [List.length_take, List.length_drop]; omega
  have l2 : ((b.drop 32).take 32).length = 32 := by rw [List.length_take, List.length_drop]; omega
  refine scReduce_over b ((b.drop 0).take 32) ((b.drop 32).take 32) _ (nD (lev ((b.drop 0).take 32))) (nD (lev ((b.drop 32).take 32))) (nD (lev ((b.drop 0).take 32)) ++ nD (lev ((b.drop 32).take 32))) (nD (lev b % NP.LL)) (nD NP.LL) (nD tailN) w l1 l2 (putL_length _ _) rfl rfl rfl rfl (fun W => scRead_any _ W l1) (fun W => scRead_any _ W l2) (fun W => scBeside_any _ _ W rfl rfl) (fun W hO hT2 => ?_) (fun W => scWritten_any _ W) hT.1 hT.2
  have h := scModulo_any (nD (lev ((b.drop 0).take 32)) ++ nD (lev ((b.drop 32).take 32))) W rfl (join_lt _ _) ⟨hO, hT2⟩
  rw [join_pre _ _ (lev_mm _ l1) (lev_mm _ l2), ← lev_halves b hb] at h
  exact h
end Go.Proofs.YtoggkhjaghkpnaaDoor
namespace Go.Proofs.YtoggkhjaghkpnaaDoor.NP
/-- A prime, a root of less 1, and a number that is no square. -/
structure Edw (P : Nat) (d i : Int) : Prop where
  prime : Pr P
  odd : ¬ (P : Int) ∣ 2
  root : (P : Int) ∣ i * i + 1
  non : ∀ s t : Int, (P : Int) ∣ s * s - d * (t * t) → (P : Int) ∣ t
/-- A point is on the curve. -/
def On (P : Nat) (d x y : Int) : Prop := (P : Int) ∣ y*y - x*x - 1 - d*x*x*y*y
theorem Pr.not_one {P : Nat} (h : Pr P) : ¬ (P : Int) ∣ 1 := fun hd => by
  have h1 := Int.natCast_dvd_natCast.1 (show ((P : Nat) : Int) ∣ ((1 : Nat) : Int) from hd)
  have h2 := Nat.le_of_dvd (by decide) h1
  have := h.1
  omega
theorem Edw.part {P : Nat} {d i : Int} (h : Edw P d i) {x1 y1 x2 y2 e f : Int} (he : e * e = 1) (hf : f * f = 1) (h1 : On P d x1 y1) (h2 : On P d x2 y2) (hk : (P : Int) ∣ e - d*x1*x2*y1*y2) : (P : Int) ∣ x1 * y1 * (i * x2 + f * y2) := by
  obtain ⟨u1, hu1⟩ := h1
  obtain ⟨u2, hu2⟩ := h2
  obtain ⟨v, hv⟩ := hk
  obtain ⟨j, hj⟩ := h.root
  refine h.non (i * x1 + e * f * y1) _ ⟨u1 - d*x1*x1*y1*y1*u2 + v*(e + d*x1*x2*y1*y2) + 2*i*x1*y1*f*v + j*x1*x1 - d*x1*x1*y1*y1*j*x2*x2, ?_⟩
  grind
theorem Edw.apart {P : Nat} {d i : Int} (h : Edw P d i) {x1 y1 x2 y2 e : Int} (he : e * e = 1) (h1 : On P d x1 y1) (h2 : On P d x2 y2) : ¬ (P : Int) ∣ e - d*x1*x2*y1*y2 := fun hk => by
  obtain ⟨a, ha⟩ := h.part (f := 1) he rfl h1 h2 hk
  obtain ⟨b, hb⟩ := h.part (f := -1) he rfl h1 h2 hk
  obtain ⟨v, hv⟩ := hk
  obtain ⟨j, hj⟩ := h.root
  have h3 : (P : Int) ∣ 2 * (i * (d*x1*x2*y1*y2)) := ⟨(a + b) * (d * y2), by grind⟩
  rcases h.prime.int h3 with h4 | h4
  · exact h.odd h4
  · rcases h.prime.int h4 with ⟨c, hc⟩ | ⟨c, hc⟩
    · exact h.prime.not_one ⟨j - c * i, by rw [Int.mul_sub, ← Int.mul_assoc, ← hc, ← hj]; omega⟩
    · have h5 : e = (P : Int) * (v + c) := by rw [Int.mul_add, ← hv, ← hc]; omega
      exact h.prime.not_one ⟨e * (v + c), by rw [Int.mul_left_comm, ← h5, he]⟩
theorem Edw.plus {P : Nat} {d i : Int} (h : Edw P d i) {x1 y1 x2 y2 : Int} (h1 : On P d x1 y1) (h2 : On P d x2 y2) : ¬ (P : Int) ∣ 1 + d*x1*x2*y1*y2 := fun ⟨c, hc⟩ =>
  h.apart (e := -1) rfl h1 h2 ⟨-c, by grind⟩
theorem Edw.less {P : Nat} {d i : Int} (h : Edw P d i) {x1 y1 x2 y2 : Int} (h1 : On P d x1 y1) (h2 : On P d x2 y2) : ¬ (P : Int) ∣ 1 - d*x1*x2*y1*y2 := h.apart (e := 1) rfl h1 h2
/-- The third point is the sum of the two. -/
def Sum (P : Nat) (d x1 y1 x2 y2 x3 y3 : Int) : Prop := (P : Int) ∣ x3 * (1 + d*x1*x2*y1*y2) - (x1*y2 + x2*y1) ∧ (P : Int) ∣ y3 * (1 - d*x1*x2*y1*y2) - (y1*y2 + x1*x2)
theorem cancel {P : Nat} (hP : Pr P) {a b c : Int} (hc : ¬ (P : Int) ∣ c) (h : (P : Int) ∣ a * c - b * c) : (P : Int) ∣ a - b := by
  rw [← Int.sub_mul] at h
  exact (hP.int h).resolve_right hc
theorem Edw.one {P : Nat} {d i : Int} (h : Edw P d i) {x1 y1 x2 y2 x3 y3 x4 y4 : Int} (h1 : On P d x1 y1) (h2 : On P d x2 y2) (h3 : Sum P d x1 y1 x2 y2 x3 y3) (h4 : Sum P d x1 y1 x2 y2 x4 y4) : (P : Int) ∣ x3 - x4 ∧ (P : Int) ∣ y3 - y4 := by
  obtain ⟨⟨a, ha⟩, ⟨b, hb⟩⟩ := h3
  obtain ⟨⟨a', ha'⟩, ⟨b', hb'⟩⟩ := h4
  exact ⟨cancel h.prime (h.plus h1 h2) ⟨a - a', by grind⟩, cancel h.prime (h.less h1 h2) ⟨b - b', by grind⟩⟩
theorem Sum.swap {P : Nat} {d x1 y1 x2 y2 x3 y3 : Int} (h : Sum P d x1 y1 x2 y2 x3 y3) : Sum P d x2 y2 x1 y1 x3 y3 := by
  obtain ⟨⟨a, ha⟩, ⟨b, hb⟩⟩ := h
  exact ⟨⟨a, by grind⟩, ⟨b, by grind⟩⟩
set_option maxHeartbeats 4000000 in
set_option maxRecDepth 100000 in
theorem assoc_x (d x1 y1 x2 y2 x3 y3 : Int) : ((x1*y2 + x2*y1)*(1 - d*x1*x2*y1*y2)*y3 + (y1*y2 + x1*x2)*(1 + d*x1*x2*y1*y2)*x3) * ((1 + d*x2*x3*y2*y3)*(1 - d*x2*x3*y2*y3) + d*(x2*y3 + x3*y2)*(y2*y3 + x2*x3)*x1*y1) - ((x2*y3 + x3*y2)*(1 - d*x2*x3*y2*y3)*y1 + (y2*y3 + x2*x3)*(1 + d*x2*x3*y2*y3)*x1) * ((1 + d*x1*x2*y1*y2)*(1 - d*x1*x2*y1*y2) + d*(x1*y2 + x2*y1)*(y1*y2 + x1*x2)*x3*y3) = ((-1) * d * y1 * x2 * y2^4 * x3^2 * y3 + (-1) * d * y1 * x2^2 * y2^3 * x3 + (-1) * d * y1 * x2^2 * y2^3 * x3^3 + (-1) * d * y1 * x2^3 * y2^2 * y3 + (1) * d * y1 * x2^3 * y2^2 * y3^3 + (1) * d * y1 * x2^4 * y2 * x3 * y3^2 + (1) * d * x1 * x2 * y2^4 * x3 * y3^2 + (-1) * d * x1 * x2^2 * y2^3 * y3 + (1) * d * x1 * x2^2 * y2^3 * y3^3 + (-1) * d * x1 * x2^3 * y2^2 * x3 + (-1) * d * x1 * x2^3 * y2^2 * x3^3 + (-1) * d * x1 * x2^4 * y2 * x3^2 * y3 + (1) * d^2 * y1 * x2^3 * y2^4 * x3^2 * y3 + (1) * d^2 * y1 * x2^4 * y2^3 * x3 * y3^2 + (-1) * d^2 * x1 * x2^3 * y2^4 * x3 * y3^2 + (-1) * d^2 * x1 * x2^4 * y2^3 * x3^2 * y3) * (y1*y1 - x1*x1 - 1 - d*x1*x1*y1*y1) + ((1) * y1 * y2 * x3 + (-1) * y1 * y2 * x3 * y3^2 + (1) * y1 * y2 * x3^3 + (1) * y1 * x2 * y3 + (-1) * y1 * x2 * y3^3 + (1) * y1 * x2 * x3^2 * y3 + (-1) * y1^3 * y2 * x3 + (1) * y1^3 * y2 * x3 * y3^2 + (-1) * y1^3 * y2 * x3^3 + (-1) * y1^3 * x2 * y3 + (1) * y1^3 * x2 * y3^3 + (-1) * y1^3 * x2 * x3^2 * y3 + (1) * x1 * y2 * y3 + (-1) * x1 * y2 * y3^3 + (1) * x1 * y2 * x3^2 * y3 + (1) * x1 * x2 * x3 + (-1) * x1 * x2 * x3 * y3^2 + (1) * x1 * x2 * x3^3 + (-1) * x1 * y1^2 * y2 * y3 + (1) * x1 * y1^2 * y2 * y3^3 + (-1) * x1 * y1^2 * y2 * x3^2 * y3 + (-1) * x1 * y1^2 * x2 * x3 + (1) * x1 * y1^2 * x2 * x3 * y3^2 + (-1) * x1 * y1^2 * x2 * x3^3 + (1) * x1^2 * y1 * y2 * x3 + (-1) * x1^2 * y1 * y2 * x3 * y3^2 + (1) * x1^2 * y1 * y2 * x3^3 + (1) * x1^2 * y1 * x2 * y3 + (-1) * x1^2 * y1 * x2 * y3^3 + (1) * x1^2 * y1 * x2 * x3^2 * y3 + (1) * x1^3 * y2 * y3 + (-1) * x1^3 * y2 * y3^3 + (1) * x1^3 * y2 * x3^2 * y3 + (1) * x1^3 * x2 * x3 + (-1) * x1^3 * x2 * x3 * y3^2 + (1) * x1^3 * x2 * x3^3 + (1) * d * y1 * y2 * x3^3 * y3^2 + (1) * d * y1 * x2 * x3^2 * y3^3 + (-1) * d * y1 * x2 * y2^2 * x3^2 * y3 + (-1) * d * y1 * x2^2 * y2 * x3 * y3^2 + (-1) * d * y1^3 * y2 * x3^3 * y3^2 + (-1) * d * y1^3 * x2 * x3^2 * y3^3 + (1) * d * y1^3 * x2 * y2^2 * x3^2 * y3 + (1) * d * y1^3 * x2^2 * y2 * x3 * y3^2 + (1) * d * x1 * y2 * x3^2 * y3^3 + (1) * d * x1 * x2 * x3^3 * y3^2 + (1) * d * x1 * x2 * y2^2 * x3 * y3^2 + (1) * d * x1 * x2^2 * y2 * x3^2 * y3 + (-1) * d * x1 * y1^2 * y2 * x3^2 * y3^3 + (-1) * d * x1 * y1^2 * x2 * x3^3 * y3^2 + (-1) * d * x1 * y1^2 * x2 * y2^2 * x3 * y3^2 + (-1) * d * x1 * y1^2 * x2^2 * y2 * x3^2 * y3 + (1) * d * x1^2 * y1 * y2 * x3^3 * y3^2 + (1) * d * x1^2 * y1 * x2 * x3^2 * y3^3 + (-1) * d * x1^2 * y1 * x2 * y2^2 * x3^2 * y3 + (-1) * d * x1^2 * y1 * x2^2 * y2 * x3 * y3^2 + (1) * d * x1^3 * y2 * x3^2 * y3^3 + (1) * d * x1^3 * x2 * x3^3 * y3^2 + (1) * d * x1^3 * x2 * y2^2 * x3 * y3^2 + (1) * d * x1^3 * x2^2 * y2 * x3^2 * y3 + (1) * d^2 * x1 * y1^2 * x2 * y2^2 * x3^3 * y3^2 + (-1) * d^2 * x1 * y1^2 * x2^2 * y2 * x3^2 * y3^3 + (-1) * d^2 * x1^2 * y1 * x2 * y2^2 * x3^2 * y3^3 + (1) * d^2 * x1^2 * y1 * x2^2 * y2 * x3^3 * y3^2) * (y2*y2 - x2*x2 - 1 - d*x2*x2*y2*y2) + ((-1) * y1 * y2 * x3 + (1) * y1 * y2^3 * x3 + (-1) * y1 * x2 * y3 + (1) * y1 * x2 * y2^2 * y3 + (-1) * y1 * x2^2 * y2 * x3 + (-1) * y1 * x2^3 * y3 + (1) * y1^3 * y2 * x3 + (-1) * y1^3 * y2^3 * x3 + (1) * y1^3 * x2 * y3 + (-1) * y1^3 * x2 * y2^2 * y3 + (1) * y1^3 * x2^2 * y2 * x3 + (1) * y1^3 * x2^3 * y3 + (-1) * x1 * y2 * y3 + (1) * x1 * y2^3 * y3 + (-1) * x1 * x2 * x3 + (1) * x1 * x2 * y2^2 * x3 + (-1) * x1 * x2^2 * y2 * y3 + (-1) * x1 * x2^3 * x3 + (1) * x1 * y1^2 * y2 * y3 + (-1) * x1 * y1^2 * y2^3 * y3 + (1) * x1 * y1^2 * x2 * x3 + (-1) * x1 * y1^2 * x2 * y2^2 * x3 + (1) * x1 * y1^2 * x2^2 * y2 * y3 + (1) * x1 * y1^2 * x2^3 * x3 + (-1) * x1^2 * y1 * y2 * x3 + (1) * x1^2 * y1 * y2^3 * x3 + (-1) * x1^2 * y1 * x2 * y3 + (1) * x1^2 * y1 * x2 * y2^2 * y3 + (-1) * x1^2 * y1 * x2^2 * y2 * x3 + (-1) * x1^2 * y1 * x2^3 * y3 + (-1) * x1^3 * y2 * y3 + (1) * x1^3 * y2^3 * y3 + (-1) * x1^3 * x2 * x3 + (1) * x1^3 * x2 * y2^2 * x3 + (-1) * x1^3 * x2^2 * y2 * y3 + (-1) * x1^3 * x2^3 * x3 + (-1) * d * x1 * y1^2 * x2 * y2^2 * x3 + (1) * d * x1 * y1^2 * x2^2 * y2 * y3 + (1) * d * x1^2 * y1 * x2 * y2^2 * y3 + (-1) * d * x1^2 * y1 * x2^2 * y2 * x3) * (y3*y3 - x3*x3 - 1 - d*x3*x3*y3*y3) := by grind
set_option maxHeartbeats 4000000 in
set_option maxRecDepth 100000 in
theorem assoc_y (d x1 y1 x2 y2 x3 y3 : Int) : ((y1*y2 + x1*x2)*(1 + d*x1*x2*y1*y2)*y3 + (x1*y2 + x2*y1)*(1 - d*x1*x2*y1*y2)*x3) * ((1 + d*x2*x3*y2*y3)*(1 - d*x2*x3*y2*y3) - d*(x2*y3 + x3*y2)*(y2*y3 + x2*x3)*x1*y1) - ((y2*y3 + x2*x3)*(1 + d*x2*x3*y2*y3)*y1 + (x2*y3 + x3*y2)*(1 - d*x2*x3*y2*y3)*x1) * ((1 + d*x1*x2*y1*y2)*(1 - d*x1*x2*y1*y2) - d*(x1*y2 + x2*y1)*(y1*y2 + x1*x2)*x3*y3) = ((1) * d * y1 * x2 * y2^4 * x3 * y3^2 + (-1) * d * y1 * x2^2 * y2^3 * y3 + (1) * d * y1 * x2^2 * y2^3 * y3^3 + (-1) * d * y1 * x2^3 * y2^2 * x3 + (-1) * d * y1 * x2^3 * y2^2 * x3^3 + (-1) * d * y1 * x2^4 * y2 * x3^2 * y3 + (-1) * d * x1 * x2 * y2^4 * x3^2 * y3 + (-1) * d * x1 * x2^2 * y2^3 * x3 + (-1) * d * x1 * x2^2 * y2^3 * x3^3 + (-1) * d * x1 * x2^3 * y2^2 * y3 + (1) * d * x1 * x2^3 * y2^2 * y3^3 + (1) * d * x1 * x2^4 * y2 * x3 * y3^2 + (-1) * d^2 * y1 * x2^3 * y2^4 * x3 * y3^2 + (-1) * d^2 * y1 * x2^4 * y2^3 * x3^2 * y3 + (1) * d^2 * x1 * x2^3 * y2^4 * x3^2 * y3 + (1) * d^2 * x1 * x2^4 * y2^3 * x3 * y3^2) * (y1*y1 - x1*x1 - 1 - d*x1*x1*y1*y1) + ((1) * y1 * y2 * y3 + (-1) * y1 * y2 * y3^3 + (1) * y1 * y2 * x3^2 * y3 + (1) * y1 * x2 * x3 + (-1) * y1 * x2 * x3 * y3^2 + (1) * y1 * x2 * x3^3 + (-1) * y1^3 * y2 * y3 + (1) * y1^3 * y2 * y3^3 + (-1) * y1^3 * y2 * x3^2 * y3 + (-1) * y1^3 * x2 * x3 + (1) * y1^3 * x2 * x3 * y3^2 + (-1) * y1^3 * x2 * x3^3 + (1) * x1 * y2 * x3 + (-1) * x1 * y2 * x3 * y3^2 + (1) * x1 * y2 * x3^3 + (1) * x1 * x2 * y3 + (-1) * x1 * x2 * y3^3 + (1) * x1 * x2 * x3^2 * y3 + (-1) * x1 * y1^2 * y2 * x3 + (1) * x1 * y1^2 * y2 * x3 * y3^2 + (-1) * x1 * y1^2 * y2 * x3^3 + (-1) * x1 * y1^2 * x2 * y3 + (1) * x1 * y1^2 * x2 * y3^3 + (-1) * x1 * y1^2 * x2 * x3^2 * y3 + (1) * x1^2 * y1 * y2 * y3 + (-1) * x1^2 * y1 * y2 * y3^3 + (1) * x1^2 * y1 * y2 * x3^2 * y3 + (1) * x1^2 * y1 * x2 * x3 + (-1) * x1^2 * y1 * x2 * x3 * y3^2 + (1) * x1^2 * y1 * x2 * x3^3 + (1) * x1^3 * y2 * x3 + (-1) * x1^3 * y2 * x3 * y3^2 + (1) * x1^3 * y2 * x3^3 + (1) * x1^3 * x2 * y3 + (-1) * x1^3 * x2 * y3^3 + (1) * x1^3 * x2 * x3^2 * y3 + (1) * d * y1 * y2 * x3^2 * y3^3 + (1) * d * y1 * x2 * x3^3 * y3^2 + (1) * d * y1 * x2 * y2^2 * x3 * y3^2 + (1) * d * y1 * x2^2 * y2 * x3^2 * y3 + (-1) * d * y1^3 * y2 * x3^2 * y3^3 + (-1) * d * y1^3 * x2 * x3^3 * y3^2 + (-1) * d * y1^3 * x2 * y2^2 * x3 * y3^2 + (-1) * d * y1^3 * x2^2 * y2 * x3^2 * y3 + (1) * d * x1 * y2 * x3^3 * y3^2 + (1) * d * x1 * x2 * x3^2 * y3^3 + (-1) * d * x1 * x2 * y2^2 * x3^2 * y3 + (-1) * d * x1 * x2^2 * y2 * x3 * y3^2 + (-1) * d * x1 * y1^2 * y2 * x3^3 * y3^2 + (-1) * d * x1 * y1^2 * x2 * x3^2 * y3^3 + (1) * d * x1 * y1^2 * x2 * y2^2 * x3^2 * y3 + (1) * d * x1 * y1^2 * x2^2 * y2 * x3 * y3^2 + (1) * d * x1^2 * y1 * y2 * x3^2 * y3^3 + (1) * d * x1^2 * y1 * x2 * x3^3 * y3^2 + (1) * d * x1^2 * y1 * x2 * y2^2 * x3 * y3^2 + (1) * d * x1^2 * y1 * x2^2 * y2 * x3^2 * y3 + (1) * d * x1^3 * y2 * x3^3 * y3^2 + (1) * d * x1^3 * x2 * x3^2 * y3^3 + (-1) * d * x1^3 * x2 * y2^2 * x3^2 * y3 + (-1) * d * x1^3 * x2^2 * y2 * x3 * y3^2 + (1) * d^2 * x1 * y1^2 * x2 * y2^2 * x3^2 * y3^3 + (-1) * d^2 * x1 * y1^2 * x2^2 * y2 * x3^3 * y3^2 + (-1) * d^2 * x1^2 * y1 * x2 * y2^2 * x3^3 * y3^2 + (1) * d^2 * x1^2 * y1 * x2^2 * y2 * x3^2 * y3^3) * (y2*y2 - x2*x2 - 1 - d*x2*x2*y2*y2) + ((-1) * y1 * y2 * y3 + (1) * y1 * y2^3 * y3 + (-1) * y1 * x2 * x3 + (1) * y1 * x2 * y2^2 * x3 + (-1) * y1 * x2^2 * y2 * y3 + (-1) * y1 * x2^3 * x3 + (1) * y1^3 * y2 * y3 + (-1) * y1^3 * y2^3 * y3 + (1) * y1^3 * x2 * x3 + (-1) * y1^3 * x2 * y2^2 * x3 + (1) * y1^3 * x2^2 * y2 * y3 + (1) * y1^3 * x2^3 * x3 + (-1) * x1 * y2 * x3 + (1) * x1 * y2^3 * x3 + (-1) * x1 * x2 * y3 + (1) * x1 * x2 * y2^2 * y3 + (-1) * x1 * x2^2 * y2 * x3 + (-1) * x1 * x2^3 * y3 + (1) * x1 * y1^2 * y2 * x3 + (-1) * x1 * y1^2 * y2^3 * x3 + (1) * x1 * y1^2 * x2 * y3 + (-1) * x1 * y1^2 * x2 * y2^2 * y3 + (1) * x1 * y1^2 * x2^2 * y2 * x3 + (1) * x1 * y1^2 * x2^3 * y3 + (-1) * x1^2 * y1 * y2 * y3 + (1) * x1^2 * y1 * y2^3 * y3 + (-1) * x1^2 * y1 * x2 * x3 + (1) * x1^2 * y1 * x2 * y2^2 * x3 + (-1) * x1^2 * y1 * x2^2 * y2 * y3 + (-1) * x1^2 * y1 * x2^3 * x3 + (-1) * x1^3 * y2 * x3 + (1) * x1^3 * y2^3 * x3 + (-1) * x1^3 * x2 * y3 + (1) * x1^3 * x2 * y2^2 * y3 + (-1) * x1^3 * x2^2 * y2 * x3 + (-1) * x1^3 * x2^3 * y3 + (-1) * d * x1 * y1^2 * x2 * y2^2 * y3 + (1) * d * x1 * y1^2 * x2^2 * y2 * x3 + (1) * d * x1^2 * y1 * x2 * y2^2 * x3 + (-1) * d * x1^2 * y1 * x2^2 * y2 * y3) * (y3*y3 - x3*x3 - 1 - d*x3*x3*y3*y3) := by grind
set_option maxHeartbeats 4000000 in
set_option maxRecDepth 100000 in
theorem sum_on (d x1 y1 x2 y2 : Int) : (y1*y2 + x1*x2)*(y1*y2 + x1*x2)*((1 + d*x1*x2*y1*y2)*(1 + d*x1*x2*y1*y2)) - (x1*y2 + x2*y1)*(x1*y2 + x2*y1)*((1 - d*x1*x2*y1*y2)*(1 - d*x1*x2*y1*y2)) - (1 + d*x1*x2*y1*y2)*(1 + d*x1*x2*y1*y2)*((1 - d*x1*x2*y1*y2)*(1 - d*x1*x2*y1*y2)) - d*((x1*y2 + x2*y1)*(x1*y2 + x2*y1))*((y1*y2 + x1*x2)*(y1*y2 + x1*x2)) = ((1) * y2^4 + (-4) * x2^2 * y2^2 + (2) * x2^2 * y2^4 + (1) * x2^4 + (-2) * x2^4 * y2^2 + (-2) * d * x2^2 * y2^2 + (-2) * d * x2^4 * y2^4 + (-1) * d * y1^2 * x2^2 * y2^4 + (1) * d * y1^2 * x2^4 * y2^2 + (1) * d * x1^2 * x2^2 * y2^4 + (-1) * d * x1^2 * x2^4 * y2^2 + (-1) * d^2 * x2^4 * y2^4 + (1) * d^2 * y1^2 * x2^4 * y2^4 + (-1) * d^2 * x1^2 * x2^4 * y2^4 + (1) * d^3 * x1^2 * y1^2 * x2^4 * y2^4) * (y1*y1 - x1*x1 - 1 - d*x1*x1*y1*y1) + ((1) + (1) * y2^2 + (-1) * x2^2 + (2) * x2^2 * y2^2 + (-1) * y1^2 * y2^2 + (1) * y1^2 * x2^2 + (-2) * y1^2 * x2^2 * y2^2 + (1) * x1^2 * y2^2 + (-1) * x1^2 * x2^2 + (2) * x1^2 * x2^2 * y2^2 + (1) * d * x2^2 * y2^2 + (-2) * d * y1^2 * x2^2 * y2^2 + (1) * d * y1^4 * x2^2 * y2^2 + (2) * d * x1^2 * x2^2 * y2^2 + (1) * d * x1^4 * x2^2 * y2^2) * (y2*y2 - x2*x2 - 1 - d*x2*x2*y2*y2) := by grind
end Go.Proofs.YtoggkhjaghkpnaaDoor.NP
