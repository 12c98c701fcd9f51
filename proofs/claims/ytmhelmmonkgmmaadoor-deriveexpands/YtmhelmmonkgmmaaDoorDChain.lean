/- Package derive: chained, Expand, Extract. -/
import Derived.Test.YtmhelmmonkgmmaaDoorDMath
import Derived.Test.YtmhelmmonkgmmaaDoorDOwn
import Derived.Test.YtmhelmmonkgmmaaDoorMSum
import Derived.Test.YtmhelmmonkgmmaaDoorMRef
namespace Go.Proofs.YtmhelmmonkgmmaaDoor
open Go.RowKit
/-- The parts of which a block is the code, as the statement lays them. -/
theorem chain_world (w : World) (a b : Value) (x y : List UInt8) (u : UInt8) (ha : Part w w.heap.size a x) (hb : Part w w.heap.size b y) :
    ∃ w', w' = (w.alloc (.cells #[cellOf u] 5)).alloc (.cells #[a, b, .slice (some ⟨w.heap.size, 0, none⟩) 1 1] 22) ∧ Below w.heap.size w w' ∧ Parts w' w'.heap.size (some ⟨w.heap.size + 1, 0, none⟩) [x, y, [u]] := by
  have b1 : Below w.heap.size w (w.alloc (.cells #[cellOf u] 5)) := (Below.refl _ _).alloc (Nat.le_refl _) _
  have z1 : (w.alloc (.cells #[cellOf u] 5)).heap.size = w.heap.size + 1 := by simp
  have r1 : Row (w.alloc (.cells #[cellOf u] 5)) (w.alloc (.cells #[cellOf u] 5)).heap.size (some ⟨w.heap.size, 0, none⟩) [u] := by rw [z1]; exact row_lit w [u] (0, 0)
  generalize w.alloc (.cells #[cellOf u] 5) = w1 at *
  have b2 : Below w1.heap.size w1 (w1.alloc (.cells #[a, b, .slice (some ⟨w.heap.size, 0, none⟩) 1 1] 22)) := (Below.refl _ _).alloc (Nat.le_refl _) _
  have p2 := parts_three w1 a b (.slice (some ⟨w.heap.size, 0, none⟩) 1 1) x y [u] (ha.on b1) (hb.on b1) (.mk rfl r1 (fun h => by cases h) (Nat.le_refl _) (by unfold maxLen; omega))
  rw [z1] at p2
  exact ⟨_, rfl, below_then b1 b2, p2⟩
set_option maxRecDepth 100000 in
set_option maxHeartbeats 800000 in
theorem chained_any (A B : Option Addr) (c n d m x : Nat) (key info : List UInt8) (w : World) (hK : Tabs w) (hg : 21 ≤ w.heap.size) (hl : key.length = n) (hr : Row w w.heap.size A key) (hA : A = none → c = 0) (hc : n ≤ c) (hc2 : c ≤ maxLen) (hn : n ≤ 900000)
    (hbl : info.length = m) (hb : Row w w.heap.size B info) (hB : B = none → d = 0) (hd : m ≤ d) (hd2 : d ≤ maxLen) (hm : m ≤ 700000) (hx : x ≤ 8160) :
    Calls Tryd.prog 20 #[.slice A n c, .slice B m d, .int .i64 (x : Int)] w (Gives w (hkdf key info x) x) := by
  have HL := Lib.hid hl
  have HBL := Lib.hid hbl
  clear hl hbl
  go_enter Tryd.func20, Tryd.ntmps20
  go_wp2
  refine wp_scope_once 0 (fun a' w' => ∃ (k g l cap n8 c8 : Nat) (A8 : Option Addr) (u10 u11 u12 u13 u14 u15 u16 u17 u18 u19 u20 u21 u22 u23 u24 u25 u26 u27 u28 u29 u30 u31 u32 u33 u34 u35 : Value), k ≤ 255 ∧ l = min x (32 * k) ∧ Below w.heap.size w w' ∧ g < w'.heap.size ∧ Owns w' w.heap.size (.slice (some ⟨g, 0, none⟩) l cap) (hkTo key info x k) ∧ Part w' w'.heap.size (.slice A8 n8 c8) (hkT key info k) ∧
      a' = { tmps := #[.slice A n c, .slice B m d, .int .i64 (x : Int), undef, undef, undef, .slice none 0 0, .slice (some ⟨g, 0, none⟩) l cap, .slice A8 n8 c8, .int .u8 (k : Int), u10, u11, u12, u13, u14, u15, u16, u17, u18, u19, u20, u21, u22, u23, u24, u25, u26, u27, u28, u29, u30, u31, u32, u33, u34, u35, undef], defers := [] })
    (fun a' _ => x - lenOf (a'.tmps.getD 7 undef)) rfl ?_ ?_
  · intro hp
    go_wp2_with (first
      | (refine make_step rfl _ _ rfl 0 x rfl rfl (Nat.zero_le _) (by omega) ?_
         intro w0 hB0 hM0 hz0))
    go_step3
    rename_i K hK
    refine hK _ _ (hp.out _ _ ⟨0, w.heap.size, 0, x, 0, 0, none, _, _, _, _, _, _, _, _, _, _, _, _, _, _, _, _, _, _, _, _, _, _, _, _, _, _, Nat.zero_le _, by omega, hB0, by omega, ?_, ?_, rfl⟩)
    · rw [hkTo_zero]
      have h := (made_owns (base := w.heap.size) hM0 (Nat.le_refl _) (by rw [List.length_replicate]; omega)).cutTo 0 (Nat.zero_le _)
      rw [List.length_replicate, List.take_zero] at h
      exact h
    · exact .mk rfl .nil (fun _ => rfl) (Nat.le_refl _) (Nat.zero_le _)
  · rintro a' w' ⟨k, g, l, cap, n8, c8, A8, u10, u11, u12, u13, u14, u15, u16, u17, u18, u19, u20, u21, u22, u23, u24, u25, u26, u27, u28, u29, u30, u31, u32, u33, u34, u35, hk, hl, hB1, hgl, hO1, hP1, rfl⟩
    by_cases hlt : 32 * k < x
    · have HLK : Hid (l = 32 * k) := by show _ = _; omega
      have i1 : (l : Int) < (x : Int) := by omega
      have HLT := Lib.hid hlt
      obtain ⟨w2, hw2, hB2, hP2⟩ := chain_world w' (.slice A8 n8 c8) (.slice B m d) (hkT key info k) info (UInt8.ofNat (k + 1)) hP1 (.mk HBL.out (hb.on hB1) hB hd hd2)
      have e1 : cellOf (UInt8.ofNat (k + 1)) = .int .u8 (((k : Int) + 1) % 256) := by
        show Value.int .u8 _ = _
        rw [UInt8.toNat_ofNat']
        congr 1
      rw [e1] at hw2
      have HW2 := Lib.hid hw2
      have HB2 := Lib.hid (below_then hB1 hB2)
      have HO2 := Lib.hid (hO1.on hB2)
      have HG2 : Hid (g < w2.heap.size) := Nat.lt_of_lt_of_le hgl hB2.size
      have HP2 := Lib.hid hP2
      have HFL : Hid ([hkT key info k, info, [UInt8.ofNat (k + 1)]].flatten.length ≤ 800000) := by
        show _ ≤ _
        have h1 := hkT_le key info k
        have h2 := HBL.out
        simp only [List.flatten_cons, List.flatten_nil, List.length_append, List.length_cons, List.length_nil]
        omega
      have HT : Hid (macSum key [hkT key info k, info, [UInt8.ofNat (k + 1)]].flatten = hkT key info (k + 1)) := by
        show _ = _
        rw [hkT_next]; simp
      have HTL := Lib.hid (hkT_length key info k)
      have HON := Lib.hid (hkTo_next key info x k hlt)
      have HOL := Lib.hid (hkTo_length key info x k)
      clear hl hlt e1 hw2 hB1 hB2 hgl hO1 hP1 hP2
      go_wp2_with fail
      rw [← HW2.out]
      clear HW2
      have hB2 := HB2.out
      refine (macSum_any A _ c n 3 3 key _ w2 (hK.below hB2) (by have := hB2.size; omega) HL.out (hr.on hB2) hA hc hc2 hn rfl HP2.out (by omega) HFL.out).mono ?_
      rintro e w3 ⟨rfl, hb3⟩
      rw [HT.out]
      have hB3 := below_then hB2 hb3
      have hO3 := HO2.out.on hb3
      have hg3 : g < w3.heap.size := Nat.lt_of_lt_of_le HG2.out hb3.size
      clear HB2 HO2 HG2 HP2 HFL HT hB2 hb3
      generalize htk : hkT key info (k + 1) = tk at *
      replace htk := Lib.hid htk
      obtain ⟨q, hq⟩ : ∃ q, min 32 (x - 32 * k) = q := ⟨_, rfl⟩
      have HQ := Lib.hid hq
      clear hq
      go_wp2_with (first
        | (refine put_step rfl rfl 30 (.tmp 10) (.tmp 25) rfl rfl 32 tk rfl rfl zero_h32 size_h32 HTL.out ?_
           intro w4 hb4 hC4 hz4
           have hB4 := below_then hB3 hb4
           have hO4 := hO3.on hb4
           clear hb4)
        | (refine min_step rfl _ (.tmp 32) rfl 32 _ q rfl rfl ?_ ?_
           · have := HQ.out; have := HLK.out; omega)
        | (refine cut_to rfl (.tmp 28) (.tmp 33) rfl (some ⟨w3.heap.size, 0, none⟩) 32 32 q _ rfl rfl rfl (by have := HQ.out; omega) ?_
           rw [cutA_zero])
        | (at_builtin
           refine append_but rfl (.tmp 27) (.tmp 34) rfl w.heap.size g l cap (hkTo key info x k) (tk.take q) w4.heap.size (some ⟨w3.heap.size, 0, none⟩) 32 q rfl hO4 rfl (by rw [List.length_take, HTL.out]; have := HQ.out; omega) (fun h => by cases h) (hC4.all.take q) (by rw [HOL.out]; have := HQ.out; omega) hB4.size ?_
           intro v5 w5 hO5 hbut5))
      have HE : Hid (hkTo key info x k ++ tk.take q = hkTo key info x (k + 1)) := by show _ = _; rw [HON.out, HQ.out]
      rw [HE.out] at hO5
      have hlt := HLT.out
      obtain ⟨g5, c5, hv5, hc5, hm5, hg5, hR5⟩ := hO5.form_pos (by rw [hkTo_length]; omega)
      rw [hkTo_length] at hv5
      subst hv5
      have hgb : w.heap.size ≤ g := hO4.far g rfl
      have e2 : ((k : Int) + 1) % 256 = ((k + 1 : Nat) : Int) := by omega
      rw [e2]
      go_step3
      have hl := HLK.out
      refine ⟨rfl, ⟨k + 1, g5, _, c5, 32, 32, some ⟨w3.heap.size, 0, none⟩, _, _, _, _, _, _, _, _, _, _, _, _, _, _, _, _, _, _, _, _, _, _, _, _, _, _, by omega, rfl, hB4.trans (hbut5.below hgb hB4.size), ?_, hO5, ?_, rfl⟩, ?_⟩
      · exact (World.ownsRow.lt hO5 g5 rfl).2
      · rw [htk.out]
        exact .mk HTL.out (hC4.all.but hbut5 (fun _ p hp => by cases hp; show w3.heap.size ≠ g; omega)) (fun h => by cases h) (Nat.le_refl _) (by unfold maxLen; omega)
      · show x - lenOf (Value.slice _ _ _) < x - lenOf (Value.slice _ _ _)
        simp only [lenOf]
        omega
    · obtain rfl : l = x := by omega
      have i1 : ¬ (l : Int) < (l : Int) := by omega
      rw [hkTo_end key info l k hk (by omega)] at hO1
      have HR := Lib.hid (hkdf_length key info l hx)
      clear hl hlt
      go_wp2
      simp only [Exit.jump]
      go_ret
      obtain ⟨A', c', hv, h1, h2, h3, h4⟩ := hO1.form2
      rw [HR.out] at hv h1
      exact ⟨A', c', by rw [← hv]; rfl, h3, h1, h2, h4, hB1⟩
end Go.Proofs.YtmhelmmonkgmmaaDoor
