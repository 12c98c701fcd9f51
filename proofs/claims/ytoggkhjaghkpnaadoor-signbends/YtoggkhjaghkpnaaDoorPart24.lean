/- Part 24 of what the laws of this seat share: YAlive, ZLaw. -/
import Derived.Test.YtoggkhjaghkpnaaDoorPart23
namespace Go.Proofs.YtoggkhjaghkpnaaDoor
open Go.RowKit
def seed1 : List UInt8 := 1 :: List.replicate 31 0
def seed2 : List UInt8 := 2 :: List.replicate 31 0
theorem sum_seed1 : widSum seed1 = [206, 12, 38, 94, 204, 130, 221, 140, 238, 110, 86, 206, 68, 228, 93, 175, 215, 160, 197, 117, 13, 249, 20, 178, 83, 161, 251, 122, 138, 246, 109, 219, 153, 118, 54, 7, 240, 168, 93, 11, 212, 54, 105, 25, 74, 58, 64, 87, 122, 82, 138, 243, 149, 244, 241, 126, 6, 241, 222, 252, 198, 222, 178, 165] := by decide +kernel
theorem sum_seed2 : widSum seed2 = [186, 61, 12, 71, 245, 159, 79, 234, 224, 247, 157, 109, 49, 41, 89, 13, 68, 76, 148, 199, 67, 222, 153, 203, 63, 186, 1, 164, 230, 210, 16, 59, 67, 84, 239, 167, 228, 132, 35, 93, 52, 94, 246, 233, 232, 28, 241, 132, 121, 107, 157, 3, 47, 12, 128, 252, 49, 59, 248, 197, 66, 49, 88, 154] := by decide +kernel
theorem num_seed1 : lev (sgA seed1) = 41354757114163650016304086911142683682198188400503391378057401993857692208328 := by rw [sgA, sum_seed1]; decide +kernel
theorem num_seed2 : lev (sgA seed2) = 55664205513570705882943352121533683204085728697754008713616386209201003445688 := by rw [sgA, sum_seed2]; decide +kernel
theorem num_r : sgNum seed1 [97] = 3074186201944897198078527609885529445307900368435549988070374619371579677415 := by
  have h : widSum (sgPre seed1 ++ [97]) = [11, 35, 46, 32, 6, 78, 30, 85, 240, 190, 68, 155, 1, 88, 107, 60, 161, 219, 58, 196, 14, 97, 214, 156, 203, 160, 87, 146, 23, 238, 27, 2, 191, 141, 34, 200, 232, 144, 91, 224, 165, 171, 168, 61, 115, 159, 12, 138, 93, 38, 247, 249, 50, 176, 221, 153, 69, 215, 204, 203, 238, 235, 133, 46] := by rw [sgPre, sum_seed1]; decide +kernel
  rw [sgNum, sgMod, h]; decide +kernel
theorem pub_1 : sgPub seed1 = [206, 204, 21, 7, 220, 29, 221, 114, 149, 149, 28, 41, 8, 136, 240, 149, 173, 185, 4, 77, 27, 115, 214, 150, 230, 223, 6, 93, 104, 59, 212, 252] := by
  have h := NP.base_at 41354757114163650016304086911142683682198188400503391378057401993857692208328 26822555233711949854380153315158647482531717314742952720223963642152101436051 56461774818723834839721450787889437474891852695816614318545467683432985644238 (by decide +kernel) (by decide +kernel) (by decide +kernel) (by decide +kernel)
  rw [sgPub, num_seed1, bytesOf, NP.Pt.X, NP.Pt.Y, h.1, h.2]; decide +kernel
theorem pub_2 : sgPub seed2 = [107, 121, 197, 126, 106, 9, 82, 57, 40, 44, 4, 129, 142, 150, 17, 47, 63, 3, 164, 0, 27, 169, 122, 86, 76, 35, 133, 42, 63, 30, 165, 252] := by
  have h := NP.base_at 55664205513570705882943352121533683204085728697754008713616386209201003445688 30502062408368802319605209355040172200299064220671145128052775605321946045309 56378531745358395318699445366766802391580978637127663975616544628844918045035 (by decide +kernel) (by decide +kernel) (by decide +kernel) (by decide +kernel)
  rw [sgPub, num_seed2, bytesOf, NP.Pt.X, NP.Pt.Y, h.1, h.2]; decide +kernel
theorem first_1 : sgR seed1 [97] = [222, 230, 150, 190, 162, 57, 102, 46, 103, 239, 222, 218, 202, 143, 82, 47, 127, 122, 238, 17, 43, 215, 179, 107, 123, 33, 250, 35, 237, 226, 2, 31] := by
  have h := NP.base_at 3074186201944897198078527609885529445307900368435549988070374619371579677415 19309484914375710165932874489325495985356951322969071418412581995036784980746 14026798188181377637261715726930279836109456392610032591340885467588394936030 (by decide +kernel) (by decide +kernel) (by decide +kernel) (by decide +kernel)
  rw [sgR, num_r, bytesOf, NP.Pt.X, NP.Pt.Y, h.1, h.2]; decide +kernel
theorem chal_1 : sgMod (sgR seed1 [97] ++ sgPub seed1 ++ [97]) = 6285308940129792820454355301134625136493137520830403794332846006747471739295 := by
  have h : widSum (sgR seed1 [97] ++ sgPub seed1 ++ [97]) = [84, 90, 166, 222, 231, 187, 241, 245, 135, 112, 226, 216, 51, 154, 22, 238, 19, 228, 152, 171, 46, 83, 173, 0, 174, 126, 38, 192, 0, 92, 18, 77, 128, 40, 106, 101, 67, 155, 6, 117, 76, 38, 174, 79, 208, 179, 204, 217, 214, 152, 66, 19, 182, 197, 197, 55, 103, 51, 113, 241, 162, 217, 108, 29] := by rw [first_1, pub_1]; decide +kernel
  rw [sgMod, h]; decide +kernel
theorem chal_2 : sgMod (sgR seed1 [97] ++ sgPub seed2 ++ [97]) = 4552352338528907286797675715543402463484267819218852012689592920313631079068 := by
  have h : widSum (sgR seed1 [97] ++ sgPub seed2 ++ [97]) = [237, 89, 125, 251, 0, 230, 96, 237, 141, 255, 89, 250, 224, 230, 65, 199, 2, 147, 88, 11, 113, 247, 74, 42, 29, 120, 250, 41, 164, 15, 30, 17, 28, 69, 107, 61, 35, 31, 190, 65, 78, 59, 115, 71, 58, 148, 128, 79, 102, 124, 103, 53, 218, 75, 85, 78, 1, 102, 162, 255, 118, 1, 106, 48] := by rw [first_1, pub_2]; decide +kernel
  rw [sgMod, h]; decide +kernel
/-- Another seed's key doesn't verify it. -/
theorem sg_other : sgOk (sgPub seed2) (sgSign seed1 [97]) [97] = false := by
  cases hs : sgOk (sgPub seed2) (sgSign seed1 [97]) [97] with
  | false => rfl
  | true =>
    have h := sg_numbers seed1 seed2 [97] hs
    rw [chal_1, chal_2, num_seed1, num_seed2, num_r] at h
    exact absurd h (by decide +kernel)
end Go.Proofs.YtoggkhjaghkpnaaDoor
namespace Go.Proofs.YtoggkhjaghkpnaaDoor
open Go.ChangeShapes Go.WideShapes Go.ChangeAt Go.RowKit
theorem scalars_of {W : World} {ps : List MemPlace} (h : DataW.LaidVars Tryd.prog W [("fellowship/scalar.order", Rows.laid_fellowship_scalar_order), ("fellowship/scalar.tail", Rows.laid_fellowship_scalar_tail)] ps) : TabsS W := by
  obtain ⟨g2, t2, cs2, f2, p2, q2, hg2, ht2, hv2, hd2, hq2, rfl⟩ := h
  obtain ⟨g3, t3, cs3, f3, p3, q3, hg3, ht3, hv3, hd3, hq3, rfl⟩ := hq2
  obtain rfl : 0 = g2 := Option.some.inj ((show Tryd.prog.globalNamed "fellowship/scalar.order" = some 0 by kernel_rfl).symm.trans hg2)
  obtain rfl : 7 = g3 := Option.some.inj ((show Tryd.prog.globalNamed "fellowship/scalar.tail" = some 7 by kernel_rfl).symm.trans hg3)
  obtain rfl : 63 = t2 := Option.some.inj ((show (Tryd.prog.globals[0]?).map (·.type) = some 63 by kernel_rfl).symm.trans ht2)
  obtain rfl : 63 = t3 := Option.some.inj ((show (Tryd.prog.globals[7]?).map (·.type) = some 63 by kernel_rfl).symm.trans ht3)
  rw [order_tab] at hd2
  rw [tail_tab] at hd3
  exact ⟨snTab_is hg2 hv2 hd2, snTab_is hg3 hv3 hd3⟩
theorem sgTabs_of {W : World} (h : laidMetH Tryd.prog (((([errTexts[0]!, errTexts[2]!, errTexts[3]!].map fun x => (x.1, .iface "*errors.errorString" (.ptr (.agg [.lit (.string x.2)])))) ++ [("fellowship/field.curve", Rows.laid_fellowship_field_curve), ("fellowship/field.baseX", Rows.laid_fellowship_field_baseX), ("fellowship/field.baseY", Rows.laid_fellowship_field_baseY), ("fellowship/field.turn", Rows.laid_fellowship_field_turn)]) ++ [("fellowship/scalar.order", Rows.laid_fellowship_scalar_order), ("fellowship/scalar.tail", Rows.laid_fellowship_scalar_tail)]) ++ [("fellowship/shawide.start", Rows.laid_fellowship_shawide_start), ("fellowship/shawide.rounds", Rows.laid_fellowship_shawide_rounds)]) W) : ∃ a, SgTabs (errAt a) W := by
  rw [MakeChecks.laidMetH_plain _ _ _ (by kernel_rfl)] at h
  obtain ⟨ps, hv, hnd, hrows⟩ := h
  obtain ⟨pA, pW, rfl, hvA, hvW⟩ := laid_split _ _ _ hv
  obtain ⟨pB, pS, rfl, hvB, hvS⟩ := laid_split _ _ _ hvA
  obtain ⟨p1, p2, rfl, hv1, hv2⟩ := laid_split _ _ _ hvB
  obtain ⟨c1, c2, c3, c4⟩ := fields_of hv2
  have nd1 := (List.nodup_append.1 (List.nodup_append.1 (List.nodup_append.1 hnd).1).1).1
  obtain ⟨es, h1, _, _, h4⟩ := sentinels [errTexts[0]!, errTexts[2]!, errTexts[3]!] [6, 8, 1] p1 (by kernel_rfl) (fun g hg => by
    have hall : ([6, 8, 1].all fun g => ((Tryd.prog.globals[g]?).map (·.type)) == some 48) = true := by kernel_rfl
    simpa using List.all_eq_true.1 hall g hg) hv1 nd1 (fun b off hm => hrows b off (List.mem_append_left _ (List.mem_append_left _ (List.mem_append_left _ hm))))
  match es, h1 with
  | [_, _, a], _ => exact ⟨a, tabsW_of hvW, scalars_of hvS, c1, c2, c3, c4, (h4 2 _ a rfl rfl).1⟩
theorem alive13_any (a : Addr) (w : World) (hS : SgTabs (errAt a) w) : Calls Tryd.prog 4 #[] w (gvn (.bool true) w) := by
  have hT : ∀ g : Nat, TextParts (some ⟨g, 0, none⟩) 1 1 [[97]] := fun g => ⟨rfl, by decide, by decide, Nat.le_refl _, by unfold maxLen; omega, fun h => by cases h⟩
  refine alive13_over seed1 seed2 (sgPub seed1) (sgPub seed2) (sgSign seed1 [97]) (errAt a) w (Lib.hid (sgSign_length _ _)) (by intro w; kernel_rfl) (by intro w; kernel_rfl)
    (Lib.hid fun g W hp hW => sign_any _ _ 1 1 [[97]] seed1 W rfl (hT g) hW hp) (Lib.hid fun W hW => public_any _ seed1 W rfl hW) (Lib.hid fun W hW => public_any _ seed2 W rfl hW)
    (Lib.hid fun g W hp hW => ?_) (Lib.hid fun g W hp hW => ?_) hS
  · have b := verify_any a _ 1 1 [[97]] (sgPub seed1) (sgSign seed1 [97]) W (sgPub_length _) (sgSign_length _ _) (hT g) hW hp
    rw [show [[(97 : UInt8)]].flatten = [97] from rfl, sg_verifies] at b
    exact b
  · have b := verify_any a _ 1 1 [[97]] (sgPub seed2) (sgSign seed1 [97]) W (sgPub_length _) (sgSign_length _ _) (hT g) hW hp
    rw [show [[(97 : UInt8)]].flatten = [97] from rfl, sg_other] at b
    exact b
/-- One text as its only part. -/
theorem one_text (g n : Nat) (text : List UInt8) (hl : text.length = n) (hn : n ≤ 800000) : TextParts (some ⟨g, 0, none⟩) 1 1 [text] ∧ [text].flatten = text :=
  ⟨⟨rfl, by decide, by simp [hl]; exact hn, Nat.le_refl _, by unfold maxLen; omega, fun h => by cases h⟩, by simp⟩
end Go.Proofs.YtoggkhjaghkpnaaDoor
