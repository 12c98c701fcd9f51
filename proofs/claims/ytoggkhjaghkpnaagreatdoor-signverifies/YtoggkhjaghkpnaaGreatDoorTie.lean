/-
  DERIVED. GIVEN WITH THE SEED: THE PROGRAM's TIES (one call each: nine closed facts by the kernel) AND EACH ROW's TIE, after the 31st guide's Derived/Test/Toyas{Tie, Card}.lean. No idea stands in it: it is a product of the set-up. Laid BY PROGRAM, IN A SANDBOX (cutbox-door.mjs). By AI agents, Wed Nov 11 2026. No macro, syntax, notation, axiom, sorry.
-/
import Derived.Test.YtoggkhjaghkpnaaGreatDoorRows
import Derived.LaidByTextLater
import Derived.SevenTiedAt
import Derived.LaidSub
import Derived.LaidOnce
namespace Go.Proofs.YtoggkhjaghkpnaaGreatDoor
open Go
set_option maxRecDepth 100000
theorem seatTie1 : Tryz.prog.laidByTextLater [("fellowship/api.ErrRange", Rows.laid_fellowship_api_ErrRange), ("fellowship/api.ErrLong", Rows.laid_fellowship_api_ErrLong), ("fellowship/api.ErrForm", Rows.laid_fellowship_api_ErrForm), ("fellowship/field.curve", Rows.laid_fellowship_field_curve), ("fellowship/field.baseX", Rows.laid_fellowship_field_baseX), ("fellowship/field.baseY", Rows.laid_fellowship_field_baseY), ("fellowship/field.turn", Rows.laid_fellowship_field_turn), ("fellowship/scalar.order", Rows.laid_fellowship_scalar_order), ("fellowship/scalar.tail", Rows.laid_fellowship_scalar_tail), ("fellowship/shawide.start", Rows.laid_fellowship_shawide_start), ("fellowship/shawide.rounds", Rows.laid_fellowship_shawide_rounds)] [.sentinel, .sentinel, .sentinel, .data, .data, .data, .data, .data, .data, .data, .data] true :=
  Program.laidByTextLater_by_one 106 8 81 (by kernel_rfl) (by kernel_rfl) (by kernel_rfl) (by kernel_rfl) (by kernel_rfl) (by kernel_rfl) (fun _ _ => by kernel_rfl)
theorem noOwnUnsafe : Tryz.pinned.checked.prog.headLifts.contains "ownunsafe" = false := by kernel_rfl
theorem tie : Tryz.prog.laidByTextLater [("fellowship/api.ErrRange", Rows.laid_fellowship_api_ErrRange), ("fellowship/api.ErrLong", Rows.laid_fellowship_api_ErrLong), ("fellowship/api.ErrForm", Rows.laid_fellowship_api_ErrForm), ("fellowship/field.curve", Rows.laid_fellowship_field_curve), ("fellowship/field.baseX", Rows.laid_fellowship_field_baseX), ("fellowship/field.baseY", Rows.laid_fellowship_field_baseY), ("fellowship/field.turn", Rows.laid_fellowship_field_turn), ("fellowship/scalar.order", Rows.laid_fellowship_scalar_order), ("fellowship/scalar.tail", Rows.laid_fellowship_scalar_tail), ("fellowship/shawide.start", Rows.laid_fellowship_shawide_start), ("fellowship/shawide.rounds", Rows.laid_fellowship_shawide_rounds)] [.sentinel, .sentinel, .sentinel, .data, .data, .data, .data, .data, .data, .data, .data] true :=
  Program.laidByTextLater.sub seatTie1 ["fellowship/api.ErrRange", "fellowship/api.ErrLong", "fellowship/api.ErrForm", "fellowship/field.curve", "fellowship/field.baseX", "fellowship/field.baseY", "fellowship/field.turn", "fellowship/scalar.order", "fellowship/scalar.tail", "fellowship/shawide.start", "fellowship/shawide.rounds"] (by kernel_rfl) (by kernel_rfl)
theorem signSigns_row_tie : Rows.signSignsRow.laidByTextAt .later Tryz.pinned [.sentinel, .sentinel, .sentinel, .data, .data, .data, .data, .data, .data, .data, .data] true :=
  OpenClaim.laidByTextAt_later rfl rfl tie noOwnUnsafe
theorem signVerifies_row_tie : Rows.signVerifiesRow.laidByTextAt .later Tryz.pinned [.sentinel, .sentinel, .sentinel, .data, .data, .data, .data, .data, .data, .data, .data] true :=
  OpenClaim.laidByTextAt_later rfl rfl tie noOwnUnsafe
theorem signSignsUpto_row_tie : Rows.signSignsUptoRow.laidByTextAt .later Tryz.pinned [.sentinel, .sentinel, .sentinel, .data, .data, .data, .data, .data, .data, .data, .data] true :=
  OpenClaim.laidByTextAt_later rfl rfl tie noOwnUnsafe
theorem signVerifiesUpto_row_tie : Rows.signVerifiesUptoRow.laidByTextAt .later Tryz.pinned [.sentinel, .sentinel, .sentinel, .data, .data, .data, .data, .data, .data, .data, .data] true :=
  OpenClaim.laidByTextAt_later rfl rfl tie noOwnUnsafe
end Go.Proofs.YtoggkhjaghkpnaaGreatDoor
