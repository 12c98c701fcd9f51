/- What the laid tables give the laws of layer 2. -/
import Derived.Test.YtmhelmmonkgmmaaDoorSLaw
namespace Go.Proofs.YtmhelmmonkgmmaaDoor
open Go.RowKit
theorem tabs_of {W : World} (h : laidMetH Tryd.prog [("fellowship/api.ErrRange", Rows.laid_fellowship_api_ErrRange), ("fellowship/api.ErrLong", Rows.laid_fellowship_api_ErrLong), ("fellowship/sha.start", Rows.laid_fellowship_sha_start), ("fellowship/sha.rounds", Rows.laid_fellowship_sha_rounds)] W) : Tabs W ∧ 21 ≤ W.heap.size := by
  rw [MakeChecks.laidMetH_plain _ _ _ (by kernel_rfl)] at h
  obtain ⟨ps, hv, _, _⟩ := h
  obtain ⟨g0, t0, cs0, f0, p0, q0, hg0, ht0, hv0, hd0, hq0, rfl⟩ := hv
  obtain ⟨g1, t1, cs1, f1, p1, q1, hg1, ht1, hv1, hd1, hq1, rfl⟩ := hq0
  obtain ⟨g2, t2, cs2, f2, p2, q2, hg2, ht2, hv2, hd2, hq2, rfl⟩ := hq1
  obtain ⟨g3, t3, cs3, f3, p3, q3, hg3, ht3, hv3, hd3, _, rfl⟩ := hq2
  have l0 := var_there hg0 hv0
  have l1 := var_there hg1 hv1
  have l2 := var_there hg2 hv2
  have l3 := var_there hg3 hv3
  obtain rfl : 0 = g0 := Option.some.inj ((show Tryd.prog.globalNamed "fellowship/api.ErrRange" = some 0 by kernel_rfl).symm.trans hg0)
  obtain rfl : 1 = g1 := Option.some.inj ((show Tryd.prog.globalNamed "fellowship/api.ErrLong" = some 1 by kernel_rfl).symm.trans hg1)
  obtain rfl : 19 = g2 := Option.some.inj ((show Tryd.prog.globalNamed "fellowship/sha.start" = some 19 by kernel_rfl).symm.trans hg2)
  obtain rfl : 20 = g3 := Option.some.inj ((show Tryd.prog.globalNamed "fellowship/sha.rounds" = some 20 by kernel_rfl).symm.trans hg3)
  obtain rfl : 84 = t2 := Option.some.inj ((show (Tryd.prog.globals[19]?).map (·.type) = some 84 by kernel_rfl).symm.trans ht2)
  obtain rfl : 91 = t3 := Option.some.inj ((show (Tryd.prog.globals[20]?).map (·.type) = some 91 by kernel_rfl).symm.trans ht3)
  rw [start_tab] at hd2
  rw [rounds_tab] at hd3
  have c2 := Lib.cells_of_tab Tryd.underlying84 Tryd.underlying61 (by kernel_rfl) (by kernel_rfl) hd2
  have c3 := Lib.cells_of_tab Tryd.underlying91 Tryd.underlying61 (by kernel_rfl) (by kernel_rfl) hd3
  exact ⟨⟨tab_range shaStart.list hg2 hv2 c2, tab_range shaK hg3 hv3 c3⟩, by omega⟩
end Go.Proofs.YtmhelmmonkgmmaaDoor
