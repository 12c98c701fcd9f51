/- Part 19 of what the laws of this seat share: BSum. -/
import Derived.Deep.Cut
import Derived.Test.YtagjbdhelfickaaDoorPart18
namespace Go.Proofs.YtagjbdhelfickaaDoor
open Go.RowKit
def triVs1 (p : List Nat) (q : List Nat) (dd : List Nat) (g_base : Nat) (gq : Nat) (gd : Nat) (gr : Nat) (pz : List Nat) (qz : List Nat) (z : List Nat) : List Value :=
  (numD p) :: (numD q) :: (numD dd) :: (.pointer (some ⟨g_base, 0, none⟩)) :: (.pointer (some ⟨gq, 0, none⟩)) :: (.pointer (some ⟨gd, 0, none⟩)) :: (.pointer (some ⟨gr, 0, none⟩)) :: undef :: undef :: undef :: undef :: undef :: undef :: undef :: undef :: undef :: undef :: (.pointer (some ⟨g_base, 16, none⟩)) :: (numD pz) :: (.pointer (some ⟨gq, 16, none⟩)) :: (numD qz) :: (numD z) :: undef :: undef :: undef :: undef :: undef :: undef :: undef :: undef :: undef :: undef :: undef :: undef :: undef :: undef :: undef :: undef :: undef :: undef :: undef :: undef :: undef :: undef :: undef :: undef :: undef :: undef :: undef :: undef :: undef :: undef :: undef :: undef :: undef :: undef :: undef :: undef :: undef :: undef :: undef :: undef :: undef :: undef :: undef :: undef :: undef :: undef :: undef :: undef :: undef :: undef :: undef :: undef :: undef :: []
def triVs1N (p : List Nat) (q : List Nat) (dd : List Nat) (g_base : Nat) (gq : Nat) (gd : Nat) (gr : Nat) (pz : List Nat) (qz : List Nat) (z : List Nat) (n7 : Nat) : List Value :=
  (numD p) :: (numD q) :: (numD dd) :: (.pointer (some ⟨g_base, 0, none⟩)) :: (.pointer (some ⟨gq, 0, none⟩)) :: (.pointer (some ⟨gd, 0, none⟩)) :: (.pointer (some ⟨gr, 0, none⟩)) :: (.pointer (some ⟨n7, 0, none⟩)) :: undef :: undef :: undef :: undef :: undef :: undef :: undef :: undef :: undef :: (.pointer (some ⟨g_base, 16, none⟩)) :: (numD pz) :: (.pointer (some ⟨gq, 16, none⟩)) :: (numD qz) :: (numD z) :: undef :: undef :: undef :: undef :: undef :: undef :: undef :: undef :: undef :: undef :: undef :: undef :: undef :: undef :: undef :: undef :: undef :: undef :: undef :: undef :: undef :: undef :: undef :: undef :: undef :: undef :: undef :: undef :: undef :: undef :: undef :: undef :: undef :: undef :: undef :: undef :: undef :: undef :: undef :: undef :: undef :: undef :: undef :: undef :: undef :: undef :: undef :: undef :: undef :: undef :: undef :: undef :: undef :: []
def triVs2_1 (p : List Nat) (q : List Nat) (dd : List Nat) (g_base : Nat) (gq : Nat) (gd : Nat) (gr : Nat) (gz : Nat) (pz : List Nat) (qz : List Nat) (z : List Nat) (zz : List Nat) : List Value :=
  (numD p) :: (numD q) :: (numD dd) :: (.pointer (some ⟨g_base, 0, none⟩)) :: (.pointer (some ⟨gq, 0, none⟩)) :: (.pointer (some ⟨gd, 0, none⟩)) :: (.pointer (some ⟨gr, 0, none⟩)) :: (.pointer (some ⟨gz, 0, none⟩)) :: undef :: undef :: undef :: undef :: undef :: undef :: undef :: undef :: undef :: (.pointer (some ⟨g_base, 16, none⟩)) :: (numD pz) :: (.pointer (some ⟨gq, 16, none⟩)) :: (numD qz) :: (numD z) :: (numD z) :: (numD z) :: (numD zz) :: undef :: undef :: undef :: undef :: undef :: undef :: undef :: undef :: undef :: undef :: undef :: undef :: undef :: undef :: undef :: undef :: undef :: undef :: undef :: undef :: undef :: undef :: undef :: undef :: undef :: undef :: undef :: undef :: undef :: undef :: undef :: undef :: undef :: undef :: undef :: undef :: undef :: undef :: undef :: undef :: undef :: undef :: undef :: undef :: undef :: undef :: undef :: undef :: undef :: undef :: []
def triVs2_1N (p : List Nat) (q : List Nat) (dd : List Nat) (g_base : Nat) (gq : Nat) (gd : Nat) (gr : Nat) (gz : Nat) (pz : List Nat) (qz : List Nat) (z : List Nat) (zz : List Nat) (n8 : Nat) : List Value :=
  (numD p) :: (numD q) :: (numD dd) :: (.pointer (some ⟨g_base, 0, none⟩)) :: (.pointer (some ⟨gq, 0, none⟩)) :: (.pointer (some ⟨gd, 0, none⟩)) :: (.pointer (some ⟨gr, 0, none⟩)) :: (.pointer (some ⟨gz, 0, none⟩)) :: (.pointer (some ⟨n8, 0, none⟩)) :: undef :: undef :: undef :: undef :: undef :: undef :: undef :: undef :: (.pointer (some ⟨g_base, 16, none⟩)) :: (numD pz) :: (.pointer (some ⟨gq, 16, none⟩)) :: (numD qz) :: (numD z) :: (numD z) :: (numD z) :: (numD zz) :: undef :: undef :: undef :: undef :: undef :: undef :: undef :: undef :: undef :: undef :: undef :: undef :: undef :: undef :: undef :: undef :: undef :: undef :: undef :: undef :: undef :: undef :: undef :: undef :: undef :: undef :: undef :: undef :: undef :: undef :: undef :: undef :: undef :: undef :: undef :: undef :: undef :: undef :: undef :: undef :: undef :: undef :: undef :: undef :: undef :: undef :: undef :: undef :: undef :: undef :: []
def triVs3_2 (p : List Nat) (q : List Nat) (dd : List Nat) (g_base : Nat) (gq : Nat) (gd : Nat) (gr : Nat) (gz : Nat) (ga : Nat) (pz : List Nat) (qz : List Nat) (z : List Nat) (zz : List Nat) (px : List Nat) (qx : List Nat) (xx : List Nat) : List Value :=
  (numD p) :: (numD q) :: (numD dd) :: (.pointer (some ⟨g_base, 0, none⟩)) :: (.pointer (some ⟨gq, 0, none⟩)) :: (.pointer (some ⟨gd, 0, none⟩)) :: (.pointer (some ⟨gr, 0, none⟩)) :: (.pointer (some ⟨gz, 0, none⟩)) :: (.pointer (some ⟨ga, 0, none⟩)) :: undef :: undef :: undef :: undef :: undef :: undef :: undef :: undef :: (.pointer (some ⟨g_base, 16, none⟩)) :: (numD pz) :: (.pointer (some ⟨gq, 16, none⟩)) :: (numD qz) :: (numD z) :: (numD z) :: (numD z) :: (numD zz) :: (.pointer (some ⟨g_base, 0, none⟩)) :: (numD px) :: (.pointer (some ⟨gq, 0, none⟩)) :: (numD qx) :: (numD xx) :: undef :: undef :: undef :: undef :: undef :: undef :: undef :: undef :: undef :: undef :: undef :: undef :: undef :: undef :: undef :: undef :: undef :: undef :: undef :: undef :: undef :: undef :: undef :: undef :: undef :: undef :: undef :: undef :: undef :: undef :: undef :: undef :: undef :: undef :: undef :: undef :: undef :: undef :: undef :: undef :: undef :: undef :: undef :: undef :: undef :: []
def triVs3_2N (p : List Nat) (q : List Nat) (dd : List Nat) (g_base : Nat) (gq : Nat) (gd : Nat) (gr : Nat) (gz : Nat) (ga : Nat) (pz : List Nat) (qz : List Nat) (z : List Nat) (zz : List Nat) (px : List Nat) (qx : List Nat) (xx : List Nat) (n9 : Nat) : List Value :=
  (numD p) :: (numD q) :: (numD dd) :: (.pointer (some ⟨g_base, 0, none⟩)) :: (.pointer (some ⟨gq, 0, none⟩)) :: (.pointer (some ⟨gd, 0, none⟩)) :: (.pointer (some ⟨gr, 0, none⟩)) :: (.pointer (some ⟨gz, 0, none⟩)) :: (.pointer (some ⟨ga, 0, none⟩)) :: (.pointer (some ⟨n9, 0, none⟩)) :: undef :: undef :: undef :: undef :: undef :: undef :: undef :: (.pointer (some ⟨g_base, 16, none⟩)) :: (numD pz) :: (.pointer (some ⟨gq, 16, none⟩)) :: (numD qz) :: (numD z) :: (numD z) :: (numD z) :: (numD zz) :: (.pointer (some ⟨g_base, 0, none⟩)) :: (numD px) :: (.pointer (some ⟨gq, 0, none⟩)) :: (numD qx) :: (numD xx) :: undef :: undef :: undef :: undef :: undef :: undef :: undef :: undef :: undef :: undef :: undef :: undef :: undef :: undef :: undef :: undef :: undef :: undef :: undef :: undef :: undef :: undef :: undef :: undef :: undef :: undef :: undef :: undef :: undef :: undef :: undef :: undef :: undef :: undef :: undef :: undef :: undef :: undef :: undef :: undef :: undef :: undef :: undef :: undef :: undef :: []
def triVs4_3 (p : List Nat) (q : List Nat) (dd : List Nat) (g_base : Nat) (gq : Nat) (gd : Nat) (gr : Nat) (gz : Nat) (ga : Nat) (gb : Nat) (pz : List Nat) (qz : List Nat) (z : List Nat) (zz : List Nat) (px : List Nat) (qx : List Nat) (xx : List Nat) (py : List Nat) (qy : List Nat) (yy : List Nat) : List Value :=
  (numD p) :: (numD q) :: (numD dd) :: (.pointer (some ⟨g_base, 0, none⟩)) :: (.pointer (some ⟨gq, 0, none⟩)) :: (.pointer (some ⟨gd, 0, none⟩)) :: (.pointer (some ⟨gr, 0, none⟩)) :: (.pointer (some ⟨gz, 0, none⟩)) :: (.pointer (some ⟨ga, 0, none⟩)) :: (.pointer (some ⟨gb, 0, none⟩)) :: undef :: undef :: undef :: undef :: undef :: undef :: undef :: (.pointer (some ⟨g_base, 16, none⟩)) :: (numD pz) :: (.pointer (some ⟨gq, 16, none⟩)) :: (numD qz) :: (numD z) :: (numD z) :: (numD z) :: (numD zz) :: (.pointer (some ⟨g_base, 0, none⟩)) :: (numD px) :: (.pointer (some ⟨gq, 0, none⟩)) :: (numD qx) :: (numD xx) :: (.pointer (some ⟨g_base, 8, none⟩)) :: (numD py) :: (.pointer (some ⟨gq, 8, none⟩)) :: (numD qy) :: (numD yy) :: undef :: undef :: undef :: undef :: undef :: undef :: undef :: undef :: undef :: undef :: undef :: undef :: undef :: undef :: undef :: undef :: undef :: undef :: undef :: undef :: undef :: undef :: undef :: undef :: undef :: undef :: undef :: undef :: undef :: undef :: undef :: undef :: undef :: undef :: undef :: undef :: undef :: undef :: undef :: undef :: []
def triVs4_3N (p : List Nat) (q : List Nat) (dd : List Nat) (g_base : Nat) (gq : Nat) (gd : Nat) (gr : Nat) (gz : Nat) (ga : Nat) (gb : Nat) (pz : List Nat) (qz : List Nat) (z : List Nat) (zz : List Nat) (px : List Nat) (qx : List Nat) (xx : List Nat) (py : List Nat) (qy : List Nat) (yy : List Nat) (n10 : Nat) : List Value :=
  (numD p) :: (numD q) :: (numD dd) :: (.pointer (some ⟨g_base, 0, none⟩)) :: (.pointer (some ⟨gq, 0, none⟩)) :: (.pointer (some ⟨gd, 0, none⟩)) :: (.pointer (some ⟨gr, 0, none⟩)) :: (.pointer (some ⟨gz, 0, none⟩)) :: (.pointer (some ⟨ga, 0, none⟩)) :: (.pointer (some ⟨gb, 0, none⟩)) :: (.pointer (some ⟨n10, 0, none⟩)) :: undef :: undef :: undef :: undef :: undef :: undef :: (.pointer (some ⟨g_base, 16, none⟩)) :: (numD pz) :: (.pointer (some ⟨gq, 16, none⟩)) :: (numD qz) :: (numD z) :: (numD z) :: (numD z) :: (numD zz) :: (.pointer (some ⟨g_base, 0, none⟩)) :: (numD px) :: (.pointer (some ⟨gq, 0, none⟩)) :: (numD qx) :: (numD xx) :: (.pointer (some ⟨g_base, 8, none⟩)) :: (numD py) :: (.pointer (some ⟨gq, 8, none⟩)) :: (numD qy) :: (numD yy) :: undef :: undef :: undef :: undef :: undef :: undef :: undef :: undef :: undef :: undef :: undef :: undef :: undef :: undef :: undef :: undef :: undef :: undef :: undef :: undef :: undef :: undef :: undef :: undef :: undef :: undef :: undef :: undef :: undef :: undef :: undef :: undef :: undef :: undef :: undef :: undef :: undef :: undef :: undef :: undef :: []
def triVs5_4 (p : List Nat) (q : List Nat) (dd : List Nat) (g_base : Nat) (gq : Nat) (gd : Nat) (gr : Nat) (gz : Nat) (ga : Nat) (gb : Nat) (gc : Nat) (pz : List Nat) (qz : List Nat) (z : List Nat) (zz : List Nat) (px : List Nat) (qx : List Nat) (xx : List Nat) (py : List Nat) (qy : List Nat) (yy : List Nat) (xy : List Nat) (ee : List Nat) : List Value :=
  (numD p) :: (numD q) :: (numD dd) :: (.pointer (some ⟨g_base, 0, none⟩)) :: (.pointer (some ⟨gq, 0, none⟩)) :: (.pointer (some ⟨gd, 0, none⟩)) :: (.pointer (some ⟨gr, 0, none⟩)) :: (.pointer (some ⟨gz, 0, none⟩)) :: (.pointer (some ⟨ga, 0, none⟩)) :: (.pointer (some ⟨gb, 0, none⟩)) :: (.pointer (some ⟨gc, 0, none⟩)) :: undef :: undef :: undef :: undef :: undef :: undef :: (.pointer (some ⟨g_base, 16, none⟩)) :: (numD pz) :: (.pointer (some ⟨gq, 16, none⟩)) :: (numD qz) :: (numD z) :: (numD z) :: (numD z) :: (numD zz) :: (.pointer (some ⟨g_base, 0, none⟩)) :: (numD px) :: (.pointer (some ⟨gq, 0, none⟩)) :: (numD qx) :: (numD xx) :: (.pointer (some ⟨g_base, 8, none⟩)) :: (numD py) :: (.pointer (some ⟨gq, 8, none⟩)) :: (numD qy) :: (numD yy) :: (numD dd) :: (numD xx) :: (numD yy) :: (numD xy) :: (numD ee) :: undef :: undef :: undef :: undef :: undef :: undef :: undef :: undef :: undef :: undef :: undef :: undef :: undef :: undef :: undef :: undef :: undef :: undef :: undef :: undef :: undef :: undef :: undef :: undef :: undef :: undef :: undef :: undef :: undef :: undef :: undef :: undef :: undef :: undef :: undef :: []
def triVs5_4N (p : List Nat) (q : List Nat) (dd : List Nat) (g_base : Nat) (gq : Nat) (gd : Nat) (gr : Nat) (gz : Nat) (ga : Nat) (gb : Nat) (gc : Nat) (pz : List Nat) (qz : List Nat) (z : List Nat) (zz : List Nat) (px : List Nat) (qx : List Nat) (xx : List Nat) (py : List Nat) (qy : List Nat) (yy : List Nat) (xy : List Nat) (ee : List Nat) (n11 : Nat) : List Value :=
  (numD p) :: (numD q) :: (numD dd) :: (.pointer (some ⟨g_base, 0, none⟩)) :: (.pointer (some ⟨gq, 0, none⟩)) :: (.pointer (some ⟨gd, 0, none⟩)) :: (.pointer (some ⟨gr, 0, none⟩)) :: (.pointer (some ⟨gz, 0, none⟩)) :: (.pointer (some ⟨ga, 0, none⟩)) :: (.pointer (some ⟨gb, 0, none⟩)) :: (.pointer (some ⟨gc, 0, none⟩)) :: (.pointer (some ⟨n11, 0, none⟩)) :: undef :: undef :: undef :: undef :: undef :: (.pointer (some ⟨g_base, 16, none⟩)) :: (numD pz) :: (.pointer (some ⟨gq, 16, none⟩)) :: (numD qz) :: (numD z) :: (numD z) :: (numD z) :: (numD zz) :: (.pointer (some ⟨g_base, 0, none⟩)) :: (numD px) :: (.pointer (some ⟨gq, 0, none⟩)) :: (numD qx) :: (numD xx) :: (.pointer (some ⟨g_base, 8, none⟩)) :: (numD py) :: (.pointer (some ⟨gq, 8, none⟩)) :: (numD qy) :: (numD yy) :: (numD dd) :: (numD xx) :: (numD yy) :: (numD xy) :: (numD ee) :: undef :: undef :: undef :: undef :: undef :: undef :: undef :: undef :: undef :: undef :: undef :: undef :: undef :: undef :: undef :: undef :: undef :: undef :: undef :: undef :: undef :: undef :: undef :: undef :: undef :: undef :: undef :: undef :: undef :: undef :: undef :: undef :: undef :: undef :: undef :: []
def triVs6_5 (p : List Nat) (q : List Nat) (dd : List Nat) (g_base : Nat) (gq : Nat) (gd : Nat) (gr : Nat) (gz : Nat) (ga : Nat) (gb : Nat) (gc : Nat) (ge : Nat) (pz : List Nat) (qz : List Nat) (z : List Nat) (zz : List Nat) (px : List Nat) (qx : List Nat) (xx : List Nat) (py : List Nat) (qy : List Nat) (yy : List Nat) (xy : List Nat) (ee : List Nat) (mo : List Nat) (le : List Nat) : List Value :=
  (numD p) :: (numD q) :: (numD dd) :: (.pointer (some ⟨g_base, 0, none⟩)) :: (.pointer (some ⟨gq, 0, none⟩)) :: (.pointer (some ⟨gd, 0, none⟩)) :: (.pointer (some ⟨gr, 0, none⟩)) :: (.pointer (some ⟨gz, 0, none⟩)) :: (.pointer (some ⟨ga, 0, none⟩)) :: (.pointer (some ⟨gb, 0, none⟩)) :: (.pointer (some ⟨gc, 0, none⟩)) :: (.pointer (some ⟨ge, 0, none⟩)) :: undef :: undef :: undef :: undef :: undef :: (.pointer (some ⟨g_base, 16, none⟩)) :: (numD pz) :: (.pointer (some ⟨gq, 16, none⟩)) :: (numD qz) :: (numD z) :: (numD z) :: (numD z) :: (numD zz) :: (.pointer (some ⟨g_base, 0, none⟩)) :: (numD px) :: (.pointer (some ⟨gq, 0, none⟩)) :: (numD qx) :: (numD xx) :: (.pointer (some ⟨g_base, 8, none⟩)) :: (numD py) :: (.pointer (some ⟨gq, 8, none⟩)) :: (numD qy) :: (numD yy) :: (numD dd) :: (numD xx) :: (numD yy) :: (numD xy) :: (numD ee) :: (numD zz) :: (numD ee) :: (numD mo) :: (numD zz) :: (numD ee) :: (numD le) :: undef :: undef :: undef :: undef :: undef :: undef :: undef :: undef :: undef :: undef :: undef :: undef :: undef :: undef :: undef :: undef :: undef :: undef :: undef :: undef :: undef :: undef :: undef :: undef :: undef :: undef :: undef :: undef :: undef :: []
def triVs6_5N (p : List Nat) (q : List Nat) (dd : List Nat) (g_base : Nat) (gq : Nat) (gd : Nat) (gr : Nat) (gz : Nat) (ga : Nat) (gb : Nat) (gc : Nat) (ge : Nat) (pz : List Nat) (qz : List Nat) (z : List Nat) (zz : List Nat) (px : List Nat) (qx : List Nat) (xx : List Nat) (py : List Nat) (qy : List Nat) (yy : List Nat) (xy : List Nat) (ee : List Nat) (mo : List Nat) (le : List Nat) (n12 n13 : Nat) : List Value :=
  (numD p) :: (numD q) :: (numD dd) :: (.pointer (some ⟨g_base, 0, none⟩)) :: (.pointer (some ⟨gq, 0, none⟩)) :: (.pointer (some ⟨gd, 0, none⟩)) :: (.pointer (some ⟨gr, 0, none⟩)) :: (.pointer (some ⟨gz, 0, none⟩)) :: (.pointer (some ⟨ga, 0, none⟩)) :: (.pointer (some ⟨gb, 0, none⟩)) :: (.pointer (some ⟨gc, 0, none⟩)) :: (.pointer (some ⟨ge, 0, none⟩)) :: (.pointer (some ⟨n12, 0, none⟩)) :: (.pointer (some ⟨n13, 0, none⟩)) :: undef :: undef :: undef :: (.pointer (some ⟨g_base, 16, none⟩)) :: (numD pz) :: (.pointer (some ⟨gq, 16, none⟩)) :: (numD qz) :: (numD z) :: (numD z) :: (numD z) :: (numD zz) :: (.pointer (some ⟨g_base, 0, none⟩)) :: (numD px) :: (.pointer (some ⟨gq, 0, none⟩)) :: (numD qx) :: (numD xx) :: (.pointer (some ⟨g_base, 8, none⟩)) :: (numD py) :: (.pointer (some ⟨gq, 8, none⟩)) :: (numD qy) :: (numD yy) :: (numD dd) :: (numD xx) :: (numD yy) :: (numD xy) :: (numD ee) :: (numD zz) :: (numD ee) :: (numD mo) :: (numD zz) :: (numD ee) :: (numD le) :: undef :: undef :: undef :: undef :: undef :: undef :: undef :: undef :: undef :: undef :: undef :: undef :: undef :: undef :: undef :: undef :: undef :: undef :: undef :: undef :: undef :: undef :: undef :: undef :: undef :: undef :: undef :: undef :: undef :: []
def triVs7_6 (p : List Nat) (q : List Nat) (dd : List Nat) (g_base : Nat) (gq : Nat) (gd : Nat) (gr : Nat) (gz : Nat) (ga : Nat) (gb : Nat) (gc : Nat) (ge : Nat) (gm : Nat) (gl : Nat) (pz : List Nat) (qz : List Nat) (z : List Nat) (zz : List Nat) (px : List Nat) (qx : List Nat) (xx : List Nat) (py : List Nat) (qy : List Nat) (yy : List Nat) (xy : List Nat) (ee : List Nat) (mo : List Nat) (le : List Nat) (c1 : List Nat) (c2 : List Nat) (cr : List Nat) : List Value :=
  (numD p) :: (numD q) :: (numD dd) :: (.pointer (some ⟨g_base, 0, none⟩)) :: (.pointer (some ⟨gq, 0, none⟩)) :: (.pointer (some ⟨gd, 0, none⟩)) :: (.pointer (some ⟨gr, 0, none⟩)) :: (.pointer (some ⟨gz, 0, none⟩)) :: (.pointer (some ⟨ga, 0, none⟩)) :: (.pointer (some ⟨gb, 0, none⟩)) :: (.pointer (some ⟨gc, 0, none⟩)) :: (.pointer (some ⟨ge, 0, none⟩)) :: (.pointer (some ⟨gm, 0, none⟩)) :: (.pointer (some ⟨gl, 0, none⟩)) :: undef :: undef :: undef :: (.pointer (some ⟨g_base, 16, none⟩)) :: (numD pz) :: (.pointer (some ⟨gq, 16, none⟩)) :: (numD qz) :: (numD z) :: (numD z) :: (numD z) :: (numD zz) :: (.pointer (some ⟨g_base, 0, none⟩)) :: (numD px) :: (.pointer (some ⟨gq, 0, none⟩)) :: (numD qx) :: (numD xx) :: (.pointer (some ⟨g_base, 8, none⟩)) :: (numD py) :: (.pointer (some ⟨gq, 8, none⟩)) :: (numD qy) :: (numD yy) :: (numD dd) :: (numD xx) :: (numD yy) :: (numD xy) :: (numD ee) :: (numD zz) :: (numD ee) :: (numD mo) :: (numD zz) :: (numD ee) :: (numD le) :: (.pointer (some ⟨g_base, 0, none⟩)) :: (numD px) :: (.pointer (some ⟨gq, 8, none⟩)) :: (numD qy) :: (numD c1) :: (.pointer (some ⟨gq, 0, none⟩)) :: (numD qx) :: (.pointer (some ⟨g_base, 8, none⟩)) :: (numD py) :: (numD c2) :: (numD cr) :: undef :: undef :: undef :: undef :: undef :: undef :: undef :: undef :: undef :: undef :: undef :: undef :: undef :: undef :: undef :: undef :: undef :: undef :: []
def triVs7_6N (p : List Nat) (q : List Nat) (dd : List Nat) (g_base : Nat) (gq : Nat) (gd : Nat) (gr : Nat) (gz : Nat) (ga : Nat) (gb : Nat) (gc : Nat) (ge : Nat) (gm : Nat) (gl : Nat) (pz : List Nat) (qz : List Nat) (z : List Nat) (zz : List Nat) (px : List Nat) (qx : List Nat) (xx : List Nat) (py : List Nat) (qy : List Nat) (yy : List Nat) (xy : List Nat) (ee : List Nat) (mo : List Nat) (le : List Nat) (c1 : List Nat) (c2 : List Nat) (cr : List Nat) (n14 : Nat) : List Value :=
  (numD p) :: (numD q) :: (numD dd) :: (.pointer (some ⟨g_base, 0, none⟩)) :: (.pointer (some ⟨gq, 0, none⟩)) :: (.pointer (some ⟨gd, 0, none⟩)) :: (.pointer (some ⟨gr, 0, none⟩)) :: (.pointer (some ⟨gz, 0, none⟩)) :: (.pointer (some ⟨ga, 0, none⟩)) :: (.pointer (some ⟨gb, 0, none⟩)) :: (.pointer (some ⟨gc, 0, none⟩)) :: (.pointer (some ⟨ge, 0, none⟩)) :: (.pointer (some ⟨gm, 0, none⟩)) :: (.pointer (some ⟨gl, 0, none⟩)) :: (.pointer (some ⟨n14, 0, none⟩)) :: undef :: undef :: (.pointer (some ⟨g_base, 16, none⟩)) :: (numD pz) :: (.pointer (some ⟨gq, 16, none⟩)) :: (numD qz) :: (numD z) :: (numD z) :: (numD z) :: (numD zz) :: (.pointer (some ⟨g_base, 0, none⟩)) :: (numD px) :: (.pointer (some ⟨gq, 0, none⟩)) :: (numD qx) :: (numD xx) :: (.pointer (some ⟨g_base, 8, none⟩)) :: (numD py) :: (.pointer (some ⟨gq, 8, none⟩)) :: (numD qy) :: (numD yy) :: (numD dd) :: (numD xx) :: (numD yy) :: (numD xy) :: (numD ee) :: (numD zz) :: (numD ee) :: (numD mo) :: (numD zz) :: (numD ee) :: (numD le) :: (.pointer (some ⟨g_base, 0, none⟩)) :: (numD px) :: (.pointer (some ⟨gq, 8, none⟩)) :: (numD qy) :: (numD c1) :: (.pointer (some ⟨gq, 0, none⟩)) :: (numD qx) :: (.pointer (some ⟨g_base, 8, none⟩)) :: (numD py) :: (numD c2) :: (numD cr) :: undef :: undef :: undef :: undef :: undef :: undef :: undef :: undef :: undef :: undef :: undef :: undef :: undef :: undef :: undef :: undef :: undef :: undef :: []
def triVs8_7 (p : List Nat) (q : List Nat) (dd : List Nat) (g_base : Nat) (gq : Nat) (gd : Nat) (gr : Nat) (gz : Nat) (ga : Nat) (gb : Nat) (gc : Nat) (ge : Nat) (gm : Nat) (gl : Nat) (go : Nat) (pz : List Nat) (qz : List Nat) (z : List Nat) (zz : List Nat) (px : List Nat) (qx : List Nat) (xx : List Nat) (py : List Nat) (qy : List Nat) (yy : List Nat) (xy : List Nat) (ee : List Nat) (mo : List Nat) (le : List Nat) (c1 : List Nat) (c2 : List Nat) (cr : List Nat) (zc : List Nat) (x : List Nat) : List Value :=
  (numD p) :: (numD q) :: (numD dd) :: (.pointer (some ⟨g_base, 0, none⟩)) :: (.pointer (some ⟨gq, 0, none⟩)) :: (.pointer (some ⟨gd, 0, none⟩)) :: (.pointer (some ⟨gr, 0, none⟩)) :: (.pointer (some ⟨gz, 0, none⟩)) :: (.pointer (some ⟨ga, 0, none⟩)) :: (.pointer (some ⟨gb, 0, none⟩)) :: (.pointer (some ⟨gc, 0, none⟩)) :: (.pointer (some ⟨ge, 0, none⟩)) :: (.pointer (some ⟨gm, 0, none⟩)) :: (.pointer (some ⟨gl, 0, none⟩)) :: (.pointer (some ⟨go, 0, none⟩)) :: undef :: undef :: (.pointer (some ⟨g_base, 16, none⟩)) :: (numD pz) :: (.pointer (some ⟨gq, 16, none⟩)) :: (numD qz) :: (numD z) :: (numD z) :: (numD z) :: (numD zz) :: (.pointer (some ⟨g_base, 0, none⟩)) :: (numD px) :: (.pointer (some ⟨gq, 0, none⟩)) :: (numD qx) :: (numD xx) :: (.pointer (some ⟨g_base, 8, none⟩)) :: (numD py) :: (.pointer (some ⟨gq, 8, none⟩)) :: (numD qy) :: (numD yy) :: (numD dd) :: (numD xx) :: (numD yy) :: (numD xy) :: (numD ee) :: (numD zz) :: (numD ee) :: (numD mo) :: (numD zz) :: (numD ee) :: (numD le) :: (.pointer (some ⟨g_base, 0, none⟩)) :: (numD px) :: (.pointer (some ⟨gq, 8, none⟩)) :: (numD qy) :: (numD c1) :: (.pointer (some ⟨gq, 0, none⟩)) :: (numD qx) :: (.pointer (some ⟨g_base, 8, none⟩)) :: (numD py) :: (numD c2) :: (numD cr) :: (numD z) :: (numD cr) :: (numD zc) :: (numD le) :: (numD x) :: undef :: undef :: undef :: undef :: undef :: undef :: undef :: undef :: undef :: undef :: undef :: undef :: undef :: []
def triVs8_7N (p : List Nat) (q : List Nat) (dd : List Nat) (g_base : Nat) (gq : Nat) (gd : Nat) (gr : Nat) (gz : Nat) (ga : Nat) (gb : Nat) (gc : Nat) (ge : Nat) (gm : Nat) (gl : Nat) (go : Nat) (pz : List Nat) (qz : List Nat) (z : List Nat) (zz : List Nat) (px : List Nat) (qx : List Nat) (xx : List Nat) (py : List Nat) (qy : List Nat) (yy : List Nat) (xy : List Nat) (ee : List Nat) (mo : List Nat) (le : List Nat) (c1 : List Nat) (c2 : List Nat) (cr : List Nat) (zc : List Nat) (x : List Nat) (n15 : Nat) : List Value :=
  (numD p) :: (numD q) :: (numD dd) :: (.pointer (some ⟨g_base, 0, none⟩)) :: (.pointer (some ⟨gq, 0, none⟩)) :: (.pointer (some ⟨gd, 0, none⟩)) :: (.pointer (some ⟨gr, 0, none⟩)) :: (.pointer (some ⟨gz, 0, none⟩)) :: (.pointer (some ⟨ga, 0, none⟩)) :: (.pointer (some ⟨gb, 0, none⟩)) :: (.pointer (some ⟨gc, 0, none⟩)) :: (.pointer (some ⟨ge, 0, none⟩)) :: (.pointer (some ⟨gm, 0, none⟩)) :: (.pointer (some ⟨gl, 0, none⟩)) :: (.pointer (some ⟨go, 0, none⟩)) :: (.pointer (some ⟨n15, 0, none⟩)) :: undef :: (.pointer (some ⟨g_base, 16, none⟩)) :: (numD pz) :: (.pointer (some ⟨gq, 16, none⟩)) :: (numD qz) :: (numD z) :: (numD z) :: (numD z) :: (numD zz) :: (.pointer (some ⟨g_base, 0, none⟩)) :: (numD px) :: (.pointer (some ⟨gq, 0, none⟩)) :: (numD qx) :: (numD xx) :: (.pointer (some ⟨g_base, 8, none⟩)) :: (numD py) :: (.pointer (some ⟨gq, 8, none⟩)) :: (numD qy) :: (numD yy) :: (numD dd) :: (numD xx) :: (numD yy) :: (numD xy) :: (numD ee) :: (numD zz) :: (numD ee) :: (numD mo) :: (numD zz) :: (numD ee) :: (numD le) :: (.pointer (some ⟨g_base, 0, none⟩)) :: (numD px) :: (.pointer (some ⟨gq, 8, none⟩)) :: (numD qy) :: (numD c1) :: (.pointer (some ⟨gq, 0, none⟩)) :: (numD qx) :: (.pointer (some ⟨g_base, 8, none⟩)) :: (numD py) :: (numD c2) :: (numD cr) :: (numD z) :: (numD cr) :: (numD zc) :: (numD le) :: (numD x) :: undef :: undef :: undef :: undef :: undef :: undef :: undef :: undef :: undef :: undef :: undef :: undef :: undef :: []
def triVs9_8 (p : List Nat) (q : List Nat) (dd : List Nat) (g_base : Nat) (gq : Nat) (gd : Nat) (gr : Nat) (gz : Nat) (ga : Nat) (gb : Nat) (gc : Nat) (ge : Nat) (gm : Nat) (gl : Nat) (go : Nat) (gx : Nat) (pz : List Nat) (qz : List Nat) (z : List Nat) (zz : List Nat) (px : List Nat) (qx : List Nat) (xx : List Nat) (py : List Nat) (qy : List Nat) (yy : List Nat) (xy : List Nat) (ee : List Nat) (mo : List Nat) (le : List Nat) (c1 : List Nat) (c2 : List Nat) (cr : List Nat) (zc : List Nat) (x : List Nat) (ys : List Nat) (zy : List Nat) (y : List Nat) : List Value :=
  (numD p) :: (numD q) :: (numD dd) :: (.pointer (some ⟨g_base, 0, none⟩)) :: (.pointer (some ⟨gq, 0, none⟩)) :: (.pointer (some ⟨gd, 0, none⟩)) :: (.pointer (some ⟨gr, 0, none⟩)) :: (.pointer (some ⟨gz, 0, none⟩)) :: (.pointer (some ⟨ga, 0, none⟩)) :: (.pointer (some ⟨gb, 0, none⟩)) :: (.pointer (some ⟨gc, 0, none⟩)) :: (.pointer (some ⟨ge, 0, none⟩)) :: (.pointer (some ⟨gm, 0, none⟩)) :: (.pointer (some ⟨gl, 0, none⟩)) :: (.pointer (some ⟨go, 0, none⟩)) :: (.pointer (some ⟨gx, 0, none⟩)) :: undef :: (.pointer (some ⟨g_base, 16, none⟩)) :: (numD pz) :: (.pointer (some ⟨gq, 16, none⟩)) :: (numD qz) :: (numD z) :: (numD z) :: (numD z) :: (numD zz) :: (.pointer (some ⟨g_base, 0, none⟩)) :: (numD px) :: (.pointer (some ⟨gq, 0, none⟩)) :: (numD qx) :: (numD xx) :: (.pointer (some ⟨g_base, 8, none⟩)) :: (numD py) :: (.pointer (some ⟨gq, 8, none⟩)) :: (numD qy) :: (numD yy) :: (numD dd) :: (numD xx) :: (numD yy) :: (numD xy) :: (numD ee) :: (numD zz) :: (numD ee) :: (numD mo) :: (numD zz) :: (numD ee) :: (numD le) :: (.pointer (some ⟨g_base, 0, none⟩)) :: (numD px) :: (.pointer (some ⟨gq, 8, none⟩)) :: (numD qy) :: (numD c1) :: (.pointer (some ⟨gq, 0, none⟩)) :: (numD qx) :: (.pointer (some ⟨g_base, 8, none⟩)) :: (numD py) :: (numD c2) :: (numD cr) :: (numD z) :: (numD cr) :: (numD zc) :: (numD le) :: (numD x) :: (numD z) :: (numD yy) :: (numD xx) :: (numD ys) :: (numD zy) :: (numD mo) :: (numD y) :: undef :: undef :: undef :: undef :: undef :: undef :: []
def triVs9_8N (p : List Nat) (q : List Nat) (dd : List Nat) (g_base : Nat) (gq : Nat) (gd : Nat) (gr : Nat) (gz : Nat) (ga : Nat) (gb : Nat) (gc : Nat) (ge : Nat) (gm : Nat) (gl : Nat) (go : Nat) (gx : Nat) (pz : List Nat) (qz : List Nat) (z : List Nat) (zz : List Nat) (px : List Nat) (qx : List Nat) (xx : List Nat) (py : List Nat) (qy : List Nat) (yy : List Nat) (xy : List Nat) (ee : List Nat) (mo : List Nat) (le : List Nat) (c1 : List Nat) (c2 : List Nat) (cr : List Nat) (zc : List Nat) (x : List Nat) (ys : List Nat) (zy : List Nat) (y : List Nat) (n16 : Nat) : List Value :=
  (numD p) :: (numD q) :: (numD dd) :: (.pointer (some ⟨g_base, 0, none⟩)) :: (.pointer (some ⟨gq, 0, none⟩)) :: (.pointer (some ⟨gd, 0, none⟩)) :: (.pointer (some ⟨gr, 0, none⟩)) :: (.pointer (some ⟨gz, 0, none⟩)) :: (.pointer (some ⟨ga, 0, none⟩)) :: (.pointer (some ⟨gb, 0, none⟩)) :: (.pointer (some ⟨gc, 0, none⟩)) :: (.pointer (some ⟨ge, 0, none⟩)) :: (.pointer (some ⟨gm, 0, none⟩)) :: (.pointer (some ⟨gl, 0, none⟩)) :: (.pointer (some ⟨go, 0, none⟩)) :: (.pointer (some ⟨gx, 0, none⟩)) :: (.pointer (some ⟨n16, 0, none⟩)) :: (.pointer (some ⟨g_base, 16, none⟩)) :: (numD pz) :: (.pointer (some ⟨gq, 16, none⟩)) :: (numD qz) :: (numD z) :: (numD z) :: (numD z) :: (numD zz) :: (.pointer (some ⟨g_base, 0, none⟩)) :: (numD px) :: (.pointer (some ⟨gq, 0, none⟩)) :: (numD qx) :: (numD xx) :: (.pointer (some ⟨g_base, 8, none⟩)) :: (numD py) :: (.pointer (some ⟨gq, 8, none⟩)) :: (numD qy) :: (numD yy) :: (numD dd) :: (numD xx) :: (numD yy) :: (numD xy) :: (numD ee) :: (numD zz) :: (numD ee) :: (numD mo) :: (numD zz) :: (numD ee) :: (numD le) :: (.pointer (some ⟨g_base, 0, none⟩)) :: (numD px) :: (.pointer (some ⟨gq, 8, none⟩)) :: (numD qy) :: (numD c1) :: (.pointer (some ⟨gq, 0, none⟩)) :: (numD qx) :: (.pointer (some ⟨g_base, 8, none⟩)) :: (numD py) :: (numD c2) :: (numD cr) :: (numD z) :: (numD cr) :: (numD zc) :: (numD le) :: (numD x) :: (numD z) :: (numD yy) :: (numD xx) :: (numD ys) :: (numD zy) :: (numD mo) :: (numD y) :: undef :: undef :: undef :: undef :: undef :: undef :: []
def triVs10_9 (p : List Nat) (q : List Nat) (dd : List Nat) (g_base : Nat) (gq : Nat) (gd : Nat) (gr : Nat) (gz : Nat) (ga : Nat) (gb : Nat) (gc : Nat) (ge : Nat) (gm : Nat) (gl : Nat) (go : Nat) (gx : Nat) (gy : Nat) (pz : List Nat) (qz : List Nat) (z : List Nat) (zz : List Nat) (px : List Nat) (qx : List Nat) (xx : List Nat) (py : List Nat) (qy : List Nat) (yy : List Nat) (xy : List Nat) (ee : List Nat) (mo : List Nat) (le : List Nat) (c1 : List Nat) (c2 : List Nat) (cr : List Nat) (zc : List Nat) (x : List Nat) (ys : List Nat) (zy : List Nat) (y : List Nat) (zl : List Nat) (r : List Nat) : List Value :=
  (numD p) :: (numD q) :: (numD dd) :: (.pointer (some ⟨g_base, 0, none⟩)) :: (.pointer (some ⟨gq, 0, none⟩)) :: (.pointer (some ⟨gd, 0, none⟩)) :: (.pointer (some ⟨gr, 0, none⟩)) :: (.pointer (some ⟨gz, 0, none⟩)) :: (.pointer (some ⟨ga, 0, none⟩)) :: (.pointer (some ⟨gb, 0, none⟩)) :: (.pointer (some ⟨gc, 0, none⟩)) :: (.pointer (some ⟨ge, 0, none⟩)) :: (.pointer (some ⟨gm, 0, none⟩)) :: (.pointer (some ⟨gl, 0, none⟩)) :: (.pointer (some ⟨go, 0, none⟩)) :: (.pointer (some ⟨gx, 0, none⟩)) :: (.pointer (some ⟨gy, 0, none⟩)) :: (.pointer (some ⟨g_base, 16, none⟩)) :: (numD pz) :: (.pointer (some ⟨gq, 16, none⟩)) :: (numD qz) :: (numD z) :: (numD z) :: (numD z) :: (numD zz) :: (.pointer (some ⟨g_base, 0, none⟩)) :: (numD px) :: (.pointer (some ⟨gq, 0, none⟩)) :: (numD qx) :: (numD xx) :: (.pointer (some ⟨g_base, 8, none⟩)) :: (numD py) :: (.pointer (some ⟨gq, 8, none⟩)) :: (numD qy) :: (numD yy) :: (numD dd) :: (numD xx) :: (numD yy) :: (numD xy) :: (numD ee) :: (numD zz) :: (numD ee) :: (numD mo) :: (numD zz) :: (numD ee) :: (numD le) :: (.pointer (some ⟨g_base, 0, none⟩)) :: (numD px) :: (.pointer (some ⟨gq, 8, none⟩)) :: (numD qy) :: (numD c1) :: (.pointer (some ⟨gq, 0, none⟩)) :: (numD qx) :: (.pointer (some ⟨g_base, 8, none⟩)) :: (numD py) :: (numD c2) :: (numD cr) :: (numD z) :: (numD cr) :: (numD zc) :: (numD le) :: (numD x) :: (numD z) :: (numD yy) :: (numD xx) :: (numD ys) :: (numD zy) :: (numD mo) :: (numD y) :: (numD x) :: (numD y) :: (numD mo) :: (numD le) :: (numD zl) :: (numD r) :: []
set_option maxRecDepth 100000 in
set_option maxHeartbeats 1000000 in
theorem triSum_over (p px py pz q qx qy qz dd z zz xx yy xy ee mo le c1 c2 cr zc x ys zy y zl r : List Nat) (w : World)
    (Hpx : Hid (px.length = 8))
    (Hpy : Hid (py.length = 8))
    (Hpz : Hid (pz.length = 8))
    (Hqx : Hid (qx.length = 8))
    (Hqy : Hid (qy.length = 8))
    (Hqz : Hid (qz.length = 8))
    (Hdd : Hid (dd.length = 8))
    (Hz : Hid (z.length = 8))
    (Hzz : Hid (zz.length = 8))
    (Hxx : Hid (xx.length = 8))
    (Hyy : Hid (yy.length = 8))
    (Hee : Hid (ee.length = 8))
    (Hmo : Hid (mo.length = 8))
    (Hle : Hid (le.length = 8))
    (Hcr : Hid (cr.length = 8))
    (Hx : Hid (x.length = 8))
    (Hy : Hid (y.length = 8))
    (Hr : Hid (r.length = 24))
    (Fp : Hid (p = px ++ py ++ pz))
    (Fq : Hid (q = qx ++ qy ++ qz))
    (C21 : Hid (∀ W, Calls Tryd.prog 34 #[numD pz, numD qz] W fun e w' => e = .returned (numD z) ∧ Below W.heap.size W w'))
    (C24 : Hid (∀ W, Calls Tryd.prog 34 #[numD z, numD z] W fun e w' => e = .returned (numD zz) ∧ Below W.heap.size W w'))
    (C29 : Hid (∀ W, Calls Tryd.prog 34 #[numD px, numD qx] W fun e w' => e = .returned (numD xx) ∧ Below W.heap.size W w'))
    (C34 : Hid (∀ W, Calls Tryd.prog 34 #[numD py, numD qy] W fun e w' => e = .returned (numD yy) ∧ Below W.heap.size W w'))
    (C38 : Hid (∀ W, Calls Tryd.prog 34 #[numD xx, numD yy] W fun e w' => e = .returned (numD xy) ∧ Below W.heap.size W w'))
    (C39 : Hid (∀ W, Calls Tryd.prog 34 #[numD dd, numD xy] W fun e w' => e = .returned (numD ee) ∧ Below W.heap.size W w'))
    (C42 : Hid (∀ W, Calls Tryd.prog 39 #[numD zz, numD ee] W fun e w' => e = .returned (numD mo) ∧ Below W.heap.size W w'))
    (C45 : Hid (∀ W, Calls Tryd.prog 36 #[numD zz, numD ee] W fun e w' => e = .returned (numD le) ∧ Below W.heap.size W w'))
    (C50 : Hid (∀ W, Calls Tryd.prog 34 #[numD px, numD qy] W fun e w' => e = .returned (numD c1) ∧ Below W.heap.size W w'))
    (C55 : Hid (∀ W, Calls Tryd.prog 34 #[numD qx, numD py] W fun e w' => e = .returned (numD c2) ∧ Below W.heap.size W w'))
    (C56 : Hid (∀ W, Calls Tryd.prog 39 #[numD c1, numD c2] W fun e w' => e = .returned (numD cr) ∧ Below W.heap.size W w'))
    (C59 : Hid (∀ W, Calls Tryd.prog 34 #[numD z, numD cr] W fun e w' => e = .returned (numD zc) ∧ Below W.heap.size W w'))
    (C61 : Hid (∀ W, Calls Tryd.prog 34 #[numD zc, numD le] W fun e w' => e = .returned (numD x) ∧ Below W.heap.size W w'))
    (C65 : Hid (∀ W, Calls Tryd.prog 39 #[numD yy, numD xx] W fun e w' => e = .returned (numD ys) ∧ Below W.heap.size W w'))
    (C66 : Hid (∀ W, Calls Tryd.prog 34 #[numD z, numD ys] W fun e w' => e = .returned (numD zy) ∧ Below W.heap.size W w'))
    (C68 : Hid (∀ W, Calls Tryd.prog 34 #[numD zy, numD mo] W fun e w' => e = .returned (numD y) ∧ Below W.heap.size W w'))
    (C73 : Hid (∀ W, Calls Tryd.prog 34 #[numD mo, numD le] W fun e w' => e = .returned (numD zl) ∧ Below W.heap.size W w'))
    (BR : ∀ w, (Instr.build 40 #[(0, numD x), (1, numD y), (2, numD zl)]).run Tryd.prog w = .ok (numD r) w) :
    Calls Tryd.prog 54 #[numD p, numD q, numD dd] w fun e w' => e = .returned (numD r) ∧ Below w.heap.size w w' := by
  go_enter Tryd.func54, Tryd.ntmps54
  go_upto_region 1 with (first
    | (refine vtake_step rfl 40 (.tmp 0) rfl (p.map dcell) rfl ?_
       intro w1 hb1 hvp1
       have hB1 := hb1
       have hgep : w.heap.size ≤ w.heap.size := Nat.le_refl _
       clear  hb1
       try simp only [Act.put, List.setIfInBounds_toArray, List.set_cons_zero, List.set_cons_succ]
       skip)
    | (refine vtake_step rfl 40 (.tmp 1) rfl (q.map dcell) rfl ?_
       intro w2 hb2 hvq2
       have hB2 := below_then hB1 hb2
       have hgeq : w.heap.size ≤ w1.heap.size := hB1.size
       have hvp2 := hvp1.on hb2
       have hnepq := Nat.ne_of_lt hvp1.lt
       clear hB1 hvp1 hb2
       try simp only [Act.put, List.setIfInBounds_toArray, List.set_cons_zero, List.set_cons_succ]
       skip)
    | (refine vtake_step rfl 38 (.tmp 2) rfl (dd.map dcell) rfl ?_
       intro w3 hb3 hvd3
       have hB3 := below_then hB2 hb3
       have hged : w.heap.size ≤ w2.heap.size := hB2.size
       have hvp3 := hvp2.on hb3
       have hnepd := Nat.ne_of_lt hvp2.lt
       have hvq3 := hvq2.on hb3
       have hneqd := Nat.ne_of_lt hvq2.lt
       clear hB2 hvp2 hvq2 hb3
       try simp only [Act.put, List.setIfInBounds_toArray, List.set_cons_zero, List.set_cons_succ]
       skip)
    | (refine vzero_step (o := ⟨some 6, _, _, _, _, _⟩) rfl 40 rfl (dzeros 24) zero_tri ?_
       intro w4 hb4 hvr4
       have hB4 := below_then hB3 hb4
       have hger : w.heap.size ≤ w3.heap.size := hB3.size
       have hvp4 := hvp3.on hb4
       have hnepr := Nat.ne_of_lt hvp3.lt
       have hvq4 := hvq3.on hb4
       have hneqr := Nat.ne_of_lt hvq3.lt
       have hvd4 := hvd3.on hb4
       have hnedr := Nat.ne_of_lt hvd3.lt
       clear hB3 hvp3 hvq3 hvd3 hb4
       try simp only [Act.put, List.setIfInBounds_toArray, List.set_cons_zero, List.set_cons_succ]
       skip))
  generalize hqq : w1.heap.size = gq at *
  clear hqq
  generalize hqd : w2.heap.size = gd at *
  clear hqd
  generalize hqr : w3.heap.size = gr at *
  clear hqr
  refine wp_region_flat (md := .any) (by kernel_rfl) ?_
  refine wpAny_flatM (L := [0, 1, 2, 3, 4, 5]) (by kernel_rfl) _ _ (triVs1 p q dd w.heap.size gq gd gr pz qz z) [(5, 7)] 38 (dzeros 8) [0, 1, 2, 3, 4, 5, 6, 8, 9, 10, 11, 12, 13, 14, 15, 16, 22, 23, 24, 25, 26, 27, 28, 29, 30, 31, 32, 33, 34, 35, 36, 37, 38, 39, 40, 41, 42, 43, 44, 45, 46, 47, 48, 49, 50, 51, 52, 53, 54, 55, 56, 57, 58, 59, 60, 61, 62, 63, 64, 65, 66, 67, 68, 69, 70, 71, 72, 73, 74] (by kernel_rfl) (by kernel_rfl) ?_ zero_ND ?_ (by rfl) ?_ 1 (by kernel_rfl) ?_
  · intro p hp
    rcases List.mem_cons.1 hp with rfl | hp
    · exact ⟨⟨_, rfl, rfl, rfl, rfl, by kernel_rfl, by kernel_rfl⟩⟩
    exact absurd hp List.not_mem_nil
  · repeat refine all_cons rfl ?_
    exact all_nil
  · refine all_cons (.inr (mStep _ 17 rfl rfl rfl rfl (by kernel_rfl) (fun a hv => wanted_all rfl _) (fun a w K hb hv hK => mPure _ (exec_field _ _ _ _ 2 rfl _ _ (hv 3 (by kernel_rfl) rfl) w (field_t2 _ w)) hK))) ?_
    refine all_cons (.inr (mStep _ 18 rfl rfl rfl rfl (by kernel_rfl) (fun a hv => wanted_all rfl _) (fun a w K hb hv hK => mPure (numD pz) (exec_load _ _ _ _ rfl _ _ (hv 17 (by kernel_rfl) rfl) w (load_t2 (hvp4.on hb) Fp.out Hpx.out Hpy.out Hpz.out)) hK))) ?_
    refine all_cons (.inr (mStep _ 19 rfl rfl rfl rfl (by kernel_rfl) (fun a hv => wanted_all rfl _) (fun a w K hb hv hK => mPure _ (exec_field _ _ _ _ 2 rfl _ _ (hv 4 (by kernel_rfl) rfl) w (field_t2 _ w)) hK))) ?_
    refine all_cons (.inr (mStep _ 20 rfl rfl rfl rfl (by kernel_rfl) (fun a hv => wanted_all rfl _) (fun a w K hb hv hK => mPure (numD qz) (exec_load _ _ _ _ rfl _ _ (hv 19 (by kernel_rfl) rfl) w (load_t2 (hvq4.on hb) Fq.out Hqx.out Hqy.out Hqz.out)) hK))) ?_
    refine all_cons (.inr (mStep _ 21 rfl rfl rfl rfl (by kernel_rfl) (fun a hv => wanted_all rfl _) (fun a w K hb hv hK => mCall (numD z) 34 _ _ rfl [numD pz, numD qz] (cons_eq (hv 18 (by kernel_rfl) rfl) (cons_eq (hv 20 (by kernel_rfl) rfl) (rfl))) (enters Tryd.func34 rfl rfl) (C21.out w) hK))) ?_
    refine all_cons (.inl ⟨(5, 7), by simp, rfl⟩) ?_
    exact all_nil
  intro w5 g hb5 hN5 hap5
  obtain ⟨hgez, hvz5⟩ := hN5 (5, 7) (by simp)
  clear hN5 hap5
  have hB5 := below_then hB4 hb5
  have hltp : w.heap.size < w4.heap.size := hvp4.lt
  have hltq : gq < w4.heap.size := hvq4.lt
  have hltd : gd < w4.heap.size := hvd4.lt
  have hltr : gr < w4.heap.size := hvr4.lt
  have hvp5 := hvp4.on hb5
  have hvq5 := hvq4.on hb5
  have hvd5 := hvd4.on hb5
  have hvr5 := hvr4.on hb5
  rw [show withNew g [(5, 7)] (triVs1 p q dd w.heap.size gq gd gr pz qz z) = triVs1N p q dd w.heap.size gq gd gr pz qz z (g 7) from rfl]
  replace hgez : w4.heap.size ≤ g 7 := hgez
  replace hvz5 : Cells w5 (g 7) (dzeros 8) 38 := hvz5
  have hnepz : w.heap.size ≠ g 7 := Nat.ne_of_lt (Nat.lt_of_lt_of_le hltp hgez)
  have hneqz : gq ≠ g 7 := Nat.ne_of_lt (Nat.lt_of_lt_of_le hltq hgez)
  have hnedz : gd ≠ g 7 := Nat.ne_of_lt (Nat.lt_of_lt_of_le hltd hgez)
  have hnerz : gr ≠ g 7 := Nat.ne_of_lt (Nat.lt_of_lt_of_le hltr hgez)
  replace hgez : w.heap.size ≤ g 7 := Nat.le_trans (show w.heap.size ≤ w4.heap.size from hB4.size) hgez
  clear hltp hltq hltd hltr
  generalize g 7 = gz at *
  clear hB4 hvp4 hvq4 hvd4 hvr4 hb5
  refine wpAny_rest 6 rfl (by kernel_rfl) ?_
  refine vset_step rfl 38 (.tmp 7) (.tmp 21) rfl gz 8 (dzeros 8) (z.map dcell) rfl rfl hvz5 rfl size_ND (by rw [List.length_map, Hz.out]) (dcells_one _) ?_
  intro w6 hb6 hvz6 hz6
  have hB6 : Below w.heap.size w w6 := hB5.trans (hb6.below hgez hB5.size)
  have hvp6 := hvp5.but hb6 hnepz
  have hvq6 := hvq5.but hb6 hneqz
  have hvd6 := hvd5.but hb6 hnedz
  have hvr6 := hvr5.but hb6 hnerz
  clear hB5 hvz5 hb6 hz6 hvp5 hvq5 hvd5 hvr5
  rename_i K hKK
  show Exit.then K _ Exit.normal (⟨(triVs1N p q dd w.heap.size gq gd gr pz qz z gz).toArray, []⟩ : Act) w6
  simp only [Exit.then]
  refine hKK _ _ ?_
  clear hKK K g
  simp only [triVs1N]
  go_upto_region 2 with fail
  refine wp_region_flat (md := .any) (by kernel_rfl) ?_
  refine wpAny_flatM (L := [0, 1, 2, 3]) (by kernel_rfl) _ _ (triVs2_1 p q dd w.heap.size gq gd gr gz pz qz z zz) [(3, 8)] 38 (dzeros 8) [0, 1, 2, 3, 4, 5, 6, 7, 9, 10, 11, 12, 13, 14, 15, 16, 17, 18, 19, 20, 21, 25, 26, 27, 28, 29, 30, 31, 32, 33, 34, 35, 36, 37, 38, 39, 40, 41, 42, 43, 44, 45, 46, 47, 48, 49, 50, 51, 52, 53, 54, 55, 56, 57, 58, 59, 60, 61, 62, 63, 64, 65, 66, 67, 68, 69, 70, 71, 72, 73, 74] (by kernel_rfl) (by kernel_rfl) ?_ zero_ND ?_ (by rfl) ?_ 1 (by kernel_rfl) ?_
  · intro p hp
    rcases List.mem_cons.1 hp with rfl | hp
    · exact ⟨⟨_, rfl, rfl, rfl, rfl, by kernel_rfl, by kernel_rfl⟩⟩
    exact absurd hp List.not_mem_nil
  · repeat refine all_cons rfl ?_
    exact all_nil
  · refine all_cons (.inr (mStep _ 22 rfl rfl rfl rfl (by kernel_rfl) (fun a hv => wanted_all rfl _) (fun a w K hb hv hK => mPure (numD z) (exec_load _ _ _ _ rfl _ _ (hv 7 (by kernel_rfl) rfl) w (num_run (hvz6.on hb) Hz.out)) hK))) ?_
    refine all_cons (.inr (mStep _ 23 rfl rfl rfl rfl (by kernel_rfl) (fun a hv => wanted_all rfl _) (fun a w K hb hv hK => mPure (numD z) (exec_load _ _ _ _ rfl _ _ (hv 7 (by kernel_rfl) rfl) w (num_run (hvz6.on hb) Hz.out)) hK))) ?_
    refine all_cons (.inr (mStep _ 24 rfl rfl rfl rfl (by kernel_rfl) (fun a hv => wanted_all rfl _) (fun a w K hb hv hK => mCall (numD zz) 34 _ _ rfl [numD z, numD z] (cons_eq (hv 22 (by kernel_rfl) rfl) (cons_eq (hv 23 (by kernel_rfl) rfl) (rfl))) (enters Tryd.func34 rfl rfl) (C24.out w) hK))) ?_
    refine all_cons (.inl ⟨(3, 8), by simp, rfl⟩) ?_
    exact all_nil
  intro w7 g hb7 hN7 hap7
  obtain ⟨hgea, hva7⟩ := hN7 (3, 8) (by simp)
  clear hN7 hap7
  have hB7 := below_then hB6 hb7
  have hltp : w.heap.size < w6.heap.size := hvp6.lt
  have hltq : gq < w6.heap.size := hvq6.lt
  have hltd : gd < w6.heap.size := hvd6.lt
  have hltr : gr < w6.heap.size := hvr6.lt
  have hltz : gz < w6.heap.size := hvz6.lt
  have hvp7 := hvp6.on hb7
  have hvq7 := hvq6.on hb7
  have hvd7 := hvd6.on hb7
  have hvr7 := hvr6.on hb7
  have hvz7 := hvz6.on hb7
  rw [show withNew g [(3, 8)] (triVs2_1 p q dd w.heap.size gq gd gr gz pz qz z zz) = triVs2_1N p q dd w.heap.size gq gd gr gz pz qz z zz (g 8) from rfl]
  replace hgea : w6.heap.size ≤ g 8 := hgea
  replace hva7 : Cells w7 (g 8) (dzeros 8) 38 := hva7
  have hnepa : w.heap.size ≠ g 8 := Nat.ne_of_lt (Nat.lt_of_lt_of_le hltp hgea)
  have hneqa : gq ≠ g 8 := Nat.ne_of_lt (Nat.lt_of_lt_of_le hltq hgea)
  have hneda : gd ≠ g 8 := Nat.ne_of_lt (Nat.lt_of_lt_of_le hltd hgea)
  have hnera : gr ≠ g 8 := Nat.ne_of_lt (Nat.lt_of_lt_of_le hltr hgea)
  have hneza : gz ≠ g 8 := Nat.ne_of_lt (Nat.lt_of_lt_of_le hltz hgea)
  replace hgea : w.heap.size ≤ g 8 := Nat.le_trans (show w.heap.size ≤ w6.heap.size from hB6.size) hgea
  clear hltp hltq hltd hltr hltz
  generalize g 8 = ga at *
  clear hB6 hvp6 hvq6 hvd6 hvr6 hvz6 hb7
  refine wpAny_rest 4 rfl (by kernel_rfl) ?_
  refine vset_step rfl 38 (.tmp 8) (.tmp 24) rfl ga 8 (dzeros 8) (zz.map dcell) rfl rfl hva7 rfl size_ND (by rw [List.length_map, Hzz.out]) (dcells_one _) ?_
  intro w8 hb8 hva8 hz8
  have hB8 : Below w.heap.size w w8 := hB7.trans (hb8.below hgea hB7.size)
  have hvp8 := hvp7.but hb8 hnepa
  have hvq8 := hvq7.but hb8 hneqa
  have hvd8 := hvd7.but hb8 hneda
  have hvr8 := hvr7.but hb8 hnera
  have hvz8 := hvz7.but hb8 hneza
  clear hB7 hva7 hb8 hz8 hvp7 hvq7 hvd7 hvr7 hvz7
  rename_i K hKK
  show Exit.then K _ Exit.normal (⟨(triVs2_1N p q dd w.heap.size gq gd gr gz pz qz z zz ga).toArray, []⟩ : Act) w8
  simp only [Exit.then]
  refine hKK _ _ ?_
  clear hKK K g
  simp only [triVs2_1N]
  go_upto_region 3 with fail
  refine wp_region_flat (md := .any) (by kernel_rfl) ?_
  refine wpAny_flatM (L := [0, 1, 2, 3, 4, 5]) (by kernel_rfl) _ _ (triVs3_2 p q dd w.heap.size gq gd gr gz ga pz qz z zz px qx xx) [(5, 9)] 38 (dzeros 8) [0, 1, 2, 3, 4, 5, 6, 7, 8, 10, 11, 12, 13, 14, 15, 16, 17, 18, 19, 20, 21, 22, 23, 24, 30, 31, 32, 33, 34, 35, 36, 37, 38, 39, 40, 41, 42, 43, 44, 45, 46, 47, 48, 49, 50, 51, 52, 53, 54, 55, 56, 57, 58, 59, 60, 61, 62, 63, 64, 65, 66, 67, 68, 69, 70, 71, 72, 73, 74] (by kernel_rfl) (by kernel_rfl) ?_ zero_ND ?_ (by rfl) ?_ 1 (by kernel_rfl) ?_
  · intro p hp
    rcases List.mem_cons.1 hp with rfl | hp
    · exact ⟨⟨_, rfl, rfl, rfl, rfl, by kernel_rfl, by kernel_rfl⟩⟩
    exact absurd hp List.not_mem_nil
  · repeat refine all_cons rfl ?_
    exact all_nil
  · refine all_cons (.inr (mStep _ 25 rfl rfl rfl rfl (by kernel_rfl) (fun a hv => wanted_all rfl _) (fun a w K hb hv hK => mPure _ (exec_field _ _ _ _ 0 rfl _ _ (hv 3 (by kernel_rfl) rfl) w (field_t0 _ w)) hK))) ?_
    refine all_cons (.inr (mStep _ 26 rfl rfl rfl rfl (by kernel_rfl) (fun a hv => wanted_all rfl _) (fun a w K hb hv hK => mPure (numD px) (exec_load _ _ _ _ rfl _ _ (hv 25 (by kernel_rfl) rfl) w (load_t0 (hvp8.on hb) Fp.out Hpx.out)) hK))) ?_
    refine all_cons (.inr (mStep _ 27 rfl rfl rfl rfl (by kernel_rfl) (fun a hv => wanted_all rfl _) (fun a w K hb hv hK => mPure _ (exec_field _ _ _ _ 0 rfl _ _ (hv 4 (by kernel_rfl) rfl) w (field_t0 _ w)) hK))) ?_
    refine all_cons (.inr (mStep _ 28 rfl rfl rfl rfl (by kernel_rfl) (fun a hv => wanted_all rfl _) (fun a w K hb hv hK => mPure (numD qx) (exec_load _ _ _ _ rfl _ _ (hv 27 (by kernel_rfl) rfl) w (load_t0 (hvq8.on hb) Fq.out Hqx.out)) hK))) ?_
    refine all_cons (.inr (mStep _ 29 rfl rfl rfl rfl (by kernel_rfl) (fun a hv => wanted_all rfl _) (fun a w K hb hv hK => mCall (numD xx) 34 _ _ rfl [numD px, numD qx] (cons_eq (hv 26 (by kernel_rfl) rfl) (cons_eq (hv 28 (by kernel_rfl) rfl) (rfl))) (enters Tryd.func34 rfl rfl) (C29.out w) hK))) ?_
    refine all_cons (.inl ⟨(5, 9), by simp, rfl⟩) ?_
    exact all_nil
  intro w9 g hb9 hN9 hap9
  obtain ⟨hgeb, hvb9⟩ := hN9 (5, 9) (by simp)
  clear hN9 hap9
  have hB9 := below_then hB8 hb9
  have hltp : w.heap.size < w8.heap.size := hvp8.lt
  have hltq : gq < w8.heap.size := hvq8.lt
  have hltd : gd < w8.heap.size := hvd8.lt
  have hltr : gr < w8.heap.size := hvr8.lt
  have hltz : gz < w8.heap.size := hvz8.lt
  have hlta : ga < w8.heap.size := hva8.lt
  have hvp9 := hvp8.on hb9
  have hvq9 := hvq8.on hb9
  have hvd9 := hvd8.on hb9
  have hvr9 := hvr8.on hb9
  have hvz9 := hvz8.on hb9
  have hva9 := hva8.on hb9
  rw [show withNew g [(5, 9)] (triVs3_2 p q dd w.heap.size gq gd gr gz ga pz qz z zz px qx xx) = triVs3_2N p q dd w.heap.size gq gd gr gz ga pz qz z zz px qx xx (g 9) from rfl]
  replace hgeb : w8.heap.size ≤ g 9 := hgeb
  replace hvb9 : Cells w9 (g 9) (dzeros 8) 38 := hvb9
  have hnepb : w.heap.size ≠ g 9 := Nat.ne_of_lt (Nat.lt_of_lt_of_le hltp hgeb)
  have hneqb : gq ≠ g 9 := Nat.ne_of_lt (Nat.lt_of_lt_of_le hltq hgeb)
  have hnedb : gd ≠ g 9 := Nat.ne_of_lt (Nat.lt_of_lt_of_le hltd hgeb)
  have hnerb : gr ≠ g 9 := Nat.ne_of_lt (Nat.lt_of_lt_of_le hltr hgeb)
  have hnezb : gz ≠ g 9 := Nat.ne_of_lt (Nat.lt_of_lt_of_le hltz hgeb)
  have hneab : ga ≠ g 9 := Nat.ne_of_lt (Nat.lt_of_lt_of_le hlta hgeb)
  replace hgeb : w.heap.size ≤ g 9 := Nat.le_trans (show w.heap.size ≤ w8.heap.size from hB8.size) hgeb
  clear hltp hltq hltd hltr hltz hlta
  generalize g 9 = gb at *
  clear hB8 hvp8 hvq8 hvd8 hvr8 hvz8 hva8 hb9
  refine wpAny_rest 6 rfl (by kernel_rfl) ?_
  refine vset_step rfl 38 (.tmp 9) (.tmp 29) rfl gb 8 (dzeros 8) (xx.map dcell) rfl rfl hvb9 rfl size_ND (by rw [List.length_map, Hxx.out]) (dcells_one _) ?_
  intro w10 hb10 hvb10 hz10
  have hB10 : Below w.heap.size w w10 := hB9.trans (hb10.below hgeb hB9.size)
  have hvp10 := hvp9.but hb10 hnepb
  have hvq10 := hvq9.but hb10 hneqb
  have hvd10 := hvd9.but hb10 hnedb
  have hvr10 := hvr9.but hb10 hnerb
  have hvz10 := hvz9.but hb10 hnezb
  have hva10 := hva9.but hb10 hneab
  clear hB9 hvb9 hb10 hz10 hvp9 hvq9 hvd9 hvr9 hvz9 hva9
  rename_i K hKK
  show Exit.then K _ Exit.normal (⟨(triVs3_2N p q dd w.heap.size gq gd gr gz ga pz qz z zz px qx xx gb).toArray, []⟩ : Act) w10
  simp only [Exit.then]
  refine hKK _ _ ?_
  clear hKK K g
  simp only [triVs3_2N]
  go_upto_region 4 with fail
  refine wp_region_flat (md := .any) (by kernel_rfl) ?_
  refine wpAny_flatM (L := [0, 1, 2, 3, 4, 5]) (by kernel_rfl) _ _ (triVs4_3 p q dd w.heap.size gq gd gr gz ga gb pz qz z zz px qx xx py qy yy) [(5, 10)] 38 (dzeros 8) [0, 1, 2, 3, 4, 5, 6, 7, 8, 9, 11, 12, 13, 14, 15, 16, 17, 18, 19, 20, 21, 22, 23, 24, 25, 26, 27, 28, 29, 35, 36, 37, 38, 39, 40, 41, 42, 43, 44, 45, 46, 47, 48, 49, 50, 51, 52, 53, 54, 55, 56, 57, 58, 59, 60, 61, 62, 63, 64, 65, 66, 67, 68, 69, 70, 71, 72, 73, 74] (by kernel_rfl) (by kernel_rfl) ?_ zero_ND ?_ (by rfl) ?_ 1 (by kernel_rfl) ?_
  · intro p hp
    rcases List.mem_cons.1 hp with rfl | hp
    · exact ⟨⟨_, rfl, rfl, rfl, rfl, by kernel_rfl, by kernel_rfl⟩⟩
    exact absurd hp List.not_mem_nil
  · repeat refine all_cons rfl ?_
    exact all_nil
  · refine all_cons (.inr (mStep _ 30 rfl rfl rfl rfl (by kernel_rfl) (fun a hv => wanted_all rfl _) (fun a w K hb hv hK => mPure _ (exec_field _ _ _ _ 1 rfl _ _ (hv 3 (by kernel_rfl) rfl) w (field_t1 _ w)) hK))) ?_
    refine all_cons (.inr (mStep _ 31 rfl rfl rfl rfl (by kernel_rfl) (fun a hv => wanted_all rfl _) (fun a w K hb hv hK => mPure (numD py) (exec_load _ _ _ _ rfl _ _ (hv 30 (by kernel_rfl) rfl) w (load_t1 (hvp10.on hb) Fp.out Hpx.out Hpy.out)) hK))) ?_
    refine all_cons (.inr (mStep _ 32 rfl rfl rfl rfl (by kernel_rfl) (fun a hv => wanted_all rfl _) (fun a w K hb hv hK => mPure _ (exec_field _ _ _ _ 1 rfl _ _ (hv 4 (by kernel_rfl) rfl) w (field_t1 _ w)) hK))) ?_
    refine all_cons (.inr (mStep _ 33 rfl rfl rfl rfl (by kernel_rfl) (fun a hv => wanted_all rfl _) (fun a w K hb hv hK => mPure (numD qy) (exec_load _ _ _ _ rfl _ _ (hv 32 (by kernel_rfl) rfl) w (load_t1 (hvq10.on hb) Fq.out Hqx.out Hqy.out)) hK))) ?_
    refine all_cons (.inr (mStep _ 34 rfl rfl rfl rfl (by kernel_rfl) (fun a hv => wanted_all rfl _) (fun a w K hb hv hK => mCall (numD yy) 34 _ _ rfl [numD py, numD qy] (cons_eq (hv 31 (by kernel_rfl) rfl) (cons_eq (hv 33 (by kernel_rfl) rfl) (rfl))) (enters Tryd.func34 rfl rfl) (C34.out w) hK))) ?_
    refine all_cons (.inl ⟨(5, 10), by simp, rfl⟩) ?_
    exact all_nil
  intro w11 g hb11 hN11 hap11
  obtain ⟨hgec, hvc11⟩ := hN11 (5, 10) (by simp)
  clear hN11 hap11
  have hB11 := below_then hB10 hb11
  have hltp : w.heap.size < w10.heap.size := hvp10.lt
  have hltq : gq < w10.heap.size := hvq10.lt
  have hltd : gd < w10.heap.size := hvd10.lt
  have hltr : gr < w10.heap.size := hvr10.lt
  have hltz : gz < w10.heap.size := hvz10.lt
  have hlta : ga < w10.heap.size := hva10.lt
  have hltb : gb < w10.heap.size := hvb10.lt
  have hvp11 := hvp10.on hb11
  have hvq11 := hvq10.on hb11
  have hvd11 := hvd10.on hb11
  have hvr11 := hvr10.on hb11
  have hvz11 := hvz10.on hb11
  have hva11 := hva10.on hb11
  have hvb11 := hvb10.on hb11
  rw [show withNew g [(5, 10)] (triVs4_3 p q dd w.heap.size gq gd gr gz ga gb pz qz z zz px qx xx py qy yy) = triVs4_3N p q dd w.heap.size gq gd gr gz ga gb pz qz z zz px qx xx py qy yy (g 10) from rfl]
  replace hgec : w10.heap.size ≤ g 10 := hgec
  replace hvc11 : Cells w11 (g 10) (dzeros 8) 38 := hvc11
  have hnepc : w.heap.size ≠ g 10 := Nat.ne_of_lt (Nat.lt_of_lt_of_le hltp hgec)
  have hneqc : gq ≠ g 10 := Nat.ne_of_lt (Nat.lt_of_lt_of_le hltq hgec)
  have hnedc : gd ≠ g 10 := Nat.ne_of_lt (Nat.lt_of_lt_of_le hltd hgec)
  have hnerc : gr ≠ g 10 := Nat.ne_of_lt (Nat.lt_of_lt_of_le hltr hgec)
  have hnezc : gz ≠ g 10 := Nat.ne_of_lt (Nat.lt_of_lt_of_le hltz hgec)
  have hneac : ga ≠ g 10 := Nat.ne_of_lt (Nat.lt_of_lt_of_le hlta hgec)
  have hnebc : gb ≠ g 10 := Nat.ne_of_lt (Nat.lt_of_lt_of_le hltb hgec)
  replace hgec : w.heap.size ≤ g 10 := Nat.le_trans (show w.heap.size ≤ w10.heap.size from hB10.size) hgec
  clear hltp hltq hltd hltr hltz hlta hltb
  generalize g 10 = gc at *
  clear hB10 hvp10 hvq10 hvd10 hvr10 hvz10 hva10 hvb10 hb11
  refine wpAny_rest 6 rfl (by kernel_rfl) ?_
  refine vset_step rfl 38 (.tmp 10) (.tmp 34) rfl gc 8 (dzeros 8) (yy.map dcell) rfl rfl hvc11 rfl size_ND (by rw [List.length_map, Hyy.out]) (dcells_one _) ?_
  intro w12 hb12 hvc12 hz12
  have hB12 : Below w.heap.size w w12 := hB11.trans (hb12.below hgec hB11.size)
  have hvp12 := hvp11.but hb12 hnepc
  have hvq12 := hvq11.but hb12 hneqc
  have hvd12 := hvd11.but hb12 hnedc
  have hvr12 := hvr11.but hb12 hnerc
  have hvz12 := hvz11.but hb12 hnezc
  have hva12 := hva11.but hb12 hneac
  have hvb12 := hvb11.but hb12 hnebc
  clear hB11 hvc11 hb12 hz12 hvp11 hvq11 hvd11 hvr11 hvz11 hva11 hvb11
  rename_i K hKK
  show Exit.then K _ Exit.normal (⟨(triVs4_3N p q dd w.heap.size gq gd gr gz ga gb pz qz z zz px qx xx py qy yy gc).toArray, []⟩ : Act) w12
  simp only [Exit.then]
  refine hKK _ _ ?_
  clear hKK K g
  simp only [triVs4_3N]
  go_wp2_with fail
  replace hvp12 := hvp12.drew
  replace hvq12 := hvq12.drew
  replace hvd12 := hvd12.drew
  replace hvr12 := hvr12.drew
  replace hvz12 := hvz12.drew
  replace hva12 := hva12.drew
  replace hvb12 := hvb12.drew
  replace hvc12 := hvc12.drew
  refine wp_region_any (by kernel_rfl) ?_
  refine wpAny_flatM (L := [0, 1, 2, 3, 4, 5]) (by kernel_rfl) _ _ (triVs5_4 p q dd w.heap.size gq gd gr gz ga gb gc pz qz z zz px qx xx py qy yy xy ee) [(5, 11)] 38 (dzeros 8) [0, 1, 2, 3, 4, 5, 6, 7, 8, 9, 10, 12, 13, 14, 15, 16, 17, 18, 19, 20, 21, 22, 23, 24, 25, 26, 27, 28, 29, 30, 31, 32, 33, 34, 40, 41, 42, 43, 44, 45, 46, 47, 48, 49, 50, 51, 52, 53, 54, 55, 56, 57, 58, 59, 60, 61, 62, 63, 64, 65, 66, 67, 68, 69, 70, 71, 72, 73, 74] (by kernel_rfl) (by kernel_rfl) ?_ zero_ND ?_ (by rfl) ?_ 1 (by kernel_rfl) ?_
  · intro p hp
    rcases List.mem_cons.1 hp with rfl | hp
    · exact ⟨⟨_, rfl, rfl, rfl, rfl, by kernel_rfl, by kernel_rfl⟩⟩
    exact absurd hp List.not_mem_nil
  · repeat refine all_cons rfl ?_
    exact all_nil
  · refine all_cons (.inr (mStep _ 35 rfl rfl rfl rfl (by kernel_rfl) (fun a hv => wanted_all rfl _) (fun a w K hb hv hK => mPure (numD dd) (exec_load _ _ _ _ rfl _ _ (hv 5 (by kernel_rfl) rfl) w (num_run (hvd12.on hb) Hdd.out)) hK))) ?_
    refine all_cons (.inr (mStep _ 36 rfl rfl rfl rfl (by kernel_rfl) (fun a hv => wanted_all rfl _) (fun a w K hb hv hK => mPure (numD xx) (exec_load _ _ _ _ rfl _ _ (hv 9 (by kernel_rfl) rfl) w (num_run (hvb12.on hb) Hxx.out)) hK))) ?_
    refine all_cons (.inr (mStep _ 37 rfl rfl rfl rfl (by kernel_rfl) (fun a hv => wanted_all rfl _) (fun a w K hb hv hK => mPure (numD yy) (exec_load _ _ _ _ rfl _ _ (hv 10 (by kernel_rfl) rfl) w (num_run (hvc12.on hb) Hyy.out)) hK))) ?_
    refine all_cons (.inr (mStep _ 38 rfl rfl rfl rfl (by kernel_rfl) (fun a hv => wanted_all rfl _) (fun a w K hb hv hK => mCall (numD xy) 34 _ _ rfl [numD xx, numD yy] (cons_eq (hv 36 (by kernel_rfl) rfl) (cons_eq (hv 37 (by kernel_rfl) rfl) (rfl))) (enters Tryd.func34 rfl rfl) (C38.out w) hK))) ?_
    refine all_cons (.inr (mStep _ 39 rfl rfl rfl rfl (by kernel_rfl) (fun a hv => wanted_all rfl _) (fun a w K hb hv hK => mCall (numD ee) 34 _ _ rfl [numD dd, numD xy] (cons_eq (hv 35 (by kernel_rfl) rfl) (cons_eq (hv 38 (by kernel_rfl) rfl) (rfl))) (enters Tryd.func34 rfl rfl) (C39.out w) hK))) ?_
    refine all_cons (.inl ⟨(5, 11), by simp, rfl⟩) ?_
    exact all_nil
  intro w13 g hb13 hN13 hap13
  obtain ⟨hgee, hve13⟩ := hN13 (5, 11) (by simp)
  clear hN13 hap13
  have hB13 := below_then (show Below w.heap.size w w12.drew from hB12.drew) hb13
  have hltp : w.heap.size < w12.heap.size := hvp12.lt
  have hltq : gq < w12.heap.size := hvq12.lt
  have hltd : gd < w12.heap.size := hvd12.lt
  have hltr : gr < w12.heap.size := hvr12.lt
  have hltz : gz < w12.heap.size := hvz12.lt
  have hlta : ga < w12.heap.size := hva12.lt
  have hltb : gb < w12.heap.size := hvb12.lt
  have hltc : gc < w12.heap.size := hvc12.lt
  have hvp13 := hvp12.on hb13
  have hvq13 := hvq12.on hb13
  have hvd13 := hvd12.on hb13
  have hvr13 := hvr12.on hb13
  have hvz13 := hvz12.on hb13
  have hva13 := hva12.on hb13
  have hvb13 := hvb12.on hb13
  have hvc13 := hvc12.on hb13
  rw [show withNew g [(5, 11)] (triVs5_4 p q dd w.heap.size gq gd gr gz ga gb gc pz qz z zz px qx xx py qy yy xy ee) = triVs5_4N p q dd w.heap.size gq gd gr gz ga gb gc pz qz z zz px qx xx py qy yy xy ee (g 11) from rfl]
  replace hgee : w12.heap.size ≤ g 11 := hgee
  replace hve13 : Cells w13 (g 11) (dzeros 8) 38 := hve13
  have hnepe : w.heap.size ≠ g 11 := Nat.ne_of_lt (Nat.lt_of_lt_of_le hltp hgee)
  have hneqe : gq ≠ g 11 := Nat.ne_of_lt (Nat.lt_of_lt_of_le hltq hgee)
  have hnede : gd ≠ g 11 := Nat.ne_of_lt (Nat.lt_of_lt_of_le hltd hgee)
  have hnere : gr ≠ g 11 := Nat.ne_of_lt (Nat.lt_of_lt_of_le hltr hgee)
  have hneze : gz ≠ g 11 := Nat.ne_of_lt (Nat.lt_of_lt_of_le hltz hgee)
  have hneae : ga ≠ g 11 := Nat.ne_of_lt (Nat.lt_of_lt_of_le hlta hgee)
  have hnebe : gb ≠ g 11 := Nat.ne_of_lt (Nat.lt_of_lt_of_le hltb hgee)
  have hnece : gc ≠ g 11 := Nat.ne_of_lt (Nat.lt_of_lt_of_le hltc hgee)
  replace hgee : w.heap.size ≤ g 11 := Nat.le_trans (show w.heap.size ≤ w12.heap.size from hB12.size) hgee
  clear hltp hltq hltd hltr hltz hlta hltb hltc
  generalize g 11 = ge at *
  clear hB12 hvp12 hvq12 hvd12 hvr12 hvz12 hva12 hvb12 hvc12 hb13
  refine wpAny_rest 6 rfl (by kernel_rfl) ?_
  refine vset_step rfl 38 (.tmp 11) (.tmp 39) rfl ge 8 (dzeros 8) (ee.map dcell) rfl rfl hve13 rfl size_ND (by rw [List.length_map, Hee.out]) (dcells_one _) ?_
  intro w14 hb14 hve14 hz14
  have hB14 : Below w.heap.size w w14 := hB13.trans (hb14.below hgee hB13.size)
  have hvp14 := hvp13.but hb14 hnepe
  have hvq14 := hvq13.but hb14 hneqe
  have hvd14 := hvd13.but hb14 hnede
  have hvr14 := hvr13.but hb14 hnere
  have hvz14 := hvz13.but hb14 hneze
  have hva14 := hva13.but hb14 hneae
  have hvb14 := hvb13.but hb14 hnebe
  have hvc14 := hvc13.but hb14 hnece
  clear hB13 hve13 hb14 hz14 hvp13 hvq13 hvd13 hvr13 hvz13 hva13 hvb13 hvc13
  rename_i K hKK
  show Exit.then K _ Exit.normal (⟨(triVs5_4N p q dd w.heap.size gq gd gr gz ga gb gc pz qz z zz px qx xx py qy yy xy ee ge).toArray, []⟩ : Act) w14
  simp only [Exit.then]
  refine hKK _ _ ?_
  clear hKK K g
  simp only [triVs5_4N]
  go_wp2_with fail
  replace hvp14 := hvp14.drew
  replace hvq14 := hvq14.drew
  replace hvd14 := hvd14.drew
  replace hvr14 := hvr14.drew
  replace hvz14 := hvz14.drew
  replace hva14 := hva14.drew
  replace hvb14 := hvb14.drew
  replace hvc14 := hvc14.drew
  replace hve14 := hve14.drew
  refine wp_region_any (by kernel_rfl) ?_
  refine wpAny_flatS (L := [0, 1, 2, 3, 4, 5, 6, 7, 8, 9]) (by kernel_rfl) _ _ (triVs6_5 p q dd w.heap.size gq gd gr gz ga gb gc ge pz qz z zz px qx xx py qy yy xy ee mo le) [(6, 12), (7, 13)] (fun _ => 38) (fun _ => (dzeros 8)) (fun s => bif s == 12 then some (8, mo.map dcell) else bif s == 13 then some (9, le.map dcell) else none) [0, 1, 2, 3, 4, 5, 6, 7, 8, 9, 10, 11, 14, 15, 16, 17, 18, 19, 20, 21, 22, 23, 24, 25, 26, 27, 28, 29, 30, 31, 32, 33, 34, 35, 36, 37, 38, 39, 46, 47, 48, 49, 50, 51, 52, 53, 54, 55, 56, 57, 58, 59, 60, 61, 62, 63, 64, 65, 66, 67, 68, 69, 70, 71, 72, 73, 74] (by kernel_rfl) (by kernel_rfl) ?_ (fun _ _ => zero_ND) ?_ ?_ ?_ (by rfl) ?_ 0 (by kernel_rfl) ?_
  · intro p hp
    rcases List.mem_cons.1 hp with rfl | hp
    · exact ⟨⟨_, rfl, rfl, rfl, rfl, by kernel_rfl, by kernel_rfl⟩⟩
    rcases List.mem_cons.1 hp with rfl | hp
    · exact ⟨⟨_, rfl, rfl, rfl, rfl, by kernel_rfl, by kernel_rfl⟩⟩
    exact absurd hp List.not_mem_nil
  · intro p hp j l h
    rcases List.mem_cons.1 hp with rfl | hp
    · change some (8, mo.map dcell) = some (j, l) at h
      cases h
      exact ⟨⟨_, 42, rfl, rfl, rfl, rfl, by kernel_rfl, by kernel_rfl, by kernel_rfl, rfl, by rw [List.length_map, Hmo.out]; exact size_ND, by rw [List.length_map, Hmo.out]; rfl, dcells_one _⟩, by decide⟩
    rcases List.mem_cons.1 hp with rfl | hp
    · change some (9, le.map dcell) = some (j, l) at h
      cases h
      exact ⟨⟨_, 45, rfl, rfl, rfl, rfl, by kernel_rfl, by kernel_rfl, by kernel_rfl, rfl, by rw [List.length_map, Hle.out]; exact size_ND, by rw [List.length_map, Hle.out]; rfl, dcells_one _⟩, by decide⟩
    exact absurd hp List.not_mem_nil
  · intro p hp q hq j l l2 h1 h2
    rcases List.mem_cons.1 hp with rfl | hp
    · rcases List.mem_cons.1 hq with rfl | hq
      · rfl
      rcases List.mem_cons.1 hq with rfl | hq
      · change some (8, _) = some (j, l) at h1
        change some (9, _) = some (j, l2) at h2
        exact absurd ((Prod.mk.inj (Option.some.inj h1)).1.trans (Prod.mk.inj (Option.some.inj h2)).1.symm) (by decide)
      exact absurd hq List.not_mem_nil
    rcases List.mem_cons.1 hp with rfl | hp
    · rcases List.mem_cons.1 hq with rfl | hq
      · change some (9, _) = some (j, l) at h1
        change some (8, _) = some (j, l2) at h2
        exact absurd ((Prod.mk.inj (Option.some.inj h1)).1.trans (Prod.mk.inj (Option.some.inj h2)).1.symm) (by decide)
      rcases List.mem_cons.1 hq with rfl | hq
      · rfl
      exact absurd hq List.not_mem_nil
    exact absurd hp List.not_mem_nil
  · repeat refine all_cons rfl ?_
    exact all_nil
  · refine all_cons (.inr (.inl (mStep _ 40 rfl rfl rfl rfl (by kernel_rfl) (fun a hv => wanted_all rfl _) (fun a w K hb hv hK => mPure (numD zz) (exec_load _ _ _ _ rfl _ _ (hv 8 (by kernel_rfl) rfl) w (num_run (hva14.on hb) Hzz.out)) hK)))) ?_
    refine all_cons (.inr (.inl (mStep _ 41 rfl rfl rfl rfl (by kernel_rfl) (fun a hv => wanted_all rfl _) (fun a w K hb hv hK => mPure (numD ee) (exec_load _ _ _ _ rfl _ _ (hv 11 (by kernel_rfl) rfl) w (num_run (hve14.on hb) Hee.out)) hK)))) ?_
    refine all_cons (.inr (.inl (mStep _ 42 rfl rfl rfl rfl (by kernel_rfl) (fun a hv => wanted_all rfl _) (fun a w K hb hv hK => mCall (numD mo) 39 _ _ rfl [numD zz, numD ee] (cons_eq (hv 40 (by kernel_rfl) rfl) (cons_eq (hv 41 (by kernel_rfl) rfl) (rfl))) (enters Tryd.func39 rfl rfl) (C42.out w) hK)))) ?_
    refine all_cons (.inr (.inl (mStep _ 43 rfl rfl rfl rfl (by kernel_rfl) (fun a hv => wanted_all rfl _) (fun a w K hb hv hK => mPure (numD zz) (exec_load _ _ _ _ rfl _ _ (hv 8 (by kernel_rfl) rfl) w (num_run (hva14.on hb) Hzz.out)) hK)))) ?_
    refine all_cons (.inr (.inl (mStep _ 44 rfl rfl rfl rfl (by kernel_rfl) (fun a hv => wanted_all rfl _) (fun a w K hb hv hK => mPure (numD ee) (exec_load _ _ _ _ rfl _ _ (hv 11 (by kernel_rfl) rfl) w (num_run (hve14.on hb) Hee.out)) hK)))) ?_
    refine all_cons (.inr (.inl (mStep _ 45 rfl rfl rfl rfl (by kernel_rfl) (fun a hv => wanted_all rfl _) (fun a w K hb hv hK => mCall (numD le) 36 _ _ rfl [numD zz, numD ee] (cons_eq (hv 43 (by kernel_rfl) rfl) (cons_eq (hv 44 (by kernel_rfl) rfl) (rfl))) (enters Tryd.func36 rfl rfl) (C45.out w) hK)))) ?_
    refine all_cons (.inl ⟨(6, 12), by simp, rfl⟩) ?_
    refine all_cons (.inl ⟨(7, 13), by simp, rfl⟩) ?_
    refine all_cons (.inr (.inr ⟨(6, 12), by simp, _, rfl⟩)) ?_
    refine all_cons (.inr (.inr ⟨(7, 13), by simp, _, rfl⟩)) ?_
    exact all_nil
  intro w15 g hb15 hN15 hap15
  obtain ⟨hgem, hvm15⟩ := hN15 (6, 12) (by simp)
  obtain ⟨hgel, hvl15⟩ := hN15 (7, 13) (by simp)
  have hneml := hap15 (6, 12) (by simp) (7, 13) (by simp) (by decide)
  clear hN15 hap15
  have hB15 := below_then (show Below w.heap.size w w14.drew from hB14.drew) hb15
  have hltp : w.heap.size < w14.heap.size := hvp14.lt
  have hltq : gq < w14.heap.size := hvq14.lt
  have hltd : gd < w14.heap.size := hvd14.lt
  have hltr : gr < w14.heap.size := hvr14.lt
  have hltz : gz < w14.heap.size := hvz14.lt
  have hlta : ga < w14.heap.size := hva14.lt
  have hltb : gb < w14.heap.size := hvb14.lt
  have hltc : gc < w14.heap.size := hvc14.lt
  have hlte : ge < w14.heap.size := hve14.lt
  have hvp15 := hvp14.on hb15
  have hvq15 := hvq14.on hb15
  have hvd15 := hvd14.on hb15
  have hvr15 := hvr14.on hb15
  have hvz15 := hvz14.on hb15
  have hva15 := hva14.on hb15
  have hvb15 := hvb14.on hb15
  have hvc15 := hvc14.on hb15
  have hve15 := hve14.on hb15
  rw [show withNew g [(6, 12), (7, 13)] (triVs6_5 p q dd w.heap.size gq gd gr gz ga gb gc ge pz qz z zz px qx xx py qy yy xy ee mo le) = triVs6_5N p q dd w.heap.size gq gd gr gz ga gb gc ge pz qz z zz px qx xx py qy yy xy ee mo le (g 12) (g 13) from rfl]
  replace hgem : w14.heap.size ≤ g 12 := hgem
  replace hvm15 : Cells w15 (g 12) (mo.map dcell) 38 := hvm15
  replace hgel : w14.heap.size ≤ g 13 := hgel
  replace hvl15 : Cells w15 (g 13) (le.map dcell) 38 := hvl15
  replace hneml : g 12 ≠ g 13 := hneml
  have hnepm : w.heap.size ≠ g 12 := Nat.ne_of_lt (Nat.lt_of_lt_of_le hltp hgem)
  have hneqm : gq ≠ g 12 := Nat.ne_of_lt (Nat.lt_of_lt_of_le hltq hgem)
  have hnedm : gd ≠ g 12 := Nat.ne_of_lt (Nat.lt_of_lt_of_le hltd hgem)
  have hnerm : gr ≠ g 12 := Nat.ne_of_lt (Nat.lt_of_lt_of_le hltr hgem)
  have hnezm : gz ≠ g 12 := Nat.ne_of_lt (Nat.lt_of_lt_of_le hltz hgem)
  have hneam : ga ≠ g 12 := Nat.ne_of_lt (Nat.lt_of_lt_of_le hlta hgem)
  have hnebm : gb ≠ g 12 := Nat.ne_of_lt (Nat.lt_of_lt_of_le hltb hgem)
  have hnecm : gc ≠ g 12 := Nat.ne_of_lt (Nat.lt_of_lt_of_le hltc hgem)
  have hneem : ge ≠ g 12 := Nat.ne_of_lt (Nat.lt_of_lt_of_le hlte hgem)
  replace hgem : w.heap.size ≤ g 12 := Nat.le_trans (show w.heap.size ≤ w14.heap.size from hB14.size) hgem
  have hnepl : w.heap.size ≠ g 13 := Nat.ne_of_lt (Nat.lt_of_lt_of_le hltp hgel)
  have hneql : gq ≠ g 13 := Nat.ne_of_lt (Nat.lt_of_lt_of_le hltq hgel)
  have hnedl : gd ≠ g 13 := Nat.ne_of_lt (Nat.lt_of_lt_of_le hltd hgel)
  have hnerl : gr ≠ g 13 := Nat.ne_of_lt (Nat.lt_of_lt_of_le hltr hgel)
  have hnezl : gz ≠ g 13 := Nat.ne_of_lt (Nat.lt_of_lt_of_le hltz hgel)
  have hneal : ga ≠ g 13 := Nat.ne_of_lt (Nat.lt_of_lt_of_le hlta hgel)
  have hnebl : gb ≠ g 13 := Nat.ne_of_lt (Nat.lt_of_lt_of_le hltb hgel)
  have hnecl : gc ≠ g 13 := Nat.ne_of_lt (Nat.lt_of_lt_of_le hltc hgel)
  have hneel : ge ≠ g 13 := Nat.ne_of_lt (Nat.lt_of_lt_of_le hlte hgel)
  replace hgel : w.heap.size ≤ g 13 := Nat.le_trans (show w.heap.size ≤ w14.heap.size from hB14.size) hgel
  clear hltp hltq hltd hltr hltz hlta hltb hltc hlte
  generalize g 12 = gm at *
  generalize g 13 = gl at *
  clear hB14 hvp14 hvq14 hvd14 hvr14 hvz14 hva14 hvb14 hvc14 hve14 hb15
  refine ⟨by kernel_rfl, ?_⟩
  rename_i K hKK
  show Exit.then K _ Exit.normal (⟨(triVs6_5N p q dd w.heap.size gq gd gr gz ga gb gc ge pz qz z zz px qx xx py qy yy xy ee mo le gm gl).toArray, []⟩ : Act) w15
  simp only [Exit.then]
  refine hKK _ _ ?_
  clear hKK K g
  simp only [triVs6_5N]
  go_wp2_with fail
  replace hvp15 := hvp15.drew
  replace hvq15 := hvq15.drew
  replace hvd15 := hvd15.drew
  replace hvr15 := hvr15.drew
  replace hvz15 := hvz15.drew
  replace hva15 := hva15.drew
  replace hvb15 := hvb15.drew
  replace hvc15 := hvc15.drew
  replace hve15 := hve15.drew
  replace hvm15 := hvm15.drew
  replace hvl15 := hvl15.drew
  refine wp_region_any (by kernel_rfl) ?_
  refine wpAny_flatM (L := [0, 1, 2, 3, 4, 5, 6, 7, 8, 9, 10, 11]) (by kernel_rfl) _ _ (triVs7_6 p q dd w.heap.size gq gd gr gz ga gb gc ge gm gl pz qz z zz px qx xx py qy yy xy ee mo le c1 c2 cr) [(11, 14)] 38 (dzeros 8) [0, 1, 2, 3, 4, 5, 6, 7, 8, 9, 10, 11, 12, 13, 15, 16, 17, 18, 19, 20, 21, 22, 23, 24, 25, 26, 27, 28, 29, 30, 31, 32, 33, 34, 35, 36, 37, 38, 39, 40, 41, 42, 43, 44, 45, 57, 58, 59, 60, 61, 62, 63, 64, 65, 66, 67, 68, 69, 70, 71, 72, 73, 74] (by kernel_rfl) (by kernel_rfl) ?_ zero_ND ?_ (by rfl) ?_ 1 (by kernel_rfl) ?_
  · intro p hp
    rcases List.mem_cons.1 hp with rfl | hp
    · exact ⟨⟨_, rfl, rfl, rfl, rfl, by kernel_rfl, by kernel_rfl⟩⟩
    exact absurd hp List.not_mem_nil
  · repeat refine all_cons rfl ?_
    exact all_nil
  · refine all_cons (.inr (mStep _ 46 rfl rfl rfl rfl (by kernel_rfl) (fun a hv => wanted_all rfl _) (fun a w K hb hv hK => mPure _ (exec_field _ _ _ _ 0 rfl _ _ (hv 3 (by kernel_rfl) rfl) w (field_t0 _ w)) hK))) ?_
    refine all_cons (.inr (mStep _ 47 rfl rfl rfl rfl (by kernel_rfl) (fun a hv => wanted_all rfl _) (fun a w K hb hv hK => mPure (numD px) (exec_load _ _ _ _ rfl _ _ (hv 46 (by kernel_rfl) rfl) w (load_t0 (hvp15.on hb) Fp.out Hpx.out)) hK))) ?_
    refine all_cons (.inr (mStep _ 48 rfl rfl rfl rfl (by kernel_rfl) (fun a hv => wanted_all rfl _) (fun a w K hb hv hK => mPure _ (exec_field _ _ _ _ 1 rfl _ _ (hv 4 (by kernel_rfl) rfl) w (field_t1 _ w)) hK))) ?_
    refine all_cons (.inr (mStep _ 49 rfl rfl rfl rfl (by kernel_rfl) (fun a hv => wanted_all rfl _) (fun a w K hb hv hK => mPure (numD qy) (exec_load _ _ _ _ rfl _ _ (hv 48 (by kernel_rfl) rfl) w (load_t1 (hvq15.on hb) Fq.out Hqx.out Hqy.out)) hK))) ?_
    refine all_cons (.inr (mStep _ 50 rfl rfl rfl rfl (by kernel_rfl) (fun a hv => wanted_all rfl _) (fun a w K hb hv hK => mCall (numD c1) 34 _ _ rfl [numD px, numD qy] (cons_eq (hv 47 (by kernel_rfl) rfl) (cons_eq (hv 49 (by kernel_rfl) rfl) (rfl))) (enters Tryd.func34 rfl rfl) (C50.out w) hK))) ?_
    refine all_cons (.inr (mStep _ 51 rfl rfl rfl rfl (by kernel_rfl) (fun a hv => wanted_all rfl _) (fun a w K hb hv hK => mPure _ (exec_field _ _ _ _ 0 rfl _ _ (hv 4 (by kernel_rfl) rfl) w (field_t0 _ w)) hK))) ?_
    refine all_cons (.inr (mStep _ 52 rfl rfl rfl rfl (by kernel_rfl) (fun a hv => wanted_all rfl _) (fun a w K hb hv hK => mPure (numD qx) (exec_load _ _ _ _ rfl _ _ (hv 51 (by kernel_rfl) rfl) w (load_t0 (hvq15.on hb) Fq.out Hqx.out)) hK))) ?_
    refine all_cons (.inr (mStep _ 53 rfl rfl rfl rfl (by kernel_rfl) (fun a hv => wanted_all rfl _) (fun a w K hb hv hK => mPure _ (exec_field _ _ _ _ 1 rfl _ _ (hv 3 (by kernel_rfl) rfl) w (field_t1 _ w)) hK))) ?_
    refine all_cons (.inr (mStep _ 54 rfl rfl rfl rfl (by kernel_rfl) (fun a hv => wanted_all rfl _) (fun a w K hb hv hK => mPure (numD py) (exec_load _ _ _ _ rfl _ _ (hv 53 (by kernel_rfl) rfl) w (load_t1 (hvp15.on hb) Fp.out Hpx.out Hpy.out)) hK))) ?_
    refine all_cons (.inr (mStep _ 55 rfl rfl rfl rfl (by kernel_rfl) (fun a hv => wanted_all rfl _) (fun a w K hb hv hK => mCall (numD c2) 34 _ _ rfl [numD qx, numD py] (cons_eq (hv 52 (by kernel_rfl) rfl) (cons_eq (hv 54 (by kernel_rfl) rfl) (rfl))) (enters Tryd.func34 rfl rfl) (C55.out w) hK))) ?_
    refine all_cons (.inr (mStep _ 56 rfl rfl rfl rfl (by kernel_rfl) (fun a hv => wanted_all rfl _) (fun a w K hb hv hK => mCall (numD cr) 39 _ _ rfl [numD c1, numD c2] (cons_eq (hv 50 (by kernel_rfl) rfl) (cons_eq (hv 55 (by kernel_rfl) rfl) (rfl))) (enters Tryd.func39 rfl rfl) (C56.out w) hK))) ?_
    refine all_cons (.inl ⟨(11, 14), by simp, rfl⟩) ?_
    exact all_nil
  intro w16 g hb16 hN16 hap16
  obtain ⟨hgeo, hvo16⟩ := hN16 (11, 14) (by simp)
  clear hN16 hap16
  have hB16 := below_then (show Below w.heap.size w w15.drew from hB15.drew) hb16
  have hltp : w.heap.size < w15.heap.size := hvp15.lt
  have hltq : gq < w15.heap.size := hvq15.lt
  have hltd : gd < w15.heap.size := hvd15.lt
  have hltr : gr < w15.heap.size := hvr15.lt
  have hltz : gz < w15.heap.size := hvz15.lt
  have hlta : ga < w15.heap.size := hva15.lt
  have hltb : gb < w15.heap.size := hvb15.lt
  have hltc : gc < w15.heap.size := hvc15.lt
  have hlte : ge < w15.heap.size := hve15.lt
  have hltm : gm < w15.heap.size := hvm15.lt
  have hltl : gl < w15.heap.size := hvl15.lt
  have hvp16 := hvp15.on hb16
  have hvq16 := hvq15.on hb16
  have hvd16 := hvd15.on hb16
  have hvr16 := hvr15.on hb16
  have hvz16 := hvz15.on hb16
  have hva16 := hva15.on hb16
  have hvb16 := hvb15.on hb16
  have hvc16 := hvc15.on hb16
  have hve16 := hve15.on hb16
  have hvm16 := hvm15.on hb16
  have hvl16 := hvl15.on hb16
  rw [show withNew g [(11, 14)] (triVs7_6 p q dd w.heap.size gq gd gr gz ga gb gc ge gm gl pz qz z zz px qx xx py qy yy xy ee mo le c1 c2 cr) = triVs7_6N p q dd w.heap.size gq gd gr gz ga gb gc ge gm gl pz qz z zz px qx xx py qy yy xy ee mo le c1 c2 cr (g 14) from rfl]
  replace hgeo : w15.heap.size ≤ g 14 := hgeo
  replace hvo16 : Cells w16 (g 14) (dzeros 8) 38 := hvo16
  have hnepo : w.heap.size ≠ g 14 := Nat.ne_of_lt (Nat.lt_of_lt_of_le hltp hgeo)
  have hneqo : gq ≠ g 14 := Nat.ne_of_lt (Nat.lt_of_lt_of_le hltq hgeo)
  have hnedo : gd ≠ g 14 := Nat.ne_of_lt (Nat.lt_of_lt_of_le hltd hgeo)
  have hnero : gr ≠ g 14 := Nat.ne_of_lt (Nat.lt_of_lt_of_le hltr hgeo)
  have hnezo : gz ≠ g 14 := Nat.ne_of_lt (Nat.lt_of_lt_of_le hltz hgeo)
  have hneao : ga ≠ g 14 := Nat.ne_of_lt (Nat.lt_of_lt_of_le hlta hgeo)
  have hnebo : gb ≠ g 14 := Nat.ne_of_lt (Nat.lt_of_lt_of_le hltb hgeo)
  have hneco : gc ≠ g 14 := Nat.ne_of_lt (Nat.lt_of_lt_of_le hltc hgeo)
  have hneeo : ge ≠ g 14 := Nat.ne_of_lt (Nat.lt_of_lt_of_le hlte hgeo)
  have hnemo : gm ≠ g 14 := Nat.ne_of_lt (Nat.lt_of_lt_of_le hltm hgeo)
  have hnelo : gl ≠ g 14 := Nat.ne_of_lt (Nat.lt_of_lt_of_le hltl hgeo)
  replace hgeo : w.heap.size ≤ g 14 := Nat.le_trans (show w.heap.size ≤ w15.heap.size from hB15.size) hgeo
  clear hltp hltq hltd hltr hltz hlta hltb hltc hlte hltm hltl
  generalize g 14 = go at *
  clear hB15 hvp15 hvq15 hvd15 hvr15 hvz15 hva15 hvb15 hvc15 hve15 hvm15 hvl15 hb16
  refine wpAny_rest 12 rfl (by kernel_rfl) ?_
  refine vset_step rfl 38 (.tmp 14) (.tmp 56) rfl go 8 (dzeros 8) (cr.map dcell) rfl rfl hvo16 rfl size_ND (by rw [List.length_map, Hcr.out]) (dcells_one _) ?_
  intro w17 hb17 hvo17 hz17
  have hB17 : Below w.heap.size w w17 := hB16.trans (hb17.below hgeo hB16.size)
  have hvp17 := hvp16.but hb17 hnepo
  have hvq17 := hvq16.but hb17 hneqo
  have hvd17 := hvd16.but hb17 hnedo
  have hvr17 := hvr16.but hb17 hnero
  have hvz17 := hvz16.but hb17 hnezo
  have hva17 := hva16.but hb17 hneao
  have hvb17 := hvb16.but hb17 hnebo
  have hvc17 := hvc16.but hb17 hneco
  have hve17 := hve16.but hb17 hneeo
  have hvm17 := hvm16.but hb17 hnemo
  have hvl17 := hvl16.but hb17 hnelo
  clear hB16 hvo16 hb17 hz17 hvp16 hvq16 hvd16 hvr16 hvz16 hva16 hvb16 hvc16 hve16 hvm16 hvl16
  rename_i K hKK
  show Exit.then K _ Exit.normal (⟨(triVs7_6N p q dd w.heap.size gq gd gr gz ga gb gc ge gm gl pz qz z zz px qx xx py qy yy xy ee mo le c1 c2 cr go).toArray, []⟩ : Act) w17
  simp only [Exit.then]
  refine hKK _ _ ?_
  clear hKK K g
  simp only [triVs7_6N]
  go_wp2_with fail
  replace hvp17 := hvp17.drew
  replace hvq17 := hvq17.drew
  replace hvd17 := hvd17.drew
  replace hvr17 := hvr17.drew
  replace hvz17 := hvz17.drew
  replace hva17 := hva17.drew
  replace hvb17 := hvb17.drew
  replace hvc17 := hvc17.drew
  replace hve17 := hve17.drew
  replace hvm17 := hvm17.drew
  replace hvl17 := hvl17.drew
  replace hvo17 := hvo17.drew
  refine wp_region_any (by kernel_rfl) ?_
  refine wpAny_flatM (L := [0, 1, 2, 3, 4, 5]) (by kernel_rfl) _ _ (triVs8_7 p q dd w.heap.size gq gd gr gz ga gb gc ge gm gl go pz qz z zz px qx xx py qy yy xy ee mo le c1 c2 cr zc x) [(5, 15)] 38 (dzeros 8) [0, 1, 2, 3, 4, 5, 6, 7, 8, 9, 10, 11, 12, 13, 14, 16, 17, 18, 19, 20, 21, 22, 23, 24, 25, 26, 27, 28, 29, 30, 31, 32, 33, 34, 35, 36, 37, 38, 39, 40, 41, 42, 43, 44, 45, 46, 47, 48, 49, 50, 51, 52, 53, 54, 55, 56, 62, 63, 64, 65, 66, 67, 68, 69, 70, 71, 72, 73, 74] (by kernel_rfl) (by kernel_rfl) ?_ zero_ND ?_ (by rfl) ?_ 1 (by kernel_rfl) ?_
  · intro p hp
    rcases List.mem_cons.1 hp with rfl | hp
    · exact ⟨⟨_, rfl, rfl, rfl, rfl, by kernel_rfl, by kernel_rfl⟩⟩
    exact absurd hp List.not_mem_nil
  · repeat refine all_cons rfl ?_
    exact all_nil
  · refine all_cons (.inr (mStep _ 57 rfl rfl rfl rfl (by kernel_rfl) (fun a hv => wanted_all rfl _) (fun a w K hb hv hK => mPure (numD z) (exec_load _ _ _ _ rfl _ _ (hv 7 (by kernel_rfl) rfl) w (num_run (hvz17.on hb) Hz.out)) hK))) ?_
    refine all_cons (.inr (mStep _ 58 rfl rfl rfl rfl (by kernel_rfl) (fun a hv => wanted_all rfl _) (fun a w K hb hv hK => mPure (numD cr) (exec_load _ _ _ _ rfl _ _ (hv 14 (by kernel_rfl) rfl) w (num_run (hvo17.on hb) Hcr.out)) hK))) ?_
    refine all_cons (.inr (mStep _ 59 rfl rfl rfl rfl (by kernel_rfl) (fun a hv => wanted_all rfl _) (fun a w K hb hv hK => mCall (numD zc) 34 _ _ rfl [numD z, numD cr] (cons_eq (hv 57 (by kernel_rfl) rfl) (cons_eq (hv 58 (by kernel_rfl) rfl) (rfl))) (enters Tryd.func34 rfl rfl) (C59.out w) hK))) ?_
    refine all_cons (.inr (mStep _ 60 rfl rfl rfl rfl (by kernel_rfl) (fun a hv => wanted_all rfl _) (fun a w K hb hv hK => mPure (numD le) (exec_load _ _ _ _ rfl _ _ (hv 13 (by kernel_rfl) rfl) w (num_run (hvl17.on hb) Hle.out)) hK))) ?_
    refine all_cons (.inr (mStep _ 61 rfl rfl rfl rfl (by kernel_rfl) (fun a hv => wanted_all rfl _) (fun a w K hb hv hK => mCall (numD x) 34 _ _ rfl [numD zc, numD le] (cons_eq (hv 59 (by kernel_rfl) rfl) (cons_eq (hv 60 (by kernel_rfl) rfl) (rfl))) (enters Tryd.func34 rfl rfl) (C61.out w) hK))) ?_
    refine all_cons (.inl ⟨(5, 15), by simp, rfl⟩) ?_
    exact all_nil
  intro w18 g hb18 hN18 hap18
  obtain ⟨hgex, hvx18⟩ := hN18 (5, 15) (by simp)
  clear hN18 hap18
  have hB18 := below_then (show Below w.heap.size w w17.drew from hB17.drew) hb18
  have hltp : w.heap.size < w17.heap.size := hvp17.lt
  have hltq : gq < w17.heap.size := hvq17.lt
  have hltd : gd < w17.heap.size := hvd17.lt
  have hltr : gr < w17.heap.size := hvr17.lt
  have hltz : gz < w17.heap.size := hvz17.lt
  have hlta : ga < w17.heap.size := hva17.lt
  have hltb : gb < w17.heap.size := hvb17.lt
  have hltc : gc < w17.heap.size := hvc17.lt
  have hlte : ge < w17.heap.size := hve17.lt
  have hltm : gm < w17.heap.size := hvm17.lt
  have hltl : gl < w17.heap.size := hvl17.lt
  have hlto : go < w17.heap.size := hvo17.lt
  have hvp18 := hvp17.on hb18
  have hvq18 := hvq17.on hb18
  have hvd18 := hvd17.on hb18
  have hvr18 := hvr17.on hb18
  have hvz18 := hvz17.on hb18
  have hva18 := hva17.on hb18
  have hvb18 := hvb17.on hb18
  have hvc18 := hvc17.on hb18
  have hve18 := hve17.on hb18
  have hvm18 := hvm17.on hb18
  have hvl18 := hvl17.on hb18
  have hvo18 := hvo17.on hb18
  rw [show withNew g [(5, 15)] (triVs8_7 p q dd w.heap.size gq gd gr gz ga gb gc ge gm gl go pz qz z zz px qx xx py qy yy xy ee mo le c1 c2 cr zc x) = triVs8_7N p q dd w.heap.size gq gd gr gz ga gb gc ge gm gl go pz qz z zz px qx xx py qy yy xy ee mo le c1 c2 cr zc x (g 15) from rfl]
  replace hgex : w17.heap.size ≤ g 15 := hgex
  replace hvx18 : Cells w18 (g 15) (dzeros 8) 38 := hvx18
  have hnepx : w.heap.size ≠ g 15 := Nat.ne_of_lt (Nat.lt_of_lt_of_le hltp hgex)
  have hneqx : gq ≠ g 15 := Nat.ne_of_lt (Nat.lt_of_lt_of_le hltq hgex)
  have hnedx : gd ≠ g 15 := Nat.ne_of_lt (Nat.lt_of_lt_of_le hltd hgex)
  have hnerx : gr ≠ g 15 := Nat.ne_of_lt (Nat.lt_of_lt_of_le hltr hgex)
  have hnezx : gz ≠ g 15 := Nat.ne_of_lt (Nat.lt_of_lt_of_le hltz hgex)
  have hneax : ga ≠ g 15 := Nat.ne_of_lt (Nat.lt_of_lt_of_le hlta hgex)
  have hnebx : gb ≠ g 15 := Nat.ne_of_lt (Nat.lt_of_lt_of_le hltb hgex)
  have hnecx : gc ≠ g 15 := Nat.ne_of_lt (Nat.lt_of_lt_of_le hltc hgex)
  have hneex : ge ≠ g 15 := Nat.ne_of_lt (Nat.lt_of_lt_of_le hlte hgex)
  have hnemx : gm ≠ g 15 := Nat.ne_of_lt (Nat.lt_of_lt_of_le hltm hgex)
  have hnelx : gl ≠ g 15 := Nat.ne_of_lt (Nat.lt_of_lt_of_le hltl hgex)
  have hneox : go ≠ g 15 := Nat.ne_of_lt (Nat.lt_of_lt_of_le hlto hgex)
  replace hgex : w.heap.size ≤ g 15 := Nat.le_trans (show w.heap.size ≤ w17.heap.size from hB17.size) hgex
  clear hltp hltq hltd hltr hltz hlta hltb hltc hlte hltm hltl hlto
  generalize g 15 = gx at *
  clear hB17 hvp17 hvq17 hvd17 hvr17 hvz17 hva17 hvb17 hvc17 hve17 hvm17 hvl17 hvo17 hb18
  refine wpAny_rest 6 rfl (by kernel_rfl) ?_
  refine vset_step rfl 38 (.tmp 15) (.tmp 61) rfl gx 8 (dzeros 8) (x.map dcell) rfl rfl hvx18 rfl size_ND (by rw [List.length_map, Hx.out]) (dcells_one _) ?_
  intro w19 hb19 hvx19 hz19
  have hB19 : Below w.heap.size w w19 := hB18.trans (hb19.below hgex hB18.size)
  have hvp19 := hvp18.but hb19 hnepx
  have hvq19 := hvq18.but hb19 hneqx
  have hvd19 := hvd18.but hb19 hnedx
  have hvr19 := hvr18.but hb19 hnerx
  have hvz19 := hvz18.but hb19 hnezx
  have hva19 := hva18.but hb19 hneax
  have hvb19 := hvb18.but hb19 hnebx
  have hvc19 := hvc18.but hb19 hnecx
  have hve19 := hve18.but hb19 hneex
  have hvm19 := hvm18.but hb19 hnemx
  have hvl19 := hvl18.but hb19 hnelx
  have hvo19 := hvo18.but hb19 hneox
  clear hB18 hvx18 hb19 hz19 hvp18 hvq18 hvd18 hvr18 hvz18 hva18 hvb18 hvc18 hve18 hvm18 hvl18 hvo18
  rename_i K hKK
  show Exit.then K _ Exit.normal (⟨(triVs8_7N p q dd w.heap.size gq gd gr gz ga gb gc ge gm gl go pz qz z zz px qx xx py qy yy xy ee mo le c1 c2 cr zc x gx).toArray, []⟩ : Act) w19
  simp only [Exit.then]
  refine hKK _ _ ?_
  clear hKK K g
  simp only [triVs8_7N]
  go_wp2_with fail
  replace hvp19 := hvp19.drew
  replace hvq19 := hvq19.drew
  replace hvd19 := hvd19.drew
  replace hvr19 := hvr19.drew
  replace hvz19 := hvz19.drew
  replace hva19 := hva19.drew
  replace hvb19 := hvb19.drew
  replace hvc19 := hvc19.drew
  replace hve19 := hve19.drew
  replace hvm19 := hvm19.drew
  replace hvl19 := hvl19.drew
  replace hvo19 := hvo19.drew
  replace hvx19 := hvx19.drew
  refine wp_region_any (by kernel_rfl) ?_
  refine wpAny_flatM (L := [0, 1, 2, 3, 4, 5, 6, 7]) (by kernel_rfl) _ _ (triVs9_8 p q dd w.heap.size gq gd gr gz ga gb gc ge gm gl go gx pz qz z zz px qx xx py qy yy xy ee mo le c1 c2 cr zc x ys zy y) [(7, 16)] 38 (dzeros 8) [0, 1, 2, 3, 4, 5, 6, 7, 8, 9, 10, 11, 12, 13, 14, 15, 17, 18, 19, 20, 21, 22, 23, 24, 25, 26, 27, 28, 29, 30, 31, 32, 33, 34, 35, 36, 37, 38, 39, 40, 41, 42, 43, 44, 45, 46, 47, 48, 49, 50, 51, 52, 53, 54, 55, 56, 57, 58, 59, 60, 61, 69, 70, 71, 72, 73, 74] (by kernel_rfl) (by kernel_rfl) ?_ zero_ND ?_ (by rfl) ?_ 1 (by kernel_rfl) ?_
  · intro p hp
    rcases List.mem_cons.1 hp with rfl | hp
    · exact ⟨⟨_, rfl, rfl, rfl, rfl, by kernel_rfl, by kernel_rfl⟩⟩
    exact absurd hp List.not_mem_nil
  · repeat refine all_cons rfl ?_
    exact all_nil
  · refine all_cons (.inr (mStep _ 62 rfl rfl rfl rfl (by kernel_rfl) (fun a hv => wanted_all rfl _) (fun a w K hb hv hK => mPure (numD z) (exec_load _ _ _ _ rfl _ _ (hv 7 (by kernel_rfl) rfl) w (num_run (hvz19.on hb) Hz.out)) hK))) ?_
    refine all_cons (.inr (mStep _ 63 rfl rfl rfl rfl (by kernel_rfl) (fun a hv => wanted_all rfl _) (fun a w K hb hv hK => mPure (numD yy) (exec_load _ _ _ _ rfl _ _ (hv 10 (by kernel_rfl) rfl) w (num_run (hvc19.on hb) Hyy.out)) hK))) ?_
    refine all_cons (.inr (mStep _ 64 rfl rfl rfl rfl (by kernel_rfl) (fun a hv => wanted_all rfl _) (fun a w K hb hv hK => mPure (numD xx) (exec_load _ _ _ _ rfl _ _ (hv 9 (by kernel_rfl) rfl) w (num_run (hvb19.on hb) Hxx.out)) hK))) ?_
    refine all_cons (.inr (mStep _ 65 rfl rfl rfl rfl (by kernel_rfl) (fun a hv => wanted_all rfl _) (fun a w K hb hv hK => mCall (numD ys) 39 _ _ rfl [numD yy, numD xx] (cons_eq (hv 63 (by kernel_rfl) rfl) (cons_eq (hv 64 (by kernel_rfl) rfl) (rfl))) (enters Tryd.func39 rfl rfl) (C65.out w) hK))) ?_
    refine all_cons (.inr (mStep _ 66 rfl rfl rfl rfl (by kernel_rfl) (fun a hv => wanted_all rfl _) (fun a w K hb hv hK => mCall (numD zy) 34 _ _ rfl [numD z, numD ys] (cons_eq (hv 62 (by kernel_rfl) rfl) (cons_eq (hv 65 (by kernel_rfl) rfl) (rfl))) (enters Tryd.func34 rfl rfl) (C66.out w) hK))) ?_
    refine all_cons (.inr (mStep _ 67 rfl rfl rfl rfl (by kernel_rfl) (fun a hv => wanted_all rfl _) (fun a w K hb hv hK => mPure (numD mo) (exec_load _ _ _ _ rfl _ _ (hv 12 (by kernel_rfl) rfl) w (num_run (hvm19.on hb) Hmo.out)) hK))) ?_
    refine all_cons (.inr (mStep _ 68 rfl rfl rfl rfl (by kernel_rfl) (fun a hv => wanted_all rfl _) (fun a w K hb hv hK => mCall (numD y) 34 _ _ rfl [numD zy, numD mo] (cons_eq (hv 66 (by kernel_rfl) rfl) (cons_eq (hv 67 (by kernel_rfl) rfl) (rfl))) (enters Tryd.func34 rfl rfl) (C68.out w) hK))) ?_
    refine all_cons (.inl ⟨(7, 16), by simp, rfl⟩) ?_
    exact all_nil
  intro w20 g hb20 hN20 hap20
  obtain ⟨hgey, hvy20⟩ := hN20 (7, 16) (by simp)
  clear hN20 hap20
  have hB20 := below_then (show Below w.heap.size w w19.drew from hB19.drew) hb20
  have hltp : w.heap.size < w19.heap.size := hvp19.lt
  have hltq : gq < w19.heap.size := hvq19.lt
  have hltd : gd < w19.heap.size := hvd19.lt
  have hltr : gr < w19.heap.size := hvr19.lt
  have hltz : gz < w19.heap.size := hvz19.lt
  have hlta : ga < w19.heap.size := hva19.lt
  have hltb : gb < w19.heap.size := hvb19.lt
  have hltc : gc < w19.heap.size := hvc19.lt
  have hlte : ge < w19.heap.size := hve19.lt
  have hltm : gm < w19.heap.size := hvm19.lt
  have hltl : gl < w19.heap.size := hvl19.lt
  have hlto : go < w19.heap.size := hvo19.lt
  have hltx : gx < w19.heap.size := hvx19.lt
  have hvp20 := hvp19.on hb20
  have hvq20 := hvq19.on hb20
  have hvd20 := hvd19.on hb20
  have hvr20 := hvr19.on hb20
  have hvz20 := hvz19.on hb20
  have hva20 := hva19.on hb20
  have hvb20 := hvb19.on hb20
  have hvc20 := hvc19.on hb20
  have hve20 := hve19.on hb20
  have hvm20 := hvm19.on hb20
  have hvl20 := hvl19.on hb20
  have hvo20 := hvo19.on hb20
  have hvx20 := hvx19.on hb20
  rw [show withNew g [(7, 16)] (triVs9_8 p q dd w.heap.size gq gd gr gz ga gb gc ge gm gl go gx pz qz z zz px qx xx py qy yy xy ee mo le c1 c2 cr zc x ys zy y) = triVs9_8N p q dd w.heap.size gq gd gr gz ga gb gc ge gm gl go gx pz qz z zz px qx xx py qy yy xy ee mo le c1 c2 cr zc x ys zy y (g 16) from rfl]
  replace hgey : w19.heap.size ≤ g 16 := hgey
  replace hvy20 : Cells w20 (g 16) (dzeros 8) 38 := hvy20
  have hnepy : w.heap.size ≠ g 16 := Nat.ne_of_lt (Nat.lt_of_lt_of_le hltp hgey)
  have hneqy : gq ≠ g 16 := Nat.ne_of_lt (Nat.lt_of_lt_of_le hltq hgey)
  have hnedy : gd ≠ g 16 := Nat.ne_of_lt (Nat.lt_of_lt_of_le hltd hgey)
  have hnery : gr ≠ g 16 := Nat.ne_of_lt (Nat.lt_of_lt_of_le hltr hgey)
  have hnezy : gz ≠ g 16 := Nat.ne_of_lt (Nat.lt_of_lt_of_le hltz hgey)
  have hneay : ga ≠ g 16 := Nat.ne_of_lt (Nat.lt_of_lt_of_le hlta hgey)
  have hneby : gb ≠ g 16 := Nat.ne_of_lt (Nat.lt_of_lt_of_le hltb hgey)
  have hnecy : gc ≠ g 16 := Nat.ne_of_lt (Nat.lt_of_lt_of_le hltc hgey)
  have hneey : ge ≠ g 16 := Nat.ne_of_lt (Nat.lt_of_lt_of_le hlte hgey)
  have hnemy : gm ≠ g 16 := Nat.ne_of_lt (Nat.lt_of_lt_of_le hltm hgey)
  have hnely : gl ≠ g 16 := Nat.ne_of_lt (Nat.lt_of_lt_of_le hltl hgey)
  have hneoy : go ≠ g 16 := Nat.ne_of_lt (Nat.lt_of_lt_of_le hlto hgey)
  have hnexy : gx ≠ g 16 := Nat.ne_of_lt (Nat.lt_of_lt_of_le hltx hgey)
  replace hgey : w.heap.size ≤ g 16 := Nat.le_trans (show w.heap.size ≤ w19.heap.size from hB19.size) hgey
  clear hltp hltq hltd hltr hltz hlta hltb hltc hlte hltm hltl hlto hltx
  generalize g 16 = gy at *
  clear hB19 hvp19 hvq19 hvd19 hvr19 hvz19 hva19 hvb19 hvc19 hve19 hvm19 hvl19 hvo19 hvx19 hb20
  refine wpAny_rest 8 rfl (by kernel_rfl) ?_
  refine vset_step rfl 38 (.tmp 16) (.tmp 68) rfl gy 8 (dzeros 8) (y.map dcell) rfl rfl hvy20 rfl size_ND (by rw [List.length_map, Hy.out]) (dcells_one _) ?_
  intro w21 hb21 hvy21 hz21
  have hB21 : Below w.heap.size w w21 := hB20.trans (hb21.below hgey hB20.size)
  have hvp21 := hvp20.but hb21 hnepy
  have hvq21 := hvq20.but hb21 hneqy
  have hvd21 := hvd20.but hb21 hnedy
  have hvr21 := hvr20.but hb21 hnery
  have hvz21 := hvz20.but hb21 hnezy
  have hva21 := hva20.but hb21 hneay
  have hvb21 := hvb20.but hb21 hneby
  have hvc21 := hvc20.but hb21 hnecy
  have hve21 := hve20.but hb21 hneey
  have hvm21 := hvm20.but hb21 hnemy
  have hvl21 := hvl20.but hb21 hnely
  have hvo21 := hvo20.but hb21 hneoy
  have hvx21 := hvx20.but hb21 hnexy
  clear hB20 hvy20 hb21 hz21 hvp20 hvq20 hvd20 hvr20 hvz20 hva20 hvb20 hvc20 hve20 hvm20 hvl20 hvo20 hvx20
  rename_i K hKK
  show Exit.then K _ Exit.normal (⟨(triVs9_8N p q dd w.heap.size gq gd gr gz ga gb gc ge gm gl go gx pz qz z zz px qx xx py qy yy xy ee mo le c1 c2 cr zc x ys zy y gy).toArray, []⟩ : Act) w21
  simp only [Exit.then]
  refine hKK _ _ ?_
  clear hKK K g
  simp only [triVs9_8N]
  go_wp2_with fail
  replace hvp21 := hvp21.drew
  replace hvq21 := hvq21.drew
  replace hvd21 := hvd21.drew
  replace hvr21 := hvr21.drew
  replace hvz21 := hvz21.drew
  replace hva21 := hva21.drew
  replace hvb21 := hvb21.drew
  replace hvc21 := hvc21.drew
  replace hve21 := hve21.drew
  replace hvm21 := hvm21.drew
  replace hvl21 := hvl21.drew
  replace hvo21 := hvo21.drew
  replace hvx21 := hvx21.drew
  replace hvy21 := hvy21.drew
  refine wp_region_any (by kernel_rfl) ?_
  refine wpAny_flatM (L := [0, 1, 2, 3, 4, 5]) (by kernel_rfl) _ _ (triVs10_9 p q dd w.heap.size gq gd gr gz ga gb gc ge gm gl go gx gy pz qz z zz px qx xx py qy yy xy ee mo le c1 c2 cr zc x ys zy y zl r) [] 40 (dzeros 24) [0, 1, 2, 3, 4, 5, 6, 7, 8, 9, 10, 11, 12, 13, 14, 15, 16, 17, 18, 19, 20, 21, 22, 23, 24, 25, 26, 27, 28, 29, 30, 31, 32, 33, 34, 35, 36, 37, 38, 39, 40, 41, 42, 43, 44, 45, 46, 47, 48, 49, 50, 51, 52, 53, 54, 55, 56, 57, 58, 59, 60, 61, 62, 63, 64, 65, 66, 67, 68] (by kernel_rfl) (by kernel_rfl) ?_ zero_tri ?_ (by rfl) ?_ 1 (by kernel_rfl) ?_
  · intro p hp
    exact absurd hp List.not_mem_nil
  · repeat refine all_cons rfl ?_
    exact all_nil
  · refine all_cons (.inr (mStep _ 69 rfl rfl rfl rfl (by kernel_rfl) (fun a hv => wanted_all rfl _) (fun a w K hb hv hK => mPure (numD x) (exec_load _ _ _ _ rfl _ _ (hv 15 (by kernel_rfl) rfl) w (num_run (hvx21.on hb) Hx.out)) hK))) ?_
    refine all_cons (.inr (mStep _ 70 rfl rfl rfl rfl (by kernel_rfl) (fun a hv => wanted_all rfl _) (fun a w K hb hv hK => mPure (numD y) (exec_load _ _ _ _ rfl _ _ (hv 16 (by kernel_rfl) rfl) w (num_run (hvy21.on hb) Hy.out)) hK))) ?_
    refine all_cons (.inr (mStep _ 71 rfl rfl rfl rfl (by kernel_rfl) (fun a hv => wanted_all rfl _) (fun a w K hb hv hK => mPure (numD mo) (exec_load _ _ _ _ rfl _ _ (hv 12 (by kernel_rfl) rfl) w (num_run (hvm21.on hb) Hmo.out)) hK))) ?_
    refine all_cons (.inr (mStep _ 72 rfl rfl rfl rfl (by kernel_rfl) (fun a hv => wanted_all rfl _) (fun a w K hb hv hK => mPure (numD le) (exec_load _ _ _ _ rfl _ _ (hv 13 (by kernel_rfl) rfl) w (num_run (hvl21.on hb) Hle.out)) hK))) ?_
    refine all_cons (.inr (mStep _ 73 rfl rfl rfl rfl (by kernel_rfl) (fun a hv => wanted_all rfl _) (fun a w K hb hv hK => mCall (numD zl) 34 _ _ rfl [numD mo, numD le] (cons_eq (hv 71 (by kernel_rfl) rfl) (cons_eq (hv 72 (by kernel_rfl) rfl) (rfl))) (enters Tryd.func34 rfl rfl) (C73.out w) hK))) ?_
    refine all_cons (.inr (mStep _ 74 rfl rfl rfl rfl (by kernel_rfl) (fun a hv => wanted_all rfl _) (fun a w K hb hv hK => mPure (numD r) (exec_build _ _ _ [(0, .tmp 69), (1, .tmp 70), (2, .tmp 73)] rfl [(0, numD x), (1, numD y), (2, numD zl)] (cons_eq (congrArg (Prod.mk 0) (hv 69 (by kernel_rfl) rfl)) (cons_eq (congrArg (Prod.mk 1) (hv 70 (by kernel_rfl) rfl)) (cons_eq (congrArg (Prod.mk 2) (hv 73 (by kernel_rfl) rfl)) (rfl)))) _ w (BR w)) hK))) ?_
    exact all_nil
  intro w22 g hb22 hN22 hap22
  clear hN22 hap22
  have hB22 := below_then (show Below w.heap.size w w21.drew from hB21.drew) hb22
  have hvp22 := hvp21.on hb22
  have hvq22 := hvq21.on hb22
  have hvd22 := hvd21.on hb22
  have hvr22 := hvr21.on hb22
  have hvz22 := hvz21.on hb22
  have hva22 := hva21.on hb22
  have hvb22 := hvb21.on hb22
  have hvc22 := hvc21.on hb22
  have hve22 := hve21.on hb22
  have hvm22 := hvm21.on hb22
  have hvl22 := hvl21.on hb22
  have hvo22 := hvo21.on hb22
  have hvx22 := hvx21.on hb22
  have hvy22 := hvy21.on hb22
  clear hB21 hvp21 hvq21 hvd21 hvr21 hvz21 hva21 hvb21 hvc21 hve21 hvm21 hvl21 hvo21 hvx21 hvy21 hb22
  refine wpAny_rest 6 rfl (by kernel_rfl) ?_
  refine vset_step rfl 40 (.tmp 6) (.tmp 74) rfl gr 24 (dzeros 24) (r.map dcell) rfl rfl hvr22 rfl size_tri (by rw [List.length_map, Hr.out]) (dcells_one _) ?_
  intro w23 hb23 hvr23 hz23
  have hB23 : Below w.heap.size w w23 := hB22.trans (hb23.below hger hB22.size)
  have hvp23 := hvp22.but hb23 hnepr
  have hvq23 := hvq22.but hb23 hneqr
  have hvd23 := hvd22.but hb23 hnedr
  have hvz23 := hvz22.but hb23 (Ne.symm hnerz)
  have hva23 := hva22.but hb23 (Ne.symm hnera)
  have hvb23 := hvb22.but hb23 (Ne.symm hnerb)
  have hvc23 := hvc22.but hb23 (Ne.symm hnerc)
  have hve23 := hve22.but hb23 (Ne.symm hnere)
  have hvm23 := hvm22.but hb23 (Ne.symm hnerm)
  have hvl23 := hvl22.but hb23 (Ne.symm hnerl)
  have hvo23 := hvo22.but hb23 (Ne.symm hnero)
  have hvx23 := hvx22.but hb23 (Ne.symm hnerx)
  have hvy23 := hvy22.but hb23 (Ne.symm hnery)
  clear hB22 hvr22 hb23 hz23 hvp22 hvq22 hvd22 hvz22 hva22 hvb22 hvc22 hve22 hvm22 hvl22 hvo22 hvx22 hvy22
  rename_i K hKK
  show Exit.then K _ Exit.normal (⟨(triVs10_9 p q dd w.heap.size gq gd gr gz ga gb gc ge gm gl go gx gy pz qz z zz px qx xx py qy yy xy ee mo le c1 c2 cr zc x ys zy y zl r).toArray, []⟩ : Act) w23
  simp only [Exit.then]
  refine hKK _ _ ?_
  clear hKK K g
  simp only [triVs10_9]
  go_wp2
  exact sret Tryd.results54 gr (r.map dcell) rfl hvr23 Tryd.underlying40 rfl size_tri (by rw [List.length_map, Hr.out]) rfl ⟨rfl, hB23⟩
end Go.Proofs.YtagjbdhelfickaaDoor
