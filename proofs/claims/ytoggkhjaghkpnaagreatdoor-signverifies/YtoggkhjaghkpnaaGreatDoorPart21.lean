/- Part 21 of what the laws of this seat share: UMult, YGroup, XClamp, YMath, ZMem, ZSmall, ZJoined, YVals. -/
import Derived.Deep.Cut
import Derived.IntWalk
import Derived.Test.YtoggkhjaghkpnaaGreatDoorPart20
set_option maxRecDepth 100000
set_option maxHeartbeats 8000000
namespace Go.Proofs.YtoggkhjaghkpnaaGreatDoor
open Go.RowKit
def zj (f:Nat→List Value):Nat→List Value
 |0=> []
 |n+1=>zj f n++f n
theorem Ph (f:Nat→List Value) (h:∀i,(f i).length=15):∀n,(zj f n).length=n*15
 |0=>rfl
 |n+1=>by rw [zj,qaj,Ph f h n,h];omega
theorem WG (f:Nat→List Value) (h:∀i,(f i).length=15) (k:Nat):∀(n:Nat) (T:List Value),k<n→((zj f n++T).drop (k*15)).take 15=f k
 |n+1,T,hk=>by
  rw [zj,List.append_assoc];by_cases e:k<n
  ·exact WG f h k n _ e
  ·obtain rfl:k=n:=by omega
   rw [List.drop_left' (Ph f h k),List.take_left' (h k)]
theorem qS (A B c:List Value) (o:Nat) (h:A.length≤o):Ub (A++B) o c=A++Ub B (o-A.length) c:=by
 rw [Ub,Ub,List.take_append,Zaj h,List.drop_append,List.drop_eq_nil_of_le (by omega),List.nil_append,show o+c.length-A.length=o-A.length+c.length by omega];simp only [List.append_assoc]
theorem Qy (A B c:List Value) (o:Nat) (h:o+c.length≤A.length):Ub (A++B) o c=Ub A o c++B:=by
 rw [Ub,Ub,List.take_append_of_le_length (by omega),List.drop_append_of_le_length h];simp only [List.append_assoc]
theorem XG (f:Nat→List Value) (h:∀i,(f i).length=15) (k:Nat) (c:List Value) (hc:c.length=15):∀(n:Nat),k<n→Ub (zj f n) (k*15) c=zj (fun i=>if i=k then c else f i) n
 |n+1,hk=>by
  have hl:=Ph f h n;rw [zj,zj];by_cases e:k<n
  ·rw [Qy _ _ _ _ (by rw [hl,hc];omega),XG f h k c hc n e,if_neg (by omega)]
  ·obtain rfl:k=n:=by omega
   rw [qS _ _ _ _ (by omega),hl,Nat.sub_self,Xb _ _ (by rw [hc,h]),if_pos rfl];congr 1
   have key:∀m,m≤k→zj f m=zj (fun i=>if i=k then c else f i) m:=by
    intro m
    induction m with
    |zero=>intro _;rfl
    |succ m ih=>intro hm;rw [zj,zj,ih (by omega),if_neg (by omega)]
   exact key k (Xaj k)
def ZJ (t:Tri) (k i:Nat):List Value:=if i<k then (Zc (Zj t i)).map Ga else Na 15
theorem qj (t:Tri) (k i:Nat):(ZJ t k i).length=15:=by
 rw [ZJ]
 split
 ·rw [Uaj,Jy]
 ·rfl
def shC (t:Tri) (key:List UInt8) (k:Nat):List Value:=zj (ZJ t k) 16++key.map Fa
theorem Fo (t:Tri) (key:List UInt8) (hk:key.length=32) (k:Nat):(shC t key k).length=272:=by
 rw [shC,qaj,Ph _ (qj t k),Uaj,hk]
theorem Ki (l:List Value):l.map Af=l:=List.map_id l
theorem YG (f:Nat→List Value) (h:∀i,∀v∈f i,v.oneCell'=true):∀n,∀v∈zj f n,v.oneCell'=true
 |0,v,hv=>absurd hv List.not_mem_nil
 |n+1,v,hv=>by
  rw [zj,List.mem_append] at hv;rcases hv with hv|hv
  ·exact YG f h n v hv
  ·exact h n v hv
theorem X9 (t:Tri) (key:List UInt8) (k:Nat):((shC t key k).map Af).toArray.all (·.oneCell')=true:=by
 rw [Ki];refine all_oneCell_toArray fun v hv=>?_;rw [shC,List.mem_append] at hv;rcases hv with hv|hv
 ·refine YG _ (fun i u hu=>?_) 16 v hv;rw [ZJ] at hu
  split at hu
  ·obtain ⟨x,_,rfl⟩:=List.mem_map.1 hu;rfl
  ·rw [List.eq_of_mem_replicate hu];rfl
 ·exact Kg key v hv
theorem T5 (t:Tri) (key:List UInt8):shC t key 0=Na 240++key.map Fa:=by
 have h:ZJ t 0=fun _=>Na 15:=by funext i;rw [ZJ,if_neg (Nat.not_lt_zero i)]
 rw [shC,h,show zj (fun _=>Na 15) 16=Na 240 from by kernel_rfl]
theorem LV (t:Tri) (key:List UInt8) (k:Nat) (hk:k<16):Ub (shC t key k) (k*15) ((Zc (Zj t k)).map Ga)=shC t key (k+1):=by
 have hl:=Ph _ (qj t k) 16;have hc:((Zc (Zj t k)).map Ga).length=15:=by rw [Uaj,Jy]
 rw [shC,Qy _ _ _ _ (by rw [hl,hc];omega),XG _ (qj t k) k _ hc 16 hk,shC];congr 2
 funext i
 rw [ZJ,ZJ];by_cases e:i=k
 ·subst e;rw [if_pos rfl,if_pos (by omega)]
 ·rw [if_neg e];by_cases e2:i<k
  ·rw [if_pos e2,if_pos (by omega)]
  ·rw [if_neg e2,if_neg (by omega)]
theorem MV (t:Tri) (key:List UInt8) (k i:Nat) (hi:i<k) (hk:k≤16) (T:List Value):((shC t key k++T).drop (i*15)).take 15=(Zc (Zj t i)).map Ga:=by
 rw [shC,List.append_assoc,WG _ (qj t k) i 16 _ (by omega),ZJ,if_pos hi]
theorem Bx (E:Value) (t:Tri) (key:List UInt8) (w:World) (hk:key.length=32) (h:qd t) (hS:Md E w):Calls Tryz.prog 61 #[Aa (Zc t),Ca key] w (gvn (Th (shC t key 16)) w):=by
 refine xS (Zc t) (Zc (0,1,1)) key (fun k=>Zc (Zj t k)) (shC t key) E w rfl rfl hk (Fo t key hk) (X9 t key) ?_ ?_ TG ?_ hS
 ·show _=_;rw [Ki,Ki];have h:=LV t key 0 (by decide);rw [Nat.zero_mul] at h;exact h
 ·intro k hk15;refine ⟨rfl,rfl,fun W hW=>GO E (Zj t k) t W (QC t k) h hW,?_,?_⟩
  ·rw [Ki,Nat.zero_add];have h2:=MV t key (k+1) k (by omega) (by omega) [];rw [List.append_nil] at h2;exact h2
  ·rw [Ki,Ki,Nat.zero_add];exact LV t key (k+1) (by omega)
 ·rw [T5];exact JO key hk
theorem U5 (q:UInt8) (i:Nat):(q.toNat:Int)/2^(i%2*4)%16=((q.toNat/16^(i%2)%16:Nat):Int):=by
 rcases Nat.mod_two_eq_zero_or_one i with e|e<;>rw [e]
 ·show (q.toNat:Int)/1%16=((q.toNat/1%16:Nat):Int);omega
 ·show (q.toNat:Int)/16%16=((q.toNat/16%16:Nat):Int);omega
theorem xJ (g i o:Nat) (A B:List Value) (t:Tri) (key:List UInt8) (t':TypeId) (w:World) (hk:key.length=32) (hi:i<64) (ho:A.length=o) (hC:Ia w g (A++(shC t key 16++B)) t'):Calls Tryz.prog 108 #[.pointer (some ⟨g,o,none⟩),.int .i64 (i:Int)] w (gvn (Aa (Zc (Zj t (dig key i)))) w):=by
 refine L5 g o i (dig key i) _ (key.getD (i/2) 0) (Zc (Zj t (dig key i))) t' w hi (Y4 key i) hC ?_ (U5 _ i) rfl ?_
 ·show _=_;have hl:=Ph _ (qj t 16) 16;rw [List.getElem?_append_right (by omega),ho,show o+240+i/2-o=240+i/2 by omega,shC,List.append_assoc,List.getElem?_append_right (by omega),hl,show 240+i/2-16*15=i/2 by omega,List.getElem?_append_left (by rw [Uaj,hk];omega),List.getElem?_map,Yaj,xaj (by omega)];rfl
 ·show _=_;rw [List.drop_append,List.drop_eq_nil_of_le (by omega),List.nil_append,ho,show o+dig key i*15-o=dig key i*15 by omega];exact MV t key 16 _ (Y4 key i) (Xaj _) B
def twN (t:Tri):Nat→Tri
 |0=>t
 |j+1=>twT (twN t j)
theorem V5 (t:Tri) (w:World) (h:qd t):Calls Tryz.prog 106 #[Aa (Zc t)] w (gvn (Aa (Zc (NN t))) w):=by
 have hl:∀j,qd (twN t j):=fun j=>by
  cases j with
  |zero=>exact h
  |succ j=>exact OS _
 exact KY (Zc t) (fun j=>Zc (twN t j)) w rfl (fun _=>rfl) (fun j _ W=>U9 _ W (hl j))
theorem OO (E:Value) (m gs:Nat) (vs:List Value) (f:Nat→Nat→Tri) (w:World) (hm:m≤1000000) (hC:Ia w gs (vs.map Af) 105) (hf:∀i j,qd (f i j))
 (hF:∀i j:Nat,i<64→j<m→∀W,Ia W gs (vs.map Af) 105→Calls Tryz.prog 108 #[.pointer (some ⟨gs,0+j*272,none⟩),.int .i64 (i:Int)] W (gvn (Aa (Zc (f i j))) W)) (hS:Md E w):
 Calls Tryz.prog 60 #[.slice (some ⟨gs,0,none⟩) m m] w (gvn (Aa (Zc (Zs m f 64))) w):=by
 refine LY m gs vs (Zc (0,1,1)) (fun k=>Zc (Zs m f (64-k))) (fun k j=>Zc (Z4 (f k) (NN (Zs m f (63-k))) j)) E w hm hC rfl rfl (fun _=>rfl) ?_ TG hS;intro k hk;have e:64-k=63-k+1:=by omega
 have e2:64-(k+1)=63-k:=by omega
 have e3:63-(63-k)=k:=by omega
 refine ⟨fun W=>?_,fun _=>rfl,fun j hj=>⟨Zc (f k j),rfl,hF k j hk hj,fun W hW=>GO E _ _ W (IV _ _ (EV _) j) (hf k j) hW⟩,?_⟩
 ·show Calls Tryz.prog 106 #[Aa (Zc (Zs m f (64-(k+1))))] W _;rw [e2];exact V5 _ W (NJ m f _)
 ·show Zc (Z4 (f k) (NN (Zs m f (63-k))) m)=Zc (Zs m f (64-k));rw [e,Zs,e3]
def Xad (t:Tri) (key:List UInt8) (i _j:Nat):Tri:=Zj t (dig key i)
def ED (t:Tri) (key:List UInt8):Tri:=Zs 1 (Xad t key) 64
theorem AT (E:Value) (t:Tri) (key:List UInt8) (w:World) (hk:key.length=32) (h:qd t) (hS:Md E w):Calls Tryz.prog 41 #[Aa (Zc t),Ca key] w (gvn (Aa (Zc (ED t key))) w):=by
 refine LO (Zc t) (Zc (ED t key)) key (shC t key 16) E w rfl rfl hk (Fo t key hk 16) (fun W hW=>Bx E t key W hk h hW) ?_ hS;intro g W hC hW;refine OO E 1 g _ (Xad t key) W (by decide) hC (fun i j=>QC _ _) ?_ hW;intro i j hi hj V hV;obtain rfl:j=0:=by omega
 rw [Ki] at hV;refine xJ g i (0+0*272) [] [] t key 105 V hk hi rfl ?_;rw [List.nil_append,List.append_nil];exact hV
def W5 (t u:Tri) (kh ks:List UInt8) (i j:Nat):Tri:=if j=0 then Zj t (dig kh i) else Zj u (dig ks i)
def NV (t u:Tri) (kh ks:List UInt8):Tri:=Zs 2 (W5 t u kh ks) 64
theorem Y9 (t u:Tri) (kh ks:List UInt8) (i j:Nat):qd (W5 t u kh ks i j):=by
 rw [W5]
 split<;>exact QC _ _
theorem MY (E:Value) (t:Tri) (kh ks:List UInt8) (w:World) (hh:kh.length=32) (hs:ks.length=32) (h:qd t) (hS:Md E w):Calls Tryz.prog 28 #[Aa (Zc t),Ca kh,Ca ks] w (gvn (Aa (Zc (NV t Ic kh ks))) w):=by
 have l1:=Fo t kh hh 16;have l2:=Fo Ic ks hs 16;refine yS (Zc t) (Zc Ic) (Zc (NV t Ic kh ks)) kh ks (shC t kh 16) (shC Ic ks 16) E w rfl rfl hh hs l1 l2 (fun W hW=>Bx E t kh W hh h hW) (fun W hW=>Bx E Ic ks W hs zp hW) (UG E) ?_ hS;intro g W hC hW;refine OO E 2 g _ (W5 t Ic kh ks) W (by decide) hC (Y9 _ _ _ _) ?_ hW;intro i j hi hj V hV;rw [Ki] at hV;obtain rfl|rfl:j=0∨j=1:=by omega
 ·refine xJ g i (0+0*272) [] (shC Ic ks 16) t kh 105 V hh hi rfl ?_;rw [List.nil_append];exact hV
 ·refine xJ g i (0+1*272) (shC t kh 16) [] Ic ks 105 V hs hi (by rw [l1]) ?_;rw [List.append_nil];exact hV
namespace NP
theorem timesU_rep {p:Pt PP dE} {t:Tri} (r:RepN p t) (key:List UInt8) (hk:key.length=32):RepN (edw.mul p (lev key)) (ED t key):=by
 have h:=one_rep r key (Xad t key) (fun _=>rfl) 64;rw [Yz (Kr key hk) 64 0 rfl,Nat.pow_zero,Nat.div_one] at h;exact h
theorem withU_rep {p:Pt PP dE} {t:Tri} (r:RepN p t) (kh ks:List UInt8) (hh:kh.length=32) (hs:ks.length=32):RepN (edw.add (edw.mul p (lev kh)) (edw.mul bE (lev ks))) (NV t Ic kh ks):=by
 have h:=two_rep r baseT_rep kh ks (W5 t Ic kh ks) (fun _=>rfl) (fun _=>rfl) 64;rw [Yz (Kr kh hh) 64 0 rfl,Yz (Kr ks hs) 64 0 rfl,Nat.pow_zero,Nat.div_one,Nat.div_one] at h;exact h
end NP
theorem ZG {p:NP.Pt NP.PP NP.dE} {t:Tri} (r:NP.RepN p t) (w:World):Calls Tryz.prog 29 #[Aa (Zc t)] w (gvn (Ca (Qd p)) w):=by
 have h:=ZS t w r.lt;rw [r.over.1,r.over.2] at h;exact h
end Go.Proofs.YtoggkhjaghkpnaaGreatDoor
namespace Go.Proofs.YtoggkhjaghkpnaaGreatDoor.NP
theorem mul_nought {P:Nat} {d i:Int} (h:Edw P d i):∀n,h.mul h.zero n=h.zero
 |0=>rfl
 |n+1=>by show h.add (h.mul h.zero n) h.zero=h.zero;rw [h.add_zero,mul_nought h n]
theorem sum_four {P:Nat} {d i:Int} (h:Edw P d i) (a b c e:Pt P d):h.add (h.add a b) (h.add c e)=h.add (h.add a c) (h.add b e):=by
 rw [h.add_assoc,←h.add_assoc b c e,h.add_comm b c,h.add_assoc c b e,←h.add_assoc]
theorem neg_often {P:Nat} {d i:Int} (h:Edw P d i) (p:Pt P d):∀n,h.add (h.mul p.neg n) (h.mul p n)=h.zero
 |0=>h.add_zero _
 |n+1=>by
  show h.add (h.add (h.mul p.neg n) p.neg) (h.add (h.mul p n) p)=h.zero;rw [sum_four,neg_often h p n,h.neg_add,h.add_zero]
theorem add_cancel {P:Nat} {d i:Int} (h:Edw P d i) {p a b:Pt P d} (e:h.add p a=h.add p b):a=b:=by
 have h2:=congrArg (h.add p.neg) e;rw [←h.add_assoc,←h.add_assoc,h.neg_add,h.zero_add,h.zero_add] at h2;exact h2
theorem base_mod (n:Nat):edw.mul bE (n%LL)=edw.mul bE n:=by
 have e:=Nat.div_add_mod n LL;have h:edw.mul bE (LL*(n/LL)+n%LL)=edw.mul bE (n%LL):=by
  rw [edw.mul_add,←edw.mul_mul,order_zero,mul_nought,edw.zero_add]
 rw [e] at h;exact h.symm
theorem base_inj {m n:Nat} (hm:m<LL) (hn:n<LL) (e:edw.mul bE m=edw.mul bE n):m=n:=by
 have key:∀{m n:Nat},n<LL→m≤n→edw.mul bE m=edw.mul bE n→m=n:=fun {m n} hn hmn e=>by
  have h1:edw.add (edw.mul bE m) (edw.mul bE (n-m))=edw.add (edw.mul bE m) edw.zero:=by
   rw [←edw.mul_add,Nat.add_sub_cancel' hmn,edw.add_zero,e]
  have h2:=add_cancel edw h1;by_cases h3:LL∣n-m
  ·have :=Nat.eq_zero_of_dvd_of_lt h3 (by omega);omega
  ·exact absurd h2 (base_mul _ h3)
 rcases Nat.le_total m n with h|h
 ·exact key hn h e
 ·exact (key hm h e.symm).symm
theorem sign_point (r k a:Nat):edw.add (edw.mul (edw.mul bE a).neg k) (edw.mul bE ((r+k*a)%LL))=edw.mul bE r:=by
 rw [base_mod,Nat.add_comm,edw.mul_add,←edw.add_assoc,Nat.mul_comm,←edw.mul_mul,neg_often,edw.zero_add]
theorem pt_coords {p:Pt PP dE} {X Y Z:Int} (r:Rep p X Y Z) (x y:Nat) (hx:x<PP) (hy:y<PP) (ex:(X-x*Z)%((PP:Nat):Int)=0) (ey:(Y-y*Z)%((PP:Nat):Int)=0):p.x=x∧p.y=y:=by
 have key:∀{u U:Int} {v:Nat},u%((PP:Nat):Int)=u→v<PP→Cg ((PP:Nat):Int) U (u*Z)→(U-v*Z)%((PP:Nat):Int)=0→u=v:=fun {u U v} hu hv hU he=>by
  have h1:((PP:Nat):Int)∣(u-v)*Z:=by
   have h2:=Int.dvd_sub (Int.dvd_of_emod_eq_zero he) hU
   rwa [show U-(v:Int)*Z-(U-u*Z)=(u-v)*Z by rw [Int.sub_mul];omega] at h2
  have h3:=(pr_P.int h1).resolve_right r.nz;rw [←hu,←Int.emod_eq_of_lt (show (0:Int)≤(v:Int) by omega) (show (v:Int)<((PP:Nat):Int) by omega)];exact Int.emod_eq_emod_iff_emod_sub_eq_zero.2 (Int.emod_eq_zero_of_dvd h3)
 exact ⟨key p.xl hx r.hx ex,key p.yl hy r.hy ey⟩
theorem base_at (n x y:Nat) (hn:n<2^256) (hx:x<PP) (hy:y<PP)
 (h:((mulR PP dE (bxE,byE,1) 256 n).1-x*(mulR PP dE (bxE,byE,1) 256 n).2.2)%((PP:Nat):Int)=0∧((mulR PP dE (bxE,byE,1) 256 n).2.1-y*(mulR PP dE (bxE,byE,1) 256 n).2.2)%((PP:Nat):Int)=0):
 (edw.mul bE n).x=x∧(edw.mul bE n).y=y:=
 pt_coords (Rep.mulR edw (b:=(bxE,byE,1)) bE_rep 256 n hn) x y hx hy h.1 h.2
end Go.Proofs.YtoggkhjaghkpnaaGreatDoor.NP
namespace Go.Proofs.YtoggkhjaghkpnaaGreatDoor
open Go.RowKit
def Ci (k:List UInt8):List UInt8:=(k.set 0 (k.getD 0 0/8*8)).set 31 (k.getD 31 0%64+64)
theorem KE (k:List UInt8):(Ci k).length=k.length:=by rw [Ci,List.length_set,List.length_set]
theorem yz (k:List UInt8) (j:Nat) (h:j<k.length):(k.map Fa)[j]? =some (Fa (k.getD j 0)):=by
 rw [List.getElem?_map,Yaj,xaj h];rfl
theorem X5:∀x:Fin 256,bits .andNot .u8 (x.val:Int) 7=((x.val/8*8:Nat):Int):=by decide+kernel
theorem DT:∀x:Fin 256,bits .andNot .u8 (x.val:Int) 128=((x.val%128:Nat):Int):=by decide+kernel
theorem Iah:∀x:Fin 256,bits .or .u8 ((x.val%128:Nat):Int) 64=((x.val%64+64:Nat):Int):=by decide+kernel
theorem ET (b c0 c1 c:List UInt8) (q0 q1 v0 v1 v2:UInt8) (w:World) (HB:Hid (b.length=32)) (HC0:Hid (c0=b.set 0 v0)) (HC1:Hid (c1=c0.set 31 v1)) (HC:Hid (c=c1.set 31 v2)) (D0:Hid ((b.map Fa)[0]? =some (Fa q0))) (D1:Hid ((c0.map Fa)[31]? =some (Fa q1))) (D2:Hid ((c1.map Fa)[31]? =some (Fa v1)))
 (e1:bits .andNot .u8 (q0.toNat:Int) 7=(v0.toNat:Int)) (e2:bits .andNot .u8 (q1.toNat:Int) 128=(v1.toNat:Int)) (e3:bits .or .u8 (v1.toNat:Int) 64=(v2.toNat:Int)):
 Calls Tryz.prog 37 #[Ca b] w (gvn (Ca c) w):=by
 have HL0:Hid (c0.length=32):=by show _=_;rw [HC0.out,List.length_set];exact HB.out
 have HL1:Hid (c1.length=32):=by show _=_;rw [HC1.out,List.length_set];exact HL0.out
 have HLC:Hid (c.length=32):=by show _=_;rw [HC.out,List.length_set];exact HL1.out
 go_enter Tryz.func37,Tryz.ntmps37;go_wp2_with (first
  |(refine Rb rfl 23 (.tmp 0) rfl b rfl ?_
    intro w1 hB1 hA1 hz;clear hz;try simp only [La]
    skip)
  |(refine Ma rfl 23 rfl (List.replicate 32 (Fa 0)) Zb ?_
    intro w3 hb3 hZ3;have hB3:=Ba hB1 hb3;have hA3:=hA1.on hb3;have hg2:=hA1.lt;clear hB1 hA1 hb3;have d1:=hA3.get D0.out;have hT:=hA3.there 0 1 (by rw [Uaj,HB.out];decide);have hE:=Lib.hid (hA3.set 0 (Fa v0));try simp only [La]
    skip)
  |(refine Qb rfl 5 _ _ rfl w.heap.size 0 .u8 (v0.toNat:Int) rfl rfl Qc hT ?_
    intro w5 hw5;have hB5:Below w.heap.size w w5:=by rw [hw5];exact hB3.setCell (p:=⟨w.heap.size,0,none⟩) (Xaj _) _
    have hA5:Ia w5 w.heap.size (c0.map Fa) 23:=by rw [hw5,HC0.out,List.map_set];exact hE.out
    have hZ5:Ia w5 w1.heap.size (List.replicate 32 (Fa 0)) 23:=by rw [hw5];exact hZ3.other (by show w1.heap.size≠w.heap.size;omega) _
    clear hw5 hT hE hB3 hA3 hZ3 d1 D0 HC0;have d1:=hA5.get D1.out;have hT:=hA5.there 31 1 (by rw [Uaj,HL0.out];decide);have hE:=Lib.hid (hA5.set 31 (Fa v1)))
  |(refine Qb rfl 5 _ _ rfl w.heap.size 31 .u8 (v1.toNat:Int) rfl rfl Qc hT ?_
    intro w6 hw6;have hB6:Below w.heap.size w w6:=by rw [hw6];exact hB5.setCell (p:=⟨w.heap.size,31,none⟩) (Xaj _) _
    have hA6:Ia w6 w.heap.size (c1.map Fa) 23:=by rw [hw6,HC1.out,List.map_set];exact hE.out
    have hZ6:Ia w6 w1.heap.size (List.replicate 32 (Fa 0)) 23:=by rw [hw6];exact hZ5.other (by show w1.heap.size≠w.heap.size;omega) _
    clear hw6 hT hE hB5 hA5 hZ5 d1 D1 HC1;have d1:=hA6.get D2.out;have hT:=hA6.there 31 1 (by rw [Uaj,HL1.out];decide);have hE:=Lib.hid (hA6.set 31 (Fa v2)))
  |(refine Qb rfl 5 _ _ rfl w.heap.size 31 .u8 (v2.toNat:Int) rfl rfl Qc hT ?_
    intro w7 hw7;have hB7:Below w.heap.size w w7:=by rw [hw7];exact hB6.setCell (p:=⟨w.heap.size,31,none⟩) (Xaj _) _
    have hA7:Ia w7 w.heap.size (c.map Fa) 23:=by rw [hw7,HC.out,List.map_set];exact hE.out
    have hZ7:Ia w7 w1.heap.size (List.replicate 32 (Fa 0)) 23:=by rw [hw7];exact hZ6.other (by show w1.heap.size≠w.heap.size;omega) _
    clear hw7 hT hE hB6 hA6 hZ6 d1 D2 HC)
  |(refine Tc rfl 23 (.tmp 1) rfl w.heap.size 32 c _ rfl hA7 Tryz.underlying23 za HLC.out ?_
    try simp only [La]
    skip)
  |(refine Li rfl 23 _ _ rfl w1.heap.size 32 (List.replicate 32 (Fa 0)) c rfl rfl hZ7 (by simp) za HLC.out ?_
    intro w8 hb8 hC8 _))
 exact Mi Tryz.results37 w1.heap.size c rfl hC8 Tryz.underlying23 za HLC.out rfl ⟨rfl,hB7.trans (hb8.below (by omega) hB7.size)⟩
theorem NY (b:List UInt8) (w:World) (hb:b.length=32):Calls Tryz.prog 37 #[Ca b] w (gvn (Ca (Ci b)) w):=by
 have h1:∀q:UInt8,(q/8*8).toNat=q.toNat/8*8:=fun q=>by
  have :=q.toNat_lt;rw [UInt8.toNat_mul,UInt8.toNat_div];show q.toNat/8*8%256=_;omega
 have h2:∀q:UInt8,(q%64+64).toNat=q.toNat%64+64:=fun q=>by
  rw [UInt8.toNat_add,UInt8.toNat_mod];show (q.toNat%64+64)%256=_;omega
 have h3:∀q:UInt8,(q%128).toNat=q.toNat%128:=fun q=>by rw [UInt8.toNat_mod];rfl
 refine ET b (b.set 0 (b.getD 0 0/8*8)) ((b.set 0 (b.getD 0 0/8*8)).set 31 (b.getD 31 0%128)) _ (b.getD 0 0) (b.getD 31 0) _ (b.getD 31 0%128) (b.getD 31 0%64+64) w hb rfl rfl ?_ (yz b 0 (by omega)) ?_ ?_ ?_ ?_ ?_
 ·show _=_;rw [List.set_set,Ci]
 ·show _=_;rw [List.getElem?_map,List.getElem?_set_ne (by decide),←List.getElem?_map];exact yz b 31 (by omega)
 ·show _=_;rw [List.getElem?_map,List.getElem?_set_self (by rw [List.length_set];omega)];rfl
 ·rw [h1];exact X5 ⟨_,(b.getD 0 0).toNat_lt⟩
 ·rw [h3];exact DT ⟨_,(b.getD 31 0).toNat_lt⟩
 ·rw [h2,h3];exact Iah ⟨_,(b.getD 31 0).toNat_lt⟩
def sgA (seed:List UInt8):List UInt8:=Ci ((Ed seed).take 32)
def Fl (seed:List UInt8):List UInt8:=(Ed seed).drop 32
def Gd (b:List UInt8):Nat:=lev (Ed b)%NP.LL
noncomputable def xc (seed:List UInt8):List UInt8:=Qd (NP.edw.mul NP.bE (lev (sgA seed)))
def Uh (seed text:List UInt8):Nat:=Gd (Fl seed++text)
noncomputable def sgR (seed text:List UInt8):List UInt8:=Qd (NP.edw.mul NP.bE (Uh seed text))
noncomputable def sgS (seed text:List UInt8):Nat:=(Uh seed text+Gd (sgR seed text++xc seed++text)*lev (sgA seed))%NP.LL
noncomputable def Bg (seed text:List UInt8):List UInt8:=sgR seed text++Ob (sgS seed text) 32
noncomputable def Cx (pub:List UInt8):NP.Pt NP.PP NP.dE:=if h:pub.length=32∧Uc pub=true then Classical.choose (Jr pub h.1 h.2) else NP.edw.zero
noncomputable def Fn (pub sig text:List UInt8):Bool:=decide (lev (sig.drop 32)<NP.LL)&&(Uc pub&&(Qd (NP.edw.add (NP.edw.mul (Cx pub).neg (Gd (sig.take 32++pub++text))) (NP.edw.mul NP.bE (lev (sig.drop 32))))==sig.take 32))
theorem Sf (seed:List UInt8):(xc seed).length=32:=Hf _
theorem Ng (seed text:List UInt8):(sgR seed text).length=32:=Hf _
theorem zh (seed text:List UInt8):(Bg seed text).length=64:=by rw [Bg,qaj,Ng,Ta]
theorem zJ (pub:List UInt8) (hl:pub.length=32) (hg:Uc pub=true):Rf pub=(NP.Pt.X (Cx pub),NP.Pt.Y (Cx pub),1)∧Qd (Cx pub)=pub:=by
 have h:=Classical.choose_spec (Jr pub hl hg);have e:Cx pub=Classical.choose (Jr pub hl hg):=by rw [Cx,dif_pos ⟨hl,hg⟩]
 rw [e];exact h
theorem OV (p:NP.Pt NP.PP NP.dE):Uc (Qd p)=true∧Cx (Qd p)=p:=by
 have hg:Uc (Qd p)=true:=(BD p).1;exact ⟨hg,Gq (zJ (Qd p) (Hf p) hg).2⟩
theorem Iq:0<NP.LL:=by decide+kernel
theorem Y5 (seed text:List UInt8):sgS seed text<NP.LL:=Nat.mod_lt _ Iq
theorem Bf (n:Nat) (h:n<NP.LL):lev (Ob n 32)=n:=by
 rw [Zh,yaj (Nat.lt_trans h (by decide+kernel))]
theorem Pe (seed:List UInt8):(sgA seed).length=32:=by rw [sgA,KE,zaj,Cd];rfl
theorem Tf (seed:List UInt8):(Fl seed).length=32:=by rw [Fl,List.length_drop,Cd]
theorem Cv (b:List UInt8):Gd b<NP.LL:=Nat.mod_lt _ Iq
theorem PO (seed text:List UInt8):Uh seed text<NP.LL:=Nat.mod_lt _ Iq
theorem Z5 (seed text other:List UInt8) (ho:other.length=32):Fn (xc seed) (sgR seed text++other) text=(other==Ob (sgS seed text) 32):=by
 obtain ⟨hg,hp⟩:=OV (NP.edw.mul NP.bE (lev (sgA seed)));have hS:=Y5 seed text;rw [Fn,List.drop_left' (Ng seed text),List.take_left' (Ng seed text),show Uc (xc seed)=true from hg,show Cx (xc seed)=_ from hp,Bool.true_and];have hpt:=NP.sign_point (Uh seed text) (Gd (sgR seed text++xc seed++text)) (lev (sgA seed));rw [show (Uh seed text+Gd (sgR seed text++xc seed++text)*lev (sgA seed))%NP.LL=sgS seed text from rfl] at hpt;by_cases h:lev other<NP.LL
 ·rw [decide_eq_true h,Bool.true_and,Bool.eq_iff_iff,beq_iff_eq,beq_iff_eq];constructor
  ·intro h2;have h3:=Gq (show Qd _=Qd (NP.edw.mul NP.bE (Uh seed text)) from h2);rw [←hpt] at h3;have h4:=NP.base_inj h hS (NP.add_cancel NP.edw h3);exact Dn _ _ (by rw [ho,Ta]) (by rw [Bf _ hS];exact h4)
  ·intro h2;rw [h2,Bf _ hS,hpt];rfl
 ·rw [decide_eq_false h,Bool.false_and];refine (beq_eq_false_iff_ne.2 fun h2=>h ?_).symm;rw [h2,Bf _ hS];exact hS
theorem Ry (seed text:List UInt8):Fn (xc seed) (Bg seed text) text=true:=by
 rw [Bg,Z5 seed text _ (Ta _ _),beq_self_eq_true]
theorem FT (seed other text:List UInt8) (h:Fn (xc other) (Bg seed text) text=true):
 (Uh seed text+Gd (sgR seed text++xc seed++text)*lev (sgA seed))%NP.LL=(Uh seed text+Gd (sgR seed text++xc other++text)*lev (sgA other))%NP.LL:=by
 obtain ⟨-,hp⟩:=OV (NP.edw.mul NP.bE (lev (sgA other)));have hS:=Y5 seed text;rw [Fn,Bg,List.drop_left' (Ng seed text),List.take_left' (Ng seed text),show Cx (xc other)=_ from hp,Bool.and_eq_true,Bool.and_eq_true,Bf _ hS,beq_iff_eq] at h;have h2:=Gq (show Qd _=Qd (NP.edw.mul NP.bE (Uh seed text)) from h.2.2);have hpt:=NP.sign_point (Uh seed text) (Gd (sgR seed text++xc other++text)) (lev (sgA other));rw [←hpt] at h2;exact NP.base_inj hS (Nat.mod_lt _ Iq) (NP.add_cancel NP.edw h2)
def Bc (E:Value) (w:World):Prop:=Yh w∧Bl w∧Md E w
theorem Bc.below {E:Value} {w w':World} (h:Bc E w) (hb:Below w.heap.size w w'):Bc E w':=⟨h.1.below hb,h.2.1.below hb,h.2.2.below hb⟩
def Jd (D:Option Addr) (ps:List (List UInt8)) (w:World):Prop:=xf w w.heap.size D ps
theorem Jd.below {D:Option Addr} {ps:List (List UInt8)} {w w':World} (h:Jd D ps w) (hb:Below w.heap.size w w'):Jd D ps w':=(xf.below h hb).more hb.size
theorem Jq {w:World} {g:Nat} {vs:List Value} {t:TypeId} {ps:List (List UInt8)} (hC:Ia w g vs t) (h:∀(j:Nat) (us:List UInt8),ps[j]? =some us→∃v,vs[j]? =some v∧Of w w.heap.size v us):xf w w.heap.size (some ⟨g,0,none⟩) ps:=
 .inr ⟨g,0,rfl,hC.lt,fun j us hu=>by
  obtain ⟨v,h1,h2⟩:=h j us hu;exact ⟨v,by rw [Nat.zero_add];exact hC.get h1,h2⟩⟩
theorem Ct {w:World} {g:Nat} {l:List UInt8} {t:TypeId} (hC:Ia w g (l.map Fa) t) (n c:Nat) (hn:l.length=n) (hc:n≤c) (hm:c≤maxLen):Of w w.heap.size (.slice (some ⟨g,0,none⟩) n c) l:=
 ⟨_,c,by rw [hn],Ia.row (m:=l.length) hC (by rw [Zaj (by rw [Uaj];exact Xaj _)]),by rw [hn];exact hc,hm,fun h=>by cases h⟩
abbrev qJ:List Value:=List.replicate 64 (Fa 0)
theorem Kq:∀w,(zeroValue 27).run Tryz.prog w=.ok (.agg qJ.toArray) w:=(zero_of_info (P:=Tryz.prog) (t:=27) (v:=.agg qJ.toArray) (n:=64) (by kernel_rfl)).1
theorem Ie:(Tryz.prog.info? 27).map (·.size)=some 64:=by kernel_rfl
theorem y9 (g:Nat) (w:World):(Instr.sliceAt 26 (.pointer (some ⟨g,0,none⟩)) none (some (.int .i64 32)) none).run Tryz.prog w=.ok (.slice (some ⟨g,0,none⟩) 32 64) w:=by kernel_rfl
theorem z5 (g:Nat) (w:World):(Instr.sliceAt 26 (.pointer (some ⟨g,0,none⟩)) (some (.int .i64 32)) none none).run Tryz.prog w=.ok (.slice (some ⟨g,32,none⟩) 32 32) w:=by kernel_rfl
theorem Di (A:Option Addr) (n c:Nat) (w:World):(Instr.buildSlice 36 1 #[(0,.slice A n c)]).run Tryz.prog w=.ok (.slice (some ⟨w.heap.size,0,none⟩) 1 1) (w.alloc (.cells ([.slice A n c].map Af).toArray 24)):=by kernel_rfl
theorem GT (A B:Option Addr) (n c m d:Nat) (w:World):(Instr.buildSlice 36 2 #[(0,.slice A n c),(1,.slice B m d)]).run Tryz.prog w=.ok (.slice (some ⟨w.heap.size,0,none⟩) 2 2) (w.alloc (.cells ([.slice A n c,.slice B m d].map Af).toArray 24)):=by kernel_rfl
theorem OY (A B:Option Addr) (n c m d:Nat) (w:World):(Instr.buildSlice 128 2 #[(0,.slice A n c),(1,.slice B m d)]).run Tryz.prog w=.ok (.slice (some ⟨w.heap.size,0,none⟩) 2 2) (w.alloc (.cells ([.slice A n c,.slice B m d].map Af).toArray 36)):=by kernel_rfl
theorem QO:∃i0,Tryz.prog.info? 23=some i0∧i0.size=32∧i0.zero=some (.agg Xa.toArray):=by
 have h:(Tryz.prog.info? 23).map (fun i=>(i.size,i.zero))=some (32,some (.agg Xa.toArray)):=by kernel_rfl
 obtain ⟨i0,h1,h2⟩:=Option.map_eq_some_iff.1 h;exact ⟨i0,h1,(Prod.mk.inj h2).1,(Prod.mk.inj h2).2⟩
theorem xG (n:Nat):∃A:List Value,A.length=n∧A.toArray=(Array.range n).map (fun x=>(Value.cells (.agg Xa.toArray))[x%(Value.cells (.agg Xa.toArray)).size]!):=
 ⟨((Array.range n).map (fun x=>(Value.cells (.agg Xa.toArray))[x%(Value.cells (.agg Xa.toArray)).size]!)).toList,by simp,Array.toArray_toList⟩
theorem FD (l:List UInt8):(Ca l).cells=(l.map Fa).toArray:=Eq.trans (b:=(l.map Fa).toArray) rfl rfl
theorem PY (a:List UInt8) (ha:a.length=32) (w:World):(Instr.buildSlice 76 1 #[(0,Ca a)]).run Tryz.prog w=.ok (.slice (some ⟨w.heap.size,0,none⟩) 1 1) (w.alloc (.cells (a.map Fa).toArray 23)):=by
 obtain ⟨i0,hi0,hs0,hz0⟩:=QO;refine run_buildSlice w _ _ 1 _ _ i0 _ (by kernel_rfl) hi0 hz0 (by rw [hs0];decide) (by rw [hs0];decide) ?_;rw [hs0];obtain ⟨A,hl,hA⟩:=xG (1*32);rw [←hA];have hla:(a.map Fa).length=32:=by rw [Uaj,ha]
 simp only [Instr.fill,FD];rw [if_neg (by simp [ha,hl])];rw [Nat.zero_mul,Cn (a.map Fa) 0 A (by omega),Xb _ _ (by omega)]
theorem yG (a b:List UInt8) (ha:a.length=32) (hb:b.length=32) (w:World):(Instr.buildSlice 76 2 #[(0,Ca a),(1,Ca b)]).run Tryz.prog w=.ok (.slice (some ⟨w.heap.size,0,none⟩) 2 2) (w.alloc (.cells ((a++b).map Fa).toArray 23)):=by
 obtain ⟨i0,hi0,hs0,hz0⟩:=QO;refine run_buildSlice w _ _ 2 _ _ i0 _ (by kernel_rfl) hi0 hz0 (by rw [hs0];decide) (by rw [hs0];decide) ?_;rw [hs0];obtain ⟨A,hl,hA⟩:=xG (2*32);rw [←hA];have hla:(a.map Fa).length=32:=by rw [Uaj,ha]
 have hlb:(b.map Fa).length=32:=by rw [Uaj,hb]
 simp only [Instr.fill,FD];rw [if_neg (by simp [ha,hl])];rw [Nat.zero_mul,Cn (a.map Fa) 0 A (by omega)];have l1:(Ub A 0 (a.map Fa)).length=64:=by rw [Lj _ _ _ (by omega)];omega
 rw [if_neg (by simp [hb,l1])];rw [Cn (b.map Fa) _ _ (by omega),List.map_append];generalize a.map Fa=s at *;generalize b.map Fa=t at *;have e:Ub (Ub A 0 s) (1*32) t=s++t:=by
  have e1:Ub A 0 s=s++A.drop 32:=by rw [Ub,List.take_zero,List.nil_append,Nat.zero_add,hla]
  rw [e1] at l1 ⊢;rw [Ub,show List.drop (1*32+t.length) (s++List.drop 32 A)= [] from List.drop_eq_nil_of_le (by omega),List.append_nil,List.take_append_of_le_length (by omega),Zaj (by omega)]
 rw [e]
theorem NE (wb lo hi:List UInt8) (w:World)
 (Hlo:Hid (lo.length=32))
 (Hhi:Hid (hi.length=32))
 (HLO:Hid ((wb.drop 0).take 32=lo))
 (HHI:Hid ((wb.drop 32).take 32=hi)):
 Calls Tryz.prog 24 #[Ca wb] w (gvn (.tuple #[Ca lo,Ca hi]) w):=by
 go_enter Tryz.func24,Tryz.ntmps24;go_wp2_with (first
  |(refine Ra rfl 26 (.tmp 0) rfl (wb.map Fa) rfl ?_
    intro w1 hb1 hvx1;have hB1:=hb1;have hgex:w.heap.size≤w.heap.size:=Xaj _;clear hb1;try simp only [La]
    skip)
  |(refine Ma (o:=⟨some 2,_,_,_,_,_⟩) rfl 23 rfl Xa Zb ?_
    intro w2 hb2 hvr2;have hB2:=Ba hB1 hb2;have hger:w.heap.size≤w1.heap.size:=hB1.size;have hvx2:=hvx1.on hb2;have hnexr:=Vaj hvx1.lt;clear hB1 hvx1 hb2;try simp only [La]
    skip)
  |(refine Ma (o:=⟨some 3,_,_,_,_,_⟩) rfl 23 rfl Xa Zb ?_
    intro w3 hb3 hvt3;have hB3:=Ba hB2 hb3;have hget:w.heap.size≤w2.heap.size:=hB2.size;have hvx3:=hvx2.on hb3;have hnext:=Vaj hvx2.lt;have hvr3:=hvr2.on hb3;have hnert:=Vaj hvr2.lt;clear hB2 hvx2 hvr2 hb3;try simp only [La]
    skip))
 generalize hqr:w1.heap.size=gr at *;clear hqr;generalize hqt:w2.heap.size=gt at *;clear hqt;replace hvx3:=hvx3.drew;replace hvr3:=hvr3.drew;replace hvt3:=hvt3.drew;rename_i K hKK;have hB4:=(show Below w.heap.size w w3.drew from hB3.drew);clear hB3;refine wp_region_any (by kernel_rfl) ?_;refine wpAny_of_held (S:=fun w'=>Ia w' (w.heap.size) (wb.map Fa) 26) _ _ _ _ ?_;show wpAnyH _ _ _ _ _ _ _ _ w3.drew;simp only [List.size_toArray,List.length_cons,List.length_nil,Nat.reduceAdd,Array.replicate_succ,Array.replicate_zero,List.push_toArray,List.nil_append,List.cons_append];generalize w3.drew=w4 at *;refine wpAnyH_take (i:=0) (oi:=⟨some 4,_,_,_,_,_⟩) (v:=(.slice (some ⟨w.heap.size,0,none⟩) 32 64)) rfl (by kernel_rfl) (by kernel_rfl) (by kernel_rfl) (fun _ _ _ h=>h) (Or.inl ⟨by rfl,?_⟩) hvx3 ?_
 ·intro w8 h8;exact Dr _ _ _ _ _ _ _ rfl _ rfl _ w8 (y9 _ w8)
 try simp only [La]
 refine wpAnyH_take (i:=1) (oi:=⟨some 5,_,_,_,_,_⟩) (v:=(.pointer (some ⟨w.heap.size,0,none⟩))) rfl (by kernel_rfl) (by kernel_rfl) (by kernel_rfl) (fun _ _ _ h=>h) (Or.inl ⟨by rfl,?_⟩) hvx3 ?_
 ·intro w8 h8;exact Rp _ _ _ _ rfl _ rfl _ w8 (Tz _ _ _ w8)
 try simp only [La]
 refine wpAnyH_take (i:=2) (oi:=⟨some 6,_,_,_,_,_⟩) (v:=(Ca lo)) rfl (by kernel_rfl) (by kernel_rfl) (by kernel_rfl) (fun _ _ _ h=>h) (Or.inl ⟨by rfl,?_⟩) hvx3 ?_
 ·intro w8 h8;exact Yc _ _ _ _ rfl _ _ rfl w8 (Uu h8 0 HLO.out Hlo.out)
 try simp only [La]
 refine wpAnyH_take (i:=3) (oi:=⟨some 7,_,_,_,_,_⟩) (v:=(.slice (some ⟨w.heap.size,32,none⟩) 32 32)) rfl (by kernel_rfl) (by kernel_rfl) (by kernel_rfl) (fun _ _ _ h=>h) (Or.inl ⟨by rfl,?_⟩) hvx3 ?_
 ·intro w8 h8;exact Dr _ _ _ _ _ _ _ rfl _ rfl _ w8 (z5 _ w8)
 try simp only [La]
 refine wpAnyH_take (i:=4) (oi:=⟨some 8,_,_,_,_,_⟩) (v:=(.pointer (some ⟨w.heap.size,32,none⟩))) rfl (by kernel_rfl) (by kernel_rfl) (by kernel_rfl) (fun _ _ _ h=>h) (Or.inl ⟨by rfl,?_⟩) hvx3 ?_
 ·intro w8 h8;exact Rp _ _ _ _ rfl _ rfl _ w8 (Tz _ _ _ w8)
 try simp only [La]
 refine wpAnyH_take (i:=5) (oi:=⟨some 9,_,_,_,_,_⟩) (v:=(Ca hi)) rfl (by kernel_rfl) (by kernel_rfl) (by kernel_rfl) (fun _ _ _ h=>h) (Or.inl ⟨by rfl,?_⟩) hvx3 ?_
 ·intro w8 h8;exact Yc _ _ _ _ rfl _ _ rfl w8 (Uu h8 32 HHI.out Hhi.out)
 try simp only [La]
 refine wpAnyH_all (rs:=[6]) (by kernel_rfl) (by decide) fun i hi=>?_;obtain rfl:=List.mem_singleton.1 hi;clear hi;refine wpOp_step rfl fun K1 hK1=>?_;rw [if_pos (by rfl)];refine wp_store_mid 23 (.tmp 2) (.tmp 6) rfl gr 0 (lo.map Fa).toArray rfl rfl (by rw [List.size_toArray,Uaj,Hlo.out];exact hvr3.there 0 32 (by rw [show (Xa).length=32 from rfl];decide)) (by rw [List.size_toArray,Uaj,Hlo.out];exact za) (Ab _) (hK1 _ _ ?_);have hC2:=hvr3.setCells (cs:=lo.map Fa) (o:=0) (by rw [Uaj,Hlo.out,show (Xa).length=32 from rfl];decide);rw [Xb _ _ (by rw [Uaj,Hlo.out,show (Xa).length=32 from rfl])] at hC2;have hb5:But gr w4 (w4.setCells gr 0 (lo.map Fa)):=(But.refl _ _).setCells _ _;have hB5:Below w.heap.size w (w4.setCells gr 0 (lo.map Fa)):=hB4.trans (hb5.below hger hB4.size);change (Ia (w4.setCells gr 0 (lo.map Fa)) (w.heap.size) (wb.map Fa) 26)∧wpAnyH _ _ _ _ _ _ _ _ (w4.setCells gr 0 (lo.map Fa));have hvx5:=hvx3.but hb5 hnexr;have hvt5:=hvt3.but hb5 (Ne.symm hnert);have hvr5:=hC2;clear hC2 hb5 hK1 K1 hB4 hvr3 hvx3 hvt3;generalize w4.setCells gr 0 (lo.map Fa)=w5 at *;refine ⟨hvx5,?_⟩;refine wpAnyH_all (rs:=[7]) (by kernel_rfl) (by decide) fun i hi=>?_;obtain rfl:=List.mem_singleton.1 hi;clear hi;refine wpOp_step rfl fun K1 hK1=>?_;rw [if_pos (by rfl)];refine wp_store_mid 23 (.tmp 3) (.tmp 9) rfl gt 0 (hi.map Fa).toArray rfl rfl (by rw [List.size_toArray,Uaj,Hhi.out];exact hvt5.there 0 32 (by rw [show (Xa).length=32 from rfl];decide)) (by rw [List.size_toArray,Uaj,Hhi.out];exact za) (Ab _) (hK1 _ _ ?_);have hC2:=hvt5.setCells (cs:=hi.map Fa) (o:=0) (by rw [Uaj,Hhi.out,show (Xa).length=32 from rfl];decide);rw [Xb _ _ (by rw [Uaj,Hhi.out,show (Xa).length=32 from rfl])] at hC2;have hb6:But gt w5 (w5.setCells gt 0 (hi.map Fa)):=(But.refl _ _).setCells _ _;have hB6:Below w.heap.size w (w5.setCells gt 0 (hi.map Fa)):=hB5.trans (hb6.below hget hB5.size);change (Ia (w5.setCells gt 0 (hi.map Fa)) (w.heap.size) (wb.map Fa) 26)∧wpAnyH _ _ _ _ _ _ _ _ (w5.setCells gt 0 (hi.map Fa));have hvx6:=hvx5.but hb6 hnext;have hvr6:=hvr5.but hb6 hnert;have hvt6:=hC2;clear hC2 hb6 hK1 K1 hB5 hvt5 hvx5 hvr5;generalize w5.setCells gt 0 (hi.map Fa)=w6 at *;refine ⟨hvx6,?_⟩;refine wpAnyH_done (by kernel_rfl) ?_ _;show Exit.then K _ Exit.normal (⟨((Ca wb)::(.pointer (some ⟨w.heap.size,0,none⟩))::(.pointer (some ⟨gr,0,none⟩))::(.pointer (some ⟨gt,0,none⟩))::(.slice (some ⟨w.heap.size,0,none⟩) 32 64)::(.pointer (some ⟨w.heap.size,0,none⟩))::(Ca lo)::(.slice (some ⟨w.heap.size,32,none⟩) 32 32)::(.pointer (some ⟨w.heap.size,32,none⟩))::(Ca hi)::[]).toArray,[]⟩:Act) w6;simp only [Exit.then];refine hKK _ _ ?_;clear hKK K
 go_wp2
 exact OJ Tryz.results24 gr gt (lo.map Fa) (hi.map Fa) rfl rfl hvr6 hvt6 Tryz.underlying23 rfl za (by rw [Uaj,Hlo.out]) Tryz.underlying23 rfl za (by rw [Uaj,Hhi.out]) rfl ⟨rfl,hB6⟩
def GD (kb:List UInt8) (g_base:Nat) (gr:Nat) (b:List Nat) (t:List Nat) (o:List UInt8):List Value:=
 (Ca kb)::ptr g_base::ptr gr::(Aa b)::(Ca kb)::(Aa t)::(Ca o)::[]
theorem IT (b t:List Nat) (kb o:List UInt8) (E:Value) (w:World)
 (Hkb:Hid (kb.length=32))
 (Ho:Hid (o.length=32))
 (CB:Hid (∀W,Bc E W→Calls Tryz.prog 40 #[] W (gvn (Aa b) W)))
 (CT:Hid (∀W,Bc E W→Calls Tryz.prog 41 #[Aa b,Ca kb] W (gvn (Aa t) W)))
 (CY:Hid (∀W,Calls Tryz.prog 29 #[Aa t] W (gvn (Ca o) W)))
 (hS:Bc E w):
 Calls Tryz.prog 14 #[Ca kb] w (gvn (Ca o) w):=by
 go_enter Tryz.func14,Tryz.ntmps14;go_wp2_with (first
  |(refine Rb rfl 23 (.tmp 0) rfl kb rfl ?_
    intro w1 hb1 hvk1 hz;clear hz;have hB1:=hb1;have hgek:w.heap.size≤w.heap.size:=Xaj _;clear hb1;try simp only [La]
    skip)
  |(refine Ma (o:=⟨some 2,_,_,_,_,_⟩) rfl 23 rfl Xa Zb ?_
    intro w2 hb2 hvr2;have hB2:=Ba hB1 hb2;have hger:w.heap.size≤w1.heap.size:=hB1.size;have hvk2:=hvk1.on hb2;have hnekr:=Vaj hvk1.lt;clear hB1 hvk1 hb2;try simp only [La]
    skip))
 generalize hqr:w1.heap.size=gr at *;clear hqr;replace hvk2:=hvk2.drew;replace hvr2:=hvr2.drew;have hBq:=(show Below w.heap.size w w2.drew from hB2.drew);refine wp_region_any (by kernel_rfl) ?_;refine Ya (L:=[0,1,2,3]) (by kernel_rfl) _ _ (GD kb w.heap.size gr b t o) [] 23 Xa [0,1,2] (by kernel_rfl) (by kernel_rfl) ?_ Zb ?_ (by rfl) ?_ 1 (by kernel_rfl) ?_
 ·intro p hp;exact absurd hp List.not_mem_nil
 ·exact Aak rfl (Aak rfl (Aak rfl (Qa)))
 ·refine Aak (.inr (mC 3 rfl Tryz.func40 fun w hb=>CB.out w (hS.below (Ba hBq hb)))) ?_;refine Aak (.inr (mL 4 rfl fun w hb=>Yf (hvk2.on hb) Hkb.out)) ?_;refine Aak (.inr (mC 5 rfl Tryz.func41 fun w hb=>CT.out w (hS.below (Ba hBq hb)))) ?_;refine Aak (.inr (mC 6 rfl Tryz.func29 fun w hb=>CY.out w)) ?_;exact Qa
 intro w3 g hb3 hN3 hap3;clear hN3 hap3;have hB3:=Ba (show Below w.heap.size w w2.drew from hB2.drew) hb3;have hvk3:=hvk2.on hb3;have hvr3:=hvr2.on hb3;clear hB2 hvk2 hvr2 hb3 hBq;refine Bb 4 rfl (by kernel_rfl) ?_;refine Ka rfl 23 (.tmp 2) (.tmp 6) rfl gr 32 Xa (o.map Fa) rfl rfl hvr3 rfl za (by rw [Uaj,Ho.out]) (Ab _) ?_;intro w4 hb4 hvr4 hz4;have hB4:Below w.heap.size w w4:=hB3.trans (hb4.below hger hB3.size);have hvk4:=hvk3.but hb4 hnekr;clear hB3 hvr3 hb4 hz4 hvk3;rename_i K hKK;show Exit.then K _ Exit.normal (⟨(GD kb w.heap.size gr b t o).toArray,[]⟩:Act) w4;simp only [Exit.then];refine hKK _ _ ?_;clear hKK K g;simp only [GD,ptr]
 go_wp2
 exact qc Tryz.results14 gr (o.map Fa) rfl hvr4 Tryz.underlying23 rfl za (by rw [Uaj,Ho.out]) rfl ⟨rfl,hB4⟩
theorem OE (ks wd lo hi ka:List UInt8) (E:Value) (w:World)
 (Hlo:Hid (lo.length=32))
 (Hhi:Hid (hi.length=32))
 (Hka:Hid (ka.length=32))
 (CS:Hid (∀gp gs W,Ia W gp ([.slice (some ⟨gs,0,none⟩) 32 32].map Af) 24→Ia W gs (ks.map Fa) 23→Bc E W→Calls Tryz.prog 36 #[.slice (some ⟨gp,0,none⟩) 1 1] W (gvn (Ca wd) W)))
 (CH:Hid (∀W,Calls Tryz.prog 24 #[Ca wd] W (gvn (.tuple #[Ca lo,Ca hi]) W)))
 (CC:Hid (∀W,Calls Tryz.prog 37 #[Ca lo] W (gvn (Ca ka) W)))
 (hS:Bc E w):
 Calls Tryz.prog 12 #[Ca ks] w (gvn (.tuple #[Ca ka,Ca hi]) w):=by
 go_enter Tryz.func12,Tryz.ntmps12;go_wp2_with (first
  |(refine Rb rfl 23 (.tmp 0) rfl ks rfl ?_
    intro w1 hb1 hvs1 hz;clear hz;have hB1:=hb1;have hges:w.heap.size≤w.heap.size:=Xaj _;clear hb1;try simp only [La]
    skip)
  |(refine Ma (o:=⟨some 2,_,_,_,_,_⟩) rfl 23 rfl Xa Zb ?_
    intro w2 hb2 hvr2;have hB2:=Ba hB1 hb2;have hger:w.heap.size≤w1.heap.size:=hB1.size;have hvs2:=hvs1.on hb2;have hnesr:=Vaj hvs1.lt;clear hB1 hvs1 hb2;try simp only [La]
    skip)
  |(refine Ma (o:=⟨some 3,_,_,_,_,_⟩) rfl 23 rfl Xa Zb ?_
    intro w3 hb3 hvt3;have hB3:=Ba hB2 hb3;have hget:w.heap.size≤w2.heap.size:=hB2.size;have hvs3:=hvs2.on hb3;have hnest:=Vaj hvs2.lt;have hvr3:=hvr2.on hb3;have hnert:=Vaj hvr2.lt;clear hB2 hvs2 hvr2 hb3;try simp only [La]
    skip)
  |(refine Ji rfl 36 1 [(0,.tmp 7)] rfl [(0,.slice (some ⟨w.heap.size,0,none⟩) 32 32)] rfl 24 ([.slice (some ⟨w.heap.size,0,none⟩) 32 32].map Af) (Di _ _ _) ?_
    intro w4 hb4 hvl4;have hB4:=Ba hB3 hb4;have hgel:w.heap.size≤w3.heap.size:=hB3.size;have hvs4:=hvs3.on hb4;have hnesl:=Vaj hvs3.lt;have hvr4:=hvr3.on hb4;have hnerl:=Vaj hvr3.lt;have hvt4:=hvt3.on hb4;have hnetl:=Vaj hvt3.lt;clear hB3 hvs3 hvr3 hvt3 hb4;try simp only [La]
    skip))
 generalize hqr:w1.heap.size=gr at *;clear hqr;generalize hqt:w2.heap.size=gt at *;clear hqt;generalize hql:w3.heap.size=gl at *;clear hql;refine ((CS.out _ _) w4 hvl4 hvs4 (hS.below hB4)).mono ?_;rintro e w5 ⟨rfl,hb5⟩;have hB5:=Ba hB4 hb5;have hvs5:=hvs4.on hb5;have hvr5:=hvr4.on hb5;have hvt5:=hvt4.on hb5;have hvl5:=hvl4.on hb5;clear hB4 hvs4 hvr4 hvt4 hvl4 hb5;go_wp2_with fail
 refine (CH.out w5).mono ?_;rintro e w6 ⟨rfl,hb6⟩;have hB6:=Ba hB5 hb6;have hvs6:=hvs5.on hb6;have hvr6:=hvr5.on hb6;have hvt6:=hvt5.on hb6;have hvl6:=hvl5.on hb6;clear hB5 hvs5 hvr5 hvt5 hvl5 hb6;go_wp2_with (first
  |(refine Ma (o:=⟨some 4,_,_,_,_,_⟩) rfl 23 rfl Xa Zb ?_
    intro w7 hb7 hva7;have hB7:=Ba hB6 hb7;have hgea:w.heap.size≤w6.heap.size:=hB6.size;have hvs7:=hvs6.on hb7;have hnesa:=Vaj hvs6.lt;have hvr7:=hvr6.on hb7;have hnera:=Vaj hvr6.lt;have hvt7:=hvt6.on hb7;have hneta:=Vaj hvt6.lt;have hvl7:=hvl6.on hb7;have hnela:=Vaj hvl6.lt;clear hB6 hvs6 hvr6 hvt6 hvl6 hb7;try simp only [La]
    skip)
  |(refine Ma (o:=⟨some 5,_,_,_,_,_⟩) rfl 23 rfl Xa Zb ?_
    intro w8 hb8 hvp8;have hB8:=Ba hB7 hb8;have hgep:w.heap.size≤w7.heap.size:=hB7.size;have hvs8:=hvs7.on hb8;have hnesp:=Vaj hvs7.lt;have hvr8:=hvr7.on hb8;have hnerp:=Vaj hvr7.lt;have hvt8:=hvt7.on hb8;have hnetp:=Vaj hvt7.lt;have hvl8:=hvl7.on hb8;have hnelp:=Vaj hvl7.lt;have hva8:=hva7.on hb8;have hneap:=Vaj hva7.lt;clear hB7 hvs7 hvr7 hvt7 hvl7 hva7 hb8;try simp only [La]
    skip)
  |(refine Ka rfl 23 (.tmp 4) (.tmp 11) rfl w6.heap.size 32 Xa (lo.map Fa) rfl rfl hva8 rfl za (by rw [Uaj,Hlo.out]) (Ab _) ?_
    intro w9 hb9 hva9 hz9;have hB9:Below w.heap.size w w9:=hB8.trans (hb9.below hgea hB8.size);have hvs9:=hvs8.but hb9 hnesa;have hvr9:=hvr8.but hb9 hnera;have hvt9:=hvt8.but hb9 hneta;have hvl9:=hvl8.but hb9 hnela;have hvp9:=hvp8.but hb9 (Ne.symm hneap);clear hB8 hva8 hb9 hz9 hvs8 hvr8 hvt8 hvl8 hvp8;skip)
  |(refine Ka rfl 23 (.tmp 5) (.tmp 12) rfl w7.heap.size 32 Xa (hi.map Fa) rfl rfl hvp9 rfl za (by rw [Uaj,Hhi.out]) (Ab _) ?_
    intro w10 hb10 hvp10 hz10;have hB10:Below w.heap.size w w10:=hB9.trans (hb10.below hgep hB9.size);have hvs10:=hvs9.but hb10 hnesp;have hvr10:=hvr9.but hb10 hnerp;have hvt10:=hvt9.but hb10 hnetp;have hvl10:=hvl9.but hb10 hnelp;have hva10:=hva9.but hb10 hneap;clear hB9 hvp9 hb10 hz10 hvs9 hvr9 hvt9 hvl9 hva9;skip))
 generalize hqa:w6.heap.size=ga at *;clear hqa;generalize hqp:w7.heap.size=gp at *;clear hqp;replace hvs10:=hvs10.drew;replace hvr10:=hvr10.drew;replace hvt10:=hvt10.drew;replace hvl10:=hvl10.drew;replace hva10:=hva10.drew;replace hvp10:=hvp10.drew;rename_i K hKK;have hB11:=(show Below w.heap.size w w10.drew from hB10.drew);clear hB10;refine wp_region_any (by kernel_rfl) ?_;refine wpAny_of_held (S:=fun w'=>Ia w' gp (hi.map Fa) 23) _ _ _ _ ?_;show wpAnyH _ _ _ _ _ _ _ _ w10.drew;simp only [List.size_toArray,List.length_cons,List.length_nil,Nat.reduceAdd,Array.replicate_succ,Array.replicate_zero,List.push_toArray,List.nil_append,List.cons_append];generalize w10.drew=w11 at *;refine wpAnyH_take (i:=2) (oi:=⟨some 15,_,_,_,_,_⟩) (v:=Ca hi) rfl (by kernel_rfl) (by kernel_rfl) (by kernel_rfl) (fun _ _ _ h=>h) (Or.inl ⟨by rfl,?_⟩) hvp10 ?_
 ·intro w8 h8;exact Yc _ _ _ _ rfl _ _ rfl _ (Yf h8 Hhi.out)
 refine wpAnyH_all (rs:=[0]) (by kernel_rfl) (by decide) fun i hi=>?_;obtain rfl:=List.mem_singleton.1 hi;clear hi;refine wpOp_step rfl fun K1 hK1=>?_;rw [if_pos (by rfl)];refine Mc (Ca lo) (Yc _ _ _ _ rfl _ _ rfl _ (Yf hva10 Hlo.out)) (hK1 _ _ ⟨hvp10,?_⟩);clear hK1 K1;refine wpAnyH_all (rs:=[1]) (by kernel_rfl) (by decide) fun i hi=>?_;obtain rfl:=List.mem_singleton.1 hi;clear hi;refine wpOp_step rfl fun K1 hK1=>?_;rw [if_pos (by rfl)];refine BL (Ca ka) 37 _ _ rfl [Ca lo] rfl (Ef Tryz.func37 rfl rfl) (CC.out w11) fun w12 hb12=>hK1 _ _ ⟨hvp10.on hb12,?_⟩;clear hK1 K1;have hB12:=Ba hB11 hb12;have hvs12:=hvs10.on hb12;have hvr12:=hvr10.on hb12;have hvt12:=hvt10.on hb12;have hvl12:=hvl10.on hb12;have hva12:=hva10.on hb12;have hvp12:=hvp10.on hb12;clear hB11 hvs10 hvr10 hvt10 hvl10 hva10 hvp10 hb12;refine wpAnyH_all (rs:=[3]) (by kernel_rfl) (by decide) fun i hi=>?_;obtain rfl:=List.mem_singleton.1 hi;clear hi;refine wpOp_step rfl fun K1 hK1=>?_;rw [if_pos (by rfl)];refine wp_store_mid 23 (.tmp 2) (.tmp 14) rfl gr 0 (ka.map Fa).toArray rfl rfl (by rw [List.size_toArray,Uaj,Hka.out];exact hvr12.there 0 32 (by rw [show (Xa).length=32 from rfl];decide)) (by rw [List.size_toArray,Uaj,Hka.out];exact za) (Ab _) (hK1 _ _ ?_);have hC2:=hvr12.setCells (cs:=ka.map Fa) (o:=0) (by rw [Uaj,Hka.out,show (Xa).length=32 from rfl];decide);rw [Xb _ _ (by rw [Uaj,Hka.out,show (Xa).length=32 from rfl])] at hC2;have hb13:But gr w12 (w12.setCells gr 0 (ka.map Fa)):=(But.refl _ _).setCells _ _;have hB13:Below w.heap.size w (w12.setCells gr 0 (ka.map Fa)):=hB12.trans (hb13.below hger hB12.size);change Ia (w12.setCells gr 0 (ka.map Fa)) gp (hi.map Fa) 23∧wpAnyH _ _ _ _ _ _ _ _ (w12.setCells gr 0 (ka.map Fa));have hvs13:=hvs12.but hb13 hnesr;have hvt13:=hvt12.but hb13 (Ne.symm hnert);have hvl13:=hvl12.but hb13 (Ne.symm hnerl);have hva13:=hva12.but hb13 (Ne.symm hnera);have hvp13:=hvp12.but hb13 (Ne.symm hnerp);have hvr13:=hC2;clear hC2 hb13 hK1 K1 hB12 hvr12 hvs12 hvt12 hvl12 hva12 hvp12;generalize w12.setCells gr 0 (ka.map Fa)=w13 at *;refine ⟨hvp13,?_⟩;refine wpAnyH_all (rs:=[4]) (by kernel_rfl) (by decide) fun i hi=>?_;obtain rfl:=List.mem_singleton.1 hi;clear hi;refine wpOp_step rfl fun K1 hK1=>?_;rw [if_pos (by rfl)];refine wp_store_mid 23 (.tmp 3) (.tmp 15) rfl gt 0 (hi.map Fa).toArray rfl rfl (by rw [List.size_toArray,Uaj,Hhi.out];exact hvt13.there 0 32 (by rw [show (Xa).length=32 from rfl];decide)) (by rw [List.size_toArray,Uaj,Hhi.out];exact za) (Ab _) (hK1 _ _ ?_);have hC2:=hvt13.setCells (cs:=hi.map Fa) (o:=0) (by rw [Uaj,Hhi.out,show (Xa).length=32 from rfl];decide);rw [Xb _ _ (by rw [Uaj,Hhi.out,show (Xa).length=32 from rfl])] at hC2;have hb14:But gt w13 (w13.setCells gt 0 (hi.map Fa)):=(But.refl _ _).setCells _ _;have hB14:Below w.heap.size w (w13.setCells gt 0 (hi.map Fa)):=hB13.trans (hb14.below hget hB13.size);change Ia (w13.setCells gt 0 (hi.map Fa)) gp (hi.map Fa) 23∧wpAnyH _ _ _ _ _ _ _ _ (w13.setCells gt 0 (hi.map Fa));have hvs14:=hvs13.but hb14 hnest;have hvr14:=hvr13.but hb14 hnert;have hvl14:=hvl13.but hb14 (Ne.symm hnetl);have hva14:=hva13.but hb14 (Ne.symm hneta);have hvp14:=hvp13.but hb14 (Ne.symm hnetp);have hvt14:=hC2;clear hC2 hb14 hK1 K1 hB13 hvt13 hvs13 hvr13 hvl13 hva13 hvp13;generalize w13.setCells gt 0 (hi.map Fa)=w14 at *;refine ⟨hvp14,?_⟩;refine wpAnyH_done (by kernel_rfl) ?_ _;show Exit.then K _ Exit.normal (⟨((Ca ks)::(.pointer (some ⟨w.heap.size,0,none⟩))::(.pointer (some ⟨gr,0,none⟩))::(.pointer (some ⟨gt,0,none⟩))::(.pointer (some ⟨ga,0,none⟩))::(.pointer (some ⟨gp,0,none⟩))::(.tuple #[Ca lo,Ca hi])::(.slice (some ⟨w.heap.size,0,none⟩) 32 32)::(.slice (some ⟨gl,0,none⟩) 1 1)::(Ca wd)::(.tuple #[Ca lo,Ca hi])::(Ca lo)::(Ca hi)::(Ca lo)::(Ca ka)::(Ca hi)::[]).toArray,[]⟩:Act) w14;simp only [Exit.then];refine hKK _ _ ?_;clear hKK K
 go_wp2
 exact OJ Tryz.results12 gr gt (ka.map Fa) (hi.map Fa) rfl rfl hvr14 hvt14 Tryz.underlying23 rfl za (by rw [Uaj,Hka.out]) Tryz.underlying23 rfl za (by rw [Uaj,Hhi.out]) rfl ⟨rfl,hB14⟩
theorem PE (ks ka kp o:List UInt8) (E:Value) (w:World)
 (Hks:Hid (ks.length=32))
 (Hka:Hid (ka.length=32))
 (Hkp:Hid (kp.length=32))
 (Ho:Hid (o.length=32))
 (CS:Hid (∀W,Bc E W→Calls Tryz.prog 12 #[Ca ks] W (gvn (.tuple #[Ca ka,Ca kp]) W)))
 (CB:Hid (∀W,Bc E W→Calls Tryz.prog 14 #[Ca ka] W (gvn (Ca o) W)))
 (hS:Bc E w):
 Calls Tryz.prog 7 #[Ca ks] w (gvn (Ca o) w):=by
 go_enter Tryz.func7,Tryz.ntmps7;go_wp2_with (first
  |(refine Rb rfl 23 (.tmp 0) rfl ks rfl ?_
    intro w1 hb1 hvs1 hz;clear hz;have hB1:=hb1;have hges:w.heap.size≤w.heap.size:=Xaj _;clear hb1;try simp only [La]
    skip)
  |(refine Ma (o:=⟨some 2,_,_,_,_,_⟩) rfl 23 rfl Xa Zb ?_
    intro w2 hb2 hvr2;have hB2:=Ba hB1 hb2;have hger:w.heap.size≤w1.heap.size:=hB1.size;have hvs2:=hvs1.on hb2;have hnesr:=Vaj hvs1.lt;clear hB1 hvs1 hb2;try simp only [La]
    skip)
  |(refine Tc rfl 23 (.tmp 1) rfl w.heap.size 32 ks 5 rfl hvs2 Tryz.underlying23 za Hks.out ?_
    try simp only [La]
    skip))
 generalize hqr:w1.heap.size=gr at *;clear hqr;refine (CS.out w2 (hS.below hB2)).mono ?_;rintro e w3 ⟨rfl,hb3⟩;have hB3:=Ba hB2 hb3;have hvs3:=hvs2.on hb3;have hvr3:=hvr2.on hb3;clear hB2 hvs2 hvr2 hb3;go_wp2_with (first
  |(refine Ma (o:=⟨some 3,_,_,_,_,_⟩) rfl 23 rfl Xa Zb ?_
    intro w4 hb4 hva4;have hB4:=Ba hB3 hb4;have hgea:w.heap.size≤w3.heap.size:=hB3.size;have hvs4:=hvs3.on hb4;have hnesa:=Vaj hvs3.lt;have hvr4:=hvr3.on hb4;have hnera:=Vaj hvr3.lt;clear hB3 hvs3 hvr3 hb4;try simp only [La]
    skip)
  |(refine Ma (o:=⟨some 4,_,_,_,_,_⟩) rfl 23 rfl Xa Zb ?_
    intro w5 hb5 hvp5;have hB5:=Ba hB4 hb5;have hgep:w.heap.size≤w4.heap.size:=hB4.size;have hvs5:=hvs4.on hb5;have hnesp:=Vaj hvs4.lt;have hvr5:=hvr4.on hb5;have hnerp:=Vaj hvr4.lt;have hva5:=hva4.on hb5;have hneap:=Vaj hva4.lt;clear hB4 hvs4 hvr4 hva4 hb5;try simp only [La]
    skip)
  |(refine Ka rfl 23 (.tmp 3) (.tmp 8) rfl w3.heap.size 32 Xa (ka.map Fa) rfl rfl hva5 rfl za (by rw [Uaj,Hka.out]) (Ab _) ?_
    intro w6 hb6 hva6 hz6;have hB6:Below w.heap.size w w6:=hB5.trans (hb6.below hgea hB5.size);have hvs6:=hvs5.but hb6 hnesa;have hvr6:=hvr5.but hb6 hnera;have hvp6:=hvp5.but hb6 (Ne.symm hneap);clear hB5 hva5 hb6 hz6 hvs5 hvr5 hvp5;skip)
  |(refine Ka rfl 23 (.tmp 4) (.tmp 9) rfl w4.heap.size 32 Xa (kp.map Fa) rfl rfl hvp6 rfl za (by rw [Uaj,Hkp.out]) (Ab _) ?_
    intro w7 hb7 hvp7 hz7;have hB7:Below w.heap.size w w7:=hB6.trans (hb7.below hgep hB6.size);have hvs7:=hvs6.but hb7 hnesp;have hvr7:=hvr6.but hb7 hnerp;have hva7:=hva6.but hb7 hneap;clear hB6 hvp6 hb7 hz7 hvs6 hvr6 hva6;skip)
  |(refine Tc rfl 23 (.tmp 3) rfl w3.heap.size 32 ka 5 rfl hva7 Tryz.underlying23 za Hka.out ?_
    try simp only [La]
    skip))
 generalize hqa:w3.heap.size=ga at *;clear hqa;generalize hqp:w4.heap.size=gp at *;clear hqp;refine (CB.out w7 (hS.below hB7)).mono ?_;rintro e w8 ⟨rfl,hb8⟩;have hB8:=Ba hB7 hb8;have hvs8:=hvs7.on hb8;have hvr8:=hvr7.on hb8;have hva8:=hva7.on hb8;have hvp8:=hvp7.on hb8;clear hB7 hvs7 hvr7 hva7 hvp7 hb8;go_wp2_with (first
  |(refine Ka rfl 23 (.tmp 2) (.tmp 11) rfl gr 32 Xa (o.map Fa) rfl rfl hvr8 rfl za (by rw [Uaj,Ho.out]) (Ab _) ?_
    intro w9 hb9 hvr9 hz9;have hB9:Below w.heap.size w w9:=hB8.trans (hb9.below hger hB8.size);have hvs9:=hvs8.but hb9 hnesr;have hva9:=hva8.but hb9 (Ne.symm hnera);have hvp9:=hvp8.but hb9 (Ne.symm hnerp);clear hB8 hvr8 hb9 hz9 hvs8 hva8 hvp8;skip))
 exact qc Tryz.results7 gr (o.map Fa) rfl hvr9 Tryz.underlying23 rfl za (by rw [Uaj,Ho.out]) rfl ⟨rfl,hB9⟩
theorem QE (a:Act) (hs:a.tmps.size=11) (hd:a.defers= []):∃u:Nat→Value,a=⟨(u 0::u 1::u 2::u 3::u 4::u 5::u 6::u 7::u 8::u 9::u 10::[]).toArray,[]⟩:=by
 obtain ⟨u,h⟩:=Pg 11 a hs hd;exact ⟨u,h⟩
theorem z9 (g o c:Nat) (w:World):(Instr.arrayAt 27 (.slice (some ⟨g,o,none⟩) 64 c)).run Tryz.prog w=.ok (.pointer (some ⟨g,o,none⟩)) w:=by kernel_rfl
theorem To {w:World} {g:Nat} {v1 v2:Value} {t:TypeId} {x y:List UInt8} (hC:Ia w g [v1,v2] t) (h1:Of w w.heap.size v1 x) (h2:Of w w.heap.size v2 y):xf w w.heap.size (some ⟨g,0,none⟩) [x,y]:=
 Jq hC fun j us hu=>by
  match j,hu with
  |0,hu=>cases hu;exact ⟨v1,rfl,h1⟩
  |1,hu=>cases hu;exact ⟨v2,rfl,h2⟩
  |j+2,hu=>simp at hu
def Xg (ga gb:Nat) (a b:List UInt8) (i:Nat) (v:Value) (w:World):Prop:=match i with
 |0=>v=.slice (some ⟨ga,0,none⟩) 32 32
 |1=>v=.slice (some ⟨gb,0,none⟩) 32 32
 |2=>∃g,v=.slice (some ⟨g,0,none⟩) 2 2∧Jd (some ⟨g,0,none⟩) [a,b] w
 |3=>∃g o c,v=.slice (some ⟨g,o,none⟩) 64 c∧g<w.heap.size∧w.rangeAt g o ((a++b).map Fa)
 |4=>∃g o,v=.pointer (some ⟨g,o,none⟩)∧g<w.heap.size∧w.rangeAt g o ((a++b).map Fa)
 |5=>v=Ca (a++b)
 |_=>True
theorem Qh {ga gb:Nat} {a b:List UInt8} {i:Nat} {v:Value} {w w':World} (h:Xg ga gb a b i v w) (hb:Below w.heap.size w w'):Xg ga gb a b i v w':=by
 unfold Xg at h ⊢
 split
 all_goals first
  |exact h
  |trivial
  |(obtain ⟨g,h1,h2⟩:=h
    exact ⟨g,h1,h2.below hb⟩)
  |(obtain ⟨g,o,c,h1,h2,h3⟩:=h
    exact ⟨g,o,c,h1,Waj h2 hb.size,Be h3 h2 hb⟩)
  |(obtain ⟨g,o,h1,h2,h3⟩:=h
    exact ⟨g,o,h1,Waj h2 hb.size,Be h3 h2 hb⟩)
theorem RO (x y:List UInt8) (w:World) (Hx:Hid (x.length=32)) (Hy:Hid (y.length=32)):
 Calls Tryz.prog 15 #[Ca x,Ca y] w (gvn (Ca (x++y)) w):=by
 have HXY:Hid ((x++y).length=64):=by show _=_;rw [qaj,Hx.out,Hy.out]
 have HFL:Hid ([x,y].flatten.length=64):=by show _=_;simp [Hx.out,Hy.out]
 have HFE:Hid ([x,y].flatten=x++y):=by show _=_;simp
 go_enter Tryz.func15,Tryz.ntmps15;go_wp2_with (first
  |(refine Rb rfl 23 (.tmp 0) rfl x rfl ?_
    intro w1 hb1 hx1 hz;clear hz;have hB1:=hb1;clear hb1;try simp only [La]
    skip)
  |(refine Rb rfl 23 (.tmp 1) rfl y rfl ?_
    intro w2 hb2 hy2 hz;clear hz;have hB2:=Ba hB1 hb2;have hx2:=hx1.on hb2;clear hB1 hx1 hb2;try simp only [La]
    skip)
  |(refine Ma (o:=⟨some 4,_,_,_,_,_⟩) rfl 27 rfl qJ Kq ?_
    intro w4 hb4 hr4;have hB4:=Ba hB2 hb4;have hge:w.heap.size≤w2.heap.size:=hB2.size;have hx4:=hx2.on hb4;have hy4:=hy2.on hb4;clear hB2 hx2 hy2 hb4;try simp only [La]
    skip))
 generalize hq2:w2.heap.size=gr at *;clear hq2;generalize hq1:w1.heap.size=gy at *;clear hq1;have hB5:Below w.heap.size w w4.drew:=hB4.drew;have hx5:=hx4.drew;have hy5:=hy4.drew;have hr5:=hr4.drew;refine wp_region_any (by kernel_rfl) ?_;show wpAny _ _ _ _ _ _ _ w4.drew;simp only [List.size_toArray,List.length_cons,List.length_nil,Nat.reduceAdd,Array.replicate_succ,Array.replicate_zero,List.push_toArray,List.nil_append,List.cons_append];clear hB4 hx4 hy4 hr4;generalize w4.drew=w5 at *;refine Ol (L:=[0,1,2,3,4,5]) (fins:=[(#[true,true,true,true,true,true,false],1)]) (Pl w5 _ [(0,5),(1,6),(2,7),(3,8),(4,9),(5,10)] (Xg w.heap.size gy x y)) ?_ ?_ 7 _ _ _ (by kernel_rfl) ⟨Below.refl _ _,rfl,rfl,fun _ _=>rfl,?_⟩;rotate_left 2
 ·intro p hp hl;simp only [List.mem_cons,List.not_mem_nil,or_false] at hp;rcases hp with rfl|rfl|rfl|rfl|rfl|rfl;all_goals cases hl
 ·intro i hi;simp only [List.mem_cons,List.not_mem_nil,or_false] at hi;rcases hi with rfl|rfl|rfl|rfl|rfl|rfl
  ·refine Xc (slots:=[(0,5),(1,6),(2,7),(3,8),(4,9),(5,10)]) (prop:=Xg w.heap.size gy x y) (by decide) (by decide) 11 rfl (by decide) (fun _ _ _ _ h hb=>Qh h hb) (i:=0) (s:=5) (by decide) rfl rfl ?_;intro a w6 K hb hs hd hsame hfact hK;exact yc rfl _ (Dr _ _ _ _ _ _ _ rfl _ (hsame 2 (by decide)) _ w6 (xU _ w6)) (hK _ _ (Below.refl _ _) rfl)
  ·refine Xc (slots:=[(0,5),(1,6),(2,7),(3,8),(4,9),(5,10)]) (prop:=Xg w.heap.size gy x y) (by decide) (by decide) 11 rfl (by decide) (fun _ _ _ _ h hb=>Qh h hb) (i:=1) (s:=6) (by decide) rfl rfl ?_;intro a w6 K hb hs hd hsame hfact hK;exact yc rfl _ (Dr _ _ _ _ _ _ _ rfl _ (hsame 3 (by decide)) _ w6 (xU _ w6)) (hK _ _ (Below.refl _ _) rfl)
  ·refine Xc (slots:=[(0,5),(1,6),(2,7),(3,8),(4,9),(5,10)]) (prop:=Xg w.heap.size gy x y) (by decide) (by decide) 11 rfl (by decide) (fun _ _ _ _ h hb=>Qh h hb) (i:=2) (s:=7) (by decide) rfl rfl ?_;intro a w6 K hb hs hd hsame hfact hK;have s5:a.tmps.getD 5 undef=.slice (some ⟨w.heap.size,0,none⟩) 32 32:=hfact (0,5) (by decide) (by kernel_rfl);have s6:a.tmps.getD 6 undef=.slice (some ⟨gy,0,none⟩) 32 32:=hfact (1,6) (by decide) (by kernel_rfl);have hx6:=hx5.on hb;have hy6:=hy5.on hb;refine Nn rfl 36 2 [(0,.tmp 5),(1,.tmp 6)] rfl [(0,.slice (some ⟨w.heap.size,0,none⟩) 32 32),(1,.slice (some ⟨gy,0,none⟩) 32 32)] ?_ 24 ([.slice (some ⟨w.heap.size,0,none⟩) 32 32,.slice (some ⟨gy,0,none⟩) 32 32].map Af) (GT _ _ _ _ _ _) (fun w' hb' hc'=>hK _ _ hb' ⟨_,rfl,To hc' (Ct (hx6.on hb') 32 32 Hx.out (Xaj _) (by unfold maxLen;omega)) (Ct (hy6.on hb') 32 32 Hy.out (Xaj _) (by unfold maxLen;omega))⟩);simp only [List.map_cons,List.map_nil];rw [show a.eval (.tmp 5)=_ from s5,show a.eval (.tmp 6)=_ from s6]
  ·refine Xc (slots:=[(0,5),(1,6),(2,7),(3,8),(4,9),(5,10)]) (prop:=Xg w.heap.size gy x y) (by decide) (by decide) 11 rfl (by decide) (fun _ _ _ _ h hb=>Qh h hb) (i:=3) (s:=8) (by decide) rfl rfl ?_;intro a w6 K hb hs hd hsame hfact hK;obtain ⟨gl,s7,hl2⟩:=hfact (2,7) (by decide) (by kernel_rfl);refine If rfl 42 [.tmp 7] _ rfl [.slice (some ⟨gl,0,none⟩) 2 2] ?_ (Ef Tryz.func42 (by kernel_rfl) (by kernel_rfl)) (YP (some ⟨gl,0,none⟩) 2 2 64 [x,y] w6 rfl hl2 (by omega) HFL.out (by omega)) ?_
   ·simp only [List.map_cons,List.map_nil];rw [show a.eval (.tmp 7)=.slice (some ⟨gl,0,none⟩) 2 2 from s7]
   ·rintro e w7 ⟨A7,c7,rfl,h1,h2,h3,hr7,hb7⟩;rw [HFE.out] at hr7;obtain ⟨b7,o7,rfl⟩:=hr7.some (by rw [HXY.out];decide);have hlt7:b7<w7.heap.size:=by
     obtain ⟨b8,o8,e8,hlt,_⟩:=hr7.at 0 (by rw [HXY.out];decide);cases e8
     exact hlt
    exact ⟨_,rfl,hK _ _ hb7 ⟨b7,o7,c7,rfl,hlt7,hr7.rangeAll⟩⟩
  ·refine Xc (slots:=[(0,5),(1,6),(2,7),(3,8),(4,9),(5,10)]) (prop:=Xg w.heap.size gy x y) (by decide) (by decide) 11 rfl (by decide) (fun _ _ _ _ h hb=>Qh h hb) (i:=4) (s:=9) (by decide) rfl rfl ?_;intro a w6 K hb hs hd hsame hfact hK;obtain ⟨g8,o8,c8,s8,hlt8,hr8⟩:=hfact (3,8) (by decide) (by kernel_rfl);exact yc rfl _ (Rp _ _ _ _ rfl _ (show a.eval (.tmp 8)=_ from s8) _ w6 (z9 _ _ _ w6)) (hK _ _ (Below.refl _ _) ⟨g8,o8,rfl,hlt8,hr8⟩)
  ·refine Xc (slots:=[(0,5),(1,6),(2,7),(3,8),(4,9),(5,10)]) (prop:=Xg w.heap.size gy x y) (by decide) (by decide) 11 rfl (by decide) (fun _ _ _ _ h hb=>Qh h hb) (i:=5) (s:=10) (by decide) rfl rfl ?_;intro a w6 K hb hs hd hsame hfact hK;obtain ⟨g9,o9,s9,hlt9,hr9⟩:=hfact (4,9) (by decide) (by kernel_rfl);exact Jf rfl 27 (.tmp 9) rfl g9 o9 s9 ((x++y).map Fa) _ hr9 Tryz.underlying27 rfl (by rw [Uaj,HXY.out];exact Ie) (hK _ _ (Below.refl _ _) rfl)
 ·intro f hf a w6 hA;obtain rfl:=List.mem_singleton.1 hf;have hB6:=Ba hB5 hA.below;have hr6:=hr5.on hA.below;have s4:=hA.same 4 (by decide);have s10:a.tmps.getD 10 undef=Ca (x++y):=hA.fact (5,10) (by decide) (by kernel_rfl);obtain ⟨u,rfl⟩:=QE a hA.size hA.defers;change u 4=.pointer (some ⟨gr,0,none⟩) at s4;change u 10=_ at s10;rw [s4,s10];clear s4 s10 hA hB5 hx5 hy5 hr5;refine Bb 6 rfl (by kernel_rfl) ?_;simp only [List.drop_succ_cons,List.drop_zero];refine Ka rfl 27 (.tmp 4) (.tmp 10) rfl gr 64 qJ ((x++y).map Fa) rfl rfl hr6 rfl Ie (by rw [Uaj,HXY.out]) (Ab _) ?_;intro w8 hb8 hr8 hz8;have hB8:Below w.heap.size w w8:=hB6.trans (hb8.below hge hB6.size);clear hB6 hr6 hb8 hz8;rename_i K hKK;show Exit.then K _ Exit.normal _ w8;simp only [Exit.then];refine hKK _ _ ?_;clear hKK K
  go_wp2
  exact qc Tryz.results15 gr ((x++y).map Fa) rfl hr8 Tryz.underlying27 rfl Ie (by rw [Uaj,HXY.out]) rfl ⟨rfl,hB8⟩
abbrev JT:List Value:=List.replicate 64 (Fa 0)
theorem ID:∀w,(zeroValue 26).run Tryz.prog w=.ok (.agg JT.toArray) w:=(zero_of_info (P:=Tryz.prog) (t:=26) (v:=.agg JT.toArray) (n:=64) (by kernel_rfl)).1
theorem Gl:(Tryz.prog.info? 26).map (·.size)=some 64:=by kernel_rfl
def Xe (A:Option Addr) (n c:Nat) (text:List UInt8) (w:World):Prop:=text.length=n∧n≤c∧c≤maxLen∧(A=none→c=0)∧Row w w.heap.size A text
theorem Xe.below {A:Option Addr} {n c:Nat} {text:List UInt8} {w w':World} (h:Xe A n c text w) (hb:Below w.heap.size w w'):Xe A n c text w':=⟨h.1,h.2.1,h.2.2.1,h.2.2.2.1,h.2.2.2.2.on hb⟩
theorem Ok {P:Program} {o:Oper} {a:Act} {w:World} {K:Act→World→Prop} {Q:Exit→Act→World→Prop} (t:TypeId) (x y:Operand) (ho:o.op=.store t x y) (g j:Nat) (ik:IntKind) (z:Int) (hx:a.eval x=.pointer (some ⟨g,j,none⟩)) (hy:a.eval y=.int ik z) (hs:(P.info? t).map (·.size)=some 1) (ht:w.there g j 1)
 (h:K (a.put o.dst undef) (w.setCell ⟨g,j,none⟩ (.int ik z))):Oper.wp P o a w K Q:=by
 obtain ⟨i0,hi0,hs0⟩:=Option.map_eq_some_iff.1 hs;have hst:=run_storeCells_cells (P:=P) g j [.int ik z] 0 w (fun i hi=>by simpa using (ht i hi).1) (fun i hi=>by simpa using (ht i hi).2) (by intro v hv;cases List.mem_singleton.1 hv;rfl);have hrun:(Instr.storeAt t (.pointer (some ⟨g,j,none⟩)) (.int ik z)).run P w=.ok () (w.setCell ⟨g,j,none⟩ (.int ik z)):=by
  simp only [Instr.storeAt,Instr.sureAddr,Sem.run_bind,Sem.run_pure,Result.andThen_ok];simp [storeVar,sizeOf,typeInfo,hi0,hs0,Value.cells,hst,World.setCells]
 unfold Oper.wp;simp only [execOp,ho,hx,hy,hrun,Sem.run_bind,Sem.run_pure,Result.andThen_ok];exact h
theorem AK (g k:Nat) (hk:k<32) (w:World):(Instr.indexAt 22 (.pointer (some ⟨g,0,none⟩)) (.int .i64 (k:Int))).run Tryz.prog w=.ok (.pointer (some ⟨g,k,none⟩)) w:=by
 have i2:(k:Int)<32:=by omega
 go_simp
theorem BK (g k:Nat) (hk:k<64) (w:World):(Instr.indexAt 26 (.pointer (some ⟨g,0,none⟩)) (.int .i64 (k:Int))).run Tryz.prog w=.ok (.pointer (some ⟨g,k,none⟩)) w:=by
 have i2:(k:Int)<64:=by omega
 go_simp
theorem Lr {w:World} {g j:Nat} {q:UInt8} (h:w.cell? ⟨g,j,none⟩=some (Fa q)):(Instr.loadAt 5 (.pointer (some ⟨g,j,none⟩))).run Tryz.prog w=.ok (Fa q) w:=by
 go_simp
theorem PV (k m:Nat) (hk:k<32) (e:32+k=m) (w:World):(binOp .add 3 (.int .i64 32) (.int .i64 (k:Int))).run Tryz.prog w=.ok (.int .i64 (m:Int)) w:=by
 have h:IntKind.i64.wrap (32+(k:Int))=(m:Int):=by rw [show 32+(k:Int)=(m:Int) by omega];exact IntWalk.i64_in _ (by omega)
 go_simp
end Go.Proofs.YtoggkhjaghkpnaaGreatDoor
