/- Part 1 of what the laws of this seat share: WShort, WMath, WTurns, WMem, WBig, WRows, WMix, WCells, WCopy, WApp, WErr, WNum, WPut, WParts, WKeep, WZeros. -/
import Derived.Lib.Hide
import Derived.WalkKit
import Derived.Test.YtoggkhjaghkpnaaGreatDoorProg
import Derived.WalkSmall
import Derived.Deep.Draws
import Derived.Laws.BytesArg
import Derived.WalkMore
import Derived.ScopeJumps
import Derived.Below
import Derived.Laws.OwnMore
import Derived.Laws.Rows
import Derived.BigQuiet
import Derived.Deep.QuietTactic
import Derived.StillTailTactics
import Derived.Deep.RegionHeld3
import Derived.Deep.MidRow
import Derived.Laws.CopyOwn
import Derived.Laws.AppendOwnNone
import Derived.Deep.AppendLies
import Derived.Maps.AppendAt
import Derived.Test.YtoggkhjaghkpnaaGreatDoorChecked
import Derived.LaidEql
import Derived.Stop.Asserts
import Derived.RowKitTokens
import Derived.LaidLaws
import Derived.Stop.LaidErr
import Derived.MakeChecks
import Derived.ProofKit
import Derived.Lib.AppendStr
set_option maxRecDepth 100000
set_option maxHeartbeats 8000000
namespace Go.Proofs.YtoggkhjaghkpnaaGreatDoor
theorem Uaj:type_of% @List.length_map:=@List.length_map
theorem Vaj:type_of% @Nat.ne_of_lt:=@Nat.ne_of_lt
theorem Waj:type_of% @Nat.lt_of_lt_of_le:=@Nat.lt_of_lt_of_le
theorem Xaj:type_of% @Nat.le_refl:=@Nat.le_refl
theorem Yaj:type_of% @List.getD_eq_getElem?_getD:=@List.getD_eq_getElem?_getD
theorem Zaj:type_of% @List.take_of_length_le:=@List.take_of_length_le
theorem xaj:type_of% @List.getElem?_eq_getElem:=@List.getElem?_eq_getElem
theorem yaj:type_of% @Nat.mod_eq_of_lt:=@Nat.mod_eq_of_lt
theorem zaj:type_of% @List.length_take:=@List.length_take
theorem qaj:type_of% @List.length_append:=@List.length_append
theorem xaf (n:Int):bits .and .u64 (IntKind.u64.wrap n) 63=((n%64).toNat:Int):=by
 rw [IntKind.wrap_u64,u64_and _ _ (by omega) (by omega) (by omega) (by omega)];show (((n%18446744073709551616).toNat&&&63:Nat):Int)=_;rw [nat_mask6];omega
theorem Bh (k:Nat):((2:Int)^k)=((2^k:Nat):Int):=by simp
theorem Uaa (x:BitVec 64) (k:Nat):(x.toNat:Int)*2^k%18446744073709551616=((x<<<k).toNat:Int):=by
 rw [BitVec.toNat_shiftLeft,Nat.shiftLeft_eq,Bh,Int.natCast_emod,Int.natCast_mul];rfl
theorem DF (x:BitVec 64) (k:Nat):(x.toNat:Int)/2^k=((x>>>k).toNat:Int):=by
 rw [BitVec.toNat_ushiftRight,Nat.shiftRight_eq_div_pow,Bh,Int.natCast_ediv]
theorem zaf (x y:BitVec 64):bits .or .u64 (x.toNat:Int) (y.toNat:Int)=((x|||y).toNat:Int):=by
 rw [u64_or_nat _ _ x.isLt y.isLt,BitVec.toNat_or]
theorem Uk (x y:BitVec 64):bits .xor .u64 (x.toNat:Int) (y.toNat:Int)=((x^^^y).toNat:Int):=by
 rw [u64_xor_nat _ _ x.isLt y.isLt,BitVec.toNat_xor]
theorem EF (x y:BitVec 64):bits .and .u64 (x.toNat:Int) (y.toNat:Int)=((x&&&y).toNat:Int):=by
 rw [u64_and_nat _ _ x.isLt y.isLt,BitVec.toNat_and]
theorem JZ (x:BitVec 64) (k:Nat) (hk:k<64):bits .or .u64 ((x.toNat:Int)/2^k) ((x.toNat:Int)*2^(64-k)%18446744073709551616)=((x.rotateRight k).toNat:Int):=by
 rw [Uaa,DF,zaf,BitVec.rotateRight_def,yaj hk]
def Ue (x:BitVec 64) (n:Int):BitVec 64:=x.rotateRight (n%64).toNat
open Go.RowKit
theorem Tt {k:IntKind} {a b:Int} (h:a=b):Ending.returned (.int k a)=.returned (.int k b):=by rw [h]
theorem Ox (x:BitVec 64) (n:Int) (w:World):
 Calls Tryz.prog 138 #[.int .u64 x.toNat,.int .i64 n] w fun e w'=>e=.returned (.int .u64 ((Ue x n).toNat:Int))∧w=w':=by
 have hk:=xaf n;have hl:(n%64).toNat<64:=by omega
 have HR:=Lib.hid (show _=((Ue x n).toNat:Int) from JZ x _ hl);generalize (n%64).toNat=k at *;go_enter Tryz.func138,Tryz.ntmps138
 go_wp2
 go_ret
 exact ⟨Tt HR.out,rfl⟩
abbrev gvn (v:Value) (W:World):Ending→World→Prop:=fun e w'=>e=.returned v∧Below W.heap.size W w'
theorem La:(∀(t:Array Value) (ds:List Deferred) (d:Tmp) (v:Value),Act.put ⟨t,ds⟩ (some d) v=⟨t.setIfInBounds d v,ds⟩)∧(∀(a:Act) (v:Value),a.put none v=a)∧(∀(l:List Value) (i:Nat) (v:Value),l.toArray.setIfInBounds i v=(l.set i v).toArray)∧
 (∀(x v:Value) (l:List Value),(x::l).set 0 v=v::l)∧(∀(x v:Value) (l:List Value) (i:Nat),(x::l).set (i+1) v=x::l.set i v):=
 ⟨fun _ _ _ _=>rfl,fun _ _=>rfl,fun _ _ _=>List.setIfInBounds_toArray _ _ _,fun _ _ _=>rfl,fun _ _ _ _=>rfl⟩
abbrev Fa (u:UInt8):Value:=.int .u8 (u.toNat:Int)
def Row (w:World) (B:Nat) (A:Option Addr) (bs:List UInt8):Prop:=
 bs= []∨∃b off,A=some ⟨b,off,none⟩∧b<B∧∀j u,bs[j]? =some u→w.cell? ⟨b,off+j,none⟩=some (Fa u)
section
variable {w w':World} {B B':Nat} {A:Option Addr} {bs:List UInt8}
theorem Row.nil:Row w B A []:=.inl rfl
theorem Row.at (h:Row w B A bs) (k:Nat) (hk:k<bs.length):∃b off,A=some ⟨b,off,none⟩∧b<B∧w.cell? ⟨b,off+k,none⟩=some (Fa bs[k]):=by
 rcases h with rfl|⟨b,off,hA,hb,hc⟩
 ·simp at hk
 ·exact ⟨b,off,hA,hb,hc k _ (xaj hk)⟩
theorem Row.keep (h:Row w B A bs) (hk:∀p:Addr,p.block<B→w'.cell? p=w.cell? p):Row w' B A bs:=by
 rcases h with rfl|⟨b,off,hA,hb,hc⟩
 ·exact .inl rfl
 ·exact .inr ⟨b,off,hA,hb,fun j u hu=>(hk _ hb).trans (hc j u hu)⟩
theorem Row.more (h:Row w B A bs) (hB:B≤B'):Row w B' A bs:=by
 rcases h with rfl|⟨b,off,hA,hb,hc⟩
 ·exact .inl rfl
 ·exact .inr ⟨b,off,hA,by omega,hc⟩
theorem Row.below (h:Row w B A bs) (hb:Below B w w'):Row w' B A bs:=h.keep fun _ hp=>hb.cell hp
theorem Row.drewN (h:Row w B A bs) (n:Nat):Row (w.drewN n) B A bs:=h
theorem Row.lt (h:Row w B A bs) (hB:B≤w.heap.size):Row w w.heap.size A bs:=h.more hB
theorem Row.take (h:Row w B A bs) (n:Nat):Row w B A (bs.take n):=by
 rcases h with rfl|⟨b,off,hA,hb,hc⟩
 ·exact .inl (by simp)
 ·refine .inr ⟨b,off,hA,hb,fun j u hu=>hc j u ?_⟩;rw [List.getElem?_take] at hu
  split at hu
  ·exact hu
  ·cases hu
end
def str (bs:List UInt8):ByteArray:=⟨bs.toArray⟩
theorem Row.conv {P:Program} {w:World} {B:Nat} {A:Option Addr} {bs:List UInt8} (h:Row w B A bs) (c:Nat) {src e dst:TypeId} (hs:P.underlying src=some (.slice e)) (he:P.underlying e=some (.int .u8)) (hd:P.underlying dst=some .string):
 (convert src dst (.slice A bs.length c)).run P w=.ok (.string (str bs)) w:=by
 have hn:∀A:Option Addr,(convert src dst (.slice A 0 c)).run P w=.ok (.string (str [])) w:=by
  intro A;rw [run_convert_bytes_string w src dst e A 0 c hs he hd];cases A<;>simp [Conv.bytesToString,loadCells,str]
  all_goals rfl
 rcases h with rfl|⟨b,off,rfl,hb,hc⟩
 ·exact hn A
 ·have :=run_convert_bytes_arg (P:=P) w src e hs he b off bs.length c (bs.map fun u=>(u.toNat:Int)) (by simp) (fun i hi=>by
   rw [hc i _ (xaj hi)];simp [hi]) dst hd
  rw [this];congr 2
  simp [strOfNums,str,Function.comp_def]
theorem Yl {P:Program} {c rest:Code} {Q:Exit→Act→World→Prop} {a:Act} {w:World} (l:Nat) (J:Act→World→Prop) (μ:Act→World→Nat) (hf:findLabel c l=some (Code.skip.seq rest))
 (first :Hid (∀a w,J a w→rest.wp P (Exit.jump l J Q) a w)→c.wp P (Exit.jump l J Q) a w)
 (pass:∀a w,J a w→rest.wp P (Exit.jump l (fun a' w'=>J a' w'∧μ a' w'<μ a w) Q) a w):(Code.scope c).wp P Q a w:=
 wp_scope_jumps l J μ hf (first fun a w h=>Code.wp_mono (fun e _ _ hq=>by
  cases e<;>first|exact hq|exact ⟨hq.1,hq.2.1⟩) (pass a w h)) (fun a w h=>wp_seq (wp_skip (pass a w h)))
def Jg (w:World) (g:Nat) (bs:List UInt8):Prop:=w.heap[g]? =some (.cells (bs.map Fa).toArray 5 (0,0))
theorem Jg.cell {w:World} {g:Nat} {bs:List UInt8} (h:Jg w g bs) (j:Nat) (hj:j<bs.length):w.cell? ⟨g,j,none⟩=some (Fa bs[j]):=by
 rw [cell_of_row w g j _ _ _ h];simp [hj]
theorem Jg.lt {w:World} {g:Nat} {bs:List UInt8} (h:Jg w g bs):g<w.heap.size:=by
 rcases Nat.lt_or_ge g w.heap.size with hlt|hge
 ·exact hlt
 ·unfold Jg at h;rw [Array.getElem?_eq_none hge] at h;cases h
theorem Jg.row {w:World} {g B:Nat} {bs:List UInt8} (h:Jg w g bs) (hB:g<B):Row w B (some ⟨g,0,none⟩) bs:=
 .inr ⟨g,0,rfl,hB,fun j u hu=>by
  have hj:j<bs.length:=by
   rcases Nat.lt_or_ge j bs.length with h|h
   ·exact h
   ·rw [List.getElem?_eq_none h] at hu;cases hu
  rw [Nat.zero_add,h.cell j hj];rw [xaj hj] at hu;cases hu;rfl⟩
theorem Jg.below {w w':World} {g B:Nat} {bs:List UInt8} (h:Jg w g bs) (hb:Below B w w') (hg:g<B):Jg w' g bs:=(hb.block g hg).trans h
theorem Jg.frozen {w:World} {g:Nat} {bs:List UInt8} (h:Jg w g bs) (j:Nat):w.frozen? ⟨g,j,none⟩=false:=by
 unfold Jg at h;simp [World.frozen?,h]
theorem Jg.set {w:World} {g:Nat} {bs:List UInt8} (h:Jg w g bs) (j:Nat) (u:UInt8):Jg (w.setCell ⟨g,j,none⟩ (Fa u)) g (bs.set j u):=by
 unfold Jg at h ⊢;simp [World.setCell,Array.getElem?_modify,h,List.map_set]
theorem Jg.drew {w:World} {g:Nat} {bs:List UInt8} (h:Jg w g bs):Jg w.drew g bs:=h
theorem Jg.drewN {w:World} {g:Nat} {bs:List UInt8} (h:Jg w g bs) (n:Nat):Jg (w.drewN n) g bs:=h
def Xh (bs:List UInt8):Array Value:=(bs.map Fa).toArray
theorem Jg.new (w:World) (bs:List UInt8):Jg (w.alloc (.cells (Xh bs) 5)) w.heap.size bs:=heap_alloc_new w _
theorem WP (n:Nat):madeCells (Value.int .u8 0).cells n=Xh (List.replicate n 0):=by
 apply Array.ext_getElem?;intro i;simp only [madeCells,Xh,Value.cells,List.map_replicate];by_cases h:i<n
 ·simp [h,Nat.mod_one]
 ·simp [h]
theorem Ba {a b c:World} (h:Below a.heap.size a b) (k:Below b.heap.size b c):Below a.heap.size a c:=h.trans (k.mono h.size)
theorem Row.on {w:World} {A:Option Addr} {bs:List UInt8} (h:Row w w.heap.size A bs) {w':World} (hb:Below w.heap.size w w'):Row w' w'.heap.size A bs:=(h.below hb).more hb.size
def Zf (bs:List UInt8):Nat:=bs.foldl (fun x b=>x*256+b.toNat) 0
theorem Lm (l:List UInt8) (u:UInt8):Zf (l++[u])=Zf l*256+u.toNat:=by simp [Zf,List.foldl_append]
theorem Nd {α:Type} (l:List α) (k:Nat) (h:k<l.length):l.take (k+1)=l.take k++[l[k]]:=List.take_succ_eq_append_getElem h
theorem Kz (l:List UInt8):Zf l<256^l.length:=by
 suffices h:∀n,∀l:List UInt8,l.length=n→Zf l<256^n from h _ l rfl
 intro n
 induction n with
 |zero=>intro l hl;rw [List.eq_nil_of_length_eq_zero hl];decide
 |succ n ih=>
  intro l hl;have h1:=ih (l.take n) (by rw [zaj];omega);have h2:l=l.take n++[l[n]]:=by rw [←Nd l n (by omega),Zaj (by omega)]
  rw [h2,Lm,Nat.pow_succ];have :=l[n].toNat_lt;omega
theorem Xq {k n:Nat} (h:k≤n):256^k≤256^n:=Nat.pow_le_pow_right (by decide) h
theorem UV (l:List UInt8) (k:Nat) (hk:k<l.length) (hn:l.length≤8):
 bits .or .u64 (IntKind.u64.wrap ((Zf (l.take k):Int)*256)) (IntKind.u64.wrap (l[k].toNat:Int))=(Zf (l.take (k+1)):Int):=by
 have h1:=Kz (l.take k);have h2:256^(l.take k).length≤256^7:=Xq (by rw [zaj];omega);have h3:=l[k].toNat_lt;rw [Nd l k hk,Lm];generalize Zf (l.take k)=a at *;generalize l[k].toNat=u at *;rw [IntKind.wrap_u64,IntKind.wrap_u64,show ((a:Int)*256)%18446744073709551616=((a*256:Nat):Int) by omega,show (u:Int)%18446744073709551616=(u:Int) by omega,u64_or_nat _ _ (by omega) (by omega),nat_join 8 _ _ (by omega) (by omega)]
theorem KU (A:Option Addr) (c:Nat) (bs:List UInt8) (w:World) (hr:Row w w.heap.size A bs) (hn:bs.length≤8):
 Calls Tryz.prog 143 #[.slice A bs.length c] w fun e w'=>e=.returned (.tuple #[.int .u64 (Zf bs:Int),.nilIface])∧w=w':=by
 go_enter Tryz.func143,Tryz.ntmps143
 go_wp2
 go_loop [4,13] (fun x i=>∃k:Nat,k≤bs.length∧i=.int .i64 k∧x=.int .u64 (Zf (bs.take k):Int)) (fun _ i=>bs.length-(intOf i).toNat)
 case atStart=>exact ⟨0,Nat.zero_le _,rfl,rfl⟩
 case round=>
  obtain ⟨k,hk,rfl,rfl⟩:=hrel;by_cases hlt:k<bs.length
  ·obtain ⟨b,off,rfl,hb,hc⟩:=hr.at k hlt
   go_wp2
   go_round
   case rel=>exact ⟨k+1,by omega,by go_num,by rw [UV bs k hlt hn]⟩
   case measure=>simp [intOf];omega
  ·go_wp2
   go_ret2
   exact ⟨by rw [Zaj (by omega)];rfl,rfl⟩
end Go.Proofs.YtoggkhjaghkpnaaGreatDoor
namespace Go.Proofs.YtoggkhjaghkpnaaGreatDoor
open Go.RowKit
theorem Yq:(Tryz.prog.info? 5).map (fun i=>(i.zero,i.size,i.bytes))=some (some (.int .u8 0),1,1):=by kernel_rfl
theorem Gs (l n:Nat) (hl:l≤n) (hn:n≤1000000) (W:World):
 (Instr.makeSlice 24 (.int .i64 (l:Int)) (.int .i64 (n:Int))).run Tryz.prog W=.ok (.slice (some ⟨W.heap.size,0,none⟩) l n) (W.alloc (.cells (Xh (List.replicate n 0)) 5)):=by
 obtain ⟨i0,hi0,hz0,hz1,hz2⟩:=info_parts Yq;have h:=run_make (P:=Tryz.prog) W 24 5 i0 (.int .u8 0) Tryz.underlying24 hi0 hz0 .i64 .i64 l n (by omega) (by omega) (by rw [hz2];omega) (by omega);rw [h,Int.toNat_natCast,Int.toNat_natCast,hz1,Nat.mul_one,WP]
theorem UK (l:List UInt8) (k n:Nat) (u:UInt8) (hl:l.length=k) (hk:k<n):(l++List.replicate (n-k) 0).set k u=l++[u]++List.replicate (n-(k+1)) 0:=by
 obtain ⟨m,hm⟩:∃m,n-k=m+1:=⟨n-k-1,by omega⟩;rw [hm,show n-(k+1)=m by omega,List.set_append_right _ _ (by omega),hl,Nat.sub_self,List.replicate_succ];simp
def Ia (w:World) (g:Nat) (vs:List Value) (t:TypeId):Prop:=w.heap[g]? =some (.cells vs.toArray t (0,0))
structure But (g:Nat) (w w':World):Prop where
 os:w'.os=w.os
 tape:w'.tape=w.tape
 output:w'.output=w.output
 size:w.heap.size≤w'.heap.size
 block:∀k,k<w.heap.size→k≠g→w'.heap[k]? =w.heap[k]?
theorem Ae (b:Nat):∀(vs:List Value) (o:Nat) (w:World),(w.setCells b o vs).os=w.os∧(w.setCells b o vs).tape=w.tape∧(w.setCells b o vs).output=w.output∧(w.setCells b o vs).heap.size=w.heap.size∧∀k,k≠b→(w.setCells b o vs).heap[k]? =w.heap[k]?
 | [],_,_=>⟨rfl,rfl,rfl,rfl,fun _ _=>rfl⟩
 |v::r,o,w=>by
  obtain ⟨h1,h2,h3,h4,h5⟩:=Ae b r (o+1) (w.setCell ⟨b,o,none⟩ v);refine ⟨h1,h2,h3,h4.trans (by simp [World.setCell]),fun k hk=>(h5 k hk).trans (Below.heap_setCell _ _ _ _ hk)⟩
theorem Ll {w:World} {b:Nat} {o:Obj} (h:w.heap[b]? =some o):b<w.heap.size:=by
 rcases Nat.lt_or_ge b w.heap.size with hlt|hge
 ·exact hlt
 ·rw [Array.getElem?_eq_none hge] at h;cases h
section
variable {w w' w'':World} {g B:Nat} {vs:List Value} {t:TypeId}
theorem Ia.cell (h:Ia w g vs t) (j:Nat) (hj:j<vs.length):w.cell? ⟨g,j,none⟩=some vs[j]:=by
 rw [cell_of_row w g j _ _ _ h];simp [hj]
theorem Ia.get (h:Ia w g vs t) {j:Nat} {v:Value} (hj:vs[j]? =some v):w.cell? ⟨g,j,none⟩=some v:=by
 rw [cell_of_row w g j _ _ _ h,List.getElem?_toArray,hj]
theorem Ia.lt (h:Ia w g vs t):g<w.heap.size:=Ll h
theorem Ia.below (h:Ia w g vs t) (hb:Below B w w') (hg:g<B):Ia w' g vs t:=(hb.block g hg).trans h
theorem Ia.frozen (h:Ia w g vs t) (j:Nat):w.frozen? ⟨g,j,none⟩=false:=by
 unfold Ia at h;simp [World.frozen?,h]
theorem Ia.set (h:Ia w g vs t) (j:Nat) (u:Value):Ia (w.setCell ⟨g,j,none⟩ u) g (vs.set j u) t:=by
 unfold Ia at h ⊢;simp [World.setCell,Array.getElem?_modify,h]
theorem Ia.other (h:Ia w g vs t) {p:Addr} (hp:g≠p.block) (u:Value):Ia (w.setCell p u) g vs t:=(Below.heap_setCell _ _ _ _ hp).trans h
theorem Ia.drewN (h:Ia w g vs t) (n:Nat):Ia (w.drewN n) g vs t:=h
theorem Ia.drew (h:Ia w g vs t):Ia w.drew g vs t:=h
theorem Ia.alloc (h:Ia w g vs t) (o:Obj):Ia (w.alloc o) g vs t:=(Below.heap_alloc _ _ _ h.lt).trans h
theorem Ia.new (w:World) (vs:Array Value) (t:TypeId):Ia (w.alloc (.cells vs t)) w.heap.size vs.toList t:=by
 have :=heap_alloc_new w (.cells vs t);unfold Ia;rw [this]
theorem Ia.range (h:Ia w g vs t) (o n:Nat):w.rangeAt g o ((vs.drop o).take n):=by
 intro j v hj;rw [List.getElem?_take] at hj
 split at hj
 ·rw [List.getElem?_drop] at hj;exact h.get hj
 ·cases hj
theorem Ia.there (h:Ia w g vs t) (o n:Nat) (hn:o+n≤vs.length):w.there g o n:=fun j hj=>
 ⟨by rw [h.cell (o+j) (by omega)];rfl,h.frozen _⟩
def Ub (vs:List Value) (o:Nat) (cs:List Value):List Value:=vs.take o++cs++vs.drop (o+cs.length)
theorem Lj (vs cs:List Value) (o:Nat) (h:o+cs.length≤vs.length):(Ub vs o cs).length=vs.length:=by
 simp [Ub];omega
theorem DA (vs:List Value) (o:Nat) (u:Value) (cs:List Value) (h:o+1+cs.length≤vs.length):Ub (vs.set o u) (o+1) cs=Ub vs o (u::cs):=by
 have e1:(vs.set o u).take (o+1)=vs.take o++[u]:=by
  rw [List.take_succ_eq_append_getElem (by simp;omega),List.take_set_of_le (Xaj _)];simp
 have e2:(vs.set o u).drop (o+1+cs.length)=vs.drop (o+(cs.length+1)):=by
  rw [List.drop_set_of_lt (by omega)];congr 1;omega
 simp [Ub,e1,e2]
theorem Ia.setCells:∀{cs:List Value} {w:World} {vs:List Value} {o:Nat},Ia w g vs t→o+cs.length≤vs.length→Ia (w.setCells g o cs) g (Ub vs o cs) t
 | [],w,vs,o,h,_=>by
   have e:Ub vs o []=vs:=by simp [Ub]
   rw [e];exact h
 |u::cs,w,vs,o,h,hl=>by
  rw [←DA vs o u cs (by simp at hl;omega)];exact Ia.setCells (h.set o u) (by simp at hl ⊢;omega)
theorem Ia.otherCells (h:Ia w g vs t) {b:Nat} (hp:g≠b) (o:Nat) (cs:List Value):Ia (w.setCells b o cs) g vs t:=((Ae b cs o w).2.2.2.2 g hp).trans h
theorem But.refl (g:Nat) (w:World):But g w w:=⟨rfl,rfl,rfl,Xaj _,fun _ _ _=>rfl⟩
theorem But.trans (h:But g w w') (k:But g w' w''):But g w w'':=
 ⟨k.os.trans h.os,k.tape.trans h.tape,k.output.trans h.output,Nat.le_trans h.size k.size,fun i hi hg=>(k.block i (Waj hi h.size) hg).trans (h.block i hi hg)⟩
theorem But.of_below (h:Below w.heap.size w w'):But g w w':=⟨h.os,h.tape,h.output,h.size,fun k hk _=>h.block k hk⟩
theorem But.below (h:But g w w') (hB:B≤g) (hw:B≤w.heap.size):Below B w w':=⟨h.os,h.tape,h.output,h.size,fun k hk=>h.block k (by omega) (by omega)⟩
theorem But.drew (h:But g w w'):But g w w'.drew:=⟨h.os,h.tape,h.output,h.size,h.block⟩
theorem But.drewN (h:But g w w') (n:Nat):But g w (w'.drewN n):=⟨h.os,h.tape,h.output,h.size,h.block⟩
theorem But.setCell (h:But g w w') (j:Nat) (u:Value):But g w (w'.setCell ⟨g,j,none⟩ u):=
 h.trans ⟨rfl,rfl,rfl,by simp [World.setCell],fun k _ hk=>Below.heap_setCell _ _ _ _ hk⟩
theorem But.alloc (h:But g w w') (o:Obj):But g w (w'.alloc o):=h.trans ⟨rfl,rfl,rfl,by simp,fun k hk _=>Below.heap_alloc _ _ _ hk⟩
theorem But.setCells (h:But g w w') (o:Nat) (cs:List Value):But g w (w'.setCells g o cs):=by
 obtain ⟨h1,h2,h3,h4,h5⟩:=Ae g cs o w';exact h.trans ⟨h1,h2,h3,by rw [h4];exact Xaj _,fun k _ hk=>h5 k hk⟩
theorem Kd {B b:Nat} (h:Below B w w') (hb:B≤b) (o:Nat) (cs:List Value):Below B w (w'.setCells b o cs):=by
 obtain ⟨h1,h2,h3,h4,h5⟩:=Ae b cs o w';exact h.trans ⟨h1,h2,h3,by rw [h4];exact Xaj _,fun k hk=>h5 k (by omega)⟩
theorem But.new (h:But g w w') {b:Nat} (hb:w.heap.size≤b) (k:But b w' w''):But g w w'':=
 ⟨k.os.trans h.os,k.tape.trans h.tape,k.output.trans h.output,Nat.le_trans h.size k.size,fun i hi hg=>(k.block i (Waj hi h.size) (by omega)).trans (h.block i hi hg)⟩
theorem Ia.but (h:Ia w g vs t) {b:Nat} (hb:But b w w') (hg:g≠b):Ia w' g vs t:=(hb.block g h.lt hg).trans h
theorem Row.but {A:Option Addr} {bs:List UInt8} {b:Nat} (h:Row w w.heap.size A bs) (hb:But b w w') (hg:bs≠ []→∀p,A=some p→p.block≠b):Row w' w'.heap.size A bs:=by
 rcases h with rfl|⟨b',off,rfl,hb',hc⟩
 ·exact .inl rfl
 ·refine .inr ⟨b',off,rfl,Waj hb' hb.size,fun j u hu=>?_⟩;have hne:bs≠ []:=fun e=>by subst e;simp at hu
  rw [World.cell?_of_block (w:=w) (hb.block b' hb' (hg hne _ rfl))];exact hc j u hu
theorem Ad {P:Program} {id:Nat} {Q:Exit→Act→World→Prop} {a:Act} {w:World} {l:List Oper} (n:Nat) (hm:P.follows .mixedOrders=true) (hB:Region.lexTailB .any l.toArray n=true)
 (h:∀w1,w1=w.drew→wpStill P l.toArray w1 (fun a'=>wpList P l.toArray Q (l.drop n) a' w1) (l.take n) a):(Code.region id l.toArray true).wp P Q a w:=wp_region_still_tail n hm hB (h _ rfl)
end
section
variable {P:Program} {w:World} {ops:Array Oper} {rest:List Oper} {o:Oper} {a:Act} {Q:Exit→Act→World→Prop}
theorem Eb (hgd:o.guard=none) (t:TypeId) (parts:List (Nat×Operand)) (ho:o.op=.build t parts.toArray) (ps:List (Nat×Value)) (hp:(parts.map fun (i,x)=>(i,a.eval x))=ps) (v:Value) (hr:∀w,(Instr.build t ps.toArray).run P w=.ok v w)
 (h:wpList P ops Q rest (a.put o.dst v) w):wpList P ops Q (o::rest) a w:=by
 refine wpList_plain hgd fun K hK=>?_;unfold Oper.wp;simp only [execOp,ho,List.map_toArray,hp,hr,Sem.run_bind,Sem.run_pure,Result.andThen_ok];exact hK _ _ h
theorem Vk (hgd:o.guard=none) (t:TypeId) (n:Nat) (parts:List (Nat×Operand)) (ho:o.op=.buildSlice t n parts.toArray) (ps:List (Nat×Value)) (hp:(parts.map fun (i,x)=>(i,a.eval x))=ps) (e:TypeId) (vs:Array Value)
 (hr:∀w,(Instr.buildSlice t n ps.toArray).run P w=.ok (.slice (some ⟨w.heap.size,0,none⟩) n n) (w.alloc (.cells vs e)))
 (h:∀w',w'=w.alloc (.cells vs e)→wpList P ops Q rest (a.put o.dst (.slice (some ⟨w.heap.size,0,none⟩) n n)) w'):wpList P ops Q (o::rest) a w:=by
 refine wpList_plain hgd fun K hK=>?_;unfold Oper.wp;simp only [execOp,ho,List.map_toArray,hp,hr,Sem.run_bind,Sem.run_pure,Result.andThen_ok];exact hK _ _ (h _ rfl)
theorem Ke (hgd:o.guard=none) (t:TypeId) (ho:o.op=.alloc t) (vs:Array Value) (hz:∀w,(zeroValue t).run P w=.ok (.agg vs) w)
 (h:∀w',w'=w.alloc (.cells vs t)→wpList P ops Q rest (a.put o.dst (.pointer (some ⟨w.heap.size,0,none⟩))) w'):wpList P ops Q (o::rest) a w:=by
 refine wpList_plain hgd fun K hK=>?_;unfold Oper.wp;simp only [execOp,ho,Instr.alloc,hz,newVar,Value.cells,Sem.run_bind,Sem.run_pure,Result.andThen_ok,go_sem];exact hK _ _ (h _ rfl)
theorem Qb (hgd:o.guard=none) (t:TypeId) (x y:Operand) (ho:o.op=.store t x y) (g j:Nat) (ik:IntKind) (z:Int) (hx:a.eval x=.pointer (some ⟨g,j,none⟩)) (hy:a.eval y=.int ik z) (hs:(P.info? t).map (·.size)=some 1) (ht:w.there g j 1)
 (h:∀w',w'=w.setCell ⟨g,j,none⟩ (.int ik z)→wpList P ops Q rest (a.put o.dst undef) w'):wpList P ops Q (o::rest) a w:=by
 refine wpList_plain hgd fun K hK=>?_;obtain ⟨i0,hi0,hs0⟩:=Option.map_eq_some_iff.1 hs;have hst:=run_storeCells_cells (P:=P) g j [.int ik z] 0 w (fun i hi=>by simpa using (ht i hi).1) (fun i hi=>by simpa using (ht i hi).2) (by intro v hv;cases List.mem_singleton.1 hv;rfl);have hrun:(Instr.storeAt t (.pointer (some ⟨g,j,none⟩)) (.int ik z)).run P w=.ok () (w.setCell ⟨g,j,none⟩ (.int ik z)):=by
  simp only [Instr.storeAt,Instr.sureAddr,Sem.run_bind,Sem.run_pure,Result.andThen_ok];simp [storeVar,sizeOf,typeInfo,hi0,hs0,Value.cells,hst,World.setCells]
 unfold Oper.wp;simp only [execOp,ho,hx,hy,hrun,Sem.run_bind,Sem.run_pure,Result.andThen_ok];exact hK _ _ (h _ rfl)
theorem Mm (hgd:o.guard=none) (t:TypeId) (x:Operand) (ho:o.op=.box t x) (vs:Array Value) (hx:a.eval x=.agg vs)
 (h:∀w',w'=w.alloc (.cells vs t)→wpList P ops Q rest (a.put o.dst (.pointer (some ⟨w.heap.size,0,none⟩))) w'):wpList P ops Q (o::rest) a w:=by
 refine wpList_plain hgd fun K hK=>?_;unfold Oper.wp;simp only [execOp,ho,hx,Instr.box];simp only [newVar,Value.cells,Sem.run_bind,Sem.run_pure,Result.andThen_ok,go_sem];exact hK _ _ (h _ rfl)
end
theorem Mj {P:Program} {t e:TypeId} {n:Nat} {ik:IntKind} (vs:List Value) (k:Nat) (v:Value) (w:World) (hu:P.underlying t=some (.array n e)) (he:P.underlying e=some (.int ik)) (hs:(P.info? e).map (·.size)=some 1) (hk:k<n) (hv:vs[k]? =some v):
 (Instr.index t (.agg vs.toArray) (.int .i64 (k:Int))).run P w=.ok v w:=by
 cases hq:P.info? e with
 |none=>simp [hq] at hs
 |some i=>
  have hs1:i.size=1:=by simpa [hq] using hs
  simp [Instr.index,run_underlying hu,asIntOf,hk,part,isAgg,run_underlying he,sizeOf,typeInfo,hq,hs1,hv,go_sem]
theorem Row.apart {w:World} {B g:Nat} {A:Option Addr} {bs:List UInt8} (h:Row w B A bs) (hg:B≤g):bs≠ []→∀p,A=some p→p.block≠g:=by
 intro hne p hp;rcases h with rfl|⟨b,off,rfl,hb,_⟩
 ·exact absurd rfl hne
 ·cases hp;show b≠g;omega
theorem Xb (vs cs:List Value) (h:cs.length=vs.length):Ub vs 0 cs=cs:=by simp [Ub,h]
theorem Yi {P:Program} {fn:Func} {R:Ending→World→Prop} {a:Act} {w:World} {p:Tmp} {ty:TypeId} {d:TypeDesc} (hres:fn.results=#[.cell p ty]) (g:Nat) (vs:List Value) (t:TypeId)
 (hp:a.tmps.getD p undef=.pointer (some ⟨g,0,none⟩)) (hg:Ia w g vs t) (hu:P.underlying ty=some d) (hd:(match d with |.struct _|.array _ _=>true|_=>false)=true) (hi:(P.info? ty).map (·.size)=some vs.length)
 (hdf:a.defers= []) (hR:R (.returned (.agg vs.toArray)) w):bodyPost P fn R .ret a w:=
 bodyPost_ret (results_cell_row hres a.tmps w g t vs.toArray (0,0) d hp hg hu hd (by simpa using hi)) hdf hR
theorem FF {α:Type} (l:List α) (k n:Nat) (u z:α) (hl:l.length=k) (hk:k<n):(l++List.replicate (n-k) z).set k u=l++[u]++List.replicate (n-(k+1)) z:=by
 obtain ⟨m,hm⟩:∃m,n-k=m+1:=⟨n-k-1,by omega⟩;rw [hm,show n-(k+1)=m by omega,List.set_append_right _ _ (by omega),hl,Nat.sub_self,List.replicate_succ];simp
theorem Row.piece {w:World} {B b off:Nat} {bs:List UInt8} (h:Row w B (some ⟨b,off,none⟩) bs) (i n:Nat):Row w B (some ⟨b,off+i,none⟩) ((bs.drop i).take n):=by
 rcases h with rfl|⟨b',off',hA,hb,hc⟩
 ·exact .inl (by simp)
 ·cases hA
  refine .inr ⟨b,off+i,rfl,hb,fun j u hu=>?_⟩;rw [List.getElem?_take] at hu
  split at hu
  ·rw [List.getElem?_drop] at hu;rw [Nat.add_assoc];exact hc (i+j) u hu
  ·cases hu
end Go.Proofs.YtoggkhjaghkpnaaGreatDoor
namespace Go.Proofs.YtoggkhjaghkpnaaGreatDoor
open Go.RowKit
theorem Qc:(Tryz.prog.info? 5).map (·.size)=some 1:=by kernel_rfl
theorem Kg (us:List UInt8):∀v∈us.map Fa,v.oneCell'=true:=by
 intro v hv;obtain ⟨x,_,rfl⟩:=List.mem_map.1 hv;rfl
theorem Yo {w:World} {ops:Array Oper} {rest:List Oper} {o:Oper} {a:Act} {Q:Exit→Act→World→Prop} (hgd:o.guard=none) (d s:Operand)
 (ho:o.op=.call {callee:=.builtin .copy,args:=#[d,s],argTypes:=#[24,24]}) (g off dLen dCap sLen sCap B m:Nat) (A:Option Addr) (us:List UInt8) (hd:a.eval d=.slice (some ⟨g,off,none⟩) dLen dCap) (hs:a.eval s=.slice A sLen sCap)
 (hl:us.length=sLen) (hm:min sLen dLen=m) (hr:Row w B A us) (ht:w.there g off m) (h:∀w',w'=w.setCells g off ((us.take dLen).map Fa)→wpList Tryz.prog ops Q rest (a.put o.dst (.int .i64 (m:Int))) w'):wpList Tryz.prog ops Q (o::rest) a w:=by
 subst hm;replace h:=h _ rfl;have hlen:((us.take dLen).map Fa).length=Nat.min sLen dLen:=by rw [Uaj,zaj,hl,Nat.min_comm]
 by_cases h0:Nat.min sLen dLen=0
 ·have e:(us.take dLen).map Fa= []:=List.eq_nil_of_length_eq_zero (hlen.trans h0);refine wpList_copy_nothing hgd d s _ _ ho 5 Tryz.underlying24 Qc _ _ _ _ _ _ hd hs h0 ?_;rw [e] at h;have e2:(min sLen dLen:Nat)=0:=h0;rw [e2] at h;exact h
 ·have hpos:us≠ []:=by
   intro e;subst e;simp at hl;subst hl;simp at h0
  rcases hr with e|⟨b,bo,rfl,hb,hc⟩
  ·exact absurd e hpos
  ·refine wpList_plain hgd fun K hK=>?_;have hrun:=run_copy_cells (P:=Tryz.prog) w 24 24 o.type 5 g off dLen dCap ⟨b,bo,none⟩ sLen sCap ((us.take dLen).map Fa) Tryz.underlying24 Qc hlen (fun j v hj=>by
    rw [Addr.add_mid];rw [List.getElem?_map] at hj;cases hu:(us.take dLen)[j]? with
    |none=>rw [hu] at hj;cases hj
    |some u=>
     rw [hu] at hj;cases hj
     refine hc j u ?_;rw [List.getElem?_take] at hu
     split at hu
     ·exact hu
     ·cases hu) (fun j hj=>(ht j (by rw [hlen] at hj;exact hj)).1) (fun j hj=>(ht j (by rw [hlen] at hj;exact hj)).2) (Kg _)
   unfold Oper.wp;simp only [execOp,ho,resolve,invoke,builtin,Sem.run_bind,Sem.run_pure,Result.andThen_ok,List.map_toArray,List.map_cons,List.map_nil,hd,hs,hrun];have e3:goInt (((us.take dLen).map Fa).length:Int)=.int .i64 ((min sLen dLen:Nat):Int):=by rw [hlen];rfl
   rw [e3];exact hK _ _ h
def Zi (A:Option Addr) (l cap:Nat):Option Addr:=if cap=l then A else A.map (·.add l)
theorem Row.cut {w:World} {B:Nat} {A:Option Addr} {us:List UInt8} (h:Row w B A us) (l cap:Nat) (hl:us.length≤cap):Row w B (Zi A l cap) (us.drop l):=by
 unfold Zi
 split
 ·exact .inl (List.drop_eq_nil_of_le (by omega))
 ·rcases h with rfl|⟨b,off,rfl,hb,hc⟩
  ·exact .inl (by simp)
  ·refine .inr ⟨b,off+l,by simp [Addr.add_mid],hb,fun j u hu=>?_⟩;rw [List.getElem?_drop] at hu;rw [Nat.add_assoc];exact hc (l+j) u hu
theorem EA {w:World} {ops:Array Oper} {rest:List Oper} {o:Oper} {a:Act} {Q:Exit→Act→World→Prop} (hgd:o.guard=none) (x y:Operand) (ho:o.op=.slice 24 x (some y) none none)
 (A:Option Addr) (len cap l:Nat) (hx:a.eval x=.slice A len cap) (hy:a.eval y=.int .i64 (l:Int)) (hl:l≤len)
 (h:wpList Tryz.prog ops Q rest (a.put o.dst (.slice (Zi A l cap) (len-l) (cap-l))) w):wpList Tryz.prog ops Q (o::rest) a w:=by
 refine wpList_plain hgd fun K hK=>?_;obtain ⟨i0,hi0,hs0⟩:=Option.map_eq_some_iff.1 Qc;have hrun:(Instr.sliceAt 24 (.slice A len cap) (some (.int .i64 (l:Int))) none none).run Tryz.prog w=.ok (.slice (Zi A l cap) (len-l) (cap-l)) w:=by
  have hu:Tryz.prog.underlying 24=some (.slice 5):=Tryz.underlying24;have h1:(Instr.sliceAt 24 (.slice A len cap) (some (.int .i64 (l:Int))) none none).run Tryz.prog w=(Instr.slice 24 (.slice A len cap) (some (.int .i64 (l:Int))) none none).run Tryz.prog w:=by
   simp [Instr.sliceAt,run_underlying hu]
  rw [h1];have hl':(l:Int)≤(len:Int):=by omega
  simp [Instr.slice,run_underlying hu,Instr.sliceBounds,run_sliceBound,hl,sizeOf,typeInfo,hi0,hs0,Zi]
 unfold Oper.wp;simp only [execOp,ho,hx,hy,Option.map_some,Option.map_none,hrun,Sem.run_bind,Sem.run_pure,Result.andThen_ok];exact hK _ _ h
def Sd (w:World) (base:Nat) (v:Value) (bs:List UInt8):Prop:=w.ownsRow base 5 1 v bs.length (bs.map Fa)
section
variable {w w':World} {base:Nat} {v:Value} {bs:List UInt8}
theorem Sd.kept_alloc (h:Sd w base v bs) (o:Obj):Sd (w.alloc o) base v bs:=World.ownsRow.alloc h o
theorem Sd.drewN (h:Sd w base v bs) (n:Nat):Sd (w.drewN n) base v bs:=h
theorem Sd.drew (h:Sd w base v bs):Sd w.drew base v bs:=h
theorem Sd.made (w:World) (c:Nat) (hb:base≤w.heap.size) (hc:c≤1000000):Sd (w.alloc (.cells (Xh (List.replicate c 0)) 5)) base (.slice (some ⟨w.heap.size,0,none⟩) 0 c) []:=
 World.ownsRow_made w _ c hb (by simp only [maxLen];omega) (by simp [Xh])
theorem Sd.lit (w:World) (bs:List UInt8) (hb:base≤w.heap.size) (hc:bs.length≤1000000):Sd (w.alloc (.cells (Xh bs) 5)) base (.slice (some ⟨w.heap.size,0,none⟩) bs.length bs.length) bs:=by
 have h:=World.ownsRow_lit (base:=base) (e:=5) (size:=1) w (Xh bs) bs.length hb (by simp only [maxLen];omega) (by simp [Xh]);simp only [Xh] at h ⊢;exact h
theorem Sd.form (h:Sd w base v bs):∃A c,v=.slice A bs.length c∧bs.length≤c∧(A=none→c=0)∧Row w w.heap.size A bs:=by
 rcases h.2 with ⟨rfl,hn⟩|⟨g,cap,cur,rfl,hb,hg,hnc,_⟩
 ·have:bs= []:=List.eq_nil_of_length_eq_zero hn;subst this;exact ⟨none,0,rfl,Xaj _,fun _=>rfl,.inl rfl⟩
 ·refine ⟨_,cap,rfl,hnc,(fun h=>by cases h),.inr ⟨g,0,rfl,(World.ownsRow.lt h g rfl).2,fun j u hu=>?_⟩⟩;have :=World.ownsRow.cells h (g:=g) rfl j (Fa u) (by rw [List.getElem?_map,hu];rfl)
  rwa [Go.WideShapes.add_plain] at this
theorem Sd.form_pos (h:Sd w base v bs) (hp:0<bs.length):∃g c,v=.slice (some ⟨g,0,none⟩) bs.length c∧bs.length≤c∧c≤maxLen∧base≤g∧Row w w.heap.size (some ⟨g,0,none⟩) bs:=by
 rcases h.2 with ⟨rfl,hn⟩|⟨g,cap,cur,rfl,hb,hg,hnc,hcm,_⟩
 ·omega
 ·refine ⟨g,cap,rfl,hnc,hcm,hb,.inr ⟨g,0,rfl,(World.ownsRow.lt h g rfl).2,fun j u hu=>?_⟩⟩;have :=World.ownsRow.cells h (g:=g) rfl j (Fa u) (by rw [List.getElem?_map,hu];rfl)
  rwa [Go.WideShapes.add_plain] at this
theorem Sd.far (h:Sd w base v bs):∀k,v.ownBlock=some k→base≤k:=fun k hk=>(World.ownsRow.lt h k hk).1
end
theorem Vf {w:World} {ops:Array Oper} {rest:List Oper} {o:Oper} {a:Act} {Q:Exit→Act→World→Prop} (hgd:o.guard=none) (s x:Operand)
 (ho:o.op=.call {callee:=.builtin .append,args:=#[s,x],argTypes:=#[24,24]}) (base:Nat)
 (v:Value) (bs us:List UInt8) (B:Nat) (A:Option Addr) (c:Nat) (hs:a.eval s=v) (hown:Sd w base v bs) (hx:a.eval x=.slice A us.length c) (hA:A=none→c=0) (hr:Row w B A us)
 (hlen:bs.length+us.length≤1000000) (hbase:base≤w.heap.size)
 (h:∀v' w',Sd w' base v' (bs++us)→Below base w w'→wpList Tryz.prog ops Q rest (a.put o.dst v') w'):wpList Tryz.prog ops Q (o::rest) a w:=by
 obtain ⟨i0,hi0,hz0,hz1,hz2⟩:=info_parts Yq;rcases A with _|ad
 ·have:us= []:=by
   rcases hr with h|⟨_,_,h,_⟩
   ·exact h
   ·cases h
  subst this;rw [hA rfl] at hx;exact wpList_append_own_none hgd s x 24 ho base 5 i0 1 Tryz.underlying24 hi0 v bs.length (bs.map Fa) hs hown hx (h v w (by simpa using hown) (Below.refl _ _))
 ·refine wpList_append_own w hgd s x 24 ho base 5 i0 _ 1 1 Tryz.underlying24 hi0 hz0 hz1 hz2 rfl (by omega) v bs.length (bs.map Fa) hs hown ad us.length c (us.map Fa) hx (by simp) ?_ ?_ (by simp only [maxLen];omega) (by omega) hbase ?_
  ·intro j u hu;rw [List.getElem?_map] at hu;cases hj:us[j]? with
   |none=>rw [hj] at hu;cases hu
   |some q=>
    rw [hj] at hu;rcases hr with rfl|⟨b,off,hb1,_,hc⟩
    ·simp at hj
    ·cases hb1
     rw [Go.WideShapes.add_plain,hc j q hj];exact hu
  ·intro u hu;obtain ⟨q,_,rfl⟩:=List.mem_map.1 hu;rfl
  ·intro v' w' h2 h3 _;refine h v' w' ?_ ((Below.refl _ _).grown h3 hbase (fun k hk=>hown.far k hk));unfold Sd;simpa using h2
section
variable {A B:Option Addr} {c d n:Nat} {xs ys:List UInt8} {w:World}
end
theorem Row.head {w:World} {B:Nat} {A:Option Addr} {xs ys:List UInt8} (h:Row w B A (xs++ys)):Row w B A xs:=by
 have h:=h.take xs.length
 rwa [List.take_left' rfl] at h
end Go.Proofs.YtoggkhjaghkpnaaGreatDoor
namespace Go.Proofs.YtoggkhjaghkpnaaGreatDoor
open Go.RowKit Go.Extern.Stop Go.Stop Go.Extern
abbrev Ib (a:Addr):Value:=.iface 178 (.pointer (some a))
end Go.Proofs.YtoggkhjaghkpnaaGreatDoor
namespace Go.Proofs.YtoggkhjaghkpnaaGreatDoor
open Go.RowKit Go.Stop
def LU (W:World) (g:Nat) (a:Addr):Prop:=W.cell? ⟨g,0,none⟩=some (Ib a)∧∃c t,W.heap[a.block]? =some (.cells c t (0,0))
theorem LU.below {W W':World} {g:Nat} {a:Addr} (h:LU W g a) (hb:Below W.heap.size W W'):LU W' g a:=by
 obtain ⟨h1,c,t,h2⟩:=h;refine ⟨(hb.cell (block_lt_of_cell h1)).trans h1,c,t,(hb.block _ ?_).trans h2⟩;rcases Nat.lt_or_ge a.block W.heap.size with hlt|hge
 ·exact hlt
 ·rw [Array.getElem?_eq_none hge] at h2;cases h2
theorem X7:∀u,Tryz.prog.typeName? 3 u=some "*errors.errorString"→u=178:=typeName_ptr_named (nm:="errors.errorString") (by kernel_rfl) (by kernel_rfl) (by decide)
theorem LZ:Tryz.prog.cellsOf 195=1:=by kernel_rfl
theorem VV:Tryz.prog.cellsOf 9=1:=by kernel_rfl
theorem Qv {W:World}:∀(l:List (String×List UInt8)) (gs:List Nat) (ps:List MemPlace),l.map (fun x=>Tryz.prog.globalNamed x.1)=gs.map some→
 (∀g∈gs,(Tryz.prog.globals[g]?).map (·.type)=some 57)→DataW.LaidVars Tryz.prog W (l.map fun x=>(x.1,.iface "*errors.errorString" (.ptr (.agg [.lit (.string x.2)])))) ps→ps.Nodup→
 (∀b off,MemPlace.cell b off∈ps→(∃c t,W.heap[b]? =some (.cells c t (0,0)))∧∀u v,W.cell? ⟨b,off,none⟩=some (.iface u v)→Value.okWide Tryz.prog W .any 0 u v)→
 ∃es:List Addr,es.length=gs.length∧es.Nodup∧(∀a∈es,MemPlace.cell a.block a.off∈ps∧a.spot=none)∧∀(i g:Nat) (a:Addr),gs[i]? =some g→es[i]? =some a→LU W g a
 | [],[],_,_,_,_,_,_=>⟨[],rfl,List.nodup_nil,fun _ h=>(by cases h),fun i g a h=>by simp at h⟩
 | [],_::_,_,h,_,_,_,_=>by simp at h
 |_::_,[],_,h,_,_,_,_=>by simp at h
 |x::l,g::gs,ps,hgs,hts,hv,hnd,hrows=>by
  rw [List.map_cons,List.map_cons,List.cons.injEq] at hgs;obtain ⟨g0,t0,cs0,f0,p0,q0,hg0,ht0,hv0,hd0,hq,rfl⟩:=hv;obtain rfl:=Option.some.inj (hgs.1.symm.trans hg0);obtain rfl:=Option.some.inj ((hts g List.mem_cons_self).symm.trans ht0);have hok:∀u v,cs0.toList= [.iface u v]→Value.okWide Tryz.prog W .any 0 u v:=fun u v e=>by
   have hc0:cs0=#[.iface u v]:=by cases cs0;simp_all
   subst hc0;exact (hrows g 0 (by simp [MemPlace.row])).2 u v (by simpa using World.var?_cell hg0 hv0 0)
  obtain ⟨a0,s0,hcs,hc0,_,_,rfl⟩:=errorString_of_trod Tryz.underlying57 X7 Tryz.underlying178 Tryz.underlying195 rfl rfl Tryz.underlying9 LZ VV hd0 hok;have hcs':cs0=#[Ib a0]:=by cases cs0;simp_all
  subst hcs';obtain ⟨es,h1,h2,h3,h4⟩:=Qv l gs q0 hgs.2 (fun g hg=>hts g (List.mem_cons_of_mem _ hg)) hq (List.Nodup.sublist (List.sublist_append_right _ _) hnd) (fun b off hm=>hrows b off (List.mem_append_right _ hm));have hmem:MemPlace.cell a0.block a0.off∈MemPlace.row ⟨g,0,none⟩ (#[Ib a0]:Array Value).size++MemPlace.row a0 1++q0:=by simp [MemPlace.row]
  have hsp:a0.spot=none:=by simpa using World.cell?_spot hc0
  refine ⟨a0::es,by simp [h1],List.nodup_cons.2 ⟨fun hin=>?_,h2⟩,?_,?_⟩
  ·have hq1:=(h3 a0 hin).1;have hd:=(List.nodup_append.1 hnd).2.2 (MemPlace.cell a0.block a0.off) (by simp [MemPlace.row]) (MemPlace.cell a0.block a0.off) hq1;exact hd rfl
  ·intro a ha;rcases List.mem_cons.1 ha with rfl|ha
   ·exact ⟨hmem,hsp⟩
   ·exact ⟨List.mem_append_right _ (h3 a ha).1,(h3 a ha).2⟩
  ·intro i g' a hg' ha';cases i with
   |zero=>
    simp at hg' ha';subst hg' ha';exact ⟨by simpa using World.var?_cell hg0 hv0 0,(hrows _ _ hmem).1⟩
   |succ i=>exact h4 i g' a (by simpa using hg') (by simpa using ha')
end Go.Proofs.YtoggkhjaghkpnaaGreatDoor
namespace Go.Proofs.YtoggkhjaghkpnaaGreatDoor
open Go.RowKit
def Ec (x i:Nat):UInt8:=UInt8.ofNat (x/256^i)
def Ob (x k:Nat):List UInt8:=(List.range k).map (Ec x)
theorem Ta (x k:Nat):(Ob x k).length=k:=by simp [Ob]
theorem Mh (x k:Nat):Ob x (k+1)=Ob x k++[Ec x k]:=by simp [Ob,List.range_succ]
theorem MU (i:Nat):2^(8*i)=256^i:=by rw [Nat.pow_mul]
theorem Ut (x i:Nat):(x:Int)/2^(8*i)%256=((Ec x i).toNat:Int):=by
 rw [Bh,MU,←Int.natCast_ediv,Ec,UInt8.toNat_ofNat'];omega
theorem XV (l:List UInt8):∀a:Nat,l.foldl (fun x b=>x*256+b.toNat) a=a*256^l.length+Zf l:=by
 induction l with
 |nil=>intro a;simp [Zf]
 |cons u l ih=>
  intro a;rw [List.foldl_cons,ih,show Zf (u::l)=(u::l).foldl (fun x b=>x*256+b.toNat) 0 from rfl,List.foldl_cons,ih,List.length_cons,Nat.pow_succ,Nat.add_mul,Nat.zero_mul,Nat.zero_add,Nat.mul_assoc,Nat.mul_comm 256,Nat.add_assoc]
theorem YV (u:UInt8) (l:List UInt8):Zf (u::l)=u.toNat*256^l.length+Zf l:=by
 rw [show Zf (u::l)=(u::l).foldl (fun x b=>x*256+b.toNat) 0 from rfl,List.foldl_cons,XV,Nat.zero_mul,Nat.zero_add]
theorem QH (l:List UInt8) (k:Nat) (hk:k<l.length) (hn:l.length≤8):
 bits .or .u64 (Zf (l.take k).reverse:Int) (IntKind.u64.wrap (IntKind.u64.wrap (l[k].toNat:Int)*2^(8*k)))=(Zf (l.take (k+1)).reverse:Int):=by
 have h1:=Kz (l.take k).reverse;have hlk:(l.take k).reverse.length=k:=by rw [List.length_reverse,zaj];omega
 have h3:=l[k].toNat_lt;rw [Nd l k hk,List.reverse_append,List.reverse_singleton,List.singleton_append,YV,hlk];rw [hlk] at h1;have hp:256^k≤256^7:=Xq (by omega);generalize Zf (l.take k).reverse=a at *;generalize l[k].toNat=u at *;have hu:u*256^k≤255*256^k:=Nat.mul_le_mul_right _ (by omega);have e:IntKind.u64.wrap (IntKind.u64.wrap (u:Int)*2^(8*k))=((u*256^k:Nat):Int):=by
  rw [IntKind.wrap_u64,IntKind.wrap_u64,show (u:Int)%18446744073709551616=(u:Int) by omega,Bh,MU,←Int.natCast_mul];omega
 rw [e,u64_or_nat _ _ (by omega) (by omega),Nat.or_comm,nat_join (8*k) _ _ (by rw [MU];exact Nat.mul_mod_left _ _) (by rw [MU];exact h1)]
theorem Vt (x n:Nat) (w:World) (_hx:x<18446744073709551616) (hn:n≤8):
 Calls Tryz.prog 89 #[.int .u64 x,.int .i64 n] w fun e w'=>e=.returned (.tuple #[.slice (some ⟨w.heap.size,0,none⟩) n n,.nilIface])∧Below w.heap.size w w'∧Jg w' w.heap.size (Ob x n):=by
 have hmk:=Gs n n (Xaj _) (by omega);go_enter Tryz.func89,Tryz.ntmps89
 go_wp2
 go_loopw [7,19] (fun _ i wr=>∃k:Nat,k≤n∧i=.int .i64 k∧Below w.heap.size w wr∧Jg wr w.heap.size (Ob x k++List.replicate (n-k) 0)) (fun _ i _=>n-(intOf i).toNat)
 case atStart=>exact ⟨0,Nat.zero_le _,rfl,(Below.refl _ _).alloc (Xaj _) _,by simpa [Ob] using Jg.new w (List.replicate n 0)⟩
 case round=>
  obtain ⟨k,hk,rfl,hB,hM⟩:=hrel;by_cases hlt:k<n
  ·have hf:=hM.frozen k;obtain ⟨v3,hc3⟩:∃v,wr.cell? ⟨w.heap.size,k,none⟩=some v:=⟨_,hM.cell k (by simp [Ob];omega)⟩;have i1:(0:Int)≤(k:Int):=by omega
   have i2:(k:Int)<(n:Int):=by omega
   have HS:=Lib.hid (Ut x k)
   go_wp2
   go_roundw
   case rel=>
    rw [HS.out];refine ⟨k+1,by omega,by go_num,hB.setCell (p:=⟨w.heap.size,k,none⟩) (Xaj _) _,?_⟩;have h:=hM.set k (Ec x k);rw [UK _ k n _ (Ta x k) hlt,←Mh] at h;exact h
   case measure=>simp [intOf];omega
  ·go_wp2
   go_ret2
   refine ⟨rfl,hB,?_⟩;have e:k=n:=by omega
   subst e;simpa using hM
def Nm (x n k:Nat):List UInt8:=(List.range k).map fun i=>Ec x (n-1-i)
theorem Rj (x n k:Nat):(Nm x n k).length=k:=by simp [Nm]
theorem Rv (x n k:Nat):Nm x n (k+1)=Nm x n k++[Ec x (n-1-k)]:=by simp [Nm,List.range_succ]
theorem FA (x n:Nat):Nm x n n=(Ob x n).reverse:=by
 refine List.ext_getElem (by simp [Nm,Ob]) fun i h1 h2=>?_;simp [Nm,Ob]
theorem ZV (x n:Nat) (w:World) (_hx:x<18446744073709551616) (hn:n≤8):
 Calls Tryz.prog 139 #[.int .u64 x,.int .i64 n] w fun e w'=>e=.returned (.tuple #[.slice (some ⟨w.heap.size,0,none⟩) n n,.nilIface])∧Below w.heap.size w w'∧Jg w' w.heap.size (Ob x n).reverse:=by
 have hmk:=Gs n n (Xaj _) (by omega);have HR:=Lib.hid (FA x n);go_enter Tryz.func139,Tryz.ntmps139
 go_wp2
 go_loopw [7,19] (fun _ i wr=>∃k:Nat,k≤n∧i=.int .i64 k∧Below w.heap.size w wr∧Jg wr w.heap.size (Nm x n k++List.replicate (n-k) 0)) (fun _ i _=>n-(intOf i).toNat)
 case atStart=>exact ⟨0,Nat.zero_le _,rfl,(Below.refl _ _).alloc (Xaj _) _,by simpa [Nm] using Jg.new w (List.replicate n 0)⟩
 case round=>
  obtain ⟨k,hk,rfl,hB,hM⟩:=hrel;by_cases hlt:k<n
  ·have hf:=hM.frozen k;obtain ⟨v3,hc3⟩:∃v,wr.cell? ⟨w.heap.size,k,none⟩=some v:=⟨_,hM.cell k (by simp [Nm];omega)⟩;have i1:(0:Int)≤(k:Int):=by omega
   have i2:(k:Int)<(n:Int):=by omega
   have HS:=Lib.hid (Ut x (n-1-k))
   go_wp2
   go_roundw
   case rel=>
    rw [HS.out];refine ⟨k+1,by omega,by go_num,hB.setCell (p:=⟨w.heap.size,k,none⟩) (Xaj _) _,?_⟩;have h:=hM.set k (Ec x (n-1-k));rw [UK _ k n _ (Rj x n k) hlt,←Rv] at h;exact h
   case measure=>simp [intOf];omega
  ·go_wp2
   go_ret2
   refine ⟨rfl,hB,?_⟩;have e:k=n:=by omega
   subst e;rw [←HR.out];simpa using hM
theorem GA (A:Option Addr) (c n:Nat) (bs:List UInt8) (w:World) (hl:bs.length=n) (hr:Row w w.heap.size A bs) (hn:n≤8):
 Calls Tryz.prog 91 #[.slice A n c] w fun e w'=>e=.returned (.tuple #[.int .u64 (Zf bs.reverse:Int),.nilIface])∧w=w':=by
 subst hl;go_enter Tryz.func91,Tryz.ntmps91
 go_wp2
 go_loop [4,5,6,13] (fun x _ _ i=>∃k:Nat,k≤bs.length∧i=.int .i64 k∧x=.int .u64 (Zf (bs.take k).reverse:Int)) (fun _ _ _ i=>bs.length-(intOf i).toNat)
 case atStart=>exact ⟨0,Nat.zero_le _,rfl,rfl⟩
 case round=>
  obtain ⟨k,hk,rfl,rfl⟩:=hrel;by_cases hlt:k<bs.length
  ·obtain ⟨b,off,rfl,hb,hc⟩:=hr.at k hlt
   go_wp2
   go_round
   case rel=>exact ⟨k+1,by omega,by go_num,by rw [QH bs k hlt hn]⟩
   case measure=>simp [intOf];omega
  ·go_wp2
   go_ret2
   exact ⟨by rw [Zaj (by omega)];rfl,rfl⟩
def Nj (rest us:List UInt8) (h:Nat):List UInt8:=rest.take h++us++rest.drop (h+us.length)
theorem IA (rest us:List UInt8) (h:Nat) (hl:h+us.length≤rest.length):(Nj rest us h).length=rest.length:=by
 simp [Nj];omega
theorem RH (rest us:List UInt8) (h:Nat) (hl:h+us.length≤rest.length):(Nj rest us h).take (h+us.length)=rest.take h++us:=by
 rw [Nj,List.take_append_of_le_length (by simp;omega),Zaj (by simp;omega)]
theorem JA (X R T cs:List Value) (h:Nat) (hl:h+cs.length≤R.length):Ub (X++R++T) (X.length+h) cs=X++(R.take h++cs++R.drop (h+cs.length))++T:=by
 unfold Ub;rw [List.append_assoc X R T,List.take_length_add_append,Nat.add_assoc,List.drop_length_add_append,List.take_append_of_le_length (by omega),List.drop_append_of_le_length (by omega)];simp
def lenOf:Value→Nat|.slice _ n _=>n|_=>0
def Ch (x n:Nat):List Value:=(Ob x n).reverse.map Fa
theorem Ia.row {w:World} {g m:Nat} {vs:List Value} {t:TypeId} {us:List UInt8} (h:Ia w g vs t) (hv:vs.take m=us.map Fa):Row w w.heap.size (some ⟨g,0,none⟩) us:=by
 refine .inr ⟨g,0,rfl,h.lt,fun j u hu=>?_⟩;rw [Nat.zero_add];refine h.get ?_;have h1:(vs.take m)[j]? =some (Fa u):=by rw [hv,List.getElem?_map,hu];rfl
 rw [List.getElem?_take] at h1
 split at h1
 ·exact h1
 ·cases h1
def Ca (ds:List UInt8):Value:=.agg (ds.map Fa).toArray
def Of (w:World) (B:Nat) (v:Value) (us:List UInt8):Prop:=∃A c,v=.slice A us.length c∧Row w B A us∧us.length≤c∧c≤maxLen∧(A=none→c=0)
def xf (w:World) (B:Nat) (D:Option Addr) (ps:List (List UInt8)):Prop:=
 ps= []∨∃b off,D=some ⟨b,off,none⟩∧b<B∧∀j us,ps[j]? =some us→∃v,w.cell? ⟨b,off+j,none⟩=some v∧Of w B v us
theorem Of.below {w w':World} {B:Nat} {v:Value} {us:List UInt8} (h:Of w B v us) (hb:Below B w w'):Of w' B v us:=by
 obtain ⟨A,c,e,hr,h1,h2⟩:=h;exact ⟨A,c,e,hr.below hb,h1,h2⟩
theorem Of.more {w:World} {B B':Nat} {v:Value} {us:List UInt8} (h:Of w B v us) (hB:B≤B'):Of w B' v us:=by
 obtain ⟨A,c,e,hr,h1,h2⟩:=h;exact ⟨A,c,e,hr.more hB,h1,h2⟩
theorem xf.below {w w':World} {B:Nat} {D:Option Addr} {ps:List (List UInt8)} (h:xf w B D ps) (hb:Below B w w'):xf w' B D ps:=by
 rcases h with rfl|⟨b,off,rfl,hlt,hc⟩
 ·exact .inl rfl
 ·refine .inr ⟨b,off,rfl,hlt,fun j us hu=>?_⟩;obtain ⟨v,h1,h2⟩:=hc j us hu;exact ⟨v,(hb.cell hlt).trans h1,h2.below hb⟩
theorem xf.more {w:World} {B B':Nat} {D:Option Addr} {ps:List (List UInt8)} (h:xf w B D ps) (hB:B≤B'):xf w B' D ps:=by
 rcases h with rfl|⟨b,off,rfl,hlt,hc⟩
 ·exact .inl rfl
 ·refine .inr ⟨b,off,rfl,by omega,fun j us hu=>?_⟩;obtain ⟨v,h1,h2⟩:=hc j us hu;exact ⟨v,h1,h2.more hB⟩
theorem xf.at {w:World} {B:Nat} {D:Option Addr} {ps:List (List UInt8)} (h:xf w B D ps) (k:Nat) (hk:k<ps.length):∃b off A c,D=some ⟨b,off,none⟩∧w.cell? ⟨b,off+k,none⟩=some (.slice A ps[k].length c)∧Row w B A ps[k]∧ps[k].length≤c∧c≤maxLen∧(A=none→c=0):=by
 rcases h with rfl|⟨b,off,rfl,hlt,hc⟩
 ·simp at hk
 ·obtain ⟨v,h1,A,c,rfl,h2,h3,h4⟩:=hc k _ (xaj hk);exact ⟨b,off,A,c,rfl,h1,h2,h3,h4⟩
theorem Mf (ps:List (List UInt8)) (k:Nat):(ps.take k).flatten.length≤ps.flatten.length:=by
 conv=>rhs;rw [←List.take_append_drop k ps,List.flatten_append,qaj]
 omega
theorem Sd.keep {w w':World} {base:Nat} {v:Value} {bs:List UInt8} (h:Sd w base v bs) (hk:∀g,v.ownBlock=some g→w'.heap[g]? =w.heap[g]?):Sd w' base v bs:=by
 obtain ⟨h1,h2⟩:=h;refine ⟨h1,?_⟩;rcases h2 with h2|⟨g,cap,cur,hv,hg,hh,r⟩
 ·exact .inl h2
 ·refine .inr ⟨g,cap,cur,hv,hg,?_,r⟩;rw [hk g (by rw [hv];rfl)];exact hh
theorem Sd.on {w w':World} {base:Nat} {v:Value} {bs:List UInt8} (h:Sd w base v bs) (hb:Below w.heap.size w w'):Sd w' base v bs:=
 h.keep fun g hg=>hb.block g (World.ownsRow.lt h g hg).2
theorem Sd.but {w w':World} {base g:Nat} {v:Value} {bs:List UInt8} (h:Sd w base v bs) (hb:But g w w') (hg:g<base):Sd w' base v bs:=
 h.keep fun k hk=>hb.block k (World.ownsRow.lt h k hk).2 (by have :=(World.ownsRow.lt h k hk).1;omega)
def MZ (w:World) (bs:List UInt8) (e:Ending) (w':World):Prop:=
 ∃g c,e=.returned (.slice (some ⟨g,0,none⟩) bs.length c)∧w.heap.size≤g∧Below w.heap.size w w'∧Row w' w'.heap.size (some ⟨g,0,none⟩) bs
theorem Z7 (ms:List UInt8) (j:Nat) (h:j<ms.length):ms.getD j 0=ms[j]:=by simp [List.getD,h]
theorem Row.atD {w:World} {B:Nat} {A:Option Addr} {bs:List UInt8} (h:Row w B A bs) (k:Nat) (hk:k<bs.length):∃b off,A=some ⟨b,off,none⟩∧b<B∧w.cell? ⟨b,off+k,none⟩=some (Fa (bs.getD k 0)):=by
 obtain ⟨b,off,h1,h2,h3⟩:=h.at k hk;refine ⟨b,off,h1,h2,?_⟩;rw [h3];simp [List.getD,xaj hk]
theorem xV {w:World} {ops:Array Oper} {rest:List Oper} {o:Oper} {a:Act} {Q:Exit→Act→World→Prop} (hgd:o.guard=none) (l c:Operand) (ho:o.op=.makeSlice 24 l c) (m n:Nat) (hl:a.eval l=.int .i64 (m:Int)) (hc:a.eval c=.int .i64 (n:Int)) (hmn:m≤n) (hn:n≤1000000)
 (h:∀w',Below w.heap.size w w'→Jg w' w.heap.size (List.replicate n 0)→w'.heap.size=w.heap.size+1→wpList Tryz.prog ops Q rest (a.put o.dst (.slice (some ⟨w.heap.size,0,none⟩) m n)) w'):wpList Tryz.prog ops Q (o::rest) a w:=by
 refine wpList_plain hgd fun K hK=>?_;have hrun:=Gs m n hmn hn w;unfold Oper.wp;simp only [execOp,ho,hl,hc,hrun,Sem.run_bind,Sem.run_pure,Result.andThen_ok];exact hK _ _ (h _ ((Below.refl _ _).alloc (Xaj _) _) (Jg.new w _) (by simp))
theorem yV (g o l cap:Nat) (h:¬cap=l):Zi (some ⟨g,o,none⟩) l cap=some ⟨g,o+l,none⟩:=by
 unfold Zi;rw [if_neg h];simp [Addr.add_mid]
theorem Jg.cells {w:World} {g:Nat} {bs:List UInt8} (h:Jg w g bs):Ia w g (bs.map Fa) 5:=h
section
variable {w:World} {ops:Array Oper} {rest:List Oper} {o o1 o2:Oper} {a:Act} {Q:Exit→Act→World→Prop}
theorem VK (hg1:o1.guard=none) (hg2:o2.guard=none) (t:TypeId) (x y:Operand) (h1:o1.op=.alloc t) (h2:o2.op=.store t x y) (n:Nat) (ds:List UInt8)
 (hx:(a.put o1.dst (.pointer (some ⟨w.heap.size,0,none⟩))).eval x=.pointer (some ⟨w.heap.size,0,none⟩)) (hy:(a.put o1.dst (.pointer (some ⟨w.heap.size,0,none⟩))).eval y=Ca ds)
 (hz:∀w,(zeroValue t).run Tryz.prog w=.ok (.agg (List.replicate n (Fa 0)).toArray) w) (hs:(Tryz.prog.info? t).map (·.size)=some n) (hl:ds.length=n)
 (h:∀w',Below w.heap.size w w'→Ia w' w.heap.size (ds.map Fa) t→w'.heap.size=w.heap.size+1→wpList Tryz.prog ops Q rest ((a.put o1.dst (.pointer (some ⟨w.heap.size,0,none⟩))).put o2.dst undef) w'):wpList Tryz.prog ops Q (o1::o2::rest) a w:=by
 refine Ke hg1 t h1 _ hz ?_;intro w1 hw1;have hB1:Below w.heap.size w w1:=by rw [hw1];exact (Below.refl _ _).alloc (Xaj _) _
 have hC1:Ia w1 w.heap.size (List.replicate n (Fa 0)) t:=by rw [hw1];exact Ia.new w _ _
 have hz1:w1.heap.size=w.heap.size+1:=by rw [hw1];simp
 clear hw1;have hsz:(ds.map Fa).toArray.size=n:=by rw [List.size_toArray,Uaj,hl]
 refine wpList_store_mid hg2 t x y h2 w.heap.size 0 (ds.map Fa).toArray hx hy (by rw [hsz];exact hC1.there 0 n (by simp)) (by rw [hsz];exact hs) (all_oneCell_toArray (Kg ds)) ?_;have hC2:=hC1.setCells (cs:=ds.map Fa) (o:=0) (by simp [hl]);rw [Xb _ _ (by simp [hl])] at hC2;exact h _ (Kd hB1 (Xaj _) _ _) hC2 (by rw [(Ae _ _ _ _).2.2.2.1,hz1])
theorem Tc (hgd:o.guard=none) (t:TypeId) (x:Operand) (ho:o.op=.load t x) (g n:Nat) (ds:List UInt8) (e:TypeId) (hx:a.eval x=.pointer (some ⟨g,0,none⟩)) (hC:Ia w g (ds.map Fa) t) (hu:Tryz.prog.underlying t=some (.array n e))
 (hs:(Tryz.prog.info? t).map (·.size)=some n) (hl:ds.length=n) (h:wpList Tryz.prog ops Q rest (a.put o.dst (Ca ds)) w):wpList Tryz.prog ops Q (o::rest) a w:=
 wpList_load_row hgd t x ho g hx t (ds.map Fa).toArray (0,0) _ hC hu rfl (by rw [List.size_toArray,Uaj,hl];exact hs) h
theorem Li (hgd:o.guard=none) (t:TypeId) (x y:Operand) (ho:o.op=.store t x y) (g n:Nat) (vs:List Value) (ds:List UInt8) (hx:a.eval x=.pointer (some ⟨g,0,none⟩)) (hy:a.eval y=Ca ds) (hC:Ia w g vs t) (hv:vs.length=n)
 (hs:(Tryz.prog.info? t).map (·.size)=some n) (hl:ds.length=n) (h:∀w',But g w w'→Ia w' g (ds.map Fa) t→w'.heap.size=w.heap.size→wpList Tryz.prog ops Q rest (a.put o.dst undef) w'):wpList Tryz.prog ops Q (o::rest) a w:=by
 have hsz:(ds.map Fa).toArray.size=n:=by rw [List.size_toArray,Uaj,hl]
 refine wpList_store_mid hgd t x y ho g 0 (ds.map Fa).toArray hx hy (by rw [hsz];exact hC.there 0 n (by omega)) (by rw [hsz];exact hs) (all_oneCell_toArray (Kg ds)) ?_;have hC2:=hC.setCells (cs:=ds.map Fa) (o:=0) (by simp [hl,hv]);rw [Xb _ _ (by simp [hl,hv])] at hC2;exact h _ ((But.refl g w).setCells _ _) hC2 (Ae _ _ _ _).2.2.2.1
theorem Rk (hgd:o.guard=none) (t:TypeId) (ho:o.op=.alloc t) (n:Nat) (hz:∀w,(zeroValue t).run Tryz.prog w=.ok (.agg (List.replicate n (Fa 0)).toArray) w)
 (h:∀w',Below w.heap.size w w'→Ia w' w.heap.size (List.replicate n (Fa 0)) t→w'.heap.size=w.heap.size+1→wpList Tryz.prog ops Q rest (a.put o.dst (.pointer (some ⟨w.heap.size,0,none⟩))) w'):wpList Tryz.prog ops Q (o::rest) a w:=by
 refine Ke hgd t ho _ hz ?_;intro w1 hw1;exact h w1 (by rw [hw1];exact (Below.refl _ _).alloc (Xaj _) _) (by rw [hw1];exact Ia.new w _ _) (by rw [hw1];simp)
theorem Rb (hgd:o.guard=none) (t:TypeId) (x:Operand) (ho:o.op=.box t x) (ds:List UInt8) (hx:a.eval x=Ca ds)
 (h:∀w',Below w.heap.size w w'→Ia w' w.heap.size (ds.map Fa) t→w'.heap.size=w.heap.size+1→wpList Tryz.prog ops Q rest (a.put o.dst (.pointer (some ⟨w.heap.size,0,none⟩))) w'):wpList Tryz.prog ops Q (o::rest) a w:=by
 refine Mm hgd t x ho _ hx ?_;intro w1 hw1;exact h w1 (by rw [hw1];exact (Below.refl _ _).alloc (Xaj _) _) (by rw [hw1];exact Ia.new w _ _) (by rw [hw1];simp)
end
theorem Mi {fn:Func} {R:Ending→World→Prop} {a:Act} {w:World} {p:Tmp} {ty e:TypeId} {n:Nat} (hres:fn.results=#[.cell p ty]) (g:Nat) (ds:List UInt8)
 (hp:a.tmps.getD p undef=.pointer (some ⟨g,0,none⟩)) (hg:Ia w g (ds.map Fa) ty) (hu:Tryz.prog.underlying ty=some (.array n e)) (hi:(Tryz.prog.info? ty).map (·.size)=some n) (hl:ds.length=n)
 (hdf:a.defers= []) (hR:R (.returned (Ca ds)) w):bodyPost Tryz.prog fn R .ret a w:=
 Yi hres g (ds.map Fa) ty hp hg hu rfl (by rw [Uaj,hl];exact hi) hdf hR
theorem Ia.all {w:World} {g:Nat} {ds:List UInt8} {t:TypeId} (h:Ia w g (ds.map Fa) t):Row w w.heap.size (some ⟨g,0,none⟩) ds:=
 h.row (m:=ds.length) (by rw [←Uaj Fa,List.take_length])
theorem Ia.on {w w':World} {g:Nat} {vs:List Value} {t:TypeId} (h:Ia w g vs t) (hb:Below w.heap.size w w'):Ia w' g vs t:=h.below hb h.lt
end Go.Proofs.YtoggkhjaghkpnaaGreatDoor
namespace Go.Proofs.YtoggkhjaghkpnaaGreatDoor
open Go.RowKit
theorem SH (n:Nat):Builtin.zeroCells (Value.int .u8 0).cells n=(List.replicate n (Fa 0)).toArray:=by
 apply Array.ext_getElem?;intro i;simp only [Builtin.zeroCells,Value.cells];by_cases h:i<n
 ·simp [h,Nat.mod_one]
 ·simp [h]
theorem Wt (bs:List UInt8):(str bs).size=bs.length:=by simp [str,ByteArray.size]
theorem Kn (bs:List UInt8):Lib.strCells (str bs)=bs.map Fa:=by simp [Lib.strCells,str]
theorem Tv (w:World) (ty:TypeId) (A:Option Addr) (l c n:Nat) (hn:l+n≤1000000):
 (Builtin.append_ #[24,3] ty #[.slice A l c,.int .i64 (n:Int)]).run Tryz.prog w=(Builtin.append_ #[24,9] ty #[.slice A l c,.string (str (List.replicate n 0))]).run Tryz.prog w:=by
 obtain ⟨i0,hi0,hz0,hz1,hz2⟩:=info_parts Yq;have hs:(str (List.replicate n 0)).size=n:=by rw [Wt,List.length_replicate]
 have hf:∀w,(Builtin.firstCells 1 n (.string (str (List.replicate n 0)))).run Tryz.prog w=.ok (List.replicate n (Fa 0)).toArray w:=fun w=>by
  have h:=Lib.run_firstCells_string (P:=Tryz.prog) w 1 (str (List.replicate n 0));rw [hs,Kn,List.map_replicate] at h;exact h
 have hwr:IntKind.i64.wrap (n:Int)=(n:Int):=IntWalk.i64_in _ (by omega);have h1:¬(n:Int)<0:=by omega
 have h2:¬(281474976710656:Int)<(n:Int):=by omega
 have hzc:=SH;have ha:∀(n:Int) w,(asInt (.int .i64 n)).run Tryz.prog w=.ok n w:=fun n w=>by simp [asInt,asIntOf]
 have hw0:IntKind.i64.wrap 0=0:=by decide
 by_cases h0:n=0
 ·subst h0;rw [List.replicate_zero] at hs hf;have hf':∀w,(Builtin.firstCells 1 0 (.string (str []))).run Tryz.prog w=.ok #[] w:=hf;by_cases hroom:l≤c
  ·simp [Builtin.append_,run_underlying Tryz.underlying24,run_underlying Tryz.underlying3,run_underlying Tryz.underlying9,sizeOf,typeInfo,zeroValue,hi0,hz0,hz1,hz2,Builtin.lenOf,hs,hf',ha,hroom,hw0,hzc]
  ·have h63:¬(9223372036854775807<(l:Int)):=by omega
   have h48:¬(281474976710656<Builtin.nextslicecap l c):=by
    have :=growslice_fits (need:=l) (old:=c) (bytes:=1) (by omega) (by omega);omega
   simp [Builtin.append_,run_underlying Tryz.underlying24,run_underlying Tryz.underlying3,run_underlying Tryz.underlying9,sizeOf,typeInfo,zeroValue,hi0,hz0,hz1,hz2,Builtin.lenOf,hs,hf',ha,hroom,hw0,hzc,h63,h48]
 ·by_cases hroom:l+n≤c
  ·simp [Builtin.append_,run_underlying Tryz.underlying24,run_underlying Tryz.underlying3,run_underlying Tryz.underlying9,sizeOf,typeInfo,zeroValue,hi0,hz0,hz1,hz2,Builtin.lenOf,hs,hwr,h1,h2,hf,ha,hroom,h0,hzc]
  ·have h63:¬(9223372036854775807<(l:Int)+(n:Int)):=by omega
   have h48:¬(281474976710656<Builtin.nextslicecap (l+n) c):=by
    have :=growslice_fits (need:=l+n) (old:=c) (bytes:=1) (by omega) (by omega);omega
   simp [Builtin.append_,run_underlying Tryz.underlying24,run_underlying Tryz.underlying3,run_underlying Tryz.underlying9,sizeOf,typeInfo,zeroValue,hi0,hz0,hz1,hz2,Builtin.lenOf,hs,hwr,h1,h2,hf,ha,hroom,h0,hzc,h63,h48]
theorem Sd.form2 {w:World} {base:Nat} {v:Value} {bs:List UInt8} (h:Sd w base v bs):∃A c,v=.slice A bs.length c∧bs.length≤c∧c≤maxLen∧(A=none→c=0)∧Row w w.heap.size A bs:=by
 obtain ⟨A,c,hv,hc,hA,hR⟩:=h.form;refine ⟨A,c,hv,hc,?_,hA,hR⟩;rcases h.2 with ⟨h0,_⟩|⟨g,cap,cur,h0,_,_,_,hcm,_⟩
 ·rw [hv] at h0;injection h0 with _ _ e;rw [e];exact Nat.zero_le _
 ·rw [hv] at h0;injection h0 with _ _ e;rw [e];exact hcm
theorem TH {w:World} {ops:Array Oper} {rest:List Oper} {o:Oper} {a:Act} {Q:Exit→Act→World→Prop} (hgd:o.guard=none) (s x:Operand)
 (ho:o.op=.call {callee:=.builtin .append,args:=#[s,x],argTypes:=#[24,3]}) (base n:Nat)
 (v:Value) (bs:List UInt8) (hs:a.eval s=v) (hown:Sd w base v bs) (hx:a.eval x=.int .i64 (n:Int))
 (hlen:bs.length+n≤1000000) (hbase:base≤w.heap.size)
 (h:∀v' w',Sd w' base v' (bs++List.replicate n 0)→Below base w w'→wpList Tryz.prog ops Q rest (a.put o.dst v') w'):wpList Tryz.prog ops Q (o::rest) a w:=by
 obtain ⟨i0,hi0,hz0,hz1,hz2⟩:=info_parts Yq;have hsz:(str (List.replicate n 0)).size=n:=by rw [Wt,List.length_replicate]
 refine wpList_plain hgd fun K hK=>?_;obtain ⟨v',w',hr,h2,h3,_⟩:=Lib.run_append_own_string (P:=Tryz.prog) w base 24 9 o.type 5 i0 Tryz.underlying24 Tryz.underlying9 hi0 hz0 hz1 hz2 v bs.length (bs.map Fa) hown (str (List.replicate n 0)) (by rw [hsz];simp only [maxLen];omega) (by rw [hsz];omega) hbase;obtain ⟨A,c,rfl,_,_,_⟩:=hown.form;rw [←Tv w o.type A bs.length c n hlen] at hr;unfold Oper.wp execOp;simp only [ho,resolve,invoke,builtin,Sem.run_bind,Sem.run_pure,Result.andThen_ok,List.map_toArray,List.map_cons,List.map_nil,hs,hx,hr];refine hK _ _ (h v' w' ?_ ((Below.refl _ _).grown h3 hbase (fun k hk=>hown.far k hk)));rw [Kn,hsz,←List.map_append] at h2;unfold Sd;rw [qaj,List.length_replicate];exact h2
end Go.Proofs.YtoggkhjaghkpnaaGreatDoor
