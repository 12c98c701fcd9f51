import Derived.Test.YtoggkhjaghkpnaaGreatDoorKSgSigns
import Derived.Test.YtoggkhjaghkpnaaGreatDoorPart26
set_option maxRecDepth 100000
set_option maxHeartbeats 8000000
namespace Go.Proofs.YtoggkhjaghkpnaaGreatDoor.signSigns
open Go.ChangeShapes Go.WideShapes Go.ChangeAt Go.RowKit
theorem contract (H:Type) (enc:TypeId×Value→H) (W:World) (base:Nat) (args:Array Value) (ds gs:List (DataW H)) (before:List MemPlace)
 (hval:∀(j:Nat) t v,Tryz.f3.params[j]? =some t→args[j]? =some v→Value.okWide Tryz.prog W .any base t v)
 (hW:DataW.Whole enc Tryz.prog Tryz.f3.params.toList Rows.signSignsSpec.vars false W args.toList ds gs before) (hL:laidMetH Tryz.prog Rows.signSignsRow.laid W):
 Calls Tryz.prog 3 args W fun e W'=>∃v,e=.returned v∧Rows.signSignsSpec.post enc Tryz.prog Tryz.f3 false true false false W args v W':=by
 have hW':=hW;obtain ⟨p,q,hA0,hV,rfl,hfz,hnd⟩:=hW;have hA:DataW.TrodAll enc Tryz.prog W 0 (fun _=>true) true Tryz.f3.params.toList args.toList ds p:=hA0;rw [Tryz.params3] at hA hval;obtain ⟨v0,vs0,d0,ds0,p0,q0,hargs,rfl,rfl,h0,r0⟩:=trodAll_cons hA;obtain ⟨v1,vs1,d1,ds1,p1,q1,rfl,rfl,rfl,h1,r1⟩:=trodAll_cons r0;obtain ⟨v2,vs2,d2,ds2,p2,q2,rfl,rfl,rfl,h2,r2⟩:=trodAll_cons r1;obtain ⟨rfl,rfl,rfl⟩:=trodAll_nil r2;obtain rfl:args=#[v0,v1,v2]:=by cases args;simp_all
 have fin:∀W':World,Below W.heap.size W W'→∃v,Ending.returned (.bool true)=.returned v∧Rows.signSignsSpec.post enc Tryz.prog Tryz.f3 false true false false W #[v0,v1,v2] v W':=fun W' hb=>
  ⟨_,rfl,XO QV Tryz.underlying4 (by kernel_rfl) (by kernel_rfl) rfl ⟨rfl,rfl,rfl⟩ hW' hb⟩
 obtain ⟨seed,rfl,hs⟩:=open_key (hval 0 23 v0 rfl rfl) h0;obtain ⟨A,c,ta,rfl,nA,rA,hc1,hc2⟩:=Ft (hval 1 24 v1 rfl rfl) h1;obtain ⟨B,d,tb,rfl,nB,rB,hd1,hd2⟩:=Ft (hval 2 24 v2 rfl rfl) h2;obtain ⟨a,hS⟩:=LH hL;have walk:Calls Tryz.prog 3 #[Ca seed,.slice A ta.length c,.slice B tb.length d] W (gvn (.bool true) W):=by
  have CA:Hid (∀V,Bc (Ib a) V→Calls Tryz.prog 5 #[] V (gvn (.bool true) V)):=fun V hV=>Zy a V hV;by_cases hn:ta.length≤300
  ·by_cases hm:tb.length≤300
   ·have hq:(ta++tb).length=ta.length+tb.length:=qaj;have hl:=Sf seed;have hg:=zh seed (ta++tb);have ek:=Rz (xc seed) (xc seed) hl hl;have es:=Caa (Bg seed (ta++tb)) (Bg seed (ta++tb)) hg hg;rw [beq_self_eq_true] at ek es;have h2:∀g:Nat,In (some ⟨g,0,none⟩) 2 2 [ta,tb]:=fun g=>⟨rfl,by decide,by simp;omega,Xaj _,by unfold maxLen;omega,fun h=>by cases h⟩;refine SK A B ta.length c tb.length d (ta.length+tb.length) seed ta tb (ta++tb) (xc seed) (Bg seed (ta++tb)) (Ib a) W (Lib.hid hs) (Lib.hid hg) (Lib.hid hn) (Lib.hid hm) (Lib.hid rfl) (Lib.hid hq) CA
     (Lib.hid fun g V hp hV=>?_) (Lib.hid fun V hV=>Gt _ seed V hs hV) (Lib.hid fun V=>PK seed V hs) (Lib.hid fun A' c' V hV=>GU seed hs hV (by omega)) (Lib.hid fun g V hp hV=>?_) ek es hS ⟨rfl,hc1,hc2,nA,rA⟩ ⟨rfl,hd1,hd2,nB,rB⟩
    ·have b:=xO _ _ 2 2 [ta,tb] seed V hs (h2 g) hV hp;rw [show [ta,tb].flatten=ta++tb by simp] at b;exact b
    ·obtain ⟨hT,hF⟩:=SP g (ta.length+tb.length) (ta++tb) hq (by omega);have b:=Ko a _ 1 1 [ta++tb] (xc seed) (Bg seed (ta++tb)) V hl hg hT hV hp;rw [hF,Ry] at b;exact b
   ·exact Ov A B ta.length c tb.length d seed (Ib a) W (Lib.hid hn) (Lib.hid (by show 300<_;omega)) CA hS
  ·exact Nv A B ta.length c tb.length d seed (Ib a) W (Lib.hid (by show 300<_;omega)) CA hS
 refine walk.mono fun e W' ⟨he,hb⟩=>?_;subst he;exact fin W' hb
theorem laid_met (os:Os) (args:Array Value):laidMetH Tryz.prog Rows.signSignsRow.laid ((World.doorLaid Tryz.prog 400 os).forCall (fun _ _=>0) ⟨#[],args,[]⟩).memory:=
 laidMetH_of_parts3 (fuel:=8) (laidMet_of_run' 8 (by kernel_rfl) (by kernel_rfl)) (by kernel_rfl) (by kernel_rfl)
theorem reads (os:Os) {H:Type} (enc:TypeId×Value→H):∃places,DataW.whole enc Tryz.prog ((World.doorLaid Tryz.prog 400 os).forCall (fun _ _=>0) ⟨#[],#[.agg #[.int .u8 0,.int .u8 0,.int .u8 0,.int .u8 0,.int .u8 0,.int .u8 0,.int .u8 0,.int .u8 0,.int .u8 0,.int .u8 0,.int .u8 0,.int .u8 0,.int .u8 0,.int .u8 0,.int .u8 0,.int .u8 0,.int .u8 0,.int .u8 0,.int .u8 0,.int .u8 0,.int .u8 0,.int .u8 0,.int .u8 0,.int .u8 0,.int .u8 0,.int .u8 0,.int .u8 0,.int .u8 0,.int .u8 0,.int .u8 0,.int .u8 0,.int .u8 0],.slice none 0 0,.slice none 0 0],[]⟩).memory Tryz.f3.params.toList Rows.signSignsSpec.vars false (#[.agg #[.int .u8 0,.int .u8 0,.int .u8 0,.int .u8 0,.int .u8 0,.int .u8 0,.int .u8 0,.int .u8 0,.int .u8 0,.int .u8 0,.int .u8 0,.int .u8 0,.int .u8 0,.int .u8 0,.int .u8 0,.int .u8 0,.int .u8 0,.int .u8 0,.int .u8 0,.int .u8 0,.int .u8 0,.int .u8 0,.int .u8 0,.int .u8 0,.int .u8 0,.int .u8 0,.int .u8 0,.int .u8 0,.int .u8 0,.int .u8 0,.int .u8 0,.int .u8 0],.slice none 0 0,.slice none 0 0]:Array Value).toList 8=some ([.agg [.lit (.int .u8 0),.lit (.int .u8 0),.lit (.int .u8 0),.lit (.int .u8 0),.lit (.int .u8 0),.lit (.int .u8 0),.lit (.int .u8 0),.lit (.int .u8 0),.lit (.int .u8 0),.lit (.int .u8 0),.lit (.int .u8 0),.lit (.int .u8 0),.lit (.int .u8 0),.lit (.int .u8 0),.lit (.int .u8 0),.lit (.int .u8 0),.lit (.int .u8 0),.lit (.int .u8 0),.lit (.int .u8 0),.lit (.int .u8 0),.lit (.int .u8 0),.lit (.int .u8 0),.lit (.int .u8 0),.lit (.int .u8 0),.lit (.int .u8 0),.lit (.int .u8 0),.lit (.int .u8 0),.lit (.int .u8 0),.lit (.int .u8 0),.lit (.int .u8 0),.lit (.int .u8 0),.lit (.int .u8 0)],.nil,.nil],[],places):=
 ⟨[],by kernel_rfl⟩
theorem lifted (os:Os) (started:os.Started) (H:Type) (enc:TypeId×Value→H) (F:Stop.Interp):
 ReturnsInHanded {} Tryz.checked os 3 .any ((OpenSpec.ofChange Rows.signSignsSpec).preRow enc Tryz.prog Tryz.f3 Rows.signSignsRow.domain false Rows.signSignsRow.laid) (((OpenSpec.ofChange Rows.signSignsSpec).at F).post enc Tryz.prog Tryz.f3 false true false false):=by
 obtain ⟨places,hx⟩:=reads os enc;refine returnsInHanded_of_row (C:=Tryz.checked) (s:=OpenSpec.ofChange Rows.signSignsSpec) own started (by kernel_rfl) Tryz.func3
  (witness_row_atRef (enc:=enc) (C:=Tryz.checked) false (World.doorLaid Tryz.prog 400 os) #[.agg #[.int .u8 0,.int .u8 0,.int .u8 0,.int .u8 0,.int .u8 0,.int .u8 0,.int .u8 0,.int .u8 0,.int .u8 0,.int .u8 0,.int .u8 0,.int .u8 0,.int .u8 0,.int .u8 0,.int .u8 0,.int .u8 0,.int .u8 0,.int .u8 0,.int .u8 0,.int .u8 0,.int .u8 0,.int .u8 0,.int .u8 0,.int .u8 0,.int .u8 0,.int .u8 0,.int .u8 0,.int .u8 0,.int .u8 0,.int .u8 0,.int .u8 0,.int .u8 0],.slice none 0 0,.slice none 0 0] rfl (by kernel_rfl) (by kernel_rfl) (by kernel_rfl)
   (OpenSpec.preRow_of_cond 8 hx (by kernel_rfl) (fun k hk=>by cases hk) (by kernel_rfl) (laid_met os _))) ?_
 intro W base args ds gs before hval hW _ _ _ hL _ _;exact contract H enc W base args ds gs before hval hW hL
theorem said:Rows.SignSignsSaid:=
 OpenClaim.holds_of_cond 3 Tryz.f3 rfl rfl rfl rfl rfl rfl rfl ⟨rfl,rfl,rfl,rfl,rfl⟩ rfl rfl rfl rfl rfl (by kernel_rfl) Tryz.func3 (by kernel_rfl)
  (of_decide_eq_true (by kernel_rfl)) (by unfold Func.isWrapper;first|(rw [if_pos (by decide+kernel)];kernel_rfl)|(rw [if_neg (by decide+kernel)];exact ⟨rfl,rfl⟩))
  (fun os started H enc _ F=>by rw [OpenClaim.pre_eq_preRow];exact lifted os started H enc F)
theorem plain (f:FuncId) (fn:Func) (hf:Tryz.pinned.checked.prog.funcNamed "fellowship/fellowshiplaw13.SignSigns"=some f) (hfn:Tryz.pinned.checked.prog.funcs[f]? =some fn):
 false=Tryz.pinned.checked.prog.looks []∧∀(j:Nat) t,fn.params[j]? =some t→Tryz.pinned.checked.prog.wantsStandIn t=false:=by
 obtain rfl:f=3:=Option.some.inj ((show Tryz.prog.funcNamed "fellowship/fellowshiplaw13.SignSigns"=some 3 by kernel_rfl).symm.trans hf) |>.symm;obtain rfl:fn=Tryz.f3:=(Option.some.inj (Tryz.func3.symm.trans hfn)).symm;refine ⟨by kernel_rfl,fun j t ht=>?_⟩;rw [Tryz.params3] at ht;have hm:t∈ [23,24,24]:=by simpa using Array.mem_of_getElem? ht
 have hall:([23,24,24].all fun u=> !Tryz.prog.wantsStandIn u)=true:=by kernel_rfl
 exact (show Tryz.prog.wantsStandIn t=false by simpa using List.all_eq_true.1 hall t hm)
end Go.Proofs.YtoggkhjaghkpnaaGreatDoor.signSigns
namespace Go.Proofs.YtoggkhjaghkpnaaGreatDoor
theorem signSigns_card:Rows.SignSignsCardSaid:=
 Claim7.holds_tied_plain_at .later [] _ _ _ _ signSigns.said (fun _ h=>by cases h) (by kernel_rfl) (fun _ h=>by cases h) signSigns_row_tie rfl ⟨rfl,rfl⟩ (by kernel_rfl) rfl signSigns.plain (by kernel_rfl)
#print axioms signSigns_card
end Go.Proofs.YtoggkhjaghkpnaaGreatDoor
