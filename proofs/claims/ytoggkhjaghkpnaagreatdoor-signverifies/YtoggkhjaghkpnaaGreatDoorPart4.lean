/- Part 4 of what the laws of this seat share: WLoose, WFlat, WFlat2, PMath, PMath2, OMath, OMath2. -/
import Derived.Test.YtoggkhjaghkpnaaGreatDoorPart3
set_option maxRecDepth 100000
set_option maxHeartbeats 8000000
namespace Go.Proofs.YtoggkhjaghkpnaaGreatDoor
open Go.RowKit
section
variable {P:Program} {ops:Array Oper} {Q:Exit→Act→World→Prop} {md:Region.Mode}
def Ks (md:Region.Mode) (ops:Array Oper) (L:List Nat) (fins:List (Array Bool×Nat)):Nat→Array Bool→Bool
 |0,listed=>fins.contains (listed,0)
 |k+1,listed=>fins.contains (listed,k+1)||(!(Region.ready md ops listed).isEmpty&&(Region.ready md ops listed).all fun i=>L.contains i&&Ks md ops L fins k (listed.setIfInBounds i true))
theorem Ol {L:List Nat} {fins:List (Array Bool×Nat)} (I:Array Bool→Act→World→Prop)
 (hstep:∀i∈L,∀listed a w,I listed a w→i∈Region.ready md ops listed→wpOp P ops Q i (I (listed.setIfInBounds i true)) a w)
 (hend:∀f∈fins,∀a w,I f.1 a w→wpAny P md ops Q f.2 f.1 a w):
 ∀(k:Nat) (listed:Array Bool) (a:Act) (w:World),Ks md ops L fins k listed=true→I listed a w→wpAny P md ops Q k listed a w
 |0,listed,a,w,hB,hI=>hend (listed,0) (by simpa [Ks] using hB) a w hI
 |k+1,listed,a,w,hB,hI=>by
  rw [Ks,Bool.or_eq_true] at hB;rcases hB with hB|hB
  ·exact hend (listed,k+1) (by simpa using hB) a w hI
  rw [Bool.and_eq_true,List.all_eq_true] at hB;refine ⟨fun h0=>?_,fun i hi=>?_⟩
  ·rw [h0] at hB;simp at hB
  ·have h:=hB.2 i hi;rw [Bool.and_eq_true] at h;exact wpOp_mono (fun a' w' h'=>Ol I hstep hend k _ a' w' h.2 h') (hstep i (by simpa using h.1) listed a w hI hi)
structure Pl (w0:World) (a0:Act) (slots:List (Nat×Nat)) (prop:Nat→Value→World→Prop) (listed:Array Bool) (a:Act) (w:World):Prop where
 below:Below w0.heap.size w0 w
 size:a.tmps.size=a0.tmps.size
 defers:a.defers=a0.defers
 same:∀s,(∀p∈slots,p.2≠s)→a.tmps.getD s undef=a0.tmps.getD s undef
 fact:∀p∈slots,listed.getD p.1 false=true→prop p.1 (a.tmps.getD p.2 undef) w
theorem zf {i j:Nat} {listed:Array Bool} (hr:i∈Region.ready md ops listed) (hw:Fe md ops i j=true):listed.getD j false=true:=by
 obtain ⟨_,o,ho,hall⟩:=mem_ready.1 hr;simp only [Fe,ho] at hw;obtain ⟨e,he,hb⟩:=Array.any_eq_true'.1 hw;simp only [Bool.and_eq_true,beq_iff_eq] at hb;have h1:=hall e he hb.1
 rwa [hb.2] at h1
theorem Fg (a:Act) (s t:Nat) (v:Value) (h:s≠t):(a.put (some s) v).tmps.getD t undef=a.tmps.getD t undef:=by
 simp only [Act.put,Array.getD_eq_getD_getElem?];rw [Array.getElem?_setIfInBounds_ne h]
theorem Pf (a:Act) (s:Nat) (v:Value) (h:s<a.tmps.size):(a.put (some s) v).tmps.getD s undef=v:=by
 simp [Act.put,h]
theorem OF {w0:World} {a0:Act} {slots:List (Nat×Nat)} {prop:Nat→Value→World→Prop} (hinj:(slots.map (·.2)).Nodup) (hinj1:(slots.map (·.1)).Nodup) (N:Nat) (hN:a0.tmps.size=N) (hlt:∀p∈slots,p.2<N)
 (hst:∀i v w w',prop i v w→Below w.heap.size w w'→prop i v w') {i s:Nat} (hi:(i,s)∈slots) {listed:Array Bool} {a:Act} {w w':World} {v:Value} (h:Pl w0 a0 slots prop listed a w) (hb:Below w.heap.size w w') (hv:prop i v w'):
 Pl w0 a0 slots prop (listed.setIfInBounds i true) (a.put (some s) v) w':=by
 refine ⟨h.below.trans (hb.mono h.below.size),?_,?_,fun t ht=>?_,fun p hp hl=>?_⟩
 ·rw [←h.size];simp [Act.put]
 ·rw [←h.defers];rfl
 ·rw [Fg _ _ _ _ (ht _ hi)];exact h.same t ht
 ·by_cases e:p.1=i
  ·have e2:p=(i,s):=by
    have:∀(l:List (Nat×Nat)),(l.map (·.1)).Nodup→p∈l→(i,s)∈l→p=(i,s):=by
     intro l hl h1 h2
     induction l with
     |nil=>cases h1
     |cons q l ih=>
      rw [List.map_cons,List.nodup_cons] at hl;rcases List.mem_cons.1 h1 with rfl|h1
      ·rcases List.mem_cons.1 h2 with h2|h2
       ·exact h2.symm
       ·exact absurd (List.mem_map.2 ⟨(i,s),h2,e.symm⟩) hl.1
      ·rcases List.mem_cons.1 h2 with h2|h2
       ·rw [←h2] at hl;exact absurd (List.mem_map.2 ⟨p,h1,e⟩) hl.1
       ·exact ih hl.2 h1 h2
    exact this slots hinj1 hp hi
   subst e2;rw [Pf _ _ _ (by rw [h.size,hN];exact hlt _ hi)];exact hv
  ·have hne:s≠p.2:=by
    intro e3;have:∀(l:List (Nat×Nat)),(l.map (·.2)).Nodup→p∈l→(i,s)∈l→p=(i,s):=by
     intro l hl h1 h2
     induction l with
     |nil=>cases h1
     |cons q l ih=>
      rw [List.map_cons,List.nodup_cons] at hl;rcases List.mem_cons.1 h1 with rfl|h1
      ·rcases List.mem_cons.1 h2 with h2|h2
       ·exact h2.symm
       ·exact absurd (List.mem_map.2 ⟨(i,s),h2,e3⟩) hl.1
      ·rcases List.mem_cons.1 h2 with h2|h2
       ·rw [←h2] at hl;exact absurd (List.mem_map.2 ⟨p,h1,e3.symm⟩) hl.1
       ·exact ih hl.2 h1 h2
    exact e (by rw [this slots hinj hp hi])
   rw [Fg _ _ _ _ hne];refine hst _ _ _ _ (h.fact p hp ?_) hb
   rwa [getD_set_ne false (fun e4=>e e4.symm)] at hl
theorem Xc {w0:World} {a0:Act} {slots:List (Nat×Nat)} {prop:Nat→Value→World→Prop} (hinj:(slots.map (·.2)).Nodup) (hinj1:(slots.map (·.1)).Nodup) (N:Nat) (hN:a0.tmps.size=N) (hlt:∀p∈slots,p.2<N)
 (hst:∀i v w w',prop i v w→Below w.heap.size w w'→prop i v w')
 {i s:Nat} (hi:(i,s)∈slots) {o:Oper} (ho:ops[i]? =some o) (hd:o.dst=some s)
 (hop:∀a w K,Below w0.heap.size w0 w→a.tmps.size=a0.tmps.size→a.defers=a0.defers→(∀s,(∀p∈slots,p.2≠s)→a.tmps.getD s undef=a0.tmps.getD s undef)→
  (∀p∈slots,Fe md ops i p.1=true→prop p.1 (a.tmps.getD p.2 undef) w)→(∀v w',Below w.heap.size w w'→prop i v w'→K (a.put o.dst v) w')→
  if Region.wanted o (yielded ops a.tmps)=true then Oper.wp P o a w K Q else K (a.put o.dst undef) w)
 (listed:Array Bool) (a:Act) (w:World) (h:Pl w0 a0 slots prop listed a w) (hr:i∈Region.ready md ops listed):
 wpOp P ops Q i (Pl w0 a0 slots prop (listed.setIfInBounds i true)) a w:=by
 refine wpOp_step ho fun K hK=>?_;refine hop a w K h.below h.size h.defers h.same (fun p hp hwt=>h.fact p hp (zf hr hwt)) fun v w' hb hv=>hK _ _ ?_;rw [hd];exact OF hinj hinj1 N hN hlt hst hi h hb hv
def blk:Value→Nat|.pointer (some p)=>p.block|.slice (some p) _ _=>p.block|_=>0
theorem xH {slots:List (Nat×Nat)} {p q:Nat×Nat}:(slots.map (·.1)).Nodup→p∈slots→q∈slots→p.1=q.1→p=q:=by
 intro hl h1 h2 e
 induction slots with
 |nil=>cases h1
 |cons r l ih=>
  rw [List.map_cons,List.nodup_cons] at hl;rcases List.mem_cons.1 h1 with rfl|h1
  ·rcases List.mem_cons.1 h2 with h2|h2
   ·exact h2.symm
   ·exact absurd (List.mem_map.2 ⟨q,h2,e.symm⟩) hl.1
  ·rcases List.mem_cons.1 h2 with h2|h2
   ·rw [←h2] at hl;exact absurd (List.mem_map.2 ⟨p,h1,e⟩) hl.1
   ·exact ih hl.2 h1 h2
theorem Be {w w':World} {b off:Nat} {cs:List Value} (h:w.rangeAt b off cs) (hlt:b<w.heap.size) (hb:Below w.heap.size w w'):w'.rangeAt b off cs:=by
 intro j v hj;rw [World.cell?_of_block (w:=w) (hb.block b hlt)];exact h j v hj
theorem If {w:World} {o:Oper} {a:Act} {K:Act→World→Prop} (hgd:o.guard=none) (f:FuncId) (args:List Operand) (tys:Array TypeId) (ho:o.op=.call {callee:=.value (.func f),args:=args.toArray,argTypes:=tys}) (vs:List Value) (hv:args.map a.eval=vs) (hcf:∀args w,(callFunc f args).run P w=.ok (.enter f args) w)
 {R:Ending→World→Prop} (hc:Calls P f vs.toArray w R) (h:∀e w',R e w'→∃v,e=.returned v∧K (a.put o.dst v) w'):if Region.wanted o (yielded ops a.tmps)=true then Oper.wp P o a w K Q else K (a.put o.dst undef) w:=by
 rw [if_pos (by simp [Region.wanted,hgd])];unfold Oper.wp;simp [execOp,ho,resolve,invoke,Act.eval,Deferred.ofValue,hv,hcf,Oper.upon];refine hc.mono fun e w' hR=>?_;obtain ⟨v,rfl,hk⟩:=h e w' hR;exact hk
theorem Ef {f:FuncId} {fn:Func} (hf:P.funcs[f]? =some fn) (hn:(fn.name=="runtime.NumGoroutine")=false) (hb:fn.body.isNone=false) (args:Array Value) (w:World):(callFunc f args).run P w=.ok (.enter f args) w:=by
 have hn':fn.name≠"runtime.NumGoroutine":=by simpa using hn
 have hb':fn.body≠none:=by intro e;rw [e] at hb;cases hb
 simp [callFunc,hf,hn',hb']
theorem yc {w:World} {o:Oper} {a:Act} {K:Act→World→Prop} (hgd:o.guard=none) (v:Value) (hr:(execOp a.eval o).run P w=.ok (.value v) w) (h:K (a.put o.dst v) w):if Region.wanted o (yielded ops a.tmps)=true then Oper.wp P o a w K Q else K (a.put o.dst undef) w:=by
 rw [if_pos (by simp [Region.wanted,hgd])];unfold Oper.wp;rw [hr];exact h
theorem B8 {w:World} {o:Oper} {a:Act} {K:Act→World→Prop} (hgd:o.guard=none) (x:Operand) (ho:o.op=.move x) (v:Value) (hx:a.eval x=v) (h:K (a.put o.dst v) w):if Region.wanted o (yielded ops a.tmps)=true then Oper.wp P o a w K Q else K (a.put o.dst undef) w:=by
 refine yc hgd v ?_ h;simp [execOp,ho,hx]
theorem Jf {w:World} {o:Oper} {a:Act} {K:Act→World→Prop} (hgd:o.guard=none) (t:TypeId) (x:Operand) (ho:o.op=.load t x) (b off:Nat) (hx:a.eval x=.pointer (some ⟨b,off,none⟩)) (cs:List Value) (d:TypeDesc) (hc:w.rangeAt b off cs)
 (hu:P.underlying t=some d) (hd:d.isRow=true) (hi:(P.info? t).map (·.size)=some cs.length) (h:K (a.put o.dst (.agg cs.toArray)) w):if Region.wanted o (yielded ops a.tmps)=true then Oper.wp P o a w K Q else K (a.put o.dst undef) w:=by
 rw [if_pos (by simp [Region.wanted,hgd])];exact wp_load_mid t x ho b off hx cs d hc hu hd hi h
theorem WZ {w:World} {o:Oper} {a:Act} {K:Act→World→Prop} (hgd:o.guard=none) (t:TypeId) (ho:o.op=.alloc t) (zs:List Value) (hz:∀w,(zeroValue t).run P w=.ok (.agg zs.toArray) w)
 (h:∀w',Below w.heap.size w w'→Ia w' w.heap.size zs t→K (a.put o.dst (.pointer (some ⟨w.heap.size,0,none⟩))) w'):if Region.wanted o (yielded ops a.tmps)=true then Oper.wp P o a w K Q else K (a.put o.dst undef) w:=by
 rw [if_pos (by simp [Region.wanted,hgd])];unfold Oper.wp;simp only [execOp,ho,Instr.alloc,hz,newVar,Value.cells,Sem.run_bind,Sem.run_pure,Result.andThen_ok,go_sem];exact h _ ((Below.refl _ _).alloc (Xaj _) _) (Ia.new w _ _)
theorem Nn {w:World} {o:Oper} {a:Act} {K:Act→World→Prop} (hgd:o.guard=none) (t:TypeId) (n:Nat) (parts:List (Nat×Operand)) (ho:o.op=.buildSlice t n parts.toArray) (ps:List (Nat×Value)) (hp:(parts.map fun (i,x)=>(i,a.eval x))=ps) (e:TypeId) (vs:List Value)
 (hr:∀w,(Instr.buildSlice t n ps.toArray).run P w=.ok (.slice (some ⟨w.heap.size,0,none⟩) n n) (w.alloc (.cells vs.toArray e)))
 (h:∀w',Below w.heap.size w w'→Ia w' w.heap.size vs e→K (a.put o.dst (.slice (some ⟨w.heap.size,0,none⟩) n n)) w'):if Region.wanted o (yielded ops a.tmps)=true then Oper.wp P o a w K Q else K (a.put o.dst undef) w:=by
 rw [if_pos (by simp [Region.wanted,hgd])];unfold Oper.wp;simp only [execOp,ho,List.map_toArray,hp,hr,Sem.run_bind,Sem.run_pure,Result.andThen_ok];exact h _ ((Below.refl _ _).alloc (Xaj _) _) (Ia.new w _ _)
end
section
variable {P:Program} {ops:Array Oper} {Q:Exit→Act→World→Prop} {md:Region.Mode} {L:List Nat}
def Je (ops:Array Oper) (j s:Nat):Bool:=match ops[j]? with
 |some o=>o.dst==some s
 |none=>false
def zo (md:Region.Mode) (ops:Array Oper) (L:List Nat):Bool:=
 (L.all fun l=>match ops[l]? with
  |some o=>o.after.all fun e=> !Region.binds md e||(L.contains e.on&&Nat.blt e.on l)
  |none=>false)&&
 ((List.range ops.size).all fun t=>L.contains t||((List.range t).any fun m=> !L.contains m&&Fe md ops t m)||L.all fun l=>Fe md ops t l||L.any fun m=>Nat.blt l m&&Fe md ops m l)
structure FW (md:Region.Mode) (ops:Array Oper) (L:List Nat) (listed:Array Bool):Prop where
 size:listed.size=ops.size
 only :∀j,listed.getD j false=true→j∈L
 down:∀i j,listed.getD i false=true→Fe md ops i j=true→listed.getD j false=true
theorem VA {listed:Array Bool} (hB:zo md ops L=true):∀l,l∈L→listed.size=ops.size→listed.getD l false=false→∃i,i∈Region.ready md ops listed:=by
 intro l
 induction l using Nat.strongRecOn with
 |_ l ih=>
  intro hl hsz hun;rw [zo,Bool.and_eq_true,List.all_eq_true] at hB;have h1:=hB.1 l hl;cases ho:ops[l]? with
  |none=>rw [ho] at h1;cases h1
  |some o=>
   simp only [ho] at h1;rw [Array.all_eq_true'] at h1;by_cases hall:∀e∈o.after,Region.binds md e=true→listed.getD e.on false=true
   ·refine ⟨l,mem_ready.2 ⟨?_,o,ho,hall⟩⟩;have hlt:l<listed.size:=by rw [hsz];exact (Array.getElem?_eq_some_iff.1 ho).1
    simp [hlt] at hun ⊢;exact hun
   ·have:∃e∈o.after,Region.binds md e=true∧listed.getD e.on false=false:=by
     refine Classical.byContradiction fun hc=>hall fun e he hb=>?_;cases hv:listed.getD e.on false with
     |true=>rfl
     |false=>exact absurd ⟨e,he,hb,hv⟩ hc
    obtain ⟨e,he,hb,hv⟩:=this;have h2:=h1 e he;rw [hb] at h2;simp only [Bool.not_true,Bool.false_or,Bool.and_eq_true,List.contains_iff_mem] at h2;exact ih e.on (by have :=h2.2;simpa [Nat.blt_eq] using this) h2.1 hsz hv
theorem E8 {listed:Array Bool} (hB:zo md ops L=true) (hD:FW md ops L listed) {i:Nat} (hi:i∈Region.ready md ops listed) (hiL:i∉L):∀n l,ops.size-l≤n→l∈L→listed.getD l false=true:=by
 have hsz:i<ops.size:=by
  obtain ⟨_,o,ho,_⟩:=mem_ready.1 hi;exact (Array.getElem?_eq_some_iff.1 ho).1
 rw [zo,Bool.and_eq_true,List.all_eq_true,List.all_eq_true] at hB;have h2:=hB.2 i (List.mem_range.2 hsz);rw [Bool.or_eq_true,Bool.or_eq_true,List.contains_iff_mem,or_iff_right hiL,List.all_eq_true] at h2;replace h2:=h2.resolve_left fun h=>by
  obtain ⟨m,hm,h⟩:=List.any_eq_true.1 h;rw [Bool.and_eq_true] at h;have h4:=hD.only m (zf hi h.2);rw [List.contains_iff_mem.2 h4] at h;exact absurd h.1 (by decide)
 intro n
 induction n with
 |zero=>
  intro l hn hl;have h1:=hB.1 l hl;rw [Array.getElem?_eq_none (by omega)] at h1;cases h1
 |succ n ih=>
  intro l hn hl;have h3:=h2 l hl;rw [Bool.or_eq_true,List.any_eq_true] at h3;rcases h3 with h3|⟨m,hm,h3⟩
  ·exact zf hi h3
  ·rw [Bool.and_eq_true] at h3;have hlt:l<m:=by simpa [Nat.blt_eq] using h3.1
   have hm1:=hB.1 m hm;have hms:m<ops.size:=by
    rcases Nat.lt_or_ge m ops.size with h|h
    ·exact h
    ·rw [Array.getElem?_eq_none h] at hm1;cases hm1
   exact hD.down m l (ih m (by omega) hm) h3.2
def Ge (n:Nat) (L:List Nat):Array Bool:=((List.range n).map fun i=>L.contains i).toArray
theorem PF {listed:Array Bool} (hD:FW md ops L listed) (hall:∀l∈L,listed.getD l false=true):listed=Ge ops.size L:=by
 apply Array.ext
 ·rw [hD.size,Ge];simp
 ·intro i h1 h2;have e:listed[i]=listed.getD i false:=by simp [h1]
  rw [e];simp only [Ge,List.getElem_toArray,List.getElem_map,List.getElem_range];by_cases hi:i∈L
  ·rw [hall i hi];simp [hi]
  ·cases hv:listed.getD i false with
   |true=>exact absurd (hD.only i hv) hi
   |false=>simp [hi]
theorem FW.more {listed:Array Bool} (hD:FW md ops L listed) {i:Nat} (hi:i∈Region.ready md ops listed) (hiL:i∈L):FW md ops L (listed.setIfInBounds i true):=by
 refine ⟨by rw [Array.size_setIfInBounds,hD.size],fun j hj=>?_,fun k j hk hw=>?_⟩
 ·by_cases e:i=j
  ·exact e▸hiL
  ·rw [getD_set_ne false e] at hj;exact hD.only j hj
 ·by_cases e:i=k
  ·subst e;exact getD_set_true (zf hi hw)
  ·rw [getD_set_ne false e] at hk;exact getD_set_true (hD.down k j hk hw)
theorem WA {listed:Array Bool} {i:Nat} (hi:i∈Region.ready md ops listed) (hsz:listed.size=ops.size):(listed.setIfInBounds i true).toList.countP id=listed.toList.countP id+1:=by
 obtain ⟨h0,o,ho,_⟩:=mem_ready.1 hi;have hlt:i<listed.size:=by rw [hsz];exact (Array.getElem?_eq_some_iff.1 ho).1
 have hv:listed[i]=false:=by simpa [hlt] using h0
 rw [Array.toList_setIfInBounds,List.countP_set (by simpa using hlt)];simp [hv]
theorem Ls (hB:zo md ops L=true) (I:Array Bool→Act→World→Prop)
 (hstep:∀i∈L,∀listed a w,I listed a w→i∈Region.ready md ops listed→wpOp P ops Q i (I (listed.setIfInBounds i true)) a w) (rem:Nat) (hrem:rem+(Ge ops.size L).toList.countP id=ops.size)
 (hend:∀a w,I (Ge ops.size L) a w→wpAny P md ops Q rem (Ge ops.size L) a w):
 ∀(k:Nat) (listed:Array Bool) (a:Act) (w:World),FW md ops L listed→k+listed.toList.countP id=ops.size→I listed a w→wpAny P md ops Q k listed a w:=by
 intro k
 induction k with
 |zero=>
  intro listed a w hD hk hI;by_cases hall:∀l∈L,listed.getD l false=true
  ·have e:=PF hD hall;subst e;have:rem=0:=by omega
   subst this;exact hend a w hI
  ·have:∃l∈L,listed.getD l false=false:=by
    refine Classical.byContradiction fun hc=>hall fun l hl=>?_;cases hv:listed.getD l false with
    |true=>rfl
    |false=>exact absurd ⟨l,hl,hv⟩ hc
   obtain ⟨l,hl,hun⟩:=this;obtain ⟨i,hi⟩:=VA hB l hl hD.size hun;have h1:=WA hi hD.size;have h2:=List.countP_le_length (p:=id) (l:=(listed.setIfInBounds i true).toList);rw [Array.length_toList,Array.size_setIfInBounds,hD.size] at h2;omega
 |succ k ih=>
  intro listed a w hD hk hI;by_cases hall:∀l∈L,listed.getD l false=true
  ·have e:=PF hD hall;subst e;have:rem=k+1:=by omega
   subst this;exact hend a w hI
  ·have:∃l∈L,listed.getD l false=false:=by
    refine Classical.byContradiction fun hc=>hall fun l hl=>?_;cases hv:listed.getD l false with
    |true=>rfl
    |false=>exact absurd ⟨l,hl,hv⟩ hc
   obtain ⟨l,hl,hun⟩:=this;refine ⟨fun h0=>?_,fun i hi=>?_⟩
   ·obtain ⟨i,hi⟩:=VA hB l hl hD.size hun;rw [h0] at hi;cases hi
   ·have hiL:i∈L:=by
     refine Classical.byContradiction fun hn=>?_;have :=E8 hB hD hi hn (ops.size-l) l (Xaj _) hl;rw [this] at hun;cases hun
    have h1:=WA hi hD.size;exact wpOp_mono (fun a' w' h'=>ih _ a' w' (hD.more hi hiL) (by omega) h') (hstep i hiL listed a w hI hi)
structure XZ (ops:Array Oper) (L:List Nat) (w0:World) (ds:List Deferred) (n:Nat) (pr:Nat→Value→World→Prop) (listed:Array Bool) (a:Act) (w:World):Prop where
 below:Below w0.heap.size w0 w
 size:a.tmps.size=n
 defers:a.defers=ds
 fact:∀s,(∀j∈L,Je ops j s=true→listed.getD j false=true)→pr s (a.tmps.getD s undef) w
def okB (md:Region.Mode) (ops:Array Oper) (L:List Nat) (i s:Nat):Bool:=L.all fun j=> !Je ops j s||Fe md ops i j
structure Cab (P:Program) (md:Region.Mode) (ops:Array Oper) (Q:Exit→Act→World→Prop) (L:List Nat) (w0:World) (n:Nat) (pr:Nat→Value→World→Prop) (i:Nat):Prop where
 step:∃o s,ops[i]? =some o∧o.dst=some s∧o.guard=none∧Nat.blt s n=true∧(L.all fun j=>j==i|| !Je ops j s)=true∧
  ∀a w K,Below w0.heap.size w0 w→(∀t,okB md ops L i t=true→pr t (a.tmps.getD t undef) w)→(∀v w',Below w.heap.size w w'→pr s v w'→K (a.put o.dst v) w')→Oper.wp P o a w K Q
theorem GW {w0:World} {ds:List Deferred} {n:Nat} {pr:Nat→Value→World→Prop} (hm:∀s v w w',pr s v w→Below w.heap.size w w'→pr s v w') {i:Nat} (h:Cab P md ops Q L w0 n pr i) (listed:Array Bool) (a:Act) (w:World) (hI:XZ ops L w0 ds n pr listed a w) (hr:i∈Region.ready md ops listed):
 wpOp P ops Q i (XZ ops L w0 ds n pr (listed.setIfInBounds i true)) a w:=by
 obtain ⟨o,s,ho,hd,hg,hs,hone,hstep⟩:=h.step;rw [List.all_eq_true] at hone;have hs':s<n:=by simpa [Nat.blt_eq] using hs
 refine wpOp_step ho fun K hK=>?_;rw [if_pos (by simp [Region.wanted,hg])];refine hstep a w K hI.below (fun t ht=>hI.fact t fun j hj hjs=>?_) fun v w' hb hv=>hK _ _ ?_
 ·rw [okB,List.all_eq_true] at ht;have h1:=ht j hj;rw [hjs] at h1;exact zf hr (by simpa using h1)
 ·rw [hd];refine ⟨hI.below.trans (hb.mono hI.below.size),?_,?_,fun t ht=>?_⟩
  ·rw [←hI.size];simp [Act.put]
  ·rw [←hI.defers];rfl
  ·by_cases e:s=t
   ·subst e;rw [Pf _ _ _ (by rw [hI.size];exact hs')];exact hv
   ·rw [Fg _ _ _ _ e];refine hm _ _ _ _ (hI.fact t fun j hj hjt=>?_) hb;have h1:=ht j hj hjt;by_cases ej:j=i
    ·subst ej;simp only [Je,ho,hd] at hjt;exact absurd (by simpa using hjt) e
    ·rwa [getD_set_ne false (fun e4=>ej e4.symm)] at h1
theorem Ux (hB:zo md ops L=true) (w0:World) (a0:Act) (n:Nat) (pr:Nat→Value→World→Prop) (hm:∀s v w w',pr s v w→Below w.heap.size w w'→pr s v w') (keep:List Nat) (hkeep:((List.range n).all fun s=>keep.contains s||L.any fun j=>Je ops j s&&Nat.blt j ops.size)=true)
 (hk:∀s∈keep,pr s (a0.tmps.getD s undef) w0) (hbig:∀s,n≤s→pr s undef w0) (hsz:a0.tmps.size=n) (hstep:∀i∈L,Cab P md ops Q L w0 n pr i) (rem:Nat) (hrem:rem+(Ge ops.size L).toList.countP id=ops.size)
 (hend:∀a w,Below w0.heap.size w0 w→a.tmps.size=n→a.defers=a0.defers→(∀s,pr s (a.tmps.getD s undef) w)→wpAny P md ops Q rem (Ge ops.size L) a w):wpAny P md ops Q ops.size (Array.replicate ops.size false) a0 w0:=by
 rw [List.all_eq_true] at hkeep;have hno:∀j,(Array.replicate ops.size false).getD j false=false:=fun j=>by
  by_cases h:j<ops.size<;>simp [h]
 have h0:(Array.replicate ops.size false).toList.countP id=0:=by simp [List.countP_replicate]
 refine Ls hB (XZ ops L w0 a0.defers n pr) (fun i hi=>GW hm (hstep i hi)) rem hrem (fun a w hI=>?_) ops.size _ a0 w0 ⟨by simp,fun j hj=>?_,fun i j hi=>?_⟩ (by omega) ⟨Below.refl _ _,hsz,rfl,fun s hs=>?_⟩
 ·refine hend a w hI.below hI.size hI.defers fun s=>hI.fact s fun j hj hjs=>?_;have hlt:j<ops.size:=by
   unfold Je at hjs;rcases Nat.lt_or_ge j ops.size with h|h
   ·exact h
   ·rw [Array.getElem?_eq_none h] at hjs;cases hjs
  simp [Ge,hlt,hj]
 ·rw [hno] at hj;cases hj
 ·rw [hno] at hi;cases hi
 ·rcases Nat.lt_or_ge s n with h|h
  ·have h1:=hkeep s (List.mem_range.2 h);rw [Bool.or_eq_true,List.contains_iff_mem,List.any_eq_true] at h1;rcases h1 with h1|⟨j,hj,h1⟩
   ·exact hk s h1
   ·rw [Bool.and_eq_true] at h1;have :=hs j hj h1.1;rw [hno] at this;cases this
  ·have e:a0.tmps.getD s undef=undef:=by simp [Array.getElem?_eq_none (show a0.tmps.size≤s by omega)]
   rw [e];exact hbig s h
structure Le (P:Program) (md:Region.Mode) (ops:Array Oper) (Q:Exit→Act→World→Prop) (L:List Nat) (w0:World) (vs:List Value) (i:Nat):Prop where
 step:∃o s,ops[i]? =some o∧o.dst=some s∧o.guard=none∧Nat.blt s vs.length=true∧(L.all fun j=>j==i|| !Je ops j s)=true∧
  ∀a w K,Below w0.heap.size w0 w→(∀t,okB md ops L i t=true→a.tmps.getD t undef=vs.getD t undef)→(∀w',Below w.heap.size w w'→K (a.put o.dst (vs.getD s undef)) w')→Oper.wp P o a w K Q
theorem qt {a:Act} {vs:List Value} {ds:List Deferred} (hs:a.tmps.size=vs.length) (hd:a.defers=ds) (hall:∀s,a.tmps.getD s undef=vs.getD s undef):a=⟨vs.toArray,ds⟩:=by
 obtain ⟨t,d⟩:=a;have e1:t=vs.toArray:=by
  apply Array.ext
  ·rw [List.size_toArray];exact hs
  ·intro i h1 h2;have :=hall i;have h3:i<vs.length:=by simpa using h2
   simpa [h1,h3] using this
 have e2:d=ds:=hd;rw [e1,e2]
theorem Dd (hB:zo md ops L=true) (w0:World) (a0:Act) (vs:List Value) (keep:List Nat) (hkeep:((List.range vs.length).all fun s=>keep.contains s||L.any fun j=>Je ops j s&&Nat.blt j ops.size)=true)
 (hk:∀s∈keep,a0.tmps.getD s undef=vs.getD s undef) (hsz:a0.tmps.size=vs.length) (hstep:∀i∈L,Le P md ops Q L w0 vs i) (rem:Nat) (hrem:rem+(Ge ops.size L).toList.countP id=ops.size)
 (hend:∀w,Below w0.heap.size w0 w→wpAny P md ops Q rem (Ge ops.size L) ⟨vs.toArray,a0.defers⟩ w):wpAny P md ops Q ops.size (Array.replicate ops.size false) a0 w0:=by
 refine Ux hB w0 a0 vs.length (fun s v _=>v=vs.getD s undef) (fun _ _ _ _ h _=>h) keep hkeep hk (fun s h=>by simp [h]) hsz (fun i hi=>?_) rem hrem fun a w hb hs hd hall=>?_
 ·obtain ⟨o,s,ho,hd,hg,hs,hone,hstep⟩:=(hstep i hi).step;exact ⟨o,s,ho,hd,hg,hs,hone,fun a w K hb hv hK=>hstep a w K hb hv fun w' hb'=>hK _ _ hb' rfl⟩
 ·rw [qt hs hd hall];exact hend w hb
theorem Vr (hB:zo md ops L=true) (w0:World) (a0:Act) (vs:List Value) (keep:List Nat) (hkeep:((List.range vs.length).all fun s=>keep.contains s||L.any fun j=>Je ops j s&&Nat.blt j ops.size)=true) (c sc:Nat) (t:TypeId) (zs:List Value) (oc:Oper) (hoc:ops[c]? =some oc) (hdc:oc.dst=some sc) (hgc:oc.guard=none) (hop:oc.op=.alloc t) (hz:∀w,(zeroValue t).run P w=.ok (.agg zs.toArray) w)
 (hsc:Nat.blt sc vs.length=true) (hone:(L.all fun j=>j==c|| !Je ops j sc)=true) (huse:(L.all fun j=>j==c|| !okB md ops L j sc)=true) (hkc:keep.contains sc=false)
 (hk:∀s∈keep,a0.tmps.getD s undef=vs.getD s undef) (hsz:a0.tmps.size=vs.length) (hstep:∀i∈L,i=c∨Le P md ops Q L w0 vs i) (rem:Nat) (hrem:rem+(Ge ops.size L).toList.countP id=ops.size)
 (hend:∀w g,Below w0.heap.size w0 w→w0.heap.size≤g→Ia w g zs t→wpAny P md ops Q rem (Ge ops.size L) ⟨(vs.set sc (.pointer (some ⟨g,0,none⟩))).toArray,a0.defers⟩ w):wpAny P md ops Q ops.size (Array.replicate ops.size false) a0 w0:=by
 have hsc':sc<vs.length:=by simpa [Nat.blt_eq] using hsc
 refine Ux hB w0 a0 vs.length (fun s v w=>if s=sc then ∃g,w0.heap.size≤g∧v=.pointer (some ⟨g,0,none⟩)∧Ia w g zs t else v=vs.getD s undef) (fun s v w w' h hb=>?_) keep hkeep (fun s hs=>?_) (fun s h=>?_) hsz (fun i hi=>?_) rem hrem fun a w hb hs hd hall=>?_
 ·by_cases e:s=sc
  ·rw [if_pos e] at h ⊢;obtain ⟨g,h1,h2,h3⟩:=h;exact ⟨g,h1,h2,h3.below hb h3.lt⟩
  ·rw [if_neg e] at h ⊢;exact h
 ·rw [if_neg (fun e=>by rw [←e,List.contains_iff_mem.2 hs] at hkc;cases hkc)];exact hk s hs
 ·rw [if_neg (by omega)];simp [h]
 ·by_cases e:i=c
  ·subst e;refine ⟨oc,sc,hoc,hdc,hgc,hsc,hone,fun a w K hb _ hK=>?_⟩;unfold Oper.wp;simp only [execOp,hop,Instr.alloc,hz,newVar,Value.cells,Sem.run_bind,Sem.run_pure,Result.andThen_ok,go_sem];refine hK _ _ ((Below.refl _ _).alloc (Xaj _) _) ?_;rw [if_pos rfl];exact ⟨_,hb.size,rfl,Ia.new w _ _⟩
  ·obtain ⟨o,s,ho,hd,hg,hs,hone',hstep⟩:=((hstep i hi).resolve_left e).step;have hne:s≠sc:=fun e2=>by
    rw [List.all_eq_true] at hone;have :=hone i hi;simp [e,Je,ho,hd,e2] at this
   refine ⟨o,s,ho,hd,hg,hs,hone',fun a w K hb hv hK=>hstep a w K hb (fun t' ht=>?_) fun w' hb'=>hK _ _ hb' (by rw [if_neg hne])⟩;have h1:=hv t' ht
   rwa [if_neg (fun e2=>by
    rw [List.all_eq_true] at huse;have :=huse i hi;rw [e2] at ht;simp [e,ht] at this)] at h1
 ·have h1:=hall sc;rw [if_pos rfl] at h1;obtain ⟨g,h2,h3,h4⟩:=h1;rw [qt (vs:=vs.set sc (.pointer (some ⟨g,0,none⟩))) (by rw [List.length_set];exact hs) hd fun s=>?_]
  ·exact hend w g hb h2 h4
  ·by_cases e:s=sc
   ·rw [e,h3];simp [hsc']
   ·have h5:=hall s;rw [if_neg e] at h5;rw [h5,Yaj,Yaj,List.getElem?_set_ne (fun e2=>e e2.symm)]
theorem Qa {p:Nat→Prop}:∀i∈([]:List Nat),p i:=fun _ h=>by cases h
theorem Aak {p:Nat→Prop} {i:Nat} {l:List Nat} (h:p i) (hl:∀j∈l,p j):∀j∈i::l,p j:=fun j hj=>by
 rcases List.mem_cons.1 hj with rfl|hj
 ·exact h
 ·exact hl j hj
theorem Mc {o:Oper} {a:Act} {w:World} {K:Act→World→Prop} (v:Value) (hr:(execOp a.eval o).run P w=.ok (.value v) w) (h:K (a.put o.dst v) w):Oper.wp P o a w K Q:=by
 unfold Oper.wp;rw [hr];exact h
theorem Pc {w0:World} {vs:List Value} {i:Nat} (o:Oper) (s:Nat) (ho:ops[i]? =some o) (hd:o.dst=some s) (hg:o.guard=none) (hs:Nat.blt s vs.length=true) (hone:(L.all fun j=>j==i|| !Je ops j s)=true)
 (hr:∀a w,Below w0.heap.size w0 w→(∀t,okB md ops L i t=true→a.tmps.getD t undef=vs.getD t undef)→(execOp (Act.eval a) o).run P w=.ok (.value (vs.getD s undef)) w):Le P md ops Q L w0 vs i:=
 ⟨o,s,ho,hd,hg,hs,hone,fun a w _K hb hv hK=>Mc _ (hr a w hb hv) (hK w (Below.refl _ _))⟩
theorem Lb (ρ:Operand→Value) (o:Oper) (x:Operand) (h:o.op=.move x∨o.op=.assign x) (v:Value) (hx:ρ x=v) (w:World):(execOp ρ o).run P w=.ok (.value v) w:=by
 rcases h with h|h<;>simp [execOp,h,hx]
theorem Om (ρ:Operand→Value) (o:Oper) (t:TypeId) (x:Operand) (h:o.op=.unOp .not t x) (b:Bool) (hx:ρ x=.bool b) (w:World):(execOp ρ o).run P w=.ok (.value (.bool (!b))) w:=by
 simp [execOp,h,hx,Op.unary]
theorem Me (ρ:Operand→Value) (o:Oper) (t:TypeId) (x y:Operand) (h:o.op=.indexAddr t x y) (vx vy v:Value) (hx:ρ x=vx) (hy:ρ y=vy) (w:World) (hr:(Instr.indexAt t vx vy).run P w=.ok v w):(execOp ρ o).run P w=.ok (.value v) w:=by
 simp [execOp,h,hx,hy,hr,Result.andThen]
theorem Yc (ρ:Operand→Value) (o:Oper) (t:TypeId) (x:Operand) (h:o.op=.load t x) (vx v:Value) (hx:ρ x=vx) (w:World) (hr:(Instr.loadAt t vx).run P w=.ok v w):(execOp ρ o).run P w=.ok (.value v) w:=by
 simp [execOp,h,hx,hr,Result.andThen]
theorem Ff (ρ:Operand→Value) (o:Oper) (b:BinOp) (t t2:TypeId) (x y:Operand) (h:o.op=.binOp b t x y t2) (vx vy v:Value) (hx:ρ x=vx) (hy:ρ y=vy) (w:World) (hg:(eqGuard b t x y vx vy).run P w=.ok () w) (hr:(binOp b t vx vy).run P w=.ok v w):(execOp ρ o).run P w=.ok (.value v) w:=by
 simp [execOp,h,hx,hy,hg,hr,Result.andThen]
theorem Vd (ρ:Operand→Value) (o:Oper) (t:TypeId) (parts:List (Nat×Operand)) (h:o.op=.build t parts.toArray) (ps:List (Nat×Value)) (hp:(parts.map fun (i,x)=>(i,ρ x))=ps) (v:Value) (w:World) (hr:(Instr.build t ps.toArray).run P w=.ok v w):(execOp ρ o).run P w=.ok (.value v) w:=by
 simp only [execOp,h,List.map_toArray,hp,hr,Sem.run_bind,Sem.run_pure,Result.andThen]
end
end Go.Proofs.YtoggkhjaghkpnaaGreatDoor
namespace Go.Proofs.YtoggkhjaghkpnaaGreatDoor
open Go.RowKit
section
variable {P:Program} {ops:Array Oper} {Q:Exit→Act→World→Prop} {md:Region.Mode} {L:List Nat}
def qi (news:List (Nat×Nat)) (s:Nat):Bool:=news.all fun p=> !Nat.beq p.2 s
theorem Au {news:List (Nat×Nat)} {s:Nat} (h:qi news s=true):∀p∈news,p.2≠s:=fun p hp e=>by
 rw [qi,List.all_eq_true] at h;have :=h p hp;rw [e,show Nat.beq s s=true from Nat.beq_refl s] at this;cases this
structure PU (ops:Array Oper) (L:List Nat) (w0:World) (ds:List Deferred) (vs:List Value) (news:List (Nat×Nat)) (t:Nat→TypeId) (zs:Nat→List Value) (listed:Array Bool) (a:Act) (w:World):Prop where
 below:Below w0.heap.size w0 w
 size:a.tmps.size=vs.length
 defers:a.defers=ds
 fact:∀s,qi news s=true→(∀j∈L,Je ops j s=true→listed.getD j false=true)→a.tmps.getD s undef=vs.getD s undef
 made:∀p∈news,listed.getD p.1 false=true→∃g,w0.heap.size≤g∧a.tmps.getD p.2 undef=.pointer (some ⟨g,0,none⟩)∧Ia w g (zs p.2) (t p.2)
 apart:∀p∈news,∀q∈news,p.2≠q.2→listed.getD p.1 false=true→listed.getD q.1 false=true→a.tmps.getD p.2 undef≠a.tmps.getD q.2 undef
structure Pi (P:Program) (md:Region.Mode) (ops:Array Oper) (Q:Exit→Act→World→Prop) (L:List Nat) (w0:World) (vs:List Value) (news:List (Nat×Nat)) (i:Nat):Prop where
 step:∃o s,ops[i]? =some o∧o.dst=some s∧Nat.blt s vs.length=true∧qi news s=true∧(L.all fun j=>j==i|| !Je ops j s)=true∧
  ∀a w K,Below w0.heap.size w0 w→(∀t,okB md ops L i t=true→qi news t=true→a.tmps.getD t undef=vs.getD t undef)→(∀w',Below w.heap.size w w'→K (a.put o.dst (vs.getD s undef)) w')→
   if Region.wanted o (yielded ops a.tmps)=true then Oper.wp P o a w K Q else K (a.put o.dst undef) w
structure YZ (P:Program) (ops:Array Oper) (L:List Nat) (n:Nat) (t:TypeId) (p:Nat×Nat):Prop where
 new:∃o,ops[p.1]? =some o∧o.dst=some p.2∧o.guard=none∧o.op=.alloc t∧Nat.blt p.2 n=true∧(L.all fun j=>j==p.1|| !Je ops j p.2)=true
theorem FQ {w0:World} {ds:List Deferred} {vs:List Value} {news:List (Nat×Nat)} {t:Nat→TypeId} {zs:Nat→List Value} (hnL:∀p∈news,p.1∈L) (hN:∀p∈news,YZ P ops L vs.length (t p.2) p) (hz:∀p∈news,∀w,(zeroValue (t p.2)).run P w=.ok (.agg (zs p.2).toArray) w) {i:Nat} (hi:i∈L) (h:(∃p∈news,p.1=i)∨Pi P md ops Q L w0 vs news i)
 (listed:Array Bool) (a:Act) (w:World) (hI:PU ops L w0 ds vs news t zs listed a w) (hr:i∈Region.ready md ops listed):wpOp P ops Q i (PU ops L w0 ds vs news t zs (listed.setIfInBounds i true)) a w:=by
 have hget:∀(s u:Nat) (v:Value),s≠u→(a.put (some s) v).tmps.getD u undef=a.tmps.getD u undef:=fun s u v hne=>Fg _ _ _ _ hne;have hback:∀j,j≠i→(listed.setIfInBounds i true).getD j false=true→listed.getD j false=true:=fun j hj hl=>by
  rwa [getD_set_ne false (fun e=>hj e.symm)] at hl
 rcases h with ⟨p,hp,rfl⟩|h
 ·obtain ⟨o,ho,hd,hg,hop,hs,hone⟩:=(hN p hp).new;rw [List.all_eq_true] at hone;have hs':p.2<vs.length:=by simpa [Nat.blt_eq] using hs
  have hb:Below w.heap.size w (w.alloc (.cells (zs p.2).toArray (t p.2))):=(Below.refl _ _).alloc (Xaj _) _;have heq:(a.put (some p.2) (.pointer (some ⟨w.heap.size,0,none⟩))).tmps.getD p.2 undef=.pointer (some ⟨w.heap.size,0,none⟩):=Pf _ _ _ (by rw [hI.size];exact hs');have hone2:∀q∈news,q.2=p.2→q.1=p.1:=fun q hq e=>by
   obtain ⟨oq,hoq,hdq,_⟩:=(hN q hq).new;have :=hone q.1 (hnL q hq);simpa [Je,hoq,hdq,e] using this
  suffices hfin:PU ops L w0 ds vs news t zs (listed.setIfInBounds p.1 true) (a.put (some p.2) (.pointer (some ⟨w.heap.size,0,none⟩))) (w.alloc (.cells (zs p.2).toArray (t p.2))) by
   refine wpOp_step ho fun K hK=>?_;rw [if_pos (by simp [Region.wanted,hg])];have hfin2:=hK _ _ hfin;rw [←hd] at hfin2;unfold Oper.wp;simp only [execOp,hop,Instr.alloc,hz p hp,newVar,Value.cells,Sem.run_bind,Sem.run_pure,Result.andThen_ok,go_sem];exact hfin2
  refine ⟨hI.below.trans (hb.mono hI.below.size),?_,?_,fun s hold hs2=>?_,fun q hq hl=>?_,fun q hq q' hq' hne hl hl'=>?_⟩
  ·rw [←hI.size];simp [Act.put]
  ·rw [←hI.defers];rfl
  ·have hne:=Au hold p hp;rw [hget _ _ _ hne];refine hI.fact s hold fun j hj hjs=>?_;have h1:=hs2 j hj hjs;refine hback j (fun e=>?_) h1;rw [e] at hjs;simp only [Je,ho,hd] at hjs;exact hne (by simpa using hjs)
  ·by_cases e:q.2=p.2
   ·rw [e,heq];exact ⟨_,hI.below.size,rfl,Ia.new w _ _⟩
   ·rw [hget _ _ _ (fun e2=>e e2.symm)];obtain ⟨g,h1,h2,h3⟩:=hI.made q hq (hback _ (fun e2=>by
     obtain ⟨oq,hoq,hdq,_⟩:=(hN q hq).new;rw [e2,ho] at hoq;cases hoq
     rw [hd] at hdq;exact e (by simpa using hdq.symm)) hl)
    exact ⟨g,h1,h2,h3.below hb h3.lt⟩
  ·have key:∀r∈news,r.2≠p.2→(listed.setIfInBounds p.1 true).getD r.1 false=true→a.tmps.getD r.2 undef≠.pointer (some ⟨w.heap.size,0,none⟩):=fun r hr2 hne2 hl2 e=>by
    obtain ⟨g,h1,h2,h3⟩:=hI.made r hr2 (hback _ (fun e2=>by
     obtain ⟨oq,hoq,hdq,_⟩:=(hN r hr2).new;rw [e2,ho] at hoq;cases hoq
     rw [hd] at hdq;exact hne2 (by simpa using hdq.symm)) hl2)
    rw [h2] at e;have :=h3.lt;simp at e;try omega
   have nl:∀r∈news,r.2≠p.2→(listed.setIfInBounds p.1 true).getD r.1 false=true→listed.getD r.1 false=true:=fun r hr2 hne2 hl2=>hback _ (fun e2=>by
    obtain ⟨oq,hoq,hdq,_⟩:=(hN r hr2).new;rw [e2,ho] at hoq;cases hoq
    rw [hd] at hdq;exact hne2 (by simpa using hdq.symm)) hl2
   by_cases e:q.2=p.2
   ·have e':q'.2≠p.2:=fun e2=>hne (e.trans e2.symm);rw [e,heq,hget _ _ _ (fun e2=>e' e2.symm)];exact fun h=>key q' hq' e' hl' h.symm
   ·by_cases e':q'.2=p.2
    ·rw [e',heq,hget _ _ _ (fun e2=>e e2.symm)];exact key q hq e hl
    ·rw [hget _ _ _ (fun e2=>e e2.symm),hget _ _ _ (fun e2=>e' e2.symm)];exact hI.apart q hq q' hq' hne (nl q hq e hl) (nl q' hq' e' hl')
 ·obtain ⟨o,s,ho,hd,hs,hold,hone,hstep⟩:=h.step;rw [List.all_eq_true] at hone;have hs':s<vs.length:=by simpa [Nat.blt_eq] using hs
  have hnew:=Au hold;have hni:∀p∈news,p.1≠i:=fun p hp e=>by
   obtain ⟨oq,hoq,hdq,_⟩:=(hN p hp).new;rw [e,ho] at hoq;cases hoq
   rw [hd] at hdq;exact hnew p hp (by simpa using hdq.symm)
  refine wpOp_step ho fun K hK=>?_;refine hstep a w K hI.below (fun u hu hou=>hI.fact u hou fun j hj hjs=>?_) fun w' hb=>hK _ _ ?_
  ·rw [okB,List.all_eq_true] at hu;have h1:=hu j hj;rw [hjs] at h1;exact zf hr (by simpa using h1)
  ·rw [hd];refine ⟨hI.below.trans (hb.mono hI.below.size),?_,?_,fun u hou hu=>?_,fun q hq hl=>?_,fun q hq q' hq' hne hl hl'=>?_⟩
   ·rw [←hI.size];simp [Act.put]
   ·rw [←hI.defers];rfl
   ·by_cases e:s=u
    ·subst e;rw [Pf _ _ _ (by rw [hI.size];exact hs')]
    ·rw [hget _ _ _ e];refine hI.fact u hou fun j hj hju=>?_;have h1:=hu j hj hju;refine hback j (fun ej=>?_) h1;rw [ej] at hju;simp only [Je,ho,hd] at hju;exact e (by simpa using hju)
   ·rw [hget _ _ _ (fun e=>hnew q hq e.symm)];obtain ⟨g,h1,h2,h3⟩:=hI.made q hq (hback _ (hni q hq) hl);exact ⟨g,h1,h2,h3.below hb h3.lt⟩
   ·rw [hget _ _ _ (fun e=>hnew q hq e.symm),hget _ _ _ (fun e=>hnew q' hq' e.symm)];exact hI.apart q hq q' hq' hne (hback _ (hni q hq) hl) (hback _ (hni q' hq') hl')
def Oc (g:Nat→Nat) (news:List (Nat×Nat)) (vs:List Value):List Value:=news.foldl (fun l p=>l.set p.2 (.pointer (some ⟨g p.2,0,none⟩))) vs
theorem Zk (g:Nat→Nat):∀(news:List (Nat×Nat)) (vs:List Value),(Oc g news vs).length=vs.length
 | [],_=>rfl
 |p::r,vs=>by rw [Oc,List.foldl_cons];exact (Zk g r _).trans List.length_set
theorem Ql (g:Nat→Nat) (s:Nat):∀(news:List (Nat×Nat)) (vs:List Value),qi news s=true→(Oc g news vs).getD s undef=vs.getD s undef
 | [],_,_=>rfl
 |p::r,vs,h=>by
  have hp:=Au h p List.mem_cons_self;have hr:qi r s=true:=by rw [qi,List.all_cons,Bool.and_eq_true] at h;exact h.2
  rw [Oc,List.foldl_cons];refine (Ql g s r _ hr).trans ?_;rw [Yaj,Yaj,List.getElem?_set_ne hp]
theorem qo (g:Nat→Nat) (s:Nat):∀(news:List (Nat×Nat)) (vs:List Value),s<vs.length→(∃p∈news,p.2=s)→(Oc g news vs).getD s undef=.pointer (some ⟨g s,0,none⟩)
 | [],_,_,h=>by obtain ⟨_,h,_⟩:=h;cases h
 |p::r,vs,hl,h=>by
  rw [Oc,List.foldl_cons];by_cases hr:∃q∈r,q.2=s
  ·exact qo g s r _ (by rw [List.length_set];exact hl) hr
  ·have hp:p.2=s:=by
    obtain ⟨q,hq,e⟩:=h;rcases List.mem_cons.1 hq with rfl|hq
    ·exact e
    ·exact absurd ⟨q,hq,e⟩ hr
   have ho:qi r s=true:=by
    rw [qi,List.all_eq_true];intro q hq;cases hb:Nat.beq q.2 s with
    |false=>rfl
    |true=>exact absurd ⟨q,hq,Nat.eq_of_beq_eq_true hb⟩ hr
   refine (Ql g s r _ ho).trans ?_;rw [hp];simp [hl]
theorem zH (hB:zo md ops L=true) (w0:World) (a0:Act) (vs:List Value) (news:List (Nat×Nat)) (t:Nat→TypeId) (zs:Nat→List Value) (keep:List Nat) (hkeep:((List.range vs.length).all fun s=>keep.contains s||L.any fun j=>Je ops j s&&Nat.blt j ops.size)=true)
 (hnL:(news.all fun p=>L.contains p.1)=true) (hN:∀p∈news,YZ P ops L vs.length (t p.2) p) (hz:∀p∈news,∀w,(zeroValue (t p.2)).run P w=.ok (.agg (zs p.2).toArray) w)
 (hk:∀s∈keep,a0.tmps.getD s undef=vs.getD s undef) (hsz:a0.tmps.size=vs.length) (hstep:∀i∈L,(∃p∈news,p.1=i)∨Pi P md ops Q L w0 vs news i) (rem:Nat) (hrem:rem+(Ge ops.size L).toList.countP id=ops.size)
 (hend:∀w (g:Nat→Nat),Below w0.heap.size w0 w→(∀p∈news,w0.heap.size≤g p.2∧Ia w (g p.2) (zs p.2) (t p.2))→(∀p∈news,∀q∈news,p.2≠q.2→g p.2≠g q.2)→wpAny P md ops Q rem (Ge ops.size L) ⟨(Oc g news vs).toArray,a0.defers⟩ w):wpAny P md ops Q ops.size (Array.replicate ops.size false) a0 w0:=by
 rw [List.all_eq_true] at hkeep hnL;have hnL':∀p∈news,p.1∈L:=fun p hp=>by simpa using hnL p hp
 have hno:∀j,(Array.replicate ops.size false).getD j false=false:=fun j=>by
  by_cases h:j<ops.size<;>simp [h]
 have h0:(Array.replicate ops.size false).toList.countP id=0:=by simp [List.countP_replicate]
 refine Ls hB (PU ops L w0 a0.defers vs news t zs) (fun i hi=>FQ hnL' hN hz hi (hstep i hi)) rem hrem (fun a w hI=>?_) ops.size _ a0 w0 ⟨by simp,fun j hj=>?_,fun i j hi=>?_⟩ (by omega) ⟨Below.refl _ _,hsz,rfl,fun s hold hs=>?_,fun p hp hl=>?_,fun p hp q hq _ hl=>?_⟩
 ·have hful:∀j∈L,j<ops.size→(Ge ops.size L).getD j false=true:=fun j hj hlt=>by simp [Ge,hlt,hj]
  have hnew:∀p∈news,(Ge ops.size L).getD p.1 false=true:=fun p hp=>by
   obtain ⟨o,ho,_⟩:=(hN p hp).new;exact hful _ (hnL' p hp) (Array.getElem?_eq_some_iff.1 ho).1
  have hg:∃g:Nat→Nat,∀p∈news,w0.heap.size≤g p.2∧a.tmps.getD p.2 undef=.pointer (some ⟨g p.2,0,none⟩)∧Ia w (g p.2) (zs p.2) (t p.2):=by
   refine ⟨fun s=>blk (a.tmps.getD s undef),fun p hp=>?_⟩;obtain ⟨g,h1,h2,h3⟩:=hI.made p hp (hnew p hp);have hb:blk (a.tmps.getD p.2 undef)=g:=by rw [h2];rfl
   show w0.heap.size≤blk (a.tmps.getD p.2 undef)∧a.tmps.getD p.2 undef=.pointer (some ⟨blk (a.tmps.getD p.2 undef),0,none⟩)∧Ia w (blk (a.tmps.getD p.2 undef)) (zs p.2) (t p.2);rw [hb];exact ⟨h1,h2,h3⟩
  obtain ⟨g,hg⟩:=hg;rw [qt (vs:=Oc g news vs) (by rw [Zk];exact hI.size) hI.defers fun s=>?_]
  ·refine hend w g hI.below (fun p hp=>⟨(hg p hp).1,(hg p hp).2.2⟩) fun p hp q hq hne e=>hI.apart p hp q hq hne (hnew p hp) (hnew q hq) ?_;rw [(hg p hp).2.1,(hg q hq).2.1,e]
  ·by_cases ho:qi news s=true
   ·rw [Ql g s news vs ho];refine hI.fact s ho fun j hj hjs=>hful j hj ?_;unfold Je at hjs;rcases Nat.lt_or_ge j ops.size with h|h
    ·exact h
    ·rw [Array.getElem?_eq_none h] at hjs;cases hjs
   ·have hex:∃p∈news,p.2=s:=by
     refine Classical.byContradiction fun hc=>ho ?_;rw [qi,List.all_eq_true];intro q hq;cases hb:Nat.beq q.2 s with
     |false=>rfl
     |true=>exact absurd ⟨q,hq,Nat.eq_of_beq_eq_true hb⟩ hc
    obtain ⟨p,hp,e⟩:=hex;obtain ⟨o,_,_,_,_,hlt,_⟩:=(hN p hp).new;rw [qo g s news vs (by rw [←e];simpa [Nat.blt_eq] using hlt) ⟨p,hp,e⟩,←e];exact (hg p hp).2.1
 ·rw [hno] at hj;cases hj
 ·rw [hno] at hi;cases hi
 ·rcases Nat.lt_or_ge s vs.length with h|h
  ·have h1:=hkeep s (List.mem_range.2 h);rw [Bool.or_eq_true,List.contains_iff_mem,List.any_eq_true] at h1;rcases h1 with h1|⟨j,hj,h1⟩
   ·exact hk s h1
   ·rw [Bool.and_eq_true] at h1;have :=hs j hj h1.1;rw [hno] at this;cases this
  ·simp [Array.getElem?_eq_none (show a0.tmps.size≤s by omega),h]
 ·rw [hno] at hl;cases hl
 ·rw [hno] at hl;cases hl
theorem Ya (hB:zo md ops L=true) (w0:World) (a0:Act) (vs:List Value) (news:List (Nat×Nat)) (t:TypeId) (zs:List Value) (keep:List Nat) (hkeep:((List.range vs.length).all fun s=>keep.contains s||L.any fun j=>Je ops j s&&Nat.blt j ops.size)=true)
 (hnL:(news.all fun p=>L.contains p.1)=true) (hN:∀p∈news,YZ P ops L vs.length t p) (hz:∀w,(zeroValue t).run P w=.ok (.agg zs.toArray) w)
 (hk:∀s∈keep,a0.tmps.getD s undef=vs.getD s undef) (hsz:a0.tmps.size=vs.length) (hstep:∀i∈L,(∃p∈news,p.1=i)∨Pi P md ops Q L w0 vs news i) (rem:Nat) (hrem:rem+(Ge ops.size L).toList.countP id=ops.size)
 (hend:∀w (g:Nat→Nat),Below w0.heap.size w0 w→(∀p∈news,w0.heap.size≤g p.2∧Ia w (g p.2) zs t)→(∀p∈news,∀q∈news,p.2≠q.2→g p.2≠g q.2)→wpAny P md ops Q rem (Ge ops.size L) ⟨(Oc g news vs).toArray,a0.defers⟩ w):wpAny P md ops Q ops.size (Array.replicate ops.size false) a0 w0:=
 zH hB w0 a0 vs news (fun _=>t) (fun _=>zs) keep hkeep hnL hN (fun _ _=>hz) hk hsz hstep rem hrem hend
theorem QF {o:Oper} {a:Act} {j s:Nat} {b c:Bool} (hg:o.guard=some (j,b)) {oj:Oper} (hj:ops[j]? =some oj) (hd:oj.dst=some s) (hv:a.tmps.getD s undef=.bool c):Region.wanted o (yielded ops a.tmps)=(c==b):=by
 simp only [Region.wanted,hg];unfold yielded;rw [Array.getD_eq_getD_getElem?] at hv;cases h:a.tmps[s]? with
 |none=>rw [h] at hv;cases hv
 |some v=>
  rw [h] at hv;obtain rfl:v=.bool c:=hv;simp [hj,hd,h]
theorem Wr {w0:World} {vs:List Value} {news:List (Nat×Nat)} {i:Nat} (o:Oper) (s:Nat) (ho:ops[i]? =some o) (hd:o.dst=some s) (hs:Nat.blt s vs.length=true) (hold:qi news s=true) (hone:(L.all fun j=>j==i|| !Je ops j s)=true)
 (hw:∀a:Act,(∀t,okB md ops L i t=true→qi news t=true→a.tmps.getD t undef=vs.getD t undef)→Region.wanted o (yielded ops a.tmps)=true)
 (hr:∀a w K,Below w0.heap.size w0 w→(∀t,okB md ops L i t=true→qi news t=true→a.tmps.getD t undef=vs.getD t undef)→(∀w',Below w.heap.size w w'→K (a.put o.dst (vs.getD s undef)) w')→Oper.wp P o a w K Q):Pi P md ops Q L w0 vs news i:=
 ⟨o,s,ho,hd,hs,hold,hone,fun a w K hb hv hK=>by rw [if_pos (hw a hv)];exact hr a w K hb hv hK⟩
theorem Ap {w0:World} {vs:List Value} {news:List (Nat×Nat)} {i:Nat} (o:Oper) (s:Nat) (ho:ops[i]? =some o) (hd:o.dst=some s) (hs:Nat.blt s vs.length=true) (hold:qi news s=true) (hone:(L.all fun j=>j==i|| !Je ops j s)=true)
 (hw:∀a:Act,(∀t,okB md ops L i t=true→qi news t=true→a.tmps.getD t undef=vs.getD t undef)→Region.wanted o (yielded ops a.tmps)=false) (hu:vs.getD s undef=undef):Pi P md ops Q L w0 vs news i:=
 ⟨o,s,ho,hd,hs,hold,hone,fun a w K hb hv hK=>by rw [if_neg (by rw [hw a hv];decide)];have :=hK w (Below.refl _ _);rwa [hu] at this⟩
theorem Fh {o:Oper} (hg:o.guard=none) (y:Nat→Option Bool):Region.wanted o y=true:=by simp [Region.wanted,hg]
theorem Xr {o:Oper} {a:Act} {w:World} {K:Act→World→Prop} (v:Value) (hr:(execOp a.eval o).run P w=.ok (.value v) w) (h:∀w',Below w.heap.size w w'→K (a.put o.dst v) w'):Oper.wp P o a w K Q:=Mc v hr (h w (Below.refl _ _))
theorem BL {o:Oper} {a:Act} {w:World} {K:Act→World→Prop} (v:Value) (f:FuncId) (args:List Operand) (tys:Array TypeId) (hop:o.op=.call {callee:=.value (.func f),args:=args.toArray,argTypes:=tys}) (us:List Value) (hu:args.map a.eval=us)
 (hcf:∀args w,(callFunc f args).run P w=.ok (.enter f args) w) (hc:Calls P f us.toArray w fun e w'=>e=.returned v∧Below w.heap.size w w') (h:∀w',Below w.heap.size w w'→K (a.put o.dst v) w'):Oper.wp P o a w K Q:=by
 unfold Oper.wp;simp [execOp,hop,resolve,invoke,Act.eval,Deferred.ofValue,hu,hcf,Oper.upon];refine hc.mono fun e w' hR=>?_;obtain ⟨rfl,hb'⟩:=hR;exact h w' hb'
theorem Xv (ρ:Operand→Value) (o:Oper) (c x y:Operand) (h:o.op=.pick c x y) (b:Bool) (hc:ρ c=.bool b) (w:World):(execOp ρ o).run P w=.ok (.value (if b then ρ x else ρ y)) w:=by
 simp [execOp,h,hc,asBool]
end
def evV (vs:List Value):Operand→Value
 |.tmp t=>vs.getD t undef
 |.const v=>v
 |.global g=>.pointer (some ⟨g,0,none⟩)
 |.func f=>.func (.func f) #[] #[]
def stB (md:Region.Mode) (ops:Array Oper) (L:List Nat) (news:List (Nat×Nat)) (i:Nat):Operand→Bool
 |.tmp t=>okB md ops L i t&&qi news t
 |_=>true
def gdB (md:Region.Mode) (ops:Array Oper) (L:List Nat) (vs:List Value) (news:List (Nat×Nat)) (i:Nat) (want:Bool):Option (Nat×Bool)→Bool
 |none=>want
 |some (j,b)=>match ops[j]? with
  |some oj=>match oj.dst with
   |some d=>okB md ops L i d&&(qi news d&&(match vs.getD d undef with |.bool c=>(c==b)==want|_=>false))
   |none=>false
  |none=>false
def atB (md:Region.Mode) (ops:Array Oper) (L:List Nat) (vs:List Value) (news:List (Nat×Nat)) (i s:Nat) (want:Bool) (xs:List Operand):Bool:=
 (match ops[i]? with
  |some o=>(match o.dst with |some d=>Nat.beq d s|none=>false)&&gdB md ops L vs news i want o.guard
  |none=>false)&&(Nat.blt s vs.length&&(qi news s&&((L.all fun j=>j==i|| !Je ops j s)&&xs.all (stB md ops L news i))))
section
variable {P:Program} {ops:Array Oper} {Q:Exit→Act→World→Prop} {md:Region.Mode} {L:List Nat} {w0:World} {vs:List Value} {news:List (Nat×Nat)} {i:Nat}
theorem IW {want:Bool} {o:Oper} {a:Act} (h:gdB md ops L vs news i want o.guard=true) (hv:∀t,okB md ops L i t=true→qi news t=true→a.tmps.getD t undef=vs.getD t undef):Region.wanted o (yielded ops a.tmps)=want:=by
 cases hg:o.guard with
 |none=>rw [hg] at h;rw [show want=true from h];exact Fh hg _
 |some p=>
  obtain ⟨j,b⟩:=p;rw [hg,gdB] at h;cases hj:ops[j]? with
  |none=>rw [hj] at h;cases h
  |some oj=>
   rw [hj] at h;dsimp only at h;cases hd:oj.dst with
   |none=>rw [hd] at h;cases h
   |some d=>
    rw [hd] at h;dsimp only at h;rw [Bool.and_eq_true,Bool.and_eq_true] at h;obtain ⟨h1,h2,h3⟩:=h;cases hc:vs.getD d undef with
    |bool c=>
     rw [hc] at h3;rw [QF hg hj hd ((hv d h1 h2).trans hc)];exact eq_of_beq h3
    |_=>rw [hc] at h3;cases h3
theorem Pm {s:Nat} {want:Bool} {xs:List Operand} (h:atB md ops L vs news i s want xs=true):∃o,ops[i]? =some o∧o.dst=some s∧Nat.blt s vs.length=true∧qi news s=true∧(L.all fun j=>j==i|| !Je ops j s)=true∧
 ∀a:Act,(∀t,okB md ops L i t=true→qi news t=true→a.tmps.getD t undef=vs.getD t undef)→Region.wanted o (yielded ops a.tmps)=want∧∀x∈xs,a.eval x=evV vs x:=by
 rw [atB,Bool.and_eq_true,Bool.and_eq_true,Bool.and_eq_true,Bool.and_eq_true] at h;obtain ⟨h1,h2,h3,h4,h5⟩:=h;cases ho:ops[i]? with
 |none=>rw [ho] at h1;cases h1
 |some o=>
  rw [ho] at h1;dsimp only at h1;rw [Bool.and_eq_true] at h1;refine ⟨o,rfl,?_,h2,h3,h4,fun a hv=>⟨IW h1.2 hv,fun x hx=>?_⟩⟩
  ·cases hd:o.dst with
   |none=>rw [hd] at h1;exact absurd h1.1 (by simp)
   |some d=>rw [hd] at h1;rw [Nat.eq_of_beq_eq_true h1.1]
  ·have hx2:=List.all_eq_true.1 h5 x hx;cases x with
   |tmp t=>
    rw [stB,Bool.and_eq_true] at hx2;exact hv t hx2.1 hx2.2
   |const v=>rfl
   |global g=>rfl
   |func f=>rfl
theorem mP (s:Nat) {p:Op} (xs:List Operand) (hB:atB md ops L vs news i s true xs=true) (hp:(ops[i]?).map (·.op)=some p)
 (hr:∀(o:Oper) (a:Act) (w:World),o.op=p→Below w0.heap.size w0 w→(∀x∈xs,a.eval x=evV vs x)→(execOp a.eval o).run P w=.ok (.value (vs.getD s undef)) w):Pi P md ops Q L w0 vs news i:=by
 obtain ⟨o,h1,h2,h3,h4,h5,h6⟩:=Pm hB;rw [h1] at hp;exact Wr o s h1 h2 h3 h4 h5 (fun a hv=>(h6 a hv).1) fun a w K hb hv hK=>Xr _ (hr o a w (Option.some.inj hp) hb (h6 a hv).2) hK
theorem mL (s:Nat) {t:TypeId} {x:Operand} (hp:(ops[i]?).map (·.op)=some (.load t x)) (hr:∀w,Below w0.heap.size w0 w→(Instr.loadAt t (evV vs x)).run P w=.ok (vs.getD s undef) w) (hB:atB md ops L vs news i s true [x]=true:=by kernel_rfl):Pi P md ops Q L w0 vs news i:=
 mP s [x] hB hp fun o _ w ho hb hx=>Yc _ o t x ho _ _ (hx x (List.mem_singleton.2 rfl)) w (hr w hb)
theorem mF (s:Nat) {t:TypeId} {x:Operand} {f:Nat} (hp:(ops[i]?).map (·.op)=some (.fieldAddr t x f)) (hr:∀w,(Instr.fieldAt t (evV vs x) f).run P w=.ok (vs.getD s undef) w) (hB:atB md ops L vs news i s true [x]=true:=by kernel_rfl):Pi P md ops Q L w0 vs news i:=
 mP s [x] hB hp fun o _ w ho _ hx=>by
  have h1:=hx x (List.mem_singleton.2 rfl);have h2:=hr w;simp [execOp,ho,h1,h2]
theorem mV (s:Nat) {x:Operand} {p:Op} (hp:(ops[i]?).map (·.op)=some p) (hm:p=.move x∨p=.assign x) (hv:evV vs x=vs.getD s undef) (hB:atB md ops L vs news i s true [x]=true:=by kernel_rfl):Pi P md ops Q L w0 vs news i:=
 mP s [x] hB hp fun o _ w ho _ hx=>by
  have h1:=hx x (List.mem_singleton.2 rfl);rw [hv] at h1;exact Lb _ o x (by rw [ho];exact hm) _ h1 w
theorem mC (s:Nat) {f:FuncId} {args:List Operand} {tys:Array TypeId} {fn:Func} (hp:(ops[i]?).map (·.op)=some (.call {callee:=.value (.func f),args:=args.toArray,argTypes:=tys})) (hf:P.funcs[f]? =some fn)
 (hc:∀w,Below w0.heap.size w0 w→Calls P f (args.map (evV vs)).toArray w (gvn (vs.getD s undef) w)) (hB:atB md ops L vs news i s true args=true:=by kernel_rfl) (hn:(fn.name=="runtime.NumGoroutine")=false:=by rfl) (hb:fn.body.isNone=false:=by rfl):Pi P md ops Q L w0 vs news i:=by
 obtain ⟨o,h1,h2,h3,h4,h5,h6⟩:=Pm hB;rw [h1] at hp;exact Wr o s h1 h2 h3 h4 h5 (fun a hv=>(h6 a hv).1) fun a w K hbw hv hK=>BL _ f args tys (Option.some.inj hp) _ (List.map_congr_left fun x hx=>(h6 a hv).2 x hx) (Ef hf hn hb) (hc w hbw) hK
theorem mK (s:Nat) (hu:vs.getD s undef=undef) (hB:atB md ops L vs news i s false []=true:=by kernel_rfl):Pi P md ops Q L w0 vs news i:=by
 obtain ⟨o,h1,h2,h3,h4,h5,h6⟩:=Pm hB;exact Ap o s h1 h2 h3 h4 h5 (fun a hv=>(h6 a hv).1) hu
theorem mB (s:Nat) {b:BinOp} {t t2:TypeId} {x y:Operand} (hp:(ops[i]?).map (·.op)=some (.binOp b t x y t2)) (hg:∀w,(eqGuard b t x y (evV vs x) (evV vs y)).run P w=.ok () w) (hr:∀w,(binOp b t (evV vs x) (evV vs y)).run P w=.ok (vs.getD s undef) w) (hB:atB md ops L vs news i s true [x,y]=true:=by kernel_rfl):Pi P md ops Q L w0 vs news i:=
 mP s [x,y] hB hp fun o _ w ho _ hx=>Ff _ o b t t2 x y ho _ _ _ (hx x (by simp)) (hx y (by simp)) w (hg w) (hr w)
theorem mQ (s:Nat) {c x y:Operand} {b:Bool} (hp:(ops[i]?).map (·.op)=some (.pick c x y)) (hc:evV vs c=.bool b) (hv:(bif b then evV vs x else evV vs y)=vs.getD s undef) (hB:atB md ops L vs news i s true [c,x,y]=true:=by kernel_rfl):Pi P md ops Q L w0 vs news i:=
 mP s [c,x,y] hB hp fun o _ w ho _ hx=>by
  rw [Xv _ o c x y ho b ((hx c (by simp)).trans hc) w,hx x (by simp),hx y (by simp),←hv];cases b<;>rfl
theorem mU (s:Nat) {t:TypeId} {parts:List (Nat×Operand)} (hp:(ops[i]?).map (·.op)=some (.build t parts.toArray)) (hr:∀w,(Instr.build t (parts.map fun (k,x)=>(k,evV vs x)).toArray).run P w=.ok (vs.getD s undef) w) (hB:atB md ops L vs news i s true (parts.map (·.2))=true:=by kernel_rfl):Pi P md ops Q L w0 vs news i:=
 mP s (parts.map (·.2)) hB hp fun o _ w ho _ hx=>Vd _ o t parts ho _ (List.map_congr_left fun p hp=>by
  have h:=hx p.2 (List.mem_map_of_mem hp);obtain ⟨k,x⟩:=p;exact congrArg (Prod.mk k) h) _ w (hr w)
theorem mN (s:Nat) {t:TypeId} {x:Operand} {b:Bool} (hp:(ops[i]?).map (·.op)=some (.unOp .not t x)) (hc:evV vs x=.bool b) (hv:Value.bool (!b)=vs.getD s undef) (hB:atB md ops L vs news i s true [x]=true:=by kernel_rfl):Pi P md ops Q L w0 vs news i:=
 mP s [x] hB hp fun o _ w ho _ hx=>by
  rw [←hv];exact Om _ o t x ho b ((hx x (by simp)).trans hc) w
theorem mE (s:Nat) {x:Operand} {k:Nat} {us:Array Value} (hp:(ops[i]?).map (·.op)=some (.extract x k)) (hc:evV vs x=.tuple us) (hv:us[k]? =some (vs.getD s undef)) (hB:atB md ops L vs news i s true [x]=true:=by kernel_rfl):Pi P md ops Q L w0 vs news i:=
 mP s [x] hB hp fun o a w ho _ hx=>by
  have h1:a.eval x=.tuple us:=(hx x (by simp)).trans hc;have h2:(Instr.extract (.tuple us) k).run P w=.ok (vs.getD s undef) w:=by simp [Instr.extract,hv]
  simp [execOp,ho,h1,h2]
theorem mI (s:Nat) {t:TypeId} {x y:Operand} (hp:(ops[i]?).map (·.op)=some (.indexAddr t x y)) (hr:∀w,(Instr.indexAt t (evV vs x) (evV vs y)).run P w=.ok (vs.getD s undef) w) (hB:atB md ops L vs news i s true [x,y]=true:=by kernel_rfl):Pi P md ops Q L w0 vs news i:=
 mP s [x,y] hB hp fun o _ w ho _ hx=>Me _ o t x y ho _ _ _ (hx x (by simp)) (hx y (by simp)) w (hr w)
theorem sG (s:Nat) (xs:List Operand) (hB:atB md ops L vs [] i s true xs=true) (hn:(ops[i]?).map (·.guard)=some none)
 (hr:∀(o:Oper) (a:Act) (w:World) (K:Act→World→Prop),ops[i]? =some o→Below w0.heap.size w0 w→(∀x∈xs,a.eval x=evV vs x)→(∀w',Below w.heap.size w w'→K (a.put o.dst (vs.getD s undef)) w')→Oper.wp P o a w K Q):Le P md ops Q L w0 vs i:=by
 obtain ⟨o,h1,h2,h3,h4,h5,h6⟩:=Pm hB;rw [h1] at hn;exact ⟨o,s,h1,h2,Option.some.inj hn,h3,h5,fun a w K hb hv hK=>hr o a w K h1 hb (h6 a fun t ht _=>hv t ht).2 hK⟩
theorem sP (s:Nat) {p:Op} (xs:List Operand) (hB:atB md ops L vs [] i s true xs=true) (hp:(ops[i]?).map (fun o=>(o.op,o.guard))=some (p,none))
 (hr:∀(o:Oper) (a:Act) (w:World),o.op=p→Below w0.heap.size w0 w→(∀x∈xs,a.eval x=evV vs x)→(execOp a.eval o).run P w=.ok (.value (vs.getD s undef)) w):Le P md ops Q L w0 vs i:=by
 obtain ⟨o,h1,-⟩:=Pm hB;have hp2:=hp;rw [h1] at hp2;have hp3:=Prod.mk.inj (Option.some.inj hp2);exact sG s xs hB (by rw [h1];exact congrArg some hp3.2) fun o' a w K ho' hb hx hK=>by
  obtain rfl:=Option.some.inj (h1.symm.trans ho');exact Xr _ (hr o a w hp3.1 hb hx) hK
theorem sL (s:Nat) {t:TypeId} {x:Operand} (hp:(ops[i]?).map (fun o=>(o.op,o.guard))=some (.load t x,none)) (hr:∀w,Below w0.heap.size w0 w→(Instr.loadAt t (evV vs x)).run P w=.ok (vs.getD s undef) w) (hB:atB md ops L vs [] i s true [x]=true:=by kernel_rfl):Le P md ops Q L w0 vs i:=
 sP s [x] hB hp fun o _ w ho hb hx=>Yc _ o t x ho _ _ (hx x (by simp)) w (hr w hb)
theorem sI (s:Nat) {t:TypeId} {x y:Operand} (hp:(ops[i]?).map (fun o=>(o.op,o.guard))=some (.indexAddr t x y,none)) (hr:∀w,(Instr.indexAt t (evV vs x) (evV vs y)).run P w=.ok (vs.getD s undef) w) (hB:atB md ops L vs [] i s true [x,y]=true:=by kernel_rfl):Le P md ops Q L w0 vs i:=
 sP s [x,y] hB hp fun o _ w ho _ hx=>Me _ o t x y ho _ _ _ (hx x (by simp)) (hx y (by simp)) w (hr w)
theorem sC (s:Nat) {f:FuncId} {args:List Operand} {tys:Array TypeId} {fn:Func} (hp:(ops[i]?).map (fun o=>(o.op,o.guard))=some (.call {callee:=.value (.func f),args:=args.toArray,argTypes:=tys},none)) (hf:P.funcs[f]? =some fn)
 (hc:∀w,Below w0.heap.size w0 w→Calls P f (args.map (evV vs)).toArray w (gvn (vs.getD s undef) w)) (hB:atB md ops L vs [] i s true args=true:=by kernel_rfl) (hn:(fn.name=="runtime.NumGoroutine")=false:=by rfl) (hb:fn.body.isNone=false:=by rfl):Le P md ops Q L w0 vs i:=by
 obtain ⟨o,h1,-⟩:=Pm hB;have hp2:=hp;rw [h1] at hp2;have hp3:=Prod.mk.inj (Option.some.inj hp2);exact sG s args hB (by rw [h1];exact congrArg some hp3.2) fun o' a w K ho' hbw hx hK=>by
  obtain rfl:=Option.some.inj (h1.symm.trans ho');exact BL _ f args tys hp3.1 _ (List.map_congr_left hx) (Ef hf hn hb) (hc w hbw) hK
def ud:Nat→List Value→List Value
 |0,l=>l
 |n+1,l=>undef::ud n l
abbrev ptr (g:Nat):Value:=.pointer (some ⟨g,0,none⟩)
end
def Hc:List Nat→Nat
 | []=>0
 |x::l=>x+256*Hc l
theorem Ze (a b:List Nat):Hc (a++b)=Hc a+256^a.length*Hc b:=by
 induction a with
 |nil=>simp [Hc]
 |cons x a ih=>
  rw [List.cons_append,Hc,Hc,ih,List.length_cons,Nat.pow_succ,Nat.mul_add];rw [show 256*(256^a.length*Hc b)=256^a.length*256*Hc b by rw [Nat.mul_comm (256^a.length) 256,Nat.mul_assoc]];omega
theorem Gk (a:List Nat) (h:∀x∈a,x<256):Hc a<256^a.length:=by
 induction a with
 |nil=>simp [Hc]
 |cons x a ih=>
  rw [Hc,List.length_cons,Nat.pow_succ];have h1:=h x List.mem_cons_self;have h2:=ih fun y hy=>h y (List.mem_cons_of_mem _ hy);omega
theorem Sk (a:List Nat) (i:Nat) (h:i<a.length):Hc (a.take (i+1))=Hc (a.take i)+256^i*a[i]:=by
 have e:a.take (i+1)=a.take i++[a[i]]:=(List.take_append_getElem h).symm;rw [e,Ze,zaj,Nat.min_eq_left (by omega)];simp [Hc]
def lev (bs:List UInt8):Nat:=Hc (bs.map (·.toNat))
theorem Gh (bs:List UInt8):∀x∈bs.map (·.toNat),x<256:=by
 intro x hx;obtain ⟨u,_,rfl⟩:=List.mem_map.1 hx;exact u.toNat_lt
theorem Pn (bs:List UInt8):lev bs<256^bs.length:=by
 have h:=Gk _ (Gh bs)
 rwa [Uaj] at h
theorem Aj (a b:List UInt8):lev (a++b)=lev a+256^a.length*lev b:=by
 unfold lev;rw [List.map_append,Ze,Uaj]
theorem Zh (x:Nat):∀k,lev (Ob x k)=x%256^k
 |0=>by rw [Nat.pow_zero,Nat.mod_one];rfl
 |k+1=>by
  rw [Mh,Aj,Zh x k,Ta];have e:lev [Ec x k]=x/256^k%256:=by
   simp [lev,Hc,Ec]
  rw [e,Nat.pow_succ,Nat.mod_mul]
theorem Pj (a:List Nat) (h:∀x∈a,x<256) (k:Nat) (hk:k≤a.length):Hc (a.take k)=Hc a%256^k:=by
 have e:Hc a=Hc (a.take k)+256^k*Hc (a.drop k):=by
  conv=>lhs;rw [←List.take_append_drop k a]
  rw [Ze,zaj,Nat.min_eq_left hk]
 have h1:=Gk (a.take k) (fun x hx=>h x (List.mem_of_mem_take hx));rw [zaj,Nat.min_eq_left hk] at h1;rw [e,Nat.add_mul_mod_self_left,yaj h1]
theorem Ve {α:Type} (n:List α) (h:n.length=5):∃a b c d e,n= [a,b,c,d,e]:=by
 match n,h with
 | [a,b,c,d,e],_=>exact ⟨a,b,c,d,e,rfl⟩
def Yb (x y:Nat):Nat:=(x+y)%18446744073709551616
theorem Wd (x y:Nat) (h:x+y<18446744073709551616):Yb x y=x+y:=yaj h
def xv (a b:List Nat):Nat→List Nat
 |0=>a
 |k+1=>(xv a b k).set k (Yb ((xv a b k).getD k 0) (b.getD k 0))
theorem ql (a b:List Nat):∀k,(xv a b k).length=a.length
 |0=>rfl
 |k+1=>by rw [xv,List.length_set,ql]
def TF (a b:List Nat):List Nat:=xv a b 5
def De (B:Nat) (n:List Nat):Prop:=∀x∈n,x<B
theorem Rc (B a b c d e:Nat):De B [a,b,c,d,e]↔a<B∧b<B∧c<B∧d<B∧e<B:=by
 simp [De]
def qH (n:List Nat):Prop:=n.length=5∧n.getD 0 0<67108869∧∀i,0<i→n.getD i 0<67108864
theorem WF (a b c d e:Nat) (h:qH [a,b,c,d,e]):a<67108869∧b<67108864∧c<67108864∧d<67108864∧e<67108864:=by
 obtain ⟨_,h0,h1⟩:=h;exact ⟨h0,h1 1 (by omega),h1 2 (by omega),h1 3 (by omega),h1 4 (by omega)⟩
theorem qH.below {n:List Nat} (h:qH n):De 67108869 n:=by
 obtain ⟨a,b,c,d,e,rfl⟩:=Ve n h.1;have :=WF _ _ _ _ _ h;rw [Rc];omega
theorem Tj (u:UInt8) (l:List UInt8):lev (u::l)=u.toNat+256*lev l:=rfl
theorem AI (l:List UInt8):Zf l.reverse=lev l:=by
 induction l with
 |nil=>rfl
 |cons u l ih=>rw [List.reverse_cons,Lm,ih,Tj];omega
theorem FL (b:List UInt8) (f:Nat) (hf:f≤b.length):lev (b.drop f)=lev b/256^f:=by
 have h:=Aj (b.take f) (b.drop f);rw [List.take_append_drop] at h;have hl:(b.take f).length=f:=by rw [zaj];omega
 have h2:=Pn (b.take f);rw [hl] at h h2;rw [h,Nat.add_mul_div_left _ _ (Nat.pow_pos (by omega)),Nat.div_eq_of_lt h2,Nat.zero_add]
theorem GL (b:List UInt8) (f:Nat) (hf:f≤b.length):lev (b.take f)=lev b%256^f:=by
 have h:=Aj (b.take f) (b.drop f);rw [List.take_append_drop] at h;have hl:(b.take f).length=f:=by rw [zaj];omega
 have h2:=Pn (b.take f);rw [hl] at h h2;rw [h,Nat.add_mul_mod_self_left,yaj h2]
end Go.Proofs.YtoggkhjaghkpnaaGreatDoor
