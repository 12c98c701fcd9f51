/- Part 5 of what the laws of this seat share: NPrime, NRoot, FMath, WWords, WVals, OCells, FSteps, FLeast, FPlus, FWide. -/
import Derived.Deep.WholeRow
import Derived.Laws.Externs
import Derived.Test.YtoggkhjaghkpnaaGreatDoorPart4
set_option maxRecDepth 100000
set_option maxHeartbeats 8000000
namespace Go.Proofs.YtoggkhjaghkpnaaGreatDoor.NP
def Pr (p:Nat):Prop:=2≤p∧∀d,d∣p→d=1∨d=p
theorem Pr.pos {p:Nat} (h:Pr p):0<p:=by have :=h.1;omega
theorem Pr.coprime {p a:Nat} (h:Pr p) (ha:¬p∣a):Nat.Coprime p a:=by
 rcases h.2 (Nat.gcd p a) (Nat.gcd_dvd_left p a) with h1|h1
 ·exact h1
 ·exact absurd (h1▸Nat.gcd_dvd_right p a) ha
theorem Pr.euclid {p a b:Nat} (h:Pr p) (hd:p∣a*b):p∣a∨p∣b:=by
 by_cases ha:p∣a
 ·exact Or.inl ha
 ·exact Or.inr (Nat.Coprime.dvd_of_dvd_mul_left (h.coprime ha) hd)
def ch:Nat→Nat→Nat
 |_,0=>1
 |0,_+1=>0
 |n+1,k+1=>ch n k+ch n (k+1)
theorem ch_zero (n:Nat):ch n 0=1:=by cases n<;>rfl
theorem ch_over (n:Nat):∀k,n<k→ch n k=0:=by
 induction n with
 |zero=>intro k hk;cases k with
  |zero=>omega
  |succ k=>rfl
 |succ n ih=>intro k hk;cases k with
  |zero=>omega
  |succ k=>show ch n k+ch n (k+1)=0;rw [ih k (by omega),ih (k+1) (by omega)]
theorem ch_self (n:Nat):ch n n=1:=by
 induction n with
 |zero=>rfl
 |succ n ih=>show ch n n+ch n (n+1)=1;rw [ih,ch_over n (n+1) (by omega)]
theorem ch_absorb (n:Nat):∀k,(k+1)*ch (n+1) (k+1)=(n+1)*ch n k:=by
 induction n with
 |zero=>intro k;cases k with
  |zero=>rfl
  |succ k=>show (k+1+1)*(ch 0 (k+1)+ch 0 (k+1+1))=1*ch 0 (k+1);rw [ch_over 0 (k+1) (by omega),ch_over 0 (k+1+1) (by omega)];rfl
 |succ n ih=>intro k;cases k with
  |zero=>
   have h:=ih 0;rw [ch_zero] at h;show (0+1)*(ch (n+1) 0+ch (n+1) (0+1))=_;rw [ch_zero];omega
  |succ j=>
   have h1:=ih j;have h2:=ih (j+1);have h3:ch (n+1) (j+1)=ch n j+ch n (j+1):=rfl;show (j+1+1)*(ch (n+1) (j+1)+ch (n+1) (j+1+1))=_;rw [Nat.mul_add,h2];have h4:(j+1+1)*ch (n+1) (j+1)=(n+1)*ch n j+ch (n+1) (j+1):=by rw [Nat.add_mul (j+1) 1,h1];omega
   rw [h4,h3,Nat.add_mul (n+1) 1,Nat.mul_add (n+1)];omega
def bs (n a:Nat):Nat→Nat
 |0=>0
 |m+1=>bs n a m+ch n m*a^m
theorem bs_step (n a:Nat):∀m,bs (n+1) a (m+1)=bs n a (m+1)+a*bs n a m:=by
 intro m
 induction m with
 |zero=>simp [bs,ch_zero]
 |succ m ih=>
  rw [bs,ih];show _+(ch n m+ch n (m+1))*a^(m+1)=(bs n a (m+1)+ch n (m+1)*a^(m+1))+a*(bs n a m+ch n m*a^m);rw [Nat.add_mul,Nat.mul_add,Nat.pow_succ];have:a*(ch n m*a^m)=ch n m*(a^m*a):=by rw [Nat.mul_left_comm,Nat.mul_comm a]
  omega
theorem bs_all (n a:Nat):bs n a (n+1)=(a+1)^n:=by
 induction n with
 |zero=>simp [bs,ch]
 |succ n ih=>
  rw [bs_step,bs,ih,ch_over n (n+1) (by omega),Nat.pow_succ (a+1),Nat.mul_add,Nat.mul_comm a];omega
theorem Pr.dvd_ch {p:Nat} (h:Pr p) (k:Nat) (hk:k+1<p):p∣ch p (k+1):=by
 obtain ⟨q,rfl⟩:∃q,p=q+1:=⟨p-1,by have :=h.1;omega⟩;rcases h.euclid (⟨_,ch_absorb q k⟩:q+1∣(k+1)*ch (q+1) (k+1)) with h1|h1
 ·exact absurd (Nat.le_of_dvd (by omega) h1) (by omega)
 ·exact h1
theorem Pr.bs_mod {p:Nat} (h:Pr p) (a:Nat):∀m,m+1≤p→bs p a (m+1)%p=1:=by
 intro m
 induction m with
 |zero=>intro _;simp [bs,ch_zero];exact yaj h.1
 |succ m ih=>
  intro hm;rw [bs,Nat.add_mod,ih (by omega),Nat.mod_eq_zero_of_dvd (Nat.dvd_trans (h.dvd_ch m (by omega)) (Nat.dvd_mul_right _ _))];exact yaj h.1
theorem Pr.step {p:Nat} (h:Pr p) (a:Nat):(a+1)^p%p=(a^p+1)%p:=by
 have h1:=h.1;rw [←bs_all,bs,ch_self,Nat.one_mul,Nat.add_mod];obtain ⟨q,rfl⟩:∃q,p=q+1:=⟨p-1,by omega⟩;rw [h.bs_mod a q (by omega),Nat.add_comm,Nat.mod_add_mod]
theorem Pr.fermat {p:Nat} (h:Pr p) (a:Nat):a^p%p=a%p:=by
 induction a with
 |zero=>rw [Nat.zero_pow h.pos]
 |succ a ih=>rw [h.step,Nat.add_mod,ih,←Nat.add_mod]
theorem dvd_sub_of_mod {a b p:Nat} (h:a%p=b%p):p∣a-b:=by
 rcases Nat.lt_or_ge a b with hl|hl
 ·rw [Nat.sub_eq_zero_of_le (by omega)];exact Nat.dvd_zero p
 ·refine ⟨a/p-b/p,?_⟩;have h1:=Nat.div_add_mod a p;have h2:=Nat.div_add_mod b p;rw [Nat.mul_sub];omega
theorem mod_of_dvd_sub {a b p:Nat} (hl:b≤a) (h:p∣a-b):a%p=b%p:=by
 obtain ⟨c,hc⟩:=h;rw [show a=b+p*c by omega,Nat.add_mul_mod_self_left]
theorem Pr.little {p:Nat} (h:Pr p) {a:Nat} (ha:¬p∣a):a^(p-1)%p=1:=by
 have h1:=h.1;have h2:=dvd_sub_of_mod (h.fermat a);have h3:a^p-a=a*(a^(p-1)-1):=by
  rw [Nat.mul_sub,Nat.mul_one,←Nat.pow_succ'];rw [show (p-1).succ=p by omega]
 rw [h3] at h2;have ha0:0<a:=Nat.pos_of_ne_zero (fun e=>ha (e▸Nat.dvd_zero p));have h4:=mod_of_dvd_sub (Nat.pow_pos (n:=p-1) ha0) ((h.euclid h2).resolve_left ha);rw [h4];exact yaj h1
theorem pow_one_mod {b r:Nat} (m k:Nat) (h:b^m%r=1%r):b^(m*k)%r=1%r:=by
 rw [Nat.pow_mul,Nat.pow_mod,h,←Nat.pow_mod,Nat.one_pow]
theorem pow_gcd {b r:Nat} (m n:Nat):b^m%r=1%r→b^n%r=1%r→b^(Nat.gcd m n)%r=1%r:=by
 induction m,n using Nat.gcd.induction with
 |H0 n=>intro _ h;rw [Nat.gcd_zero_left];exact h
 |H1 m n hm ih=>
  intro h1 h2;rw [Nat.gcd_rec];refine ih ?_ h1;have h3:=pow_one_mod m (n/m) h1;rw [←Nat.div_add_mod n m,Nat.pow_add,Nat.mul_mod,h3,←Nat.mul_mod,Nat.one_mul] at h2;exact h2
theorem has_prime (n:Nat):2≤n→∃r,Pr r∧r∣n:=by
 induction n using Nat.strongRecOn with
 |_ n ih=>
  intro hn;by_cases h:Pr n
  ·exact ⟨n,h,Nat.dvd_refl n⟩
  ·have:∃d,d∣n∧d≠1∧d≠n:=by
    refine Classical.byContradiction fun hc=>h ⟨hn,fun d hd=>?_⟩;refine Classical.byContradiction fun hc2=>hc ⟨d,hd,fun e=>hc2 (Or.inl e),fun e=>hc2 (Or.inr e)⟩
   obtain ⟨d,hd,h1,h2⟩:=this;have hle:=Nat.le_of_dvd (by omega) hd;have hpos:=Nat.pos_of_dvd_of_pos hd (by omega);obtain ⟨r,hr,hrd⟩:=ih d (by omega) (by omega);exact ⟨r,hr,Nat.dvd_trans hrd hd⟩
theorem pr_of (n:Nat) (hn:2≤n) (h:∀r,Pr r→r∣n→n<r*r):Pr n:=by
 refine ⟨hn,fun d hd=>?_⟩;refine Classical.byContradiction fun hc=>?_;have hpos:=Nat.pos_of_dvd_of_pos hd (by omega);obtain ⟨e,he⟩:=hd;have h1:d≠1:=fun x=>hc (Or.inl x);have h2:e≠1:=fun x=>hc (Or.inr (by rw [he,x,Nat.mul_one]));have h0:e≠0:=fun x=>by rw [x] at he;omega
 have key:∀a b,n=a*b→2≤a→a≤b→False:=by
  intro a b hab ha hle;obtain ⟨r,hr,hrd⟩:=has_prime a ha;have h3:=h r hr (Nat.dvd_trans hrd ⟨b,hab⟩);have h4:=Nat.le_of_dvd (by omega) hrd;have h5:r*r≤a*b:=Nat.mul_le_mul h4 (by omega);omega
 rcases Nat.le_total d e with hle|hle
 ·exact key d e he (by omega) hle
 ·exact key e d (by rw [he,Nat.mul_comm]) (by omega) hle
theorem dvd_pow_self (b:Nat) {q:Nat} (h:0<q):b∣b^q:=⟨b^(q-1),by rw [←Nat.pow_succ',show (q-1).succ=q by omega]⟩
theorem pock {n q a r:Nat} (hq:Pr q) (hr:Pr r) (hrn:r∣n) (hqn:q∣n-1) (h1:a^(n-1)%n=1%n) (h2:Nat.gcd (a^((n-1)/q)%n+(n-1)) n=1) (hn:2≤n):q∣r-1:=by
 have hr1:=hr.1;have e1:(a^((n-1)/q))^q%r=1%r:=by
  rw [←Nat.pow_mul,Nat.div_mul_cancel hqn];have :=Nat.mod_mod_of_dvd (a^(n-1)) hrn;rw [h1,Nat.mod_mod_of_dvd 1 hrn] at this;exact this.symm
 have e2:a^((n-1)/q)%r≠1%r:=by
  intro e;have e3:r∣a^((n-1)/q)%n+(n-1):=by
   refine Nat.dvd_of_mod_eq_zero ?_;obtain ⟨c,hc⟩:=hrn;have e5:(a^((n-1)/q)%n)%r=1%r:=by rw [Nat.mod_mod_of_dvd _ ⟨c,hc⟩,e]
   rw [Nat.add_mod,e5,←Nat.add_mod,show 1+(n-1)=r*c by omega];exact Nat.mul_mod_right r c
  have e4:=Nat.dvd_gcd e3 hrn;rw [h2] at e4;have :=Nat.le_of_dvd (by omega) e4;omega
 generalize a^((n-1)/q)=b at *;have e6:¬r∣b:=by
  intro h;have:b^q%r=0:=Nat.mod_eq_zero_of_dvd (Nat.dvd_trans h (dvd_pow_self b (by have :=hq.1;omega)));rw [this,yaj hr1] at e1;omega
 have e7:=hr.little e6;rw [←yaj (show 1<r by omega)] at e7;rw [show (1%r)=1%r from rfl] at e7;have e8:=pow_gcd q (r-1) e1 (by rw [yaj (show 1<r by omega)];rw [yaj (show 1<r by omega)] at e7;exact e7);rcases hq.2 _ (Nat.gcd_dvd_left q (r-1)) with h3|h3
 ·rw [h3,Nat.pow_one] at e8;exact absurd e8 e2
 ·rw [←h3];exact Nat.gcd_dvd_right q (r-1)
def pw:Nat→Nat→Nat→Nat→Nat
 |0,_,_,m=>1%m
 |f+1,a,e,m=>bif Nat.beq e 0 then 1%m else bif Nat.beq (e%2) 1 then (a*pw f (a*a%m) (e/2) m)%m else pw f (a*a%m) (e/2) m
theorem pw_eq (m:Nat):∀f a e,e<2^f→pw f a e m=a^e%m:=by
 intro f
 induction f with
 |zero=>intro a e h;rw [show e=0 by omega];rfl
 |succ f ih=>
  intro a e h;rw [Nat.pow_succ] at h;have h1:=ih (a*a%m) (e/2) (by omega);have h2:(a*a%m)^(e/2)%m=a^(2*(e/2))%m:=by
   rw [←Nat.pow_mod,Nat.pow_mul,Nat.pow_two]
  rw [h2] at h1;rw [pw,h1];rcases Nat.eq_zero_or_pos e with h0|h0
  ·subst h0;rfl
  ·have hb:Nat.beq e 0=false:=Bool.eq_false_iff.2 (fun c=>by have :=Nat.eq_of_beq_eq_true c;omega);rw [hb];rcases Nat.mod_two_eq_zero_or_one e with h3|h3
   ·rw [h3];show a^(2*(e/2))%m=_;rw [show 2*(e/2)=e by omega]
   ·rw [h3];show a*(a^(2*(e/2))%m)%m=_;rw [Nat.mul_mod_mod,←Nat.pow_succ',show (2*(e/2)).succ=e by omega]
def none_from (n:Nat):Nat→Nat→Bool
 |0,_=>true
 |f+1,d=>bif Nat.beq (n%d) 0 then false else none_from n f (d+1)
theorem none_from_is (n:Nat):∀f d,none_from n f d=true→∀k,d≤k→k<d+f→¬k∣n:=by
 intro f
 induction f with
 |zero=>intro d _ k h1 h2;omega
 |succ f ih=>
  intro d h k h1 h2 hk;rw [none_from] at h;cases hb:Nat.beq (n%d) 0 with
  |true=>rw [hb] at h;cases h
  |false=>
   rw [hb] at h;by_cases e:k=d
   ·subst e;rw [Nat.mod_eq_zero_of_dvd hk] at hb;cases hb
   ·exact ih (d+1) h k (by omega) (by omega) hk
theorem pr_small (n f:Nat) (hn:2≤n) (h:none_from n f 2=true) (hf:n<(f+2)*(f+2)):Pr n:=by
 refine pr_of n hn fun r hr hd=>?_;refine Classical.byContradiction fun hc=>none_from_is n f 2 h r hr.1 ?_ hd;rcases Nat.lt_or_ge r (2+f) with hl|hl
 ·exact hl
 ·have :=Nat.mul_le_mul (show f+2≤r by omega) (show f+2≤r by omega);omega
theorem pr_one {n q:Nat} (a f:Nat) (hq:Pr q) (hn:2≤n) (hqn:(n-1)%q=0) (h1:pw f a (n-1) n=1%n) (h2:Nat.gcd (pw f a ((n-1)/q) n+(n-1)) n=1) (hf:n≤2^f) (hl:n<(q+1)*(q+1)):Pr n:=by
 rw [pw_eq _ _ _ _ (by omega)] at h1;rw [pw_eq _ _ _ _ (Nat.lt_of_le_of_lt (Nat.div_le_self _ _) (by omega))] at h2;refine pr_of n hn fun r hr hd=>?_;have h3:=pock hq hr hd (Nat.dvd_of_mod_eq_zero hqn) h1 h2 hn;have h4:=Nat.le_of_dvd (by have :=hr.1;omega) h3;have :=hr.1;exact Waj hl (Nat.mul_le_mul (by omega) (by omega))
theorem pr_two {n q u:Nat} (a b f:Nat) (hq:Pr q) (hu:Pr u) (hqu:Nat.gcd q u=1) (hn:2≤n) (hqn:(n-1)%q=0) (hun:(n-1)%u=0) (h1:pw f a (n-1) n=1%n) (h2:Nat.gcd (pw f a ((n-1)/q) n+(n-1)) n=1) (g1:pw f b (n-1) n=1%n) (g2:Nat.gcd (pw f b ((n-1)/u) n+(n-1)) n=1) (hf:n≤2^f) (hl:n<(q*u+1)*(q*u+1)):Pr n:=by
 rw [pw_eq _ _ _ _ (by omega)] at h1 g1;rw [pw_eq _ _ _ _ (Nat.lt_of_le_of_lt (Nat.div_le_self _ _) (by omega))] at h2 g2;refine pr_of n hn fun r hr hd=>?_;have h3:=pock hq hr hd (Nat.dvd_of_mod_eq_zero hqn) h1 h2 hn;have g3:=pock hu hr hd (Nat.dvd_of_mod_eq_zero hun) g1 g2 hn;have h4:=Nat.le_of_dvd (by have :=hr.1;omega) (Nat.Coprime.mul_dvd_of_dvd_of_dvd hqu h3 g3);have :=hr.1;exact Waj hl (Nat.mul_le_mul (by omega) (by omega))
def pT:Nat:=8574133
def pS:Nat:=1919519569386763
def pR:Nat:=75445702479781427272750846543864801
def pQ:Nat:=74058212732561358302231226437062788676166966415465897661863160754340907
def PP:Nat:=57896044618658097711785492504343953926634992332820282019728792003956564819949
theorem pr_127:Pr 127:=pr_small 127 10 (by decide) (by decide+kernel) (by decide)
theorem pr_353:Pr 353:=pr_small 353 17 (by decide) (by decide+kernel) (by decide)
theorem pr_75707:Pr 75707:=pr_small 75707 280 (by decide) (by decide+kernel) (by decide)
theorem pr_T:Pr pT:=pr_small pT 2930 (by decide+kernel) (by decide+kernel) (by decide+kernel)
theorem pr_S:Pr pS:=pr_two (q:=pT) (u:=127) 2 2 51 pr_T pr_127 (by decide+kernel) (by decide+kernel) (by decide+kernel) (by decide+kernel) (by decide+kernel) (by decide+kernel) (by decide+kernel) (by decide+kernel) (by decide+kernel) (by decide+kernel)
theorem pr_R:Pr pR:=pr_two (q:=pS) (u:=75707) 2 2 116 pr_S pr_75707 (by decide+kernel) (by decide+kernel) (by decide+kernel) (by decide+kernel) (by decide+kernel) (by decide+kernel) (by decide+kernel) (by decide+kernel) (by decide+kernel) (by decide+kernel)
theorem pr_Q:Pr pQ:=pr_two (q:=pR) (u:=353) 2 2 236 pr_R pr_353 (by decide+kernel) (by decide+kernel) (by decide+kernel) (by decide+kernel) (by decide+kernel) (by decide+kernel) (by decide+kernel) (by decide+kernel) (by decide+kernel) (by decide+kernel)
theorem pr_P:Pr PP:=pr_one (q:=pQ) 2 255 pr_Q (by decide+kernel) (by decide+kernel) (by decide+kernel) (by decide+kernel) (by decide+kernel) (by decide+kernel)
theorem cg (x y P:Nat):(x%P=y%P)↔((P:Int)∣(x:Int)-(y:Int)):=by
 constructor
 ·intro h;have h1:(x:Int)%(P:Int)=(y:Int)%(P:Int):=by rw [←Int.natCast_emod,←Int.natCast_emod,h]
  exact Int.dvd_of_emod_eq_zero (Int.emod_eq_emod_iff_emod_sub_eq_zero.1 h1)
 ·intro h;have h1:=Int.emod_eq_emod_iff_emod_sub_eq_zero.2 (Int.emod_eq_zero_of_dvd h);rw [←Int.natCast_emod,←Int.natCast_emod] at h1;exact Int.ofNat.inj h1
theorem Pr.int {P:Nat} (h:Pr P) {x y:Int} (hd:(P:Int)∣x*y):(P:Int)∣x∨(P:Int)∣y:=by
 rw [←Int.natAbs_dvd_natAbs,Int.natAbs_mul] at hd;rcases h.euclid hd with h1|h1
 ·exact Or.inl (Int.natAbs_dvd_natAbs.1 h1)
 ·exact Or.inr (Int.natAbs_dvd_natAbs.1 h1)
theorem not_dvd {P a:Nat} (h:a<P) (h0:a≠0):¬(P:Int)∣(a:Int):=by
 rw [Int.natCast_dvd_natCast];intro hd;have :=Nat.le_of_dvd (by omega) hd;omega
def rt (P k t a:Nat):Nat:=if (a^(k+1)%P)*(a^(k+1)%P)%P=a then a^(k+1)%P else (a^(k+1)%P)*t%P
def isS (P k t a:Nat):Bool:=decide (rt P k t a*rt P k t a%P=a)
theorem four (P k a:Nat):(a^(k+1)%P)*(a^(k+1)%P)*((a^(k+1)%P)*(a^(k+1)%P))%P=a^(4*k+2)*(a*a)%P:=by
 have h:∀x:Nat,x*x*(x*x)=x^4:=fun x=>by grind
 rw [h,←Nat.pow_mod,←Nat.pow_mul,←Nat.pow_two,←Nat.pow_add];rw [show (k+1)*4=4*k+2+2 by omega]
theorem isS_iff {P k t a:Nat} (hP:Pr P) (ht:(P:Int)∣(t:Int)*t+1) (ha:a<P):isS P k t a=true↔a=0∨a^(4*k+2)%P=1:=by
 have h4:=(cg _ _ P).1 (four P k a);have h2:=hP.1;rw [isS,decide_eq_true_eq,rt];by_cases h0:a=0
 ·subst h0;simp
 have hna:=not_dvd ha h0;have hc1:a^(4*k+2)%P=1↔(P:Int)∣((a^(4*k+2):Nat):Int)-((1:Nat):Int):=by rw [←cg,yaj h2]
 rw [or_iff_right h0,hc1];generalize a^(k+1)%P=r at *;generalize a^(4*k+2)=c at *;simp only [Int.natCast_mul,Int.natCast_one] at *;have cancel:(P:Int)∣((c:Int)-1)*(a*a)→(P:Int)∣(c:Int)-1:=by
  intro h;rcases hP.int h with h|h
  ·exact h
  ·rcases hP.int h with h|h<;>exact absurd h hna
 by_cases hr:r*r%P=a
 ·rw [if_pos hr];have h5:(P:Int)∣(r:Int)*r-a:=by
   have :=(cg (r*r) a P).1 (by rw [hr,yaj ha]);simpa using this
  refine ⟨fun _=>cancel ?_,fun _=>hr⟩;obtain ⟨u,hu⟩:=h4;obtain ⟨v,hv⟩:=h5;exact ⟨v*(r*r+a)-u,by grind⟩
 ·rw [if_neg hr];have e1:(r*t%P)*(r*t%P)%P=a↔(P:Int)∣(r:Int)*t*(r*t)-a:=by
   rw [←Nat.mul_mod];have :=cg (r*t*(r*t)) a P;rw [yaj ha] at this;simpa using this
  rw [e1];obtain ⟨u,hu⟩:=h4;obtain ⟨w,hw⟩:=ht;constructor
  ·rintro ⟨v,hv⟩;refine cancel ⟨v*(r*t*(r*t)+a)-(r*r*(r*r))*w*(t*t-1)-u,by grind⟩
  ·rintro ⟨z,hz⟩;have h6:(P:Int)∣((r:Int)*r-a)*(r*r+a):=⟨u+z*a*a,by grind⟩;rcases hP.int h6 with ⟨y,hy⟩|⟨y,hy⟩
   ·refine absurd ?_ hr;have :=(cg (r*r) a P).2 (by simp only [Int.natCast_mul];exact ⟨y,hy⟩);rw [this,yaj ha]
   ·exact ⟨w*r*r-y,by grind⟩
theorem half {P k a:Nat} (hP:Pr P) (hk:P=8*k+5) (ha:a<P) (h0:a≠0):(P:Int)∣((a^(4*k+2):Nat):Int)-1∨(P:Int)∣((a^(4*k+2):Nat):Int)+1:=by
 have h:=hP.little (a:=a) (fun h=>not_dvd ha h0 (Int.natCast_dvd_natCast.2 h));rw [show P-1=(4*k+2)*2 by omega,Nat.pow_mul,Nat.pow_two] at h;have h1:=(cg _ 1 P).1 (h.trans (yaj hP.1).symm);generalize a^(4*k+2)=c at *;refine hP.int ?_;obtain ⟨u,hu⟩:=h1;simp only [Int.natCast_mul] at hu;exact ⟨u,by grind⟩
theorem one_iff {P c:Nat} (hP:Pr P):c%P=1↔(P:Int)∣(c:Int)-1:=by
 have :=cg c 1 P;rw [yaj hP.1] at this;exact this
theorem isS_mul {P k t a b:Nat} (hP:Pr P) (hk:P=8*k+5) (ht:(P:Int)∣(t:Int)*t+1) (ha:a<P) (hb:b<P) (ha0:a≠0) (hb0:b≠0):isS P k t (a*b%P)=(isS P k t a==isS P k t b):=by
 have hp:=hP.pos;have h5:(5:Int)≤P:=by omega
 have hab:¬(P:Int)∣(a:Int)*b:=fun h=>by
  rcases hP.int h with h|h
  ·exact not_dvd ha ha0 h
  ·exact not_dvd hb hb0 h
 have hab0:a*b%P≠0:=fun h=>hab (by rw [←Int.natCast_mul,Int.natCast_dvd_natCast];exact Nat.dvd_of_mod_eq_zero h);have ia:=isS_iff (k:=k) hP ht ha;have ib:=isS_iff (k:=k) hP ht hb;have ic:=isS_iff (k:=k) (a:=a*b%P) hP ht (Nat.mod_lt _ hp);rw [or_iff_right ha0,one_iff hP] at ia;rw [or_iff_right hb0,one_iff hP] at ib;rw [or_iff_right hab0,←Nat.pow_mod,Nat.mul_pow,one_iff hP,Int.natCast_mul] at ic;have xa:=half hP hk ha ha0;have xb:=half hP hk hb hb0;generalize isS P k t (a*b%P)=p at *;generalize isS P k t a=q at *;generalize isS P k t b=r at *;generalize ((a^(4*k+2):Nat):Int)=c at *;generalize ((b^(4*k+2):Nat):Int)=d at *;have no2:∀x:Int,(P:Int)∣x-1→(P:Int)∣x+1→False:=by
  rintro x ⟨u,hu⟩ ⟨v,hv⟩;have h:(P:Int)∣((2:Nat):Int):=⟨v-u,by grind⟩;exact not_dvd (by omega) (by omega) h
 rcases xa with hA|hA<;>rcases xb with hB|hB
 ·rw [ia.2 hA,ib.2 hB,ic.2 (by obtain ⟨u,hu⟩:=hA;obtain ⟨v,hv⟩:=hB;exact ⟨u*d+v,by grind⟩)];rfl
 ·have e1:r=false:=Bool.eq_false_iff.2 (fun e=>no2 d (ib.1 e) hB);have e2:p=false:=Bool.eq_false_iff.2 (fun e=>no2 (c*d) (ic.1 e) (by obtain ⟨u,hu⟩:=hA;obtain ⟨v,hv⟩:=hB;exact ⟨u*d+v,by grind⟩));rw [ia.2 hA,e1,e2];rfl
 ·have e1:q=false:=Bool.eq_false_iff.2 (fun e=>no2 c (ia.1 e) hA);have e2:p=false:=Bool.eq_false_iff.2 (fun e=>no2 (c*d) (ic.1 e) (by obtain ⟨u,hu⟩:=hA;obtain ⟨v,hv⟩:=hB;exact ⟨u*d-v,by grind⟩));rw [ib.2 hB,e1,e2];rfl
 ·have e1:q=false:=Bool.eq_false_iff.2 (fun e=>no2 c (ia.1 e) hA);have e2:r=false:=Bool.eq_false_iff.2 (fun e=>no2 d (ib.1 e) hB);rw [e1,e2,ic.2 (by obtain ⟨u,hu⟩:=hA;obtain ⟨v,hv⟩:=hB;exact ⟨u*d-v,by grind⟩)];rfl
theorem isS_square {P k t x:Nat} (hP:Pr P) (hk:P=8*k+5) (ht:(P:Int)∣(t:Int)*t+1) (hx:x<P):isS P k t (x*x%P)=true:=by
 by_cases h0:x=0
 ·subst h0;rw [isS_iff hP ht (Nat.mod_lt _ hP.pos)];simp
 ·rw [isS_mul hP hk ht hx hx h0 h0];simp
theorem same_square {P x y:Nat} (hP:Pr P) (hx:x<P) (hy:y<P) (h:x*x%P=y*y%P):x=y∨(x+y)%P=0:=by
 have h1:=(cg _ _ P).1 h;rw [Int.natCast_mul,Int.natCast_mul,show (x:Int)*x-y*y=(x-y)*(x+y) by grind] at h1;rcases hP.int h1 with h2|h2
 ·left
  have :=(cg _ _ P).2 h2;rw [yaj hx,yaj hy] at this;exact this
 ·right
  rw [←Int.natCast_add,Int.natCast_dvd_natCast] at h2;exact Nat.mod_eq_zero_of_dvd h2
end Go.Proofs.YtoggkhjaghkpnaaGreatDoor.NP
namespace Go.Proofs.YtoggkhjaghkpnaaGreatDoor
open Go.RowKit
abbrev pp:Nat:=57896044618658097711785492504343953926634992332820282019728792003956564819949
def Va (n:Nat):List Nat:=[n%2251799813685248,n/2251799813685248%2251799813685248,n/2251799813685248/2251799813685248%2251799813685248,n/2251799813685248/2251799813685248/2251799813685248%2251799813685248,n/2251799813685248/2251799813685248/2251799813685248/2251799813685248%2251799813685248]
theorem BI (n:Nat):(Va n).length=5:=rfl
def yg (a b c d e:Nat):Nat:=a+2251799813685248*(b+2251799813685248*(c+2251799813685248*(d+2251799813685248*e)))
theorem Vx (x y:Nat):(x+2251799813685248*y)/2251799813685248=x/2251799813685248+y:=Nat.add_mul_div_left x y (by decide)
theorem yr (x y:Nat):(x+2251799813685248*y)%2251799813685248=x%2251799813685248:=Nat.add_mul_mod_self_left x 2251799813685248 y
theorem V0 (a b c d e:Nat):yg a b c d e/2251799813685248=(b+a/2251799813685248)+2251799813685248*(c+2251799813685248*(d+2251799813685248*e)):=by rw [yg,Vx];omega
theorem W0 (a b c d e:Nat):yg a b c d e/2251799813685248/2251799813685248=(c+(b+a/2251799813685248)/2251799813685248)+2251799813685248*(d+2251799813685248*e):=by rw [V0,Vx];omega
theorem G1 (a b c d e:Nat):yg a b c d e/2251799813685248/2251799813685248/2251799813685248=(d+(c+(b+a/2251799813685248)/2251799813685248)/2251799813685248)+2251799813685248*e:=by rw [W0,Vx];omega
theorem Vac (a b c d e:Nat):yg a b c d e/2251799813685248/2251799813685248/2251799813685248/2251799813685248=e+(d+(c+(b+a/2251799813685248)/2251799813685248)/2251799813685248)/2251799813685248:=by rw [G1,Vx];omega
theorem yA (n:Nat):n/2251799813685248/2251799813685248/2251799813685248/2251799813685248/2251799813685248=n/57896044618658097711785492504343953926634992332820282019728792003956564819968:=by
 rw [Nat.div_div_eq_div_mul,Nat.div_div_eq_div_mul,Nat.div_div_eq_div_mul,Nat.div_div_eq_div_mul]
theorem Qs (n:Nat) (h:n<57896044618658097711785492504343953926634992332820282019728792003956564819968):yg (n%2251799813685248) (n/2251799813685248%2251799813685248) (n/2251799813685248/2251799813685248%2251799813685248) (n/2251799813685248/2251799813685248/2251799813685248%2251799813685248) (n/2251799813685248/2251799813685248/2251799813685248/2251799813685248%2251799813685248)=n:=by
 rw [yg];omega
theorem yv (n:Nat):Va (n%57896044618658097711785492504343953926634992332820282019728792003956564819968)=Va n:=by
 simp only [Va];have e:=Nat.div_add_mod n 57896044618658097711785492504343953926634992332820282019728792003956564819968;generalize n%57896044618658097711785492504343953926634992332820282019728792003956564819968=r at *;generalize n/57896044618658097711785492504343953926634992332820282019728792003956564819968=q at *;subst e;have e1:57896044618658097711785492504343953926634992332820282019728792003956564819968*q+r=r+2251799813685248*(2251799813685248*(2251799813685248*(2251799813685248*(2251799813685248*q)))):=by omega
 rw [e1,yr,Vx];have e2:∀x y:Nat,(x+2251799813685248*y)%2251799813685248=x%2251799813685248:=yr;rw [yr,Vx,yr,Vx,yr,Vx,yr]
theorem PW (a b c d e n o q r:Nat) (hn:n=yg a b c d e) (hs:n<1024*57896044618658097711785492504343953926634992332820282019728792003956564819968) (ho:o=n/2251799813685248/2251799813685248/2251799813685248/2251799813685248/2251799813685248)
 (hq:q=yg (n%2251799813685248+19*o+19) (n/2251799813685248%2251799813685248) (n/2251799813685248/2251799813685248%2251799813685248) (n/2251799813685248/2251799813685248/2251799813685248%2251799813685248) (n/2251799813685248/2251799813685248/2251799813685248/2251799813685248%2251799813685248)/2251799813685248/2251799813685248/2251799813685248/2251799813685248/2251799813685248)
 (hr:r=yg (n%2251799813685248+19*o+19*q) (n/2251799813685248%2251799813685248) (n/2251799813685248/2251799813685248%2251799813685248) (n/2251799813685248/2251799813685248/2251799813685248%2251799813685248) (n/2251799813685248/2251799813685248/2251799813685248/2251799813685248%2251799813685248)):Va r=Va (n%pp):=by
 rw [yA] at ho hq;have e1:yg (n%2251799813685248) (n/2251799813685248%2251799813685248) (n/2251799813685248/2251799813685248%2251799813685248) (n/2251799813685248/2251799813685248/2251799813685248%2251799813685248) (n/2251799813685248/2251799813685248/2251799813685248/2251799813685248%2251799813685248)=n%57896044618658097711785492504343953926634992332820282019728792003956564819968:=by
  have h1:=yv n;have h2:=Qs (n%57896044618658097711785492504343953926634992332820282019728792003956564819968) (Nat.mod_lt _ (by decide));simp only [Va,List.cons.injEq,and_true] at h1;obtain ⟨g0,g1,g2,g3,g4⟩:=h1;rw [g0,g1,g2,g3,g4] at h2;exact h2
 have e2:∀x b c d e y:Nat,yg (x+y) b c d e=yg x b c d e+y:=by intros;simp only [yg];omega
 rw [Nat.add_assoc,e2,e1] at hq;rw [Nat.add_assoc,e2,e1] at hr;rw [←yv r];have h3:=Nat.mod_lt n (show 0<57896044618658097711785492504343953926634992332820282019728792003956564819968 by decide);have h4:=Nat.div_add_mod n 57896044618658097711785492504343953926634992332820282019728792003956564819968;congr 1
 rw [hr];generalize n%57896044618658097711785492504343953926634992332820282019728792003956564819968=u at *;rw [←ho] at h4;show _=n%57896044618658097711785492504343953926634992332820282019728792003956564819949;rw [show n=(u+19*o)+57896044618658097711785492504343953926634992332820282019728792003956564819949*o by omega,Nat.add_mul_mod_self_left];have h5:o<1024:=by omega
 clear hr ho h4 hn e1 e2;rcases (show q=0∨q=1 by omega) with rfl|rfl
 ·rw [yaj (show u+19*o<57896044618658097711785492504343953926634992332820282019728792003956564819949 by omega),yaj (by omega)];omega
 ·have h6:57896044618658097711785492504343953926634992332820282019728792003956564819949≤u+19*o:=by omega
  rw [Nat.mod_eq_sub_mod h6,yaj (show u+19*o-57896044618658097711785492504343953926634992332820282019728792003956564819949<57896044618658097711785492504343953926634992332820282019728792003956564819949 by omega)];rw [Nat.mod_eq_sub_mod (by omega),yaj (by omega)];omega
end Go.Proofs.YtoggkhjaghkpnaaGreatDoor
namespace Go.Proofs.YtoggkhjaghkpnaaGreatDoor
open Go.RowKit
section
variable {P:Program} {w:World} {ops:Array Oper} {rest:List Oper} {o o1 o2:Oper} {a:Act} {Q:Exit→Act→World→Prop}
theorem Db (hg1:o1.guard=none) (hg2:o2.guard=none) (t:TypeId) (x y:Operand) (h1:o1.op=.alloc t) (h2:o2.op=.store t x y) (n:Nat) (zs vs:List Value)
 (hx:(a.put o1.dst (.pointer (some ⟨w.heap.size,0,none⟩))).eval x=.pointer (some ⟨w.heap.size,0,none⟩)) (hy:(a.put o1.dst (.pointer (some ⟨w.heap.size,0,none⟩))).eval y=.agg vs.toArray)
 (hz:∀w,(zeroValue t).run P w=.ok (.agg zs.toArray) w) (hzl:zs.length=n) (hs:(P.info? t).map (·.size)=some n) (hl:vs.length=n) (h1c:vs.toArray.all (·.oneCell')=true)
 (h:∀w',Below w.heap.size w w'→Ia w' w.heap.size vs t→wpList P ops Q rest ((a.put o1.dst (.pointer (some ⟨w.heap.size,0,none⟩))).put o2.dst undef) w'):wpList P ops Q (o1::o2::rest) a w:=by
 refine Ke hg1 t h1 _ hz ?_;intro w1 hw1;have hB1:Below w.heap.size w w1:=by rw [hw1];exact (Below.refl _ _).alloc (Xaj _) _
 have hC1:Ia w1 w.heap.size zs t:=by rw [hw1];exact Ia.new w _ _
 clear hw1;have hsz:vs.toArray.size=n:=by rw [List.size_toArray,hl]
 refine wpList_store_mid hg2 t x y h2 w.heap.size 0 vs.toArray hx hy (by rw [hsz];exact hC1.there 0 n (by omega)) (by rw [hsz];exact hs) h1c ?_;have hC2:=hC1.setCells (cs:=vs) (o:=0) (by omega);rw [Xb _ _ (by omega)] at hC2;exact h _ (Kd hB1 (Xaj _) _ _) hC2
theorem zv (hgd:o.guard=none) (t:TypeId) (x:Operand) (ho:o.op=.load t x) (g n:Nat) (vs:List Value) (e:TypeId) (hx:a.eval x=.pointer (some ⟨g,0,none⟩)) (hC:Ia w g vs t) (hu:P.underlying t=some (.array n e))
 (hs:(P.info? t).map (·.size)=some n) (hl:vs.length=n) (h:wpList P ops Q rest (a.put o.dst (.agg vs.toArray)) w):wpList P ops Q (o::rest) a w:=
 wpList_load_row hgd t x ho g hx t vs.toArray (0,0) _ hC hu rfl (by rw [List.size_toArray,hl];exact hs) h
theorem Ka (hgd:o.guard=none) (t:TypeId) (x y:Operand) (ho:o.op=.store t x y) (g n:Nat) (us vs:List Value) (hx:a.eval x=.pointer (some ⟨g,0,none⟩)) (hy:a.eval y=.agg vs.toArray) (hC:Ia w g us t) (hv:us.length=n)
 (hs:(P.info? t).map (·.size)=some n) (hl:vs.length=n) (h1c:vs.toArray.all (·.oneCell')=true) (h:∀w',But g w w'→Ia w' g vs t→w'.heap.size=w.heap.size→wpList P ops Q rest (a.put o.dst undef) w'):wpList P ops Q (o::rest) a w:=by
 have hsz:vs.toArray.size=n:=by rw [List.size_toArray,hl]
 refine wpList_store_mid hgd t x y ho g 0 vs.toArray hx hy (by rw [hsz];exact hC.there 0 n (by omega)) (by rw [hsz];exact hs) h1c ?_;have hC2:=hC.setCells (cs:=vs) (o:=0) (by omega);rw [Xb _ _ (by omega)] at hC2;exact h _ ((But.refl g w).setCells _ _) hC2 (Ae _ _ _ _).2.2.2.1
theorem Ma (hgd:o.guard=none) (t:TypeId) (ho:o.op=.alloc t) (zs:List Value) (hz:∀w,(zeroValue t).run P w=.ok (.agg zs.toArray) w)
 (h:∀w',Below w.heap.size w w'→Ia w' w.heap.size zs t→wpList P ops Q rest (a.put o.dst (.pointer (some ⟨w.heap.size,0,none⟩))) w'):wpList P ops Q (o::rest) a w:=by
 refine Ke hgd t ho _ hz ?_;intro w1 hw1;exact h w1 (by rw [hw1];exact (Below.refl _ _).alloc (Xaj _) _) (by rw [hw1];exact Ia.new w _ _)
theorem Ra (hgd:o.guard=none) (t:TypeId) (x:Operand) (ho:o.op=.box t x) (vs:List Value) (hx:a.eval x=.agg vs.toArray)
 (h:∀w',Below w.heap.size w w'→Ia w' w.heap.size vs t→wpList P ops Q rest (a.put o.dst (.pointer (some ⟨w.heap.size,0,none⟩))) w'):wpList P ops Q (o::rest) a w:=by
 refine Mm hgd t x ho _ hx ?_;intro w1 hw1;exact h w1 (by rw [hw1];exact (Below.refl _ _).alloc (Xaj _) _) (by rw [hw1];exact Ia.new w _ _)
end
theorem QW {P:Program} {fn:Func} {R:Ending→World→Prop} {a:Act} {w:World} {p:Tmp} {ty e:TypeId} {n:Nat} (hres:fn.results=#[.cell p ty]) (g:Nat) (vs:List Value)
 (hp:a.tmps.getD p undef=.pointer (some ⟨g,0,none⟩)) (hg:Ia w g vs ty) (hu:P.underlying ty=some (.array n e)) (hi:(P.info? ty).map (·.size)=some n) (hl:vs.length=n)
 (hdf:a.defers= []) (hR:R (.returned (.agg vs.toArray)) w):bodyPost P fn R .ret a w:=
 Yi hres g vs ty hp hg hu rfl (by rw [hl];exact hi) hdf hR
abbrev Ga (x:Nat):Value:=.int .u64 (x:Int)
def Aa (n:List Nat):Value:=.agg (n.map Ga).toArray
theorem Yac (x y:Nat):IntKind.u64.wrap ((x:Int)+(y:Int))=((Yb x y:Nat):Int):=by
 rw [IntKind.wrap_u64,Yb];omega
theorem Oa (l:List Nat):(l.map Ga).toArray.all (·.oneCell')=true:=all_oneCell_toArray (by intro v hv;obtain ⟨x,_,rfl⟩:=List.mem_map.1 hv;rfl)
theorem Yg (l:List Nat) (k:Nat) (hk:k<l.length):(l.map Ga)[k]? =some (Ga (l.getD k 0)):=by
 rw [List.getElem?_map,Yaj,xaj hk];rfl
def Na (n:Nat):List Value:=List.replicate n (Ga 0)
theorem Se (l:List Nat) (k:Nat) (x:Nat):(l.map Ga).set k (Ga x)=(l.set k x).map Ga:=by rw [List.map_set]
theorem Gf:(Tryz.prog.info? 49).map (·.size)=some 1:=by kernel_rfl
theorem Uag {P:Program} {fn:Func} {R:Ending→World→Prop} {a:Act} {w:World} {p u:Tmp} {ty e:TypeId} {n:Nat} (hres:fn.results=#[.cell p ty,.tmp u]) (g:Nat) (vs:List Value) (v:Value)
 (hp:a.tmps.getD p undef=.pointer (some ⟨g,0,none⟩)) (hv:a.tmps.getD u undef=v) (hg:Ia w g vs ty) (hu:P.underlying ty=some (.array n e)) (hi:(P.info? ty).map (·.size)=some n) (hl:vs.length=n)
 (hdf:a.defers= []) (hR:R (.returned (.tuple #[.agg vs.toArray,v])) w):bodyPost P fn R .ret a w:=by
 have hp':a.tmps[p]?.getD undef=.pointer (some ⟨g,0,none⟩):=by simpa using hp
 have hv':a.tmps[u]?.getD undef=v:=by simpa using hv
 have hrun:(results fn a.tmps).run P w=.ok (.tuple #[.agg vs.toArray,v]) w:=by
  simp [results,hres,hp',hv',asAddr,run_loadVar_row w g ty ty vs.toArray (0,0) _ hg hu rfl (by rw [List.size_toArray,hl];exact hi)]
 exact bodyPost_ret hrun hdf hR
def elV (n:Nat):Value:=Aa (Va n)
def Po (x:Nat):Value:=Aa [x/18446744073709551616,x%18446744073709551616]
theorem Bj:∀w,(zeroValue 51).run Tryz.prog w=.ok (.agg (Na 5).toArray) w:=(zero_of_info (P:=Tryz.prog) (t:=51) (v:=.agg (Na 5).toArray) (n:=5) (by kernel_rfl)).1
theorem RW:∀w,(zeroValue 50).run Tryz.prog w=.ok (.agg (Na 5).toArray) w:=(zero_of_info (P:=Tryz.prog) (t:=50) (v:=.agg (Na 5).toArray) (n:=5) (by kernel_rfl)).1
theorem Fb:∀w,(zeroValue 53).run Tryz.prog w=.ok (.agg (Na 5).toArray) w:=(zero_of_info (P:=Tryz.prog) (t:=53) (v:=.agg (Na 5).toArray) (n:=5) (by kernel_rfl)).1
theorem SW:∀w,(zeroValue 169).run Tryz.prog w=.ok (.agg (Na 2).toArray) w:=(zero_of_info (P:=Tryz.prog) (t:=169) (v:=.agg (Na 2).toArray) (n:=2) (by kernel_rfl)).1
theorem Sc:(Tryz.prog.info? 51).map (·.size)=some 5:=by kernel_rfl
theorem Sa:(Tryz.prog.info? 53).map (·.size)=some 5:=by kernel_rfl
theorem Cj:(Tryz.prog.info? 169).map (·.size)=some 2:=by kernel_rfl
theorem zA (a b c d e:Nat) (w:World):(Instr.build 53 #[(0,Aa [a,b,c,d,e])]).run Tryz.prog w=.ok (Aa [a,b,c,d,e]) w:=by kernel_rfl
theorem Vm (n:Nat) (w:World):(Instr.build 53 #[(0,elV n)]).run Tryz.prog w=.ok (elV n) w:=zA _ _ _ _ _ w
theorem XF (a b c d e:Nat) (w:World):(Instr.build 51 #[(0,Ga a),(1,Ga b),(2,Ga c),(3,Ga d),(4,Ga e)]).run Tryz.prog w=.ok (Aa [a,b,c,d,e]) w:=by kernel_rfl
theorem TW (a b:Nat) (w:World):(Instr.build 51 #[(0,Ga a),(1,Ga b)]).run Tryz.prog w=.ok (Aa [a,b,0,0,0]) w:=by kernel_rfl
theorem Dj (w:World):(Instr.build 53 #[]).run Tryz.prog w=.ok (elV 0) w:=by kernel_rfl
theorem OQ (a b:Nat) (w:World):(Instr.build 169 #[(0,Ga a),(1,Ga b)]).run Tryz.prog w=.ok (Aa [a,b]) w:=by kernel_rfl
theorem IL (w:World):(Instr.build 169 #[]).run Tryz.prog w=.ok (Po 0) w:=by kernel_rfl
theorem Nb {α:Type} (a:α):∃z,Hid (a=z):=⟨a,rfl⟩
section
variable {P:Program} {w:World} {ops:Array Oper} {rest:List Oper} {o:Oper} {a:Act} {Q:Exit→Act→World→Prop}
theorem Pa (hgd:o.guard=none) (t:TypeId) (x:Operand) (ho:o.op=.load t x) (g n:Nat) (vs:List Value) {d:TypeDesc} {t':TypeId} (hx:a.eval x=.pointer (some ⟨g,0,none⟩)) (hC:Ia w g vs t') (hu:P.underlying t=some d)
 (hd:(match d with |.struct _|.array _ _=>true|_=>false)=true) (hs:(P.info? t).map (·.size)=some n) (hl:vs.length=n) (h:wpList P ops Q rest (a.put o.dst (.agg vs.toArray)) w):wpList P ops Q (o::rest) a w:=
 wpList_load_row hgd t x ho g hx t' vs.toArray (0,0) _ hC hu hd (by rw [List.size_toArray,hl];exact hs) h
end
theorem qc {P:Program} {fn:Func} {R:Ending→World→Prop} {a:Act} {w:World} {p:Tmp} {ty:TypeId} {d:TypeDesc} {n:Nat} (hres:fn.results=#[.cell p ty]) (g:Nat) (vs:List Value)
 (hp:a.tmps.getD p undef=.pointer (some ⟨g,0,none⟩)) (hg:Ia w g vs ty) (hu:P.underlying ty=some d) (hd:(match d with |.struct _|.array _ _=>true|_=>false)=true) (hi:(P.info? ty).map (·.size)=some n) (hl:vs.length=n)
 (hdf:a.defers= []) (hR:R (.returned (.agg vs.toArray)) w):bodyPost P fn R .ret a w:=
 Yi hres g vs ty hp hg hu hd (by rw [hl];exact hi) hdf hR
theorem Wx (x:Nat) (h:x<18446744073709551616):bits .and .u64 (x:Int) 2251799813685247=((x%2251799813685248:Nat):Int):=by
 rw [show (2251799813685247:Int)=((2251799813685247:Nat):Int) from rfl,u64_and_nat _ _ h (by omega)];have :=Nat.and_two_pow_sub_one_eq_mod x 51;simp only [Nat.reducePow,Nat.reduceSub] at this;rw [this]
theorem Si (x y:Nat) (h:x+y<18446744073709551616):IntKind.u64.wrap ((x:Int)+(y:Int))=((x+y:Nat):Int):=by
 rw [IntKind.wrap_u64];omega
theorem Cu (x y:Nat) (h:x*y<18446744073709551616):IntKind.u64.wrap ((x:Int)*(y:Int))=((x*y:Nat):Int):=by
 rw [IntKind.wrap_u64,←Int.natCast_mul];omega
theorem Du (x y:Nat) (h:x+y/2251799813685248<18446744073709551616):IntKind.u64.wrap ((x:Int)+(y:Int)/2251799813685248)=((x+y/2251799813685248:Nat):Int):=Si x (y/2251799813685248) h
theorem DI {fn:Func} {t u v x y z:Tmp} (h:fn.results=#[.tmp t,.tmp u,.tmp v,.tmp x,.tmp y,.tmp z]) (tmps:Array Value) (P:Program) (w:World):
 (results fn tmps).run P w=.ok (.tuple #[tmps.getD t undef,tmps.getD u undef,tmps.getD v undef,tmps.getD x undef,tmps.getD y undef,tmps.getD z undef]) w:=by
 simp [results,h]
theorem WD (a b c d e b1 c1 d1 e1:Nat) (w:World) (ha:Hid (a<9223372036854775808)) (hb:Hid (b1=b+a/2251799813685248∧b1<18446744073709551616)) (hc:Hid (c1=c+b1/2251799813685248∧c1<18446744073709551616)) (hd:Hid (d1=d+c1/2251799813685248∧d1<18446744073709551616)) (he:Hid (e1=e+d1/2251799813685248∧e1<18446744073709551616)):
 Calls Tryz.prog 130 #[Ga a,Ga b,Ga c,Ga d,Ga e] w fun r w'=>r=.returned (.tuple #[Ga (a%2251799813685248),Ga (b1%2251799813685248),Ga (c1%2251799813685248),Ga (d1%2251799813685248),Ga (e1%2251799813685248),Ga (e1/2251799813685248)])∧w=w':=by
 have eb:IntKind.u64.wrap ((b:Int)+(a:Int)/2251799813685248)=(b1:Int):=by rw [Du _ _ (by rw [←hb.out.1];exact hb.out.2),←hb.out.1]
 have ec:IntKind.u64.wrap ((c:Int)+(b1:Int)/2251799813685248)=(c1:Int):=by rw [Du _ _ (by rw [←hc.out.1];exact hc.out.2),←hc.out.1]
 have ed:IntKind.u64.wrap ((d:Int)+(c1:Int)/2251799813685248)=(d1:Int):=by rw [Du _ _ (by rw [←hd.out.1];exact hd.out.2),←hd.out.1]
 have ee:IntKind.u64.wrap ((e:Int)+(d1:Int)/2251799813685248)=(e1:Int):=by rw [Du _ _ (by rw [←he.out.1];exact he.out.2),←he.out.1]
 have fa:=Wx a (by have :=ha.out;omega);have fb:=Wx b1 hb.out.2;have fc:=Wx c1 hc.out.2;have fd:=Wx d1 hd.out.2;have fe:=Wx e1 he.out.2;go_enter Tryz.func130,Tryz.ntmps130
 go_wp2
 try simp only [Exit.inBlock,Exit.then]
 refine bodyPost_ret (DI rfl _ _ _) rfl ?_;exact ⟨rfl,rfl⟩
theorem Ip (a b c d e:Nat) (w:World) (ha:a<4611686018427387904) (hb:b<4611686018427387904) (hc:c<4611686018427387904) (hd:d<4611686018427387904) (he:e<4611686018427387904) (n:Nat) (hn:n=yg a b c d e):
 Calls Tryz.prog 130 #[Ga a,Ga b,Ga c,Ga d,Ga e] w fun r w'=>r=.returned (.tuple #[Ga (n%2251799813685248),Ga (n/2251799813685248%2251799813685248),Ga (n/2251799813685248/2251799813685248%2251799813685248),Ga (n/2251799813685248/2251799813685248/2251799813685248%2251799813685248),Ga (n/2251799813685248/2251799813685248/2251799813685248/2251799813685248%2251799813685248),Ga (n/2251799813685248/2251799813685248/2251799813685248/2251799813685248/2251799813685248)])∧w=w':=by
 subst hn;have h0:yg a b c d e%2251799813685248=a%2251799813685248:=by rw [yg,yr]
 rw [Vac,G1,W0,V0,yr,yr,yr,h0];exact WD a b c d e _ _ _ _ w (by show _<_;omega) ⟨rfl,by omega⟩ ⟨rfl,by omega⟩ ⟨rfl,by omega⟩ ⟨rfl,by omega⟩
theorem JL (a b c d e o q:Nat) (x0 x1 x2 x3 x4 y0 y1 y2 y3 y4 z0 z1 z2 z3 z4 u v t:Nat) (w:World)
 (HT:Hid (t<576460752303423488∧o<1024∧q<1024∧x0<2251799813685248)) (Ht:Hid (t=x0+19*o)) (Hu:Hid (u=t+19)) (Hv:Hid (v=t+19*q))
 (C1:Hid (∀W,Calls Tryz.prog 130 #[Ga a,Ga b,Ga c,Ga d,Ga e] W fun r w'=>r=.returned (.tuple #[Ga x0,Ga x1,Ga x2,Ga x3,Ga x4,Ga o])∧W=w'))
 (C2:Hid (∀W,Calls Tryz.prog 130 #[Ga u,Ga x1,Ga x2,Ga x3,Ga x4] W fun r w'=>r=.returned (.tuple #[Ga y0,Ga y1,Ga y2,Ga y3,Ga y4,Ga q])∧W=w'))
 (C3:Hid (∀W,Calls Tryz.prog 130 #[Ga v,Ga x1,Ga x2,Ga x3,Ga x4] W fun r w'=>∃p:Nat,r=.returned (.tuple #[Ga z0,Ga z1,Ga z2,Ga z3,Ga z4,Ga p])∧W=w')):
 Calls Tryz.prog 103 #[Aa [a,b,c,d,e]] w fun r w'=>r=.returned (Aa [z0,z1,z2,z3,z4])∧Below w.heap.size w w':=by
 have M1:IntKind.u64.wrap (19*(o:Int))=19*(o:Int):=Cu 19 o (by have :=HT.out;omega);have M2:IntKind.u64.wrap ((x0:Int)+19*(o:Int))=(t:Int):=by have h:=Si x0 (19*o) (by have :=HT.out;omega);rw [Ht.out];exact h
 have M3:IntKind.u64.wrap ((t:Int)+19)=(u:Int):=by rw [show (19:Int)=((19:Nat):Int) from rfl,Si _ _ (by have :=HT.out;omega),←Hu.out]
 have M4:IntKind.u64.wrap (19*(q:Int))=19*(q:Int):=Cu 19 q (by have :=HT.out;omega);have M5:IntKind.u64.wrap ((t:Int)+19*(q:Int))=(v:Int):=by have h:=Si t (19*q) (by have :=HT.out;omega);rw [Hv.out];exact h
 clear HT Ht Hu Hv;go_enter Tryz.func103,Tryz.ntmps103;go_wp2_with (first
  |(refine Ra rfl 51 (.tmp 0) rfl ([a,b,c,d,e].map Ga) rfl ?_
    intro w1 hB1 hA1;have d0:=hA1.get (v:=Ga a) (j:=0) rfl;have d1:=hA1.get (v:=Ga b) (j:=1) rfl;have d2:=hA1.get (v:=Ga c) (j:=2) rfl;have d3:=hA1.get (v:=Ga d) (j:=3) rfl;have d4:=hA1.get (v:=Ga e) (j:=4) rfl)
  |(refine Ma rfl 51 rfl (Na 5) Bj ?_
    intro w3 hb3 hZ3;have hB3:=Ba hB1 hb3;have hA3:=hA1.on hb3;have hg2:=hA1.lt;clear hB1 hA1 hb3 d0 d1 d2 d3 d4;have d0:=hA3.get (v:=Ga a) (j:=0) rfl;have d1:=hA3.get (v:=Ga b) (j:=1) rfl;have d2:=hA3.get (v:=Ga c) (j:=2) rfl;have d3:=hA3.get (v:=Ga d) (j:=3) rfl;have d4:=hA3.get (v:=Ga e) (j:=4) rfl))
 refine (C1.out w3).mono ?_;rintro r w4 ⟨rfl,rfl⟩;clear C1 d0 d1 d2 d3 d4 hA3;go_wp2_with fail
 refine (C2.out w3).mono ?_;rintro r w4 ⟨rfl,rfl⟩;clear C2;go_wp2_with fail
 refine (C3.out w3).mono ?_;rintro r w4 ⟨p,rfl,rfl⟩;clear C3;go_wp2_with (first
  |(refine Eb rfl 51 _ rfl [(0,Ga z0),(1,Ga z1),(2,Ga z2),(3,Ga z3),(4,Ga z4)] rfl _ (XF _ _ _ _ _) ?_)
  |(refine Ka rfl 51 _ _ rfl w1.heap.size 5 (Na 5) ([z0,z1,z2,z3,z4].map Ga) rfl rfl hZ3 rfl Sc rfl (Oa _) ?_
    intro w7 hb7 hC7 _))
 refine QW Tryz.results103 w1.heap.size ([z0,z1,z2,z3,z4].map Ga) rfl hC7 Tryz.underlying51 Sc rfl rfl ⟨rfl,hB3.trans (hb7.below (Nat.le_of_lt hg2) hB3.size)⟩
theorem xq (a b c d e n:Nat) (w:World) (ha:a<2305843009213693952) (hb:b<2305843009213693952) (hc:c<2305843009213693952) (hd:d<2305843009213693952) (he:e<1152921504606846976) (hn:n=yg a b c d e):
 Calls Tryz.prog 103 #[Aa [a,b,c,d,e]] w fun r w'=>r=.returned (elV (n%pp))∧Below w.heap.size w w':=by
 have hs:n<1024*57896044618658097711785492504343953926634992332820282019728792003956564819968:=by rw [hn,yg];omega
 have ho:n/2251799813685248/2251799813685248/2251799813685248/2251799813685248/2251799813685248<1024:=by rw [yA];omega
 have hx0:=Nat.mod_lt n (show 0<2251799813685248 by decide);have hx1:=Nat.mod_lt (n/2251799813685248) (show 0<2251799813685248 by decide);have hx2:=Nat.mod_lt (n/2251799813685248/2251799813685248) (show 0<2251799813685248 by decide);have hx3:=Nat.mod_lt (n/2251799813685248/2251799813685248/2251799813685248) (show 0<2251799813685248 by decide);have hx4:=Nat.mod_lt (n/2251799813685248/2251799813685248/2251799813685248/2251799813685248) (show 0<2251799813685248 by decide);have key:=PW a b c d e n _ _ _ hn hs rfl rfl rfl;rw [elV,←key];have C1:=fun W=>Ip a b c d e W (by omega) (by omega) (by omega) (by omega) (by omega) n hn;clear key hn hs;generalize n/2251799813685248/2251799813685248/2251799813685248/2251799813685248/2251799813685248=o at *;generalize n/2251799813685248/2251799813685248/2251799813685248/2251799813685248%2251799813685248=x4 at *;generalize n/2251799813685248/2251799813685248/2251799813685248%2251799813685248=x3 at *;generalize n/2251799813685248/2251799813685248%2251799813685248=x2 at *;generalize n/2251799813685248%2251799813685248=x1 at *;generalize n%2251799813685248=x0 at *;have C2:=fun W=>Ip (x0+19*o+19) x1 x2 x3 x4 W (by omega) (by omega) (by omega) (by omega) (by omega) _ rfl;have hq:yg (x0+19*o+19) x1 x2 x3 x4/2251799813685248/2251799813685248/2251799813685248/2251799813685248/2251799813685248<1024:=by rw [yA,yg];omega
 generalize yg (x0+19*o+19) x1 x2 x3 x4/2251799813685248/2251799813685248/2251799813685248/2251799813685248/2251799813685248=q at *;have C3:=fun W=>Ip (x0+19*o+19*q) x1 x2 x3 x4 W (by omega) (by omega) (by omega) (by omega) (by omega) _ rfl;exact JL a b c d e o q x0 x1 x2 x3 x4 _ _ _ _ _ _ _ _ _ _ (x0+19*o+19) (x0+19*o+19*q) (x0+19*o) w (by show _∧_;omega) rfl rfl rfl C1 C2 (fun W=>(C3 W).mono (fun r w' h=>⟨_,h.1,h.2⟩))
theorem PQ (a b r:List Nat) (S:Nat→List Nat) (w:World) (HB:Hid (b.length=5)) (HL:Hid (∀k,(S k).length=5)) (H0:Hid (S 0=a)) (HS:Hid (∀k,S (k+1)=(S k).set k (Yb ((S k).getD k 0) (b.getD k 0)))) (HR:Hid (S 5=r)):
 Calls Tryz.prog 127 #[Aa a,Aa b] w (gvn (Aa r) w):=by
 go_enter Tryz.func127,Tryz.ntmps127;go_wp2_with (first
  |(refine Ra rfl 51 (.tmp 0) rfl (a.map Ga) rfl ?_
    intro w1 hB1 hA1)
  |(refine Ra rfl 51 (.tmp 1) rfl (b.map Ga) rfl ?_
    intro w2 hb2 hC2;have hB2:=Ba hB1 hb2;have hA2:=hA1.on hb2;have hg1:=hA1.lt;clear hB1 hA1 hb2)
  |(refine Ma rfl 51 rfl (Na 5) Bj ?_
    intro w3 hb3 hZ3;have hB3:=Ba hB2 hb3;have hA3:=hA2.on hb3;have hC3:=hC2.on hb3;have hg2:=hC2.lt;clear hB2 hA2 hC2 hb3))
 generalize hg:w1.heap.size=gb at *;generalize hh:w2.heap.size=gz at *;clear hg hh
 go_loopw [6] (fun i wr=>∃k:Nat,k≤5∧i=.int .i64 k∧Below w.heap.size w wr∧Ia wr w.heap.size ((S k).map Ga) 51∧Ia wr gb (b.map Ga) 51∧Ia wr gz (Na 5) 51) (fun i _=>5-(intOf i).toNat)
 case atStart=>exact ⟨0,Nat.zero_le _,rfl,hB3,by rw [H0.out];exact hA3,hC3,hZ3⟩
 case round=>
  clear hB3 hA3 hC3 hZ3;obtain ⟨k,hk,rfl,hB,hS,hC,hZ⟩:=hrel;have HLk:=Lib.hid (HL.out k);by_cases hlt:k<5
  ·have HN:=Lib.hid (HS.out k);generalize S k=s at *;have i1:(0:Int)≤(k:Int):=by omega
   have i2:(k:Int)<5:=by omega
   go_wp2_with fail
   refine Ad 8 (by kernel_rfl) (by kernel_rfl) ?_;intro w4 hw4;have hB4:Below w.heap.size w w4:=by rw [hw4];exact hB.drew
   have hS4:Ia w4 w.heap.size (s.map Ga) 51:=by rw [hw4];exact hS
   have hC4:Ia w4 gb (b.map Ga) 51:=by rw [hw4];exact hC
   have hZ4:Ia w4 gz (Na 5) 51:=by rw [hw4];exact hZ
   clear hw4 hB hS hC hZ;have d1:=hS4.get (Yg s k (by rw [HLk.out];exact hlt));have d2:=hC4.get (Yg b k (by rw [HB.out];exact hlt));have d3:=hS4.frozen k;generalize s.getD k 0=x at *;generalize b.getD k 0=y at *;simp only [List.take_succ_cons,List.take_zero,List.drop_succ_cons,List.drop_zero];repeat still_step
   refine wpStill_nil ?_
   go_wp2
   go_roundw
   case rel=>
    rw [Yac];refine ⟨k+1,by omega,by go_num,hB4.setCell (p:=⟨w.heap.size,k,none⟩) (Xaj _) _,?_,hC4.other (by show gb≠w.heap.size;omega) _,hZ4.other (by show gz≠w.heap.size;omega) _⟩;rw [HN.out,←Se];exact hS4.set k _
   case measure=>simp [intOf];omega
  ·obtain rfl:k=5:=by omega
   rw [HR.out] at hS HLk;go_wp2_with (first
    |(refine zv rfl 51 _ rfl w.heap.size 5 (r.map Ga) 49 rfl hS Tryz.underlying51 Sc (by rw [Uaj,HLk.out]) ?_)
    |(refine Ka rfl 51 _ _ rfl gz 5 (Na 5) (r.map Ga) rfl rfl hZ rfl Sc (by rw [Uaj,HLk.out]) (Oa r) ?_
      intro w7 hb7 hC7 _))
   refine QW Tryz.results127 gz (r.map Ga) rfl hC7 Tryz.underlying51 Sc (by rw [Uaj,HLk.out]) rfl ⟨rfl,hB.trans (hb7.below (by omega) hB.size)⟩
theorem UW (a b:List Nat) (w:World) (ha:a.length=5) (hb:b.length=5):
 Calls Tryz.prog 127 #[Aa a,Aa b] w (gvn (Aa (TF a b)) w):=
 PQ a b _ (xv a b) w hb (fun k=>(ql a b k).trans ha) rfl (fun _=>rfl) rfl
theorem J1 (C y:Nat) (h:y≤C) (hC:C<18446744073709551616):IntKind.u64.wrap ((C:Int)-(y:Int))=((C-y:Nat):Int):=by
 rw [IntKind.wrap_u64];omega
theorem KL (a b r:List Nat) (S:Nat→List Nat) (w:World) (HA:Hid (a.length=5)) (HB:Hid (b.length=5)) (HL:Hid (∀k,(S k).length=5)) (H1:Hid (S 1=a.set 0 (a.getD 0 0+(4503599627370458-b.getD 0 0)))) (HS:Hid (∀k,1≤k→k<5→S (k+1)=(S k).set k ((S k).getD k 0+(4503599627370494-b.getD k 0)))) (HR:Hid (S 5=r))
 (HBb:Hid (∀k,b.getD k 0<2251799813685248)) (HAb:Hid (a.getD 0 0<2251799813685248)) (HSb:Hid (∀k,1≤k→k<5→(S k).getD k 0<2251799813685248)):
 Calls Tryz.prog 104 #[Aa a,Aa b] w (gvn (Aa r) w):=by
 have e0:a[0]? =some (a.getD 0 0):=by have :=HA.out;rw [Yaj,xaj (by omega)];rfl
 have X0:=Lib.hid (Yg a 0 (by rw [HA.out];omega));have Y0:=Lib.hid (Yg b 0 (by rw [HB.out];omega));have hy:=HBb.out 0;have hx:=HAb.out;have M1:IntKind.u64.wrap (4503599627370458-((b.getD 0 0:Nat):Int))=((4503599627370458-b.getD 0 0:Nat):Int):=J1 4503599627370458 (b.getD 0 0) (by omega) (by decide);have M2:=Si (a.getD 0 0) (4503599627370458-b.getD 0 0) (by omega);obtain ⟨z,HZ⟩:∃z,Hid (a.getD 0 0+(4503599627370458-b.getD 0 0)=z):=⟨_,rfl⟩;obtain ⟨y2,HY⟩:∃z,Hid (4503599627370458-b.getD 0 0=z):=⟨_,rfl⟩;rw [HZ.out] at M2 H1;rw [HY.out] at M1 M2;clear hx hy HZ HY e0 HAb;generalize a.getD 0 0=x at *;generalize b.getD 0 0=y at *;go_enter Tryz.func104,Tryz.ntmps104;go_wp2_with (first
  |(refine Ra rfl 51 (.tmp 0) rfl (a.map Ga) rfl ?_
    intro w1 hB1 hA1)
  |(refine Ra rfl 51 (.tmp 1) rfl (b.map Ga) rfl ?_
    intro w2 hb2 hC2;have hB2:=Ba hB1 hb2;have hA2:=hA1.on hb2;have hg1:=hA1.lt;clear hB1 hA1 hb2)
  |(refine Ma rfl 51 rfl (Na 5) Bj ?_
    intro w3 hb3 hZ3;have hB3:=Ba hB2 hb3;have hA3:=hA2.on hb3;have hC3:=hC2.on hb3;have hg2:=hC2.lt;have d1:=hA3.get X0.out;have d2:=hC3.get Y0.out;have hT:=hA3.there 0 1 (by rw [Uaj,HA.out];omega);clear hB2 hA2 hC2 hb3)
  |((try rw [M1,M2])
    refine Qb rfl 49 _ _ rfl w.heap.size 0 .u64 (z:Int) rfl rfl Gf hT ?_;intro w4 hw4;have hB4:Below w.heap.size w w4:=by rw [hw4];exact hB3.setCell (p:=⟨w.heap.size,0,none⟩) (Xaj _) _
    have hA4:Ia w4 w.heap.size ((S 1).map Ga) 51:=by rw [hw4,H1.out,←Se];exact hA3.set 0 _
    have hC4:Ia w4 w1.heap.size (b.map Ga) 51:=by rw [hw4];exact hC3.other (by show w1.heap.size≠w.heap.size;omega) _
    have hZ4:Ia w4 w2.heap.size (Na 5) 51:=by rw [hw4];exact hZ3.other (by show w2.heap.size≠w.heap.size;omega) _
    clear hw4 hB3 hA3 hC3 hZ3 d1 d2 hT M1 M2))
 generalize hg:w1.heap.size=gb at *;generalize hh:w2.heap.size=gz at *;clear hg hh
 go_loopw [5] (fun i wr=>∃k:Nat,1≤k∧k≤5∧i=.int .i64 k∧Below w.heap.size w wr∧Ia wr w.heap.size ((S k).map Ga) 51∧Ia wr gb (b.map Ga) 51∧Ia wr gz (Na 5) 51) (fun i _=>5-(intOf i).toNat)
 case atStart=>exact ⟨1,Xaj _,by omega,rfl,hB4,hA4,hC4,hZ4⟩
 case round=>
  clear hB4 hA4 hC4 hZ4;obtain ⟨k,hk1,hk,rfl,hB,hS,hC,hZ⟩:=hrel;have HLk:=Lib.hid (HL.out k);by_cases hlt:k<5
  ·have HN:=Lib.hid (HS.out k hk1 hlt);have HX:=Lib.hid (HSb.out k hk1 hlt);have HY:=Lib.hid (HBb.out k);generalize S k=s at *;have i1:(0:Int)≤(k:Int):=by omega
   have i2:(k:Int)<5:=by omega
   go_wp2_with fail
   refine Ad 9 (by kernel_rfl) (by kernel_rfl) ?_;intro w4 hw4;have hB4:Below w.heap.size w w4:=by rw [hw4];exact hB.drew
   have hS4:Ia w4 w.heap.size (s.map Ga) 51:=by rw [hw4];exact hS
   have hC4:Ia w4 gb (b.map Ga) 51:=by rw [hw4];exact hC
   have hZ4:Ia w4 gz (Na 5) 51:=by rw [hw4];exact hZ
   clear hw4 hB hS hC hZ;have d1:=hS4.get (Yg s k (by rw [HLk.out];exact hlt));have d2:=hC4.get (Yg b k (by rw [HB.out];exact hlt));have d3:=hS4.frozen k;have M1:=Lib.hid (J1 4503599627370494 (b.getD k 0) (by have :=HY.out;omega) (by decide));have M2:=Lib.hid (Si (s.getD k 0) (4503599627370494-b.getD k 0) (by have :=HX.out;omega));clear HX HY;generalize s.getD k 0=x at *;generalize b.getD k 0=y at *;simp only [List.take_succ_cons,List.take_zero,List.drop_succ_cons,List.drop_zero];repeat still_step
   refine wpStill_nil ?_
   go_wp2
   go_roundw
   case rel=>
    rw [show (4503599627370494:Int)=((4503599627370494:Nat):Int) from rfl,M1.out,M2.out];refine ⟨k+1,by omega,by omega,by go_num,hB4.setCell (p:=⟨w.heap.size,k,none⟩) (Xaj _) _,?_,hC4.other (by show gb≠w.heap.size;omega) _,hZ4.other (by show gz≠w.heap.size;omega) _⟩;rw [HN.out,←Se];exact hS4.set k _
   case measure=>simp [intOf];omega
  ·obtain rfl:k=5:=by omega
   rw [HR.out] at hS HLk;go_wp2_with (first
    |(refine zv rfl 51 _ rfl w.heap.size 5 (r.map Ga) 49 rfl hS Tryz.underlying51 Sc (by rw [Uaj,HLk.out]) ?_)
    |(refine Ka rfl 51 _ _ rfl gz 5 (Na 5) (r.map Ga) rfl rfl hZ rfl Sc (by rw [Uaj,HLk.out]) (Oa r) ?_
      intro w7 hb7 hC7 _))
   refine QW Tryz.results104 gz (r.map Ga) rfl hC7 Tryz.underlying51 Sc (by rw [Uaj,HLk.out]) rfl ⟨rfl,hB.trans (hb7.below (by omega) hB.size)⟩
def YF (a b:List Nat):Nat→List Nat
 |0=>a
 |1=>a.set 0 (a.getD 0 0+(4503599627370458-b.getD 0 0))
 |k+1=>(YF a b k).set k ((YF a b k).getD k 0+(4503599627370494-b.getD k 0))
theorem Eu (a b:List Nat):∀k,(YF a b k).length=a.length
 |0=>rfl
 |1=>by rw [YF,List.length_set]
 |k+2=>by rw [YF,List.length_set,Eu a b (k+1)];exact fun h=>by omega
theorem QQ (a0 a1 a2 a3 a4 b0 b1 b2 b3 b4:Nat) (w:World) (ha:a0<2251799813685248∧a1<2251799813685248∧a2<2251799813685248∧a3<2251799813685248∧a4<2251799813685248) (hb:b0<2251799813685248∧b1<2251799813685248∧b2<2251799813685248∧b3<2251799813685248∧b4<2251799813685248):
 Calls Tryz.prog 104 #[Aa [a0,a1,a2,a3,a4],Aa [b0,b1,b2,b3,b4]] w (gvn (Aa [a0+(4503599627370458-b0),a1+(4503599627370494-b1),a2+(4503599627370494-b2),a3+(4503599627370494-b3),a4+(4503599627370494-b4)]) w):=by
 obtain ⟨p0,p1,p2,p3,p4⟩:=ha;obtain ⟨q0,q1,q2,q3,q4⟩:=hb;refine KL _ _ _ (YF [a0,a1,a2,a3,a4] [b0,b1,b2,b3,b4]) w rfl rfl (fun k=>Eu _ _ k) rfl (fun k h1 h2=>?_) rfl (fun k=>?_) p0 (fun k h1 h2=>?_)
 ·match k,h1,h2 with
  |1,_,_=>rfl
  |2,_,_=>rfl
  |3,_,_=>rfl
  |4,_,_=>rfl
 ·match k with
  |0=>exact q0
  |1=>exact q1
  |2=>exact q2
  |3=>exact q3
  |4=>exact q4
  |k+5=>show 0<_;decide
 ·match k,h1,h2 with
  |1,_,_=>exact p1
  |2,_,_=>exact p2
  |3,_,_=>exact p3
  |4,_,_=>exact p4
theorem RQ (x:Nat) (h:x<18446744073709551616):bits .and .u64 (x:Int) 4294967295=((x%4294967296:Nat):Int):=by
 rw [show (4294967295:Int)=((4294967295:Nat):Int) from rfl,u64_and_nat _ _ h (by omega)];have :=Nat.and_two_pow_sub_one_eq_mod x 32;simp only [Nat.reducePow,Nat.reduceSub] at this;rw [this]
theorem WW (x0 x1 y0 y1:Nat):(x0+4294967296*x1)*(y0+4294967296*y1)=x0*y0+4294967296*(x1*y0)+4294967296*(x0*y1)+18446744073709551616*(x1*y1):=by grind
theorem Nz {x y:Nat} (hx:x<4294967296) (hy:y<4294967296):x*y≤18446744065119617025:=Nat.mul_le_mul (show x≤4294967295 by omega) (show y≤4294967295 by omega)
theorem SQ (x y x0 x1 y0 y1 w0 s p10 t w1 w2 p01 w3 p11 h1 s2 hi lo:Nat) (w:World)
 (F1:bits .and .u64 (x:Int) 4294967295=x0) (F2:(x:Int)/4294967296=x1) (F3:bits .and .u64 (y:Int) 4294967295=y0) (F4:(y:Int)/4294967296=y1)
 (F5:IntKind.u64.wrap ((x0:Int)*y0)=w0) (F6:(w0:Int)/4294967296=s) (F7:IntKind.u64.wrap ((x1:Int)*y0)=p10) (F8:IntKind.u64.wrap ((p10:Int)+s)=t)
 (F9:bits .and .u64 (t:Int) 4294967295=w1) (F10:(t:Int)/4294967296=w2) (F11:IntKind.u64.wrap ((x0:Int)*y1)=p01) (F12:IntKind.u64.wrap ((w1:Int)+p01)=w3)
 (F13:IntKind.u64.wrap ((x1:Int)*y1)=p11) (F14:IntKind.u64.wrap ((p11:Int)+w2)=h1) (F15:(w3:Int)/4294967296=s2) (F16:IntKind.u64.wrap ((h1:Int)+s2)=hi) (F17:IntKind.u64.wrap ((x:Int)*y)=lo):
 Calls Tryz.prog 141 #[Ga x,Ga y] w fun r w'=>r=.returned (.tuple #[Ga hi,Ga lo])∧w=w':=by
 go_enter Tryz.func141,Tryz.ntmps141
 go_wp2
 go_ret2
 exact ⟨rfl,rfl⟩
theorem XW (x y:Nat) (w:World) (hx:x<18446744073709551616) (hy:y<18446744073709551616):
 Calls Tryz.prog 141 #[Ga x,Ga y] w fun r w'=>r=.returned (.tuple #[Ga (x*y/18446744073709551616),Ga (x*y%18446744073709551616)])∧w=w':=by
 have dx:=Nat.div_add_mod x 4294967296;have dy:=Nat.div_add_mod y 4294967296;have mp:=WW (x%4294967296) (x/4294967296) (y%4294967296) (y/4294967296);rw [Nat.add_comm (x%4294967296),Nat.add_comm (y%4294967296),dx,dy] at mp;have b00:=Nz (Nat.mod_lt x (show 4294967296>0 by decide)) (Nat.mod_lt y (show 4294967296>0 by decide));have b10:=Nz (show x/4294967296<4294967296 by omega) (Nat.mod_lt y (show 4294967296>0 by decide));have b01:=Nz (Nat.mod_lt x (show 4294967296>0 by decide)) (show y/4294967296<4294967296 by omega);have b11:=Nz (show x/4294967296<4294967296 by omega) (show y/4294967296<4294967296 by omega);have F17:IntKind.u64.wrap ((x:Int)*y)=((x*y%18446744073709551616:Nat):Int):=by rw [IntKind.wrap_u64,←Int.natCast_mul];rfl
 have F1:=RQ x hx;have F3:=RQ y hy;have F5:=Cu (x%4294967296) (y%4294967296) (by omega);have F7:=Cu (x/4294967296) (y%4294967296) (by omega);have F11:=Cu (x%4294967296) (y/4294967296) (by omega);have F13:=Cu (x/4294967296) (y/4294967296) (by omega);have F2:(x:Int)/4294967296=((x/4294967296:Nat):Int):=rfl;have F4:(y:Int)/4294967296=((y/4294967296:Nat):Int):=rfl;generalize x%4294967296=x0 at *;generalize x/4294967296=x1 at *;generalize y%4294967296=y0 at *;generalize y/4294967296=y1 at *;generalize x0*y0=p00 at *;generalize x1*y0=p10 at *;generalize x0*y1=p01 at *;generalize x1*y1=p11 at *;generalize x*y=z at *;have F8:=Si p10 (p00/4294967296) (by omega);have F9:=RQ (p10+p00/4294967296) (by omega);have F12:=Si ((p10+p00/4294967296)%4294967296) p01 (by omega);have F14:=Si p11 ((p10+p00/4294967296)/4294967296) (by omega);have F16:=Si (p11+(p10+p00/4294967296)/4294967296) (((p10+p00/4294967296)%4294967296+p01)/4294967296) (by omega);have e:z/18446744073709551616=p11+(p10+p00/4294967296)/4294967296+((p10+p00/4294967296)%4294967296+p01)/4294967296:=by omega
 rw [e];exact SQ x y x0 x1 y0 y1 p00 (p00/4294967296) p10 (p10+p00/4294967296) ((p10+p00/4294967296)%4294967296) ((p10+p00/4294967296)/4294967296) p01 ((p10+p00/4294967296)%4294967296+p01) p11 (p11+(p10+p00/4294967296)/4294967296) (((p10+p00/4294967296)%4294967296+p01)/4294967296) _ _ w F1 F2 F3 F4 F5 rfl F7 F8 F9 rfl F11 F12 F13 F14 rfl F16 F17
theorem ZF (x y c:Nat) (hc:c≤1) (w:World):(callFunc 142 #[Ga x,Ga y,Ga c]).run Tryz.prog w=.ok (.value (.tuple #[Ga ((x+y+c)%18446744073709551616),Ga ((x+y+c)/18446744073709551616)])) w:=by
 rw [run_callFunc_extern Tryz.func142 (by kernel_rfl) (by kernel_rfl) (by kernel_rfl) (e:=add64Entry) (by kernel_rfl),run_add64 x y c (by omega) (by omega) (by omega) (by omega)];rfl
theorem TQ (h l a b hi lo l2 c h2 c2:Nat) (w:World)
 (CM:Hid (∀W,Calls Tryz.prog 141 #[Ga a,Ga b] W fun r w'=>r=.returned (.tuple #[Ga hi,Ga lo])∧W=w'))
 (A1:∀W,(callFunc 142 #[Ga lo,Ga l,.int .u64 0]).run Tryz.prog W=.ok (.value (.tuple #[Ga l2,Ga c])) W)
 (A2:∀W,(callFunc 142 #[Ga hi,Ga h,Ga c]).run Tryz.prog W=.ok (.value (.tuple #[Ga h2,Ga c2])) W):
 Calls Tryz.prog 135 #[Aa [h,l],Ga a,Ga b] w fun r w'=>r=.returned (Aa [h2,l2])∧Below w.heap.size w w':=by
 go_enter Tryz.func135,Tryz.ntmps135;go_wp2_with (first
  |(refine Ra rfl 169 (.tmp 0) rfl ([h,l].map Ga) rfl ?_
    intro w1 hB1 hA1;have hg2:=hA1.lt)
  |(refine Ma rfl 169 rfl (Na 2) SW ?_
    intro w3 hb3 hZ3;have hB3:=Ba hB1 hb3;have hA3:=hA1.on hb3;clear hB1 hA1 hb3;have d0:=hA3.get (v:=Ga h) (j:=0) rfl;have d1:=hA3.get (v:=Ga l) (j:=1) rfl))
 refine (CM.out w3).mono ?_;rintro r w4 ⟨rfl,rfl⟩;clear CM;go_wp2_with (first
  |(refine Eb rfl 169 _ rfl [(0,Ga h2),(1,Ga l2)] rfl _ (OQ _ _) ?_)
  |(refine Ka rfl 169 _ _ rfl w1.heap.size 2 (Na 2) ([h2,l2].map Ga) rfl rfl hZ3 rfl Cj rfl (Oa _) ?_
    intro w7 hb7 hC7 _))
 refine qc Tryz.results135 w1.heap.size ([h2,l2].map Ga) rfl hC7 Tryz.underlying169 rfl Cj rfl rfl ⟨rfl,hB3.trans (hb7.below (Nat.le_of_lt hg2) hB3.size)⟩
theorem YW (v a b:Nat) (w:World) (ha:a<18446744073709551616) (hb:b<18446744073709551616) (hv:v+a*b<340282366920938463463374607431768211456):
 Calls Tryz.prog 135 #[Po v,Ga a,Ga b] w fun r w'=>r=.returned (Po (v+a*b))∧Below w.heap.size w w':=by
 have CM:=fun W=>XW a b W ha hb;rw [Po,Po];generalize a*b=z at *;have A1:=fun W=>ZF (z%18446744073709551616) (v%18446744073709551616) 0 (by omega) W;have A2:=fun W=>ZF (z/18446744073709551616) (v/18446744073709551616) ((z%18446744073709551616+v%18446744073709551616+0)/18446744073709551616) (by omega) W;have e1:(v+z)/18446744073709551616=(z/18446744073709551616+v/18446744073709551616+(z%18446744073709551616+v%18446744073709551616+0)/18446744073709551616)%18446744073709551616:=by omega
 have e2:(v+z)%18446744073709551616=(z%18446744073709551616+v%18446744073709551616+0)%18446744073709551616:=by omega
 rw [e1,e2];exact TQ _ _ a b _ _ _ _ _ _ w CM A1 A2
end Go.Proofs.YtoggkhjaghkpnaaGreatDoor
