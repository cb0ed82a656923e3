import Derived.Test.YtlfldlnohmobmaaMaD
import Derived.Test.YtlfldlnohmobmaaMaA
import Derived.Outline
import Derived.Test.YtlfldlnohmobmaaRows
import Derived.Lib.Bytes
import Derived.Lib.Bytealg
import Derived.Deep.QuietTactic
import Derived.BigQuiet
import Derived.RangeFuncNested
import Derived.RangeFuncLeaves
import Derived.RangeFuncBound
import Derived.RangeFuncCalls
import Derived.WalkKit
import Derived.OwnWalkIn
import Derived.TacticsInMore
import Derived.LoopNIn
import Derived.LoopIn
import Derived.Test.YtlfldlnohmobmaaMaB
import Derived.Lib.AppendZeros
import Derived.Laws.Rows
set_option linter.unusedVariables false
set_option linter.unusedSimpArgs false
set_option maxRecDepth 100000
namespace Go.Proofs.Ytlfldlnohmobmaa.Px
section
open Go.RowKit Go.Proofs.Ytlfldlnohmobmaa.Rx
theorem lX{p:Pg}{c:Cf}{g:Int}(h0:0<=g)(h:g<gsV p c):(c.e=0∧c.s.pc≠ -1∧ ¬p.win<=(c.b.length:Int))∧((atI p c.s.pc).kind=7->g<=p.is.length)∧((atI p c.s.pc).kind=9->c.r.length=0->g<=p.is.length):=by
 unfold gsV at h
 split at h
 ·omega
 ·rename_i hn
  refine⟨⟨?_, ?_, ?_⟩,fun k7=> ?_,fun k9 hr=> ?_⟩
  ·exact Classical.byContradiction fun e=>hn (.inl e)
  ·exact fun e=>hn (.inr (.inl e))
  ·exact fun e=>hn (.inr (.inr e))
  ·rw[aj (by omega),ao k7] at h;omega
  ·rw[aj (by omega),aj (by omega),ao ⟨k9,hr⟩] at h;omega
theorem xv{p:Pg}{c:Cf}{g:Int}(hP:OkP p)(h:Inv p c)(h0:0<=g)(hg:g<gsV p c):EnOk p (ftE p c g)∧EtOk p c.s.m.length c.s.st c.b c.b.length (ftE p c g):=by
 obtain⟨⟨he,hp1,hw⟩,h7,h9⟩:=lX h0 hg
 have hpc:=h.pc
 have hpc0:0<=c.s.pc∧c.s.pc<=p.is.length:=by omega
 obtain⟨hx,hx2⟩:=fO hP c.s.pc
 have htg:=hx.2.2.2.2
 have mk: ∀(n:Int) (d f:Bool), -1<=n∧n<=p.is.length->((atI p c.s.pc).kind=9->d=true->False)->((atI p c.s.pc).kind=8->f=false->lOk p c.s.st c.b c.b.length)->EnOk p ⟨c.s.pc,0,0, -1,n,d,false,f⟩∧EtOk p c.s.m.length c.s.st c.b c.b.length ⟨c.s.pc,0,0, -1,n,d,false,f⟩:=fun n d f hn h9 h8=>
  ⟨⟨hpc0,⟨by show(0:Int)<=0;decide,by show(0:Int)<65536;decide⟩,⟨by show(-1:Int)<= -1;decide,by show(-1:Int)<=1000000;decide⟩,hn,⟨by show(0:Int)<=0;decide,by show(0:Int)<65536;decide⟩⟩,⟨(fun _ b=>by cases b),(fun a b=>(h9 a b).elim),(fun a b=>h8 a b)⟩⟩
 unfold ftE
 by_cases k5:(atI p c.s.pc).kind=5
 ·rw[ao k5]
  have:=hx2 (by omega)
  refine mk _ _ _ ?_ (fun a=>by omega) (fun a=>by omega)
  split<;>omega
 rw[aj k5]
 by_cases k6:(atI p c.s.pc).kind=6
 ·rw[ao k6];exact mk _ _ _ (by omega) (fun a=>by omega) (fun a=>by omega)
 rw[aj k6]
 by_cases k7:(atI p c.s.pc).kind=7
 ·rw[ao k7];exact mk _ _ _ (by have:=h7 k7;omega) (fun a=>by omega) (fun a=>by omega)
 rw[aj k7]
 by_cases k9:(atI p c.s.pc).kind=9
 ·rw[ao k9]
  refine mk _ _ _ ?_ (fun _ b=>by cases b) (fun a=>by omega)
  split
  ·rename_i hr;have:=h9 k9 hr;omega
  ·rename_i hr
   have:=h.rb (bo c.r) (by unfold bo;exact jr (by omega))
   omega
 rw[aj k9]
 by_cases k8:(atI p c.s.pc).kind=8
 ·rw[ao k8]
  refine mk _ _ _ (by omega) (fun a=>absurd a k9) (fun _ hf=> ?_)
  unfold ftB at hf
  rw[jm p c.s.st c.b (ax _)] at hf
  cases e:reG p c.b 0 c.b.length c.s.st with
  |none=>rw[e] at hf;cases hf
  |some L=>rw[e] at hf;exact⟨L,e,by have:=of_decide_eq_false hf;omega⟩
 rw[aj k8]
 by_cases k1:(atI p c.s.pc).kind=11∨(atI p c.s.pc).kind=12
 ·rw[ao k1];exact mk _ _ _ (by omega) (fun a=>absurd a k9) (fun a=>absurd a k8)
 rw[aj k1]
 have:=hx2 (fun a=>k1 (.inr a))
 exact mk _ _ _ (by omega) (fun a=>absurd a k9) (fun a=>absurd a k8)
theorem pr{l:List Int}{pc x:Int}(h:x∈cQ l pc):x∈l∨x=pc:=by
 unfold cQ at h
 rcases bb.1 (List.mem_of_mem_drop h) with h |h
 ·exact .inl h
 ·exact .inr (aA.1 h)
theorem Inv.ftO{p:Pg}{c c2:Cf}{g:Int}(hP:OkP p)(h:Inv p c)(e:ftO p c g=some c2):Inv p c2:=by
 unfold Px.ftO at e
 split at e
 ·rename_i hg
  cases e
  obtain⟨ho,ht⟩:=xv hP h hg.1 hg.2
  obtain⟨⟨he,hp1,hw⟩, -, -⟩:=lX hg.1 hg.2
  have hbl:=h.bl
  have hr:(ftR p c).length<=2∧ ∀x∈ftR p c,0<=x∧x<=p.is.length:=by
   unfold ftR
   have hrl:=h.rl
   split
   ·exact⟨by rw[aP];omega,fun x hx=>h.rb x (bI hx)⟩
   ·split
    ·rename_i k8
     refine⟨by rw[mT];omega,fun x hx=> ?_⟩
     rcases pr hx with hx |hx
     ·exact h.rb x hx
     ·have:=(fO hP c.s.pc).2 (by omega)
      rw[hx];omega
    ·exact⟨hrl,h.rb⟩
  refine⟨h.reg,h.mem,h.ml,ho.nxt,h.st,h.stk, ?_,fun x hx=> ?_,hr.1,hr.2,fun j hj=> ?_⟩
  ·show((c.b++[ftE p c g]).length:Int)<=_
   rw[aV,eH];omega
  ·rcases bb.1 hx with hx |hx
   ·exact h.be x hx
   ·rw[aA.1 hx];exact ho
  ·have hj:j<c.b.length+1:=by
    have:(c.b++[ftE p c g]).length=c.b.length+1:=by rw[aV];rfl
    exact this▸hj
   show EtOk p _ _ (c.b++[ftE p c g]) j ((c.b++[ftE p c g]).getD j default)
   by_cases hq:j<c.b.length
   ·rw[jt hq]
    exact(h.et j hq).pcs fun i hi=>by rw[jt (by omega)]
   ·obtain rfl:j=c.b.length:=by omega
    rw[ke]
    exact ht.pcs fun i hi=>by rw[jt (by omega)]
 ·cases e
theorem Inv.begin{p:Pg}{s:S8}(hs:OkS s.m.length p.is.length s)(hm:s.m.length=aQ p.ms)(hst:s.st.length<=4)(hsk: ∀x∈s.st,0<=x∧x<=p.is.length):Inv p ⟨s,[],[],0⟩:=
 ⟨hs.reg,hs.mem,hm,hs.pc,hst,hsk,(by show((0:Nat):Int)<=_;omega),(fun _ hx=>by cases hx),(by show 0<=2;omega),(fun _ hx=>by cases hx),fun k hk=>absurd hk (cA k)⟩
def beg(s:S8):Cf:=⟨s,[],[],0⟩
theorem yO(s:S8){Z:Prop}(z:Z):(RF s.r0 (RF s.r1 (RF s.r2 (RF s.r3 (RF s.m.length (RR s.m.length 1 (fun i j=>aI (s.m.getD i 0)) (RF s.st.length (RR s.st.length 1 (fun i j=>aI (s.st.getD i 0)) (RF s.pc Z))))))))):=⟨rfl,rfl,rfl,rfl,rfl,fun _ _ _ _=>rfl,rfl,fun _ _ _ _=>rfl,rfl,z⟩
theorem xP(s:S8):Vc (vF_ 6 [.agg (s8R s)] [.fz] [] (.agg (cfA (beg s))) []):=ar (yO s (cj (rf (0:Nat)) (cj (rf (0:Nat)) (cj (rf (0:Int)) trivial))))
theorem gh(s:S8):pC_ 6 [.agg (s8R s)] (.agg (cfA (beg s))) []:=PureC.vc (xP s)
def j8(s:S8):List Int:=((([s.r0,s.r1,s.r2,s.r3,(s.m.length:Int)]++s.m)++[(s.st.length:Int)])++s.st)++[s.pc]
def enN(e:En):List Int:=[e.pc,e.val,e.adr,e.frm,e.nxt,Wd.tI e.dn,Wd.tI e.kn,Wd.tI e.ft]
def ciK(c:Cf):Nat->List Int
 |0=>j8 c.s++[(c.b.length:Int)]
 |k+1=>ciK c k++enN (c.b.getD k default)
def ciL(c:Cf):List Int:=((ciK c c.b.length++[(c.r.length:Int)])++c.r)++[c.e]
theorem pB(s:S8):(j8 s).length=s.m.length+s.st.length+7:=by simp[j8];omega
theorem oX(c:Cf): ∀k,(ciK c k).length=(j8 c.s).length+1+8*k
 |0=>by rw[ciK,aV];rfl
 |k+1=>by rw[ciK,aV,oX c k];show _+8=_;omega
theorem uK(c:Cf):(ciL c).length=c.s.m.length+c.s.st.length+10+8*c.b.length+c.r.length:=by
 unfold ciL;rw[aV,aV,aV,oX,pB];simp;omega
def x2(x:Int)(s:Nat):Int:=Int.fdiv x (2^s)
def v0:Vl:=⟨false,0⟩
structure M1 where
 p:Int
 s:Int
 r0:Int
 r1:Int
 r2:Int
 r3:Int
def M1.set(m:M1)(k:Nat)(v:Int):M1:=match k with
 |0=>{m with r0:=v}
 |1=>{m with r1:=v}
 |2=>{m with r2:=v}
 |_=>{m with r3:=v}
def shK(k:Nat):Nat:=min (IntKind.u64.wrap (2*(k:Int))).toNat 64
def M1.up(m:M1)(p s:Int):M1:={m with p:=p,s:=s}
structure Liv (p:Pg) (c:Cf):Prop where
 e:c.e=0∨c.e=1∨c.e=2
 fin: ¬c.e=0->c.b=[]∧c.r=[]
 lst:c.s.pc= -1->c.e=0-> ∃k,c.b.length=k+1∧((enX p c k).kind=11∨(enX p c k).kind=12)
 und: ∀k,k<c.b.length->(c.b.getD k default).dn=false->(enX p c k).kind≠6∧(enX p c k).kind≠8∧(enX p c k).kind≠11∧(enX p c k).kind≠12
theorem Liv.up{p:Pg}{c:Cf}(h:Liv p c)(he:c.e=0){k:Nat}(hk:k<c.b.length){e:En}(hp:e.pc=(c.b.getD k default).pc)(hd:e.dn=false->(c.b.getD k default).dn=false):Liv p ⟨c.s,c.b.set k e,c.r,c.e⟩:=by
 have hpc: ∀i,((c.b.set k e).getD i default).pc=(c.b.getD i default).pc:=fun i=>by
  rw[fV hk]
  split
  ·rename_i hi;rw[hi];exact hp
  ·rfl
 have hx: ∀i,enX p ⟨c.s,c.b.set k e,c.r,c.e⟩ i=enX p c i:=fun i=>by
  show atI p ((c.b.set k e).getD i default).pc=_
  rw[hpc];rfl
 refine⟨h.e,fun hn=>absurd he hn,fun h1 h2=> ?_,fun i hi hdn=> ?_⟩
 ·obtain⟨q,h3,h4⟩:=h.lst h1 h2
  exact⟨q,(aN).trans h3,by rw[hx];exact h4⟩
 ·have hi:i<c.b.length:=by have:(c.b.set k e).length=c.b.length:=aN;exact this▸hi
  rw[hx]
  refine h.und i hi ?_
  have hdn:((c.b.set k e).getD i default).dn=false:=hdn
  rw[fV hk] at hdn
  split at hdn
  ·rename_i hq;rw[hq];exact hd hdn
  ·exact hdn
theorem Liv.cut{p:Pg}{c:Cf}(h:Liv p c)(he:c.e=0)(n:Nat){t:Int}(ht:0<=t):Liv p ⟨c.s.go t,c.b.take n,c.r,c.e⟩:=by
 refine⟨h.e,fun hn=>absurd he hn,fun h1 _=> ?_,fun i hi hdn=> ?_⟩
 ·have:t= -1:=h1
  omega
 ·have hi:i<min n c.b.length:=by have:(c.b.take n).length=min n c.b.length:=aP;exact this▸hi
  have e1:(c.b.take n).getD i default=c.b.getD i default:=kb (by omega)
  have hdn:((c.b.take n).getD i default).dn=false:=hdn
  rw[e1] at hdn
  have:=h.und i (by omega) hdn
  show(atI p ((c.b.take n).getD i default).pc).kind≠6∧_
  unfold enX
  show(atI p ((c.b.take n).getD i default).pc).kind≠6∧(atI p ((c.b.take n).getD i default).pc).kind≠8∧(atI p ((c.b.take n).getD i default).pc).kind≠11∧(atI p ((c.b.take n).getD i default).pc).kind≠12
  rw[e1];exact this
theorem Liv.goV{p:Pg}{c:Cf}(h:Liv p c)(he:c.e=0){k:Nat}(hk:k<c.b.length){t:Int}(ht:0<=t):Liv p (goV c k t):=by
 unfold Px.goV
 split
 ·exact h
 ·exact(h.up he hk (e:=(c.b.getD k default).to t) rfl (fun h=>h)).cut he (k+1) ht
theorem vt{p:Pg}{c:Cf}{i:Int}(h:opV p c i=true):c.e=0:=by
 unfold opV at h
 split at h
 ·rename_i h1;exact h1.1
 ·cases h
theorem vJ{p:Pg}{c:Cf}{i:Int}(h:cnV p c i=true):c.e=0:=by
 unfold cnV at h
 rw[al] at h
 exact vt h.1
theorem vM{p:Pg}{c:Cf}{i:Int}(h:caV p c i=true):c.e=0:=by
 unfold caV at h
 rw[al] at h
 exact vt h.1
theorem rT{p:Pg}(hP:OkP p){c:Cf}(h:Inv p c){k:Nat}{L:List Int}(hv:reG p c.b 0 k c.s.st=some L)(h0: ¬L.length=0):0<=bo L:=by
 have hm:bo L∈L:=by unfold bo;exact jr (by omega)
 have:=gQ p c.b (fun x=>0<=x∧x<=p.is.length) k 0 c.s.st L h.stk (fun i _ hi h8=>by
  have:=(fO hP (c.b.getD i default).pc).2 (by unfold enI at h8;omega)
  omega) hv _ hm
 exact this.1
theorem Br(c:Cf)(k:Nat)(t:Int):(Px.goV c k t).e=c.e:=by unfold Px.goV;split<;>rfl
theorem Liv.doO{p:Pg}{c c2:Cf}{o:List Ob}(hP:OkP p)(hI:Inv p c)(h:Liv p c){i:Int}(e:doO p c i=some (c2,o)):Liv p c2∧c2.e=c.e:=by
 unfold Px.doO at e
 split at e
 ·rename_i hc
  have he:=vJ hc
  obtain⟨k,rfl,hk,hd,hK⟩:=mc hc
  rw[aE,ah] at e
  obtain⟨hx,hx2⟩:=fM hP c k
  have mk: ∀g:En->En,(g (c.b.getD k default)).pc=(c.b.getD k default).pc->(g (c.b.getD k default)).dn=true->Liv p (upE c k g):=fun g h1 h2=>h.up he hk h1 (fun h3=>by rw[h2] at h3;cases h3)
  have hD:Liv p (upE c k En.done):=mk _ rfl rfl
  have hlD:(upE c k En.done).b.length=c.b.length:=aN
  have go: ∀t,0<=t->Liv p (Px.goV (upE c k En.done) k t)∧(Px.goV (upE c k En.done) k t).e=c.e:=fun t ht=>⟨hD.goV he (by rw[hlD];exact hk) ht,Br _ _ _⟩
  have hbD: ∀i,((upE c k En.done).b.getD i default).pc=(c.b.getD i default).pc:=fun i=>lP (l:=c.b) (k:=k) (g:=En.done) (fun _=>rfl) i
  unfold dmV at e
  by_cases k1:(enX p c k).kind=1
  ·rw[ao k1] at e
   cases e
   exact⟨mk _ rfl rfl,rfl⟩
  rw[aj k1] at e
  by_cases k4:(enX p c k).kind=4
  ·rw[ao k4] at e
   cases e
   exact⟨mk _ rfl rfl,rfl⟩
  rw[aj k4] at e
  by_cases k3:(enX p c k).kind=3
  ·rw[ao k3] at e
   cases e
   exact⟨mk _ rfl rfl,rfl⟩
  rw[aj k3] at e
  by_cases k2:(enX p c k).kind=2
  ·rw[ao k2] at e
   split at e
   ·cases e
    exact⟨mk _ rfl rfl,rfl⟩
   ·cases e
    exact⟨mk _ rfl rfl,rfl⟩
  rw[aj k2] at e
  by_cases k5:(enX p c k).kind=5
  ·rw[ao k5] at e
   cases e
   refine go _ ?_
   have hpc:=hx2 (by omega)
   have htg:=hx.2.2.2.2
   split
   ·omega
   ·omega
  rw[aj k5] at e
  by_cases k7:(enX p c k).kind=7
  ·rw[ao k7] at e
   cases e
   refine go _ ?_
   have:=(jh (p:=p) hI.reg (hI.done k) (k:Int) (enX p c k).a).1
   unfold jb tA
   show 0<=min (cd p c.s (upE c k En.done).b k (enX p c k).a).1 _
   omega
  rw[aj k7,jm p c.s.st _ (by rw[hlD];omega),lM p c.s.st (fun i _=>hbD i)] at e
  cases hv:reG p c.b 0 k c.s.st with
  |none=>rw[hv] at e;cases e;exact⟨mk _ rfl rfl,rfl⟩
  |some L=>
   rw[hv] at e
   by_cases h0:L.length=0
   ·have e':(if L.length=0 then((upE c k fun e=>e.done.flt,[]):Cf×List Ob) else(Px.goV (upE c k En.done) k (bo L),[⟨3,bo L⟩]))=(c2,o):=e
    rw[ao h0] at e';cases e';exact⟨mk _ rfl rfl,rfl⟩
   ·have e':(if L.length=0 then((upE c k fun e=>e.done.flt,[]):Cf×List Ob) else(Px.goV (upE c k En.done) k (bo L),[⟨3,bo L⟩]))=(c2,o):=e
    rw[aj h0] at e';cases e'
    exact go _ (rT hP hI hv h0)
 ·cases e
theorem Liv.adrO{p:Pg}{c c2:Cf}{o:List Ob}(hI:Inv p c)(h:Liv p c){i:Int}(e:adrO p c i=some (c2,o)):Liv p c2∧c2.e=c.e:=by
 unfold Px.adrO at e
 split at e
 ·rename_i hc
  have he:=vM hc
  obtain⟨k,rfl,hk,hd,hK⟩:=mf hc
  rw[aE,ah] at e
  have mk: ∀g:En->En,(g (c.b.getD k default)).pc=(c.b.getD k default).pc->(g (c.b.getD k default)).dn=(c.b.getD k default).dn->Liv p (upE c k g):=fun g h1 h2=>h.up he hk h1 (fun h3=>by rw[h2] at h3;exact h3)
  unfold sT at e
  split at e
  ·cases e;exact⟨mk _ rfl rfl,rfl⟩
  ·split at e
   ·rename_i q hz
    cases e
    obtain⟨q',rfl,hq⟩:=od hz
    refine⟨(mk (fun e=>e.ad (adV p c k (enX p c k))) rfl rfl).cut he _ ?_,rfl⟩
    rw[aE]
    have hl:q'<c.b.length:=by have:(upE c k fun e=>e.ad (adV p c k (enX p c k))).b.length=c.b.length:=aN;exact this▸hq
    have e1:((upE c k fun e=>e.ad (adV p c k (enX p c k))).b.getD q' default).pc=(c.b.getD q' default).pc:=lP (l:=c.b) (k:=k) (g:=fun e=>e.ad (adV p c k (enX p c k))) (fun _=>rfl) q'
    rw[e1]
    exact(hI.be _ (bZ hl)).pc.1
   ·cases e;exact⟨mk _ rfl rfl,rfl⟩
 ·cases e
theorem Liv.ftO{p:Pg}{c c2:Cf}{g:Int}(hP:OkP p)(hI:Inv p c)(h:Liv p c)(e:ftO p c g=some c2):Liv p c2∧c2.e=c.e:=by
 unfold Px.ftO at e
 split at e
 ·rename_i hg
  cases e
  obtain⟨⟨he,hp1,hw⟩,h7,h9⟩:=lX hg.1 hg.2
  have hpc:=hI.pc
  obtain⟨hx,hx2⟩:=fO hP c.s.pc
  have htg:=hx.2.2.2.2
  have key:(ftE p c g).pc=c.s.pc∧((ftE p c g).nxt= -1->(atI p c.s.pc).kind=11∨(atI p c.s.pc).kind=12)∧((ftE p c g).dn=false->(atI p c.s.pc).kind≠6∧(atI p c.s.pc).kind≠8∧(atI p c.s.pc).kind≠11∧(atI p c.s.pc).kind≠12):=by
   unfold ftE
   by_cases k5:(atI p c.s.pc).kind=5
   ·rw[ao k5]
    refine⟨rfl,fun hn=> ?_,fun _=>by omega⟩
    have hn:(if g=1 then(atI p c.s.pc).tg else c.s.pc+1)= -1:=hn
    split at hn<;>omega
   rw[aj k5]
   by_cases k6:(atI p c.s.pc).kind=6
   ·rw[ao k6]
    exact⟨rfl,fun hn=>by have hn:(atI p c.s.pc).tg= -1:=hn;omega,fun hd=>by cases hd⟩
   rw[aj k6]
   by_cases k7:(atI p c.s.pc).kind=7
   ·rw[ao k7]
    exact⟨rfl,fun hn=>by have hn:g= -1:=hn;omega,fun _=>by omega⟩
   rw[aj k7]
   by_cases k9:(atI p c.s.pc).kind=9
   ·rw[ao k9]
    refine⟨rfl,fun hn=> ?_,fun _=>by omega⟩
    have hn:(if c.r.length=0 then g else bo c.r)= -1:=hn
    split at hn
    ·omega
    ·rename_i hr
     have:=hI.rb (bo c.r) (by unfold bo;exact jr (by omega))
     omega
   rw[aj k9]
   by_cases k8:(atI p c.s.pc).kind=8
   ·rw[ao k8]
    exact⟨rfl,fun hn=>by have hn:(atI p c.s.pc).tg= -1:=hn;omega,fun hd=>by cases hd⟩
   rw[aj k8]
   by_cases k1:(atI p c.s.pc).kind=11∨(atI p c.s.pc).kind=12
   ·rw[ao k1]
    exact⟨rfl,fun _=>k1,fun hd=>by cases hd⟩
   rw[aj k1]
   exact⟨rfl,fun hn=>by have hn:c.s.pc+1= -1:=hn;omega,fun _=>by omega⟩
  obtain⟨kp,kn,kd⟩:=key
  have hlast:enX p (ftD p c g) c.b.length=atI p c.s.pc:=by
   show atI p ((c.b++[ftE p c g]).getD c.b.length default).pc=_
   rw[ke,kp]
  refine⟨⟨h.e,fun hn=>absurd he hn,fun h1 _=>⟨c.b.length,by show(c.b++[_]).length=_;rw[aV];rfl, ?_⟩,fun i hi hdn=> ?_⟩,rfl⟩
  ·rw[hlast];exact kn h1
  ·have hi:i<c.b.length+1:=by
    have:(c.b++[ftE p c g]).length=c.b.length+1:=by rw[aV];rfl
    exact this▸hi
   by_cases hq:i<c.b.length
   ·have e1:(c.b++[ftE p c g]).getD i default=c.b.getD i default:=jt hq
    have hdn:((c.b++[ftE p c g]).getD i default).dn=false:=hdn
    rw[e1] at hdn
    have:=h.und i hq hdn
    show(atI p ((c.b++[ftE p c g]).getD i default).pc).kind≠6∧(atI p ((c.b++[ftE p c g]).getD i default).pc).kind≠8∧(atI p ((c.b++[ftE p c g]).getD i default).pc).kind≠11∧(atI p ((c.b++[ftE p c g]).getD i default).pc).kind≠12
    rw[e1];exact this
   ·obtain rfl:i=c.b.length:=by omega
    rw[hlast]
    have hdn:((c.b++[ftE p c g]).getD c.b.length default).dn=false:=hdn
    rw[ke] at hdn
    exact kd hdn
 ·cases e
theorem Liv.beg{p:Pg}{s:S8}(hs:s.pc≠ -1):Liv p (beg s):=
 ⟨.inl rfl,fun hn=>absurd rfl hn,fun h=>absurd h hs,fun k hk=>absurd hk (cA k)⟩
end
end Go.Proofs.Ytlfldlnohmobmaa.Px
namespace Go.Proofs.Ytlfldlnohmobmaa
section
open Go.RowKit
def Ret(v:Value)(w:World)(e:Ending)(w':World):Prop:=e= .returned v∧w=w'
theorem Ret.mk{v v':Value}{w:World}(h:v'=v):Ret v w (.returned v') w:=⟨by rw[h],rfl⟩
theorem Ret.b{X:Value}{a a':Bool}{w:World}(hx:X= .bool a')(h:a'=a):Ret (.bool a) w (.returned X) w:=⟨by rw[hx,h],rfl⟩
theorem Bp:(Try.prog.info? 3).map (fun i=>(i.zero,i.size,i.bytes))=some (some (.int .i64 0),1,8):=by kernel_rfl
end
section
namespace Cd
def nrB(n:Int):Bool:=decide (-1<=n)&&decide (n<=253)
def xJ(n:Int)(k:Nat):Int:=n%18446744073709551616/2^(8*(7-k))%256
def sf(n:Int):List Int:=(List.range 8).map (xJ n)
def wQ(n:Int):List Int:=if nrB n=true then[n+1] else 255::sf n
def putL:List Int->List Int
 | []=>[]
 |n::l=>wQ n++putL l
def isI(xs:List Int):Prop:= ∀x∈xs, -9223372036854775808<=x∧x<9223372036854775808
theorem pJ(n:Int):(sf n).length=8:=by simp[sf]
theorem ra(n:Int):(wQ n).length=if nrB n=true then 1 else 9:=by
 unfold wQ;split<;>simp[pJ]
theorem putL_len_le(l:List Int):(putL l).length<=9*l.length:=by
 induction l with
 |nil=>simp[putL]
 |cons n l ih=>
  have:=ra n
  simp only[putL,aV,bY]
  split at this<;>omega
end Cd
end
section
open Go.RowKit
theorem RetOwn.mk{B:Nat}{t:TypeId}{xs ys:List Value}{n:Nat}{w w':World}{v:Value}(h:w'.ownsRow B t 1 v n ys)(he:ys=xs)(hb:Below B w w'):RetOwn B t xs w (.returned v) w':=by
 subst he
 have:=ua h
 subst this
 exact⟨v,rfl,h,hb⟩
end
end Go.Proofs.Ytlfldlnohmobmaa
namespace Go.Proofs.Ytlfldlnohmobmaa.Px
section
open Go.RowKit Go.Proofs.Ytlfldlnohmobmaa.Rx
def PartOk(a:AV)(l:List Int):Prop:=(a= .nils∧l=[])∨ ∃g,a= .row 1 l.length g∧ ∀i,i<l.length->g i 0= .int .i64 (l.getD i 0)
theorem PartOk.nil:PartOk .nils []:= .inl ⟨rfl,rfl⟩
theorem PartOk.row(l:List Int):PartOk (.row 1 l.length (dD l)) l:= .inr ⟨_,rfl,fun _ _=>rfl⟩
theorem PartOk.rep{w:World}{R:Nat->Prop}{a:AV}{l:List Int}{v:Value}(h:PartOk a l)(hr:RepP w R a v)(hR: ∀g,R g->g<w.heap.size): ∃A c,v= .slice A l.length c∧Rd w w.heap.size A (l.map (Value.int .i64)):=by
 rcases h with⟨rfl,rfl⟩|⟨g,rfl,hg⟩
 ·cases hr with
  |nils=>exact⟨none,0,rfl,Rd.nil⟩
 ·obtain⟨A,c,e,_,_,h⟩:=hr.ints hR rfl hg
  exact⟨A,c,e,h⟩
theorem uc{args:List AV}{vs:Array Value}{a:AV}(h:args=[a])(hl:args.length=vs.size){w:World}{R:Nat->Prop}(ha: ∀(j:Nat) a v,args[j]? =some a->vs[j]? =some v->RepP w R a v): ∃v,vs= #[v]∧RepP w R a v:=by
 subst h
 obtain⟨vs⟩:=vs
 match vs,hl with
 | [v],_=>exact⟨v,rfl,ha 0 a v rfl rfl⟩
def coK(c:Cf):Nat->List Int
 |0=>[(c.b.length:Int)]
 |k+1=>coK c k++enN (c.b.getD k default)
def coL(c:Cf):List Int:=((coK c c.b.length++[(c.r.length:Int)])++c.r)++[c.e]
theorem sy(c:Cf): ∀k,ciK c k=j8 c.s++coK c k
 |0=>rfl
 |k+1=>by rw[ciK,coK,sy c k,g9]
theorem xF(c:Cf):ciL c=j8 c.s++coL c:=by
 unfold ciL coL;rw[sy];simp only[g9]
def flE(b:List En):List Int:=b.flatMap enN
theorem sw(c:Cf): ∀k,k<=c.b.length->coK c k=(c.b.length:Int)::flE (c.b.take k)
 |0,_=>rfl
 |k+1,h=>by
  have e:c.b.take (k+1)=c.b.take k++[c.b.getD k default]:=by
   rw[List.take_add_one,aq,az (by omega)];rfl
  rw[coK,sw c k (by omega),e]
  unfold flE
  simp
theorem xD(c:Cf):coL c=(c.b.length:Int)::(flE c.b++((c.r.length:Int)::(c.r++[c.e]))):=by
 unfold coL
 rw[sw c _ (ax _),List.take_length]
 simp
theorem xE(c:Cf):ciL c=c.s.r0::c.s.r1::c.s.r2::c.s.r3::(c.s.m.length:Int)::(c.s.m++((c.s.st.length:Int)::(c.s.st++(c.s.pc::(c.b.length:Int)::(flE c.b++((c.r.length:Int)::(c.r++[c.e]))))))):=by
 rw[xF,xD]
 simp[j8]
theorem el{x:Int}(h1: -1000000<=x)(h2:x<=1000000): -9223372036854775808<=x∧x<9223372036854775808:=by omega
theorem uE{p:Pg}{c:Cf}(hP:OkP p)(hw:p.win<=1000)(h:Inv p c)(he:0<=c.e∧c.e<10):Cd.isI (ciL c):=by
 have hl:=hP.len
 have hs:=hP.sum
 obtain⟨h0,h1,h2,h3⟩:=h.reg
 have hml:=h.ml
 have hst:=h.st
 have hpc:=h.pc
 have hbl:=h.bl
 have hrl:=h.rl
 intro x hx
 rw[xE] at hx
 simp only[bb,bE,jf,or_false] at hx
 rcases hx with rfl |rfl |rfl |rfl |rfl |hx |rfl |hx |rfl |rfl |hx |rfl |hx |rfl
 ·exact el (by omega) (by omega)
 ·exact el (by omega) (by omega)
 ·exact el (by omega) (by omega)
 ·exact el (by omega) (by omega)
 ·exact el (by omega) (by omega)
 ·have:=h.mem x hx;exact el (by omega) (by omega)
 ·exact el (by omega) (by omega)
 ·have:=h.stk x hx;exact el (by omega) (by omega)
 ·exact el (by omega) (by omega)
 ·exact el (by omega) (by omega)
 ·obtain⟨e,he,hx⟩:=a9.1 hx
  have hE:=h.be e he
  have e1:=hE.pc
  have e2:=hE.val
  have e3:=hE.frm
  have e4:=hE.nxt
  have e5:=hE.adr
  have ht: ∀b:Bool,0<=Wd.tI b∧Wd.tI b<=1:=fun b=>by cases b<;>decide
  have t1:=ht e.dn
  have t2:=ht e.kn
  have t3:=ht e.ft
  simp only[enN,bE,jf,or_false] at hx
  rcases hx with rfl |rfl |rfl |rfl |rfl |rfl |rfl |rfl<;>exact el (by omega) (by omega)
 ·exact el (by omega) (by omega)
 ·have:=h.rb x hx;exact el (by omega) (by omega)
 ·exact el (by omega) (by omega)
structure CfS (c:Cf):Prop where
 b:c.b.length<=3
 m:c.s.m.length<=16
 st:c.s.st.length<=4
 r:c.r.length<=2
 i:Cd.isI (ciL c)
theorem CfS.of{p:Pg}{c:Cf}(hP:OkP p)(hw:p.win<=3)(hI:Inv p c)(he:0<=c.e∧c.e<10):CfS c:=
 ⟨by have:=hI.bl;omega,by rw[hI.ml];exact hP.sum,hI.st,hI.rl,uE hP (by omega) hI he⟩
theorem CfS.len{c:Cf}(h:CfS c):(Cd.putL (ciL c)).length<1000:=by
 have h2:=Cd.putL_len_le (ciL c)
 rw[uK] at h2
 have:=h.b;have:=h.m;have:=h.st;have:=h.r
 omega
theorem PureC.obs{P:Program}{f:FuncId}{args:List AV}{a b:AV}{o:List Ob}(h:PureC P f args (.tup [a,obX o,b]) []):PureC P f args (.tup [a,obR o,b]) []:=by
 cases o with
 |cons x r=>exact h
 |nil=>
  intro w R vs hR hl ha
  refine(h w R vs hR hl ha).mono ?_
  rintro e w' ⟨z,cx,rfl,rfl,k1,k2,k3,k4,k5,k6,k7⟩
  refine⟨z,cx,rfl,rfl,k1,k2,k3,k4,k5,k6, ?_⟩
  have nr: ∀{u:Value},RepP cx.w cx.R .nils u->RepP cx.w cx.R (obR []) u:=fun hu=>by
   cases hu
   exact .row none 0 (fun _ _=> .bool false) (ax _) (aY _) (fun h=>absurd h (cA _)) (fun i h=>absurd h (cA _)) (fun i h=>absurd h (cA _))
  have nr2: ∀{u:Value},Rep cx .nils u->Rep cx (obR []) u:=fun hu=>by
   cases hu with
   |pure h=>exact .pure (nr h)
  cases k7 with
  |pure h=>cases h with
   |tup hl h=>exact .pure (.tup hl fun j x v hx hv=>match j,hx with
    |0,hx=>h 0 x v hx hv
    |1,hx=>by
     simp only[bK,ba,ah] at hx
     subst hx
     exact nr (h 1 _ v rfl hv)
    |2,hx=>h 2 x v hx hv
    |j+3,hx=>by simp at hx)
  |tup hl h=>exact .tup hl fun j x v hx hv=>match j,hx with
    |0,hx=>h 0 x v hx hv
    |1,hx=>by
     simp only[bK,ba,ah] at hx
     subst hx
     exact nr2 (h 1 _ v rfl hv)
    |2,hx=>h 2 x v hx hv
    |j+3,hx=>by simp at hx
def soS(l:List Ob)(k:Nat):Sm:=⟨[(0,obR l),(1,obR l),(5,.int .i64 k),(4,.bool false)],[],0⟩
theorem vT(l:List Ob){Z:Prop}(z:Z):(RF l.length (RR l.length 2 (fun i j=>au obC l i j) (RF l.length (RR l.length 2 (fun i j=>au obC l i j) Z)))):=⟨rfl,fun _ _ _ _=>rfl,rfl,fun _ _ _ _=>rfl,z⟩
theorem tE(l:List Ob)(k:Nat)(hk:k<l.length)(hb:l.length<1000000000):Vc (vC_ 23 0 (soS l k) [.b true,.b false] .nrm [] (soS l (k+1))):=ar (cj (dt ((k:Int)<l.length)) (cj (bi k l.length) (cj (bi k l.length) (cj (show(!bif (l.getD k default).k==(l.getD k default).k then bif (l.getD k default).a==(l.getD k default).a then true else false else false)=false from by simp) (cj (i6 (k+1)) (vT l (cj (rf ((k:Int)+1)) (cj (rf false) trivial))))))))
theorem wy(l:List Ob):Vc (vC_ 23 0 (soS l l.length) [.b false] (.ext 0) [] (soS l l.length)):=ar (cj (df ((l.length:Int)<l.length)) (vT l (cj (rf (l.length:Int)) (cj (rf false) trivial))))
theorem tF(l:List Ob)(hb:l.length<1000000000):oL_ 23 0 (soS l 0).st (.ext 0) (soS l l.length).st:=
 Ok.loop (P:=Try.prog) (nt:=cF Try.prog 23) (c:=lpC Try.prog 23 0) (F:=fun k=>soS l k) (m:=l.length) (x:= .ext 0) (J:=soS l l.length) (fun k hk=>Ok.vc (tE l k hk hb)) (Ok.vc (wy l)) (by simp)
theorem zL(l:List Ob)(hb:l.length<1000000000):Vc (vF_ 23 [obR l,obR l] [.b false,.lp [] (soS l 0) (.ext 0) (soS l l.length)] [] (.bool true) []):=ar (cj (show((l.length:Int) !=(l.length:Int))=false from by simp) (vT l (cj (rf (0:Int)) (cj (rf false) (cj (tF l hb) (cj (rf true) trivial))))))
theorem soC(l:List Ob)(hb:l.length<1000000000):pC_ 23 [obR l,obR l] (.bool true) []:=PureC.vc (zL l hb)
def dmT(o:Option (Cf×List Ob)):Cf×List Ob×Bool:=match o with
 |some q=>(q.1,q.2,true)
 |none=>(Cf0,[],false)
theorem PureC.dmT{f:FuncId}{args:List AV}{o:Option (Cf×List Ob)}(h:pC_ f args (dmA o) []):pC_ f args (.tup [.agg (cfA (dmT o).1),obR (dmT o).2.1,.bool (dmT o).2.2]) []:=by
 cases o with
 |some q=>exact PureC.obs h
 |none=>exact PureC.obs (o:=[]) h
structure FrE (p:Pg) (e:En):Prop where
 d:e.dn=false->e.val=0∧e.frm= -1
 a:(e.dn=false∧(atI p e.pc).kind≠3∨(atI p e.pc).kind=3∧e.kn=false)->e.adr=0∧e.kn=false∧e.ft=false
def Frs(p:Pg)(c:Cf):Prop:= ∀e∈c.b,FrE p e
theorem FrE.mk'{p:Pg}{e:En}(hd:e.dn=true)(h3: ¬(atI p e.pc).kind=3):FrE p e:=
 ⟨fun h=>(by rw[hd] at h;cases h),fun h=>h.elim (fun h=>by rw[hd] at h;cases h.1) fun h=>absurd h.1 h3⟩
theorem Frs.set{p:Pg}{c:Cf}(h:Frs p c){k:Nat}{e:En}(he:FrE p e): ∀x∈c.b.set k e,FrE p x:=
 fun x hx=>(dI hx).elim (h x) fun hx=>hx▸he
theorem Frs.goV{p:Pg}{c:Cf}(h:Frs p c){k:Nat}(hk:k<c.b.length)(t:Int):Frs p (goV c k t):=by
 unfold Px.goV
 split
 ·exact h
 ·have he:FrE p ((c.b.getD k default).to t):=⟨(h _ (bZ hk)).d,(h _ (bZ hk)).a⟩
  exact fun x hx=>h.set he x (bI hx)
theorem Frs.doO{p:Pg}{c c2:Cf}{o:List Ob}(h:Frs p c){i:Int}(e:doO p c i=some (c2,o)):Frs p c2:=by
 unfold Px.doO at e
 split at e
 ·rename_i hc
  obtain⟨k,rfl,hk,hd,hK⟩:=mc hc
  rw[aE,ah] at e
  have hE:=h _ (bZ hk)
  have hlD:(upE c k En.done).b.length=c.b.length:=aN
  unfold dmV at e
  by_cases k3:(enX p c k).kind=3
  ·rw[aj (by omega),aj (by omega),ao k3] at e
   cases e
   exact h.set ⟨fun hx=>Bool.noConfusion hx,fun hx=>hx.elim (fun hx=>Bool.noConfusion hx.1) fun hx=>hE.a (.inr hx)⟩
  have mk: ∀g:En->En,(g (c.b.getD k default)).pc=(c.b.getD k default).pc->(g (c.b.getD k default)).dn=true->Frs p (upE c k g):=fun g h1 h2=>h.set (FrE.mk' h2 (by rw[h1];exact k3))
  have hD:Frs p (upE c k En.done):=mk _ rfl rfl
  have go: ∀t,Frs p (Px.goV (upE c k En.done) k t):=fun t=>hD.goV (by rw[hlD];exact hk) t
  by_cases k1:(enX p c k).kind=1
  ·rw[ao k1] at e;cases e;exact mk _ rfl rfl
  rw[aj k1] at e
  by_cases k4:(enX p c k).kind=4
  ·rw[ao k4] at e;cases e;exact mk _ rfl rfl
  rw[aj k4,aj k3] at e
  by_cases k2:(enX p c k).kind=2
  ·rw[ao k2] at e
   split at e
   ·cases e;exact mk _ rfl rfl
   ·cases e;exact mk _ rfl rfl
  rw[aj k2] at e
  by_cases k5:(enX p c k).kind=5
  ·rw[ao k5] at e;cases e;exact go _
  rw[aj k5] at e
  by_cases k7:(enX p c k).kind=7
  ·rw[ao k7] at e;cases e;exact go _
  rw[aj k7] at e
  split at e
  ·cases e;exact mk _ rfl rfl
  ·split at e
   ·cases e;exact mk _ rfl rfl
   ·cases e;exact go _
 ·cases e
theorem Frs.adrO{p:Pg}{c c2:Cf}{o:List Ob}(h:Frs p c){i:Int}(e:adrO p c i=some (c2,o)):Frs p c2:=by
 unfold Px.adrO at e
 split at e
 ·rename_i hc
  obtain⟨k,rfl,hk,hd,hK⟩:=mf hc
  rw[aE,ah] at e
  have hE:=h _ (bZ hk)
  have mk: ∀g:En->En,(g (c.b.getD k default)).pc=(c.b.getD k default).pc->(g (c.b.getD k default)).dn=(c.b.getD k default).dn->(g (c.b.getD k default)).kn=true->(g (c.b.getD k default)).val=(c.b.getD k default).val->(g (c.b.getD k default)).frm=(c.b.getD k default).frm->Frs p (upE c k g):=
   fun g h1 h2 h3 h4 h5=>h.set ⟨fun hx=>by rw[h4,h5];exact hE.d (h2▸hx),fun hx=>hx.elim (fun hx=>absurd hK (by rw[h1] at hx;exact hx.2)) fun hx=>by rw[h3] at hx;cases hx.2⟩
  unfold sT at e
  split at e
  ·cases e;exact mk _ rfl rfl rfl rfl rfl
  ·split at e
   ·cases e
    exact fun x hx=>mk (fun e=>e.ad (adV p c k (enX p c k))) rfl rfl rfl rfl rfl x (bI hx)
   ·cases e;exact mk _ rfl rfl rfl rfl rfl
 ·cases e
theorem Frs.ftO{p:Pg}{c c2:Cf}{g:Int}(h:Frs p c)(e:ftO p c g=some c2):Frs p c2:=by
 unfold Px.ftO at e
 split at e
 ·cases e
  have hE:FrE p (ftE p c g):=by
   unfold ftE
   by_cases k5:(atI p c.s.pc).kind=5
   ·rw[ao k5];exact⟨fun _=>⟨rfl,rfl⟩,fun _=>⟨rfl,rfl,rfl⟩⟩
   rw[aj k5]
   by_cases k6:(atI p c.s.pc).kind=6
   ·rw[ao k6];exact⟨fun _=>⟨rfl,rfl⟩,fun _=>⟨rfl,rfl,rfl⟩⟩
   rw[aj k6]
   by_cases k7:(atI p c.s.pc).kind=7
   ·rw[ao k7];exact⟨fun _=>⟨rfl,rfl⟩,fun _=>⟨rfl,rfl,rfl⟩⟩
   rw[aj k7]
   by_cases k9:(atI p c.s.pc).kind=9
   ·rw[ao k9];exact⟨fun _=>⟨rfl,rfl⟩,fun _=>⟨rfl,rfl,rfl⟩⟩
   rw[aj k9]
   by_cases k8:(atI p c.s.pc).kind=8
   ·rw[ao k8];exact FrE.mk' rfl (by show ¬(atI p c.s.pc).kind=3;omega)
   rw[aj k8]
   split
   ·exact⟨fun _=>⟨rfl,rfl⟩,fun _=>⟨rfl,rfl,rfl⟩⟩
   ·exact⟨fun _=>⟨rfl,rfl⟩,fun _=>⟨rfl,rfl,rfl⟩⟩
  exact fun x hx=>(bb.1 hx).elim (h x) fun hx=>(aA.1 hx)▸hE
 ·cases e
structure XOk (p:Pg) (c:Cf):Prop where
 I:Inv p c
 F:Frs p c
structure BOk (p:Pg) (c:Cf):Prop where
 P:OkP p
 x:XOk p c
 w:p.win<=90
theorem BOk.m{p:Pg}{c:Cf}(h:BOk p c):MOk p c:=h.x.I.ok h.P (by have:=h.w;omega)
theorem BOk.bl{p:Pg}{c:Cf}(h:BOk p c):c.b.length<=90:=by
 have h1:=h.x.I.bl
 have h2:=h.w
 omega
theorem BOk.ml{p:Pg}{c:Cf}(h:BOk p c):c.s.m.length<=16:=h.x.I.ml▸h.P.sum
theorem XOk.ok{p:Pg}{c:Cf}(h:XOk p c)(hP:OkP p)(hw:p.win<=90):BOk p c:=⟨hP,h,hw⟩
theorem XOk.beg{p:Pg}{c:Cf}(h:Inv p c)(hb:c.b=[]):XOk p c:=⟨h,fun x hx=>by rw[hb] at hx;exact absurd hx jf⟩
theorem XOk.ftO{p:Pg}{c c2:Cf}{g:Int}(hP:OkP p)(h:XOk p c)(e:ftO p c g=some c2):XOk p c2:=⟨Inv.ftO hP h.I e,h.F.ftO e⟩
theorem XOk.doO{p:Pg}{c c2:Cf}{o:List Ob}(hP:OkP p)(hw:p.win<=90)(h:XOk p c){i:Int}(e:doO p c i=some (c2,o)):XOk p c2:=⟨Inv.doO hP (by omega) h.I e,h.F.doO e⟩
theorem XOk.adrO{p:Pg}{c c2:Cf}{o:List Ob}(hP:OkP p)(h:XOk p c){i:Int}(e:adrO p c i=some (c2,o)):XOk p c2:=⟨Inv.adrO hP h.I e,h.F.adrO e⟩
theorem XOk.rsb{p:Pg}{c:Cf}(h:XOk p c):XOk p ⟨c.s,c.b,[],c.e⟩:=⟨⟨h.I.reg,h.I.mem,h.I.ml,h.I.pc,h.I.st,h.I.stk,h.I.bl,h.I.be,aY _,fun x hx=>absurd hx jf,h.I.et⟩,h.F⟩
theorem pm{l:List En}{k i j:Nat}(h:i<k):au enC l i j=au enC (l.take k) i j:=by
 unfold au
 rw[aq,aq,aU,ao h]
theorem bP{l:List En}{c j:Nat}(h:j<c):(l.take c).getD j default=l.getD j default:=by
 rw[aq,aq,aU,ao h]
theorem B2(p:Pg)(pc:Int)(h0:0<=pc)(h1:pc<p.is.length):Vc (vF_ 45 [.agg (pgA p), aI pc] [.fz,.bd false,.bd false] [] (.agg (inA (p.is.getD pc.toNat default))) []):=ar (cj (df (pc<0)) (cj (df (pc>=(↑p.is.length:Int))) (cj (bi pc p.is.length) (cj (rf ((p.is.getD (Int.toNat pc) default).kind)) (cj (rf ((p.is.getD (Int.toNat pc) default).op)) (cj (rf ((p.is.getD (Int.toNat pc) default).d)) (cj (rf ((p.is.getD (Int.toNat pc) default).a.reg)) (cj (rf ((p.is.getD (Int.toNat pc) default).a.n)) (cj (rf ((p.is.getD (Int.toNat pc) default).b.reg)) (cj (rf ((p.is.getD (Int.toNat pc) default).b.n)) (cj (rf ((p.is.getD (Int.toNat pc) default).nm)) (cj (rf ((p.is.getD (Int.toNat pc) default).tg)) trivial))))))))))))
theorem yP{Z:Prop}(z:Z):(RF (12:Int) (RF (0:Int) (RF (0:Int) (RF false (RF (0:Int) (RF false (RF (0:Int) (RF (ByteArray.mk (Array.mk [])) (RF (0:Int) Z))))))))):=⟨rfl,rfl,rfl,rfl,rfl,rfl,rfl,rfl,rfl,z⟩
theorem xR(p:Pg)(pc:Int)(h0: ¬0<=pc):Vc (vF_ 45 [.agg (pgA p), aI pc] [.fz,.bd true] [] (.agg (inA {In0 with kind:=12})) []):=ar (cj (dt (pc<0)) (yP trivial))
theorem xQ(p:Pg)(pc:Int)(h0:0<=pc)(h1: ¬pc<p.is.length):Vc (vF_ 45 [.agg (pgA p), aI pc] [.fz,.bd false,.bd true] [] (.agg (inA {In0 with kind:=12})) []):=ar (cj (df (pc<0)) (cj (dt (pc>=(↑p.is.length:Int))) (yP trivial)))
theorem atC(p:Pg)(pc:Int):pC_ 45 [.agg (pgA p),.int .i64 pc] (.agg (inA (atI p pc))) []:=by
 by_cases h0:0<=pc
 ·by_cases h1:pc<p.is.length
  ·rw[ot h0 h1];exact PureC.vc (B2 p pc h0 h1)
  ·rw[g7 fun h=>h1 h.2];exact PureC.vc (xQ p pc h0 h1)
 ·rw[g7 fun h=>h0 h.1];exact PureC.vc (xR p pc h0)
theorem xC(l:List En)(n:Int)(k:Nat)(hE:(if(l.length:Int)<(if n<0 then 0 else n) then(l.length:Int) else(if n<0 then 0 else n))=(k:Int))(hkl:k<=l.length)(hb:l.length<1000000):Vc (vF_ 36 [enR l, aI n] [] [(0,0)] (.own 0 0 8 0 (l.take k).length) [enB (l.take k)]):=ar (cj (show((0:Int)<=if(l.length:Int)<if n<0 then(0:Int) else n then(l.length:Int) else if n<0 then(0:Int) else n)∧(if(l.length:Int)<if n<0 then(0:Int) else n then(l.length:Int) else if n<0 then(0:Int) else n)<=(l.length:Int) from by rw[hE];omega) (cj (show Int.toNat (if(l.length:Int)<if n<0 then(0:Int) else n then(l.length:Int) else if n<0 then(0:Int) else n)*48<=140737488355328∧Int.toNat (if(l.length:Int)<if n<0 then(0:Int) else n then(l.length:Int) else if n<0 then(0:Int) else n)<=140737488355328 from by rw[hE,aE];omega) (cj (show Int.toNat (if(l.length:Int)<if n<0 then(0:Int) else n then(l.length:Int) else if n<0 then(0:Int) else n)=(List.take k l).length from by rw[hE,aP,aE];omega) (cj (show ∀(i:Nat),i<Int.toNat (if(l.length:Int)<if n<0 then(0:Int) else n then(l.length:Int) else if n<0 then(0:Int) else n)-> ∀(j:Nat),j<8->au enC l i j=au enC (List.take k l) i j from(fun i hi j hj=>by rw[hE,aE] at hi;exact pm hi)) (cj (rf (0:Nat)) (cj (show Int.toNat (if(l.length:Int)<if n<0 then(0:Int) else n then(l.length:Int) else if n<0 then(0:Int) else n)=(List.take k l).length from by rw[hE,aP,aE];omega) trivial))))))
theorem Dc(l:List En)(n:Int)(k:Nat)(hk:(k:Int)=min (max n 0) (l.length:Int))(hb:l.length<1000000):pC_ 36 [enR l,.int .i64 n] (.own 0 0 8 0 (l.take k).length) [enB (l.take k)]:=by
 refine PureC.vc (xC l n k ?_ (by omega) hb)
 rw[hk]
 repeat' split
 all_goals omega
theorem om(l:List En)(n:Int)(k:Nat)(hk:(k:Int)=min (max n 0) (l.length:Int))(hb:l.length<1000000):pC_ 36 [enR l,.int .i64 n] (enR (l.take k)) []:=(Dc l n k hk hb).frozen
theorem wq{k:Nat}(h:1<=k∧k<=16):IntKind.i64.wrap (1*2^min ((k:Int)).toNat IntKind.i64.bits)=Wd.sizeV (k:Int):=by
 rcases (by omega:k=1∨k=2∨k=3∨k=4∨k=5∨k=6∨k=7∨k=8∨k=9∨k=10∨k=11∨k=12∨k=13∨k=14∨k=15∨k=16) with rfl |rfl |rfl |rfl |rfl |rfl |rfl |rfl |rfl |rfl |rfl |rfl |rfl |rfl |rfl |rfl<;>decide
theorem rK{k:Nat}(h:1<=k∧k<=16)(n:Int):bits .and .i64 n (Wd.sizeV (k:Int)-1)=Wd.maskV (k:Int) n:=by
 have h1:Wd.okB (k:Int)=true:=Wd.okB_iff.2 (by omega)
 have:=Wd.bits_mask n k h.2
 simp only[Wd.sizeV,Wd.maskV,h1,if_true,aE]
 exact this
theorem qt(k:Nat)(h:1<=k∧k<=16):Vc (vF_ 62 [aI k] [.bd true,.bd true] [] (.bool true) []):=ar (cj (dt ((1:Int)<=k)) (cj (dt ((k:Int)<=16)) (cj (rf true) trivial)))
theorem qu(w:Int)(h:w<1):Vc (vF_ 62 [aI w] [.bd false] [] (.bool false) []):=ar (cj (df ((1:Int)<=w)) (cj (rf false) trivial))
theorem qv(w:Int)(h:16<w):Vc (vF_ 62 [aI w] [.bd true,.bd false] [] (.bool false) []):=ar (cj (dt ((1:Int)<=w)) (cj (df (w<=16)) (cj (rf false) trivial)))
theorem qo(k:Nat)(h:1<=k∧k<=16):Vc (vF_ 63 [aI k] [.cl [aI k] (.bool true) []] [] (aI (Wd.sizeV k)) []):=ar (cj (rf (k:Int)) (cj (PureC.vc (qt k h)) (cj (pv ((0:Int)<=k)) (cj (show IntKind.wrap IntKind.i64 ((1:Int)*2^Min.min k (64:Nat))=Wd.sizeV (k:Int) from(wq h)) trivial))))
theorem tu(k:Nat)(n:Int)(h:1<=k∧k<=16):Vc (vF_ 52 [aI k, aI n] [.cl [aI k] (.bool true) [],.cl [aI k] (aI (Wd.sizeV k)) []] [] (aI (Wd.maskV k n)) []):=ar (cj (rf (k:Int)) (cj (PureC.vc (qt k h)) (cj (rf (k:Int)) (cj (PureC.vc (qo k h)) (cj (show inK IntKind.i64 (Wd.sizeV (k:Int)-1) from by have:=Wd.sizeV_bd (k:Int);exact rX (by omega) (by omega)) (cj (show Go.bits Go.BinOp.and IntKind.i64 n (Wd.sizeV (k:Int)-1)=Wd.maskV (k:Int) n from(rK h n)) trivial))))))
theorem tv(w n:Int)(hm:Wd.maskV w n=0)(h:pC_ 62 [aI w] (.bool false) []):Vc (vF_ 52 [aI w, aI n] [.cl [aI w] (.bool false) []] [] (aI (Wd.maskV w n)) []):=ar (cj (rf w) (cj h (cj (show(0:Int)=Wd.maskV w n from hm.symm) trivial)))
theorem bz(w n:Int):pC_ 52 [.int .i64 w,.int .i64 n] (.int .i64 (Wd.maskV w n)) []:=by
 by_cases h:1<=w∧w<=16
 ·obtain⟨k,rfl⟩: ∃k:Nat,w=(k:Int):=⟨w.toNat,by omega⟩
  exact PureC.vc (tu k n (by omega))
 ·refine PureC.vc (tv w n (rL h) ?_)
  by_cases h1:w<1
  ·exact PureC.vc (qu w h1)
  ·exact PureC.vc (qv w (by omega))
end
end Go.Proofs.Ytlfldlnohmobmaa.Px
namespace Go.Proofs.Ytlfldlnohmobmaa.Rx
section
open Go.RowKit
section
variable{P:Program}{ops:Array Oper}{Q:Exit->Act->World->Prop}{r n:Nat}
theorem tx{o:Oper}{a:Act}{K K':Act->World->Prop}(hK: ∀a w,K a w->K' a w)(res:Result Next)(h:o.upon P a K Q res):o.uponIn (Fence.wide.inRound r) n P a K' Q res:=by
 cases res with
 |ok x w'=>
  cases x<;>simp only[Oper.upon,Oper.uponIn] at h ⊢
  case value=>exact hK _ _ h
  case skip=>exact hK _ _ h
  case defer=>exact hK _ _ h
  case enter f args=>exact⟨by simp[Fence.wide,Fence.inRound],CallsIn.inRound r (callsIn_wide.2 (h.mono fun e w'' he=>by cases e<;>first |exact hK _ _ he |exact he))⟩
  case row row args=>exact⟨by simp[Fence.wide,Fence.inRound],fun c cs _=>let⟨v,w'',q,s⟩:=h c cs;⟨v,w'',hK _ _ q,stepsIn_wide.2 s⟩⟩
  all_goals exact h
 |halt x w'=>cases x<;>simp only[Oper.upon,Oper.uponIn] at h ⊢ <;>exact h
def gT(ops:Array Oper):Bool:=ops.toList.all fun o=>match o.op with | .defer _=>false |_=>true
theorem n6{i:Nat}{o:Oper}(h:gT ops=true)(ho:ops[i]? =some o): ∀c,o.op≠ .defer c:=fun c e=>by
 unfold gT at h
 rw[aC] at h
 have:=h o (by have:=eI ho;simpa using this)
 rw[e] at this
 simp at this
theorem dV(hL: ¬LetsOut Q)(hd:gT ops=true): ∀(l:List Nat) (a:Act) (w:World),wpOps P ops Q l a w->wpOpsIn (Fence.wide.inRound r) n P ops Q l a w
 | [],a,w,h=>h
 |i::l,a,w,h=>by
  unfold wpOps at h
  unfold wpOpsIn
  cases ho:ops[i]? with
  |none=>rw[ho] at h;exact dV hL hd l a w h
  |some o=>
   rw[ho] at h
   simp only at h ⊢
   split
   ·rename_i hw
    rw[ao hw] at h
    rcases h with h |h
    ·refine⟨fun f _=>trivial, ?_⟩
     rw[show Oper.semAt (Fence.wide.inRound r).round a.eval o=execOp a.eval o from Oper.semAt_eq _ _ _ (n6 hd ho)]
     exact tx (fun a w=>dV hL hd l a w) _ h
    ·exact absurd h.2 hL
   ·rename_i hw
    rw[aj hw] at h
    exact⟨fun f _=>trivial,dV hL hd l _ w h⟩
theorem qr{id:Nat}{a:Act}{w:World}(hL: ¬LetsOut Q)(hd:gT ops=true)(hm:P.follows .mixedOrders=true)
  (h:wpAny P .any ops Q ops.size (Array.replicate ops.size false) a {w with drawn:=w.drawn+1}):(Code.region id ops true).wpIn (Fence.wide.inRound r) n P Q a w:=
 wpIn_region_draw fun t=>by
  simp only[Region.schedule,hm,Bool.true_or,if_true]
  exact dV hL hd _ a _ (wpAny_sound ops.size t _ a _ h)
end
def dZ:Code->Bool
 | .skip | .exit _ | .ret=>true
 | .region _ ops _=>gT ops
 | .seq a b | .cond _ a b=>dZ a&&dZ b
 | .block _ c=>dZ c
 |_=>false
section
variable{P:Program}
abbrev b6:Dfs:=⟨[]⟩
theorem bG{md:Bool}{call:bR}(hcall:dF P call){nt l n:Nat}: ∀(c:Code) {st:St} {orc:List Orc} {q:X×St×List Orc×List Prop} {cx:Cx} {a:Act},dZ c=true->bt P (eF P md) false md call nt c st orc=some q->(∀p∈q.2.2.2,p)-> @SRep b6 cx st a nt->
  ∀Q:Exit->Act->World->Prop, ¬LetsOut Q->(∀cx' a', @SRep b6 cx' q.2.1 a' nt->Stab cx cx'->Q q.1.to a' cx'.w)->c.wpIn (Fence.wide.inRound l) n P Q a cx.w
 | .skip,st,orc,q,cx,a,hc,h,hp,hs,Q,hL,hQ=>by
  simp only[bt,ah] at h;subst h
  exact wpIn_skip (hQ cx a hs (Stab.refl cx))
 | .region id ops draw,st,orc,q,cx,a,hc,h,hp,hs,Q,hL,hQ=>by
  have hreg: ∀{orc':List Orc} {q1:St×List Orc×List Prop},kq P (eF P md) md call nt ops draw st orc'=some q1->(∀p∈q1.2.2,p)->(∀cx' a', @SRep b6 cx' q1.1 a' nt->Stab cx cx'->Q .normal a' cx'.w)->(Code.region id ops draw).wpIn (Fence.wide.inRound l) n P Q a cx.w:=by
   intro orc' q1 hq1 hp1 hQ1
   unfold kq at hq1
   cases draw with
   |true=>
    obtain⟨h1,h2⟩:= @ly P b6 md call hcall nt ops st orc' q1 cx a hq1 hp1 hs Q hQ1
    exact qr hL hc h1 h2
   |false=>exact wpIn_region (dV hL hc _ a _ (@ej P b6 md call hcall nt ops Q _ _ _ _ _ _ hq1 hp1 hs hQ1))
  unfold bt at h
  split at h
  ·simp at h
  ·cases hdw:draw with
   |true=>rw[hdw] at h;simp at h
   |false=>
    rw[hdw] at h
    simp only[aW] at h
    obtain⟨q1,hq1,rfl⟩:=ab.1 h
    rw[<-hdw] at hq1 ⊢
    exact hreg hq1 hp hQ
  ·obtain⟨q1,hq1,rfl⟩:=ab.1 h
   exact hreg hq1 hp hQ
 | .seq c d,st,orc,q,cx,a,hc,h,hp,hs,Q,hL,hQ=>by
  unfold bt at h
  rw[dZ,al] at hc
  obtain⟨q1,hq1,h1⟩:=ae.1 h
  clear h
  refine wpIn_seq ?_
  split at h1
  ·rename_i hx
   obtain⟨q2,hq2,rfl⟩:=ab.1 h1
   refine bG hcall c hc.1 hq1 (fun p hp'=>hp p (by simp[hp'])) hs _ (fun⟨a,w,h⟩=>hL ⟨a,w,h⟩) fun cx1 a1 hs1 ha1=> ?_
   rw[hx]
   exact bG hcall d hc.2 hq2 (fun p hp'=>hp p (by simp[hp'])) hs1 Q hL fun cx2 a2 hs2 ha2=>hQ cx2 a2 hs2 (ha1.trans ha2)
  ·rename_i hx
   simp only[ah] at h1;subst h1
   refine bG hcall c hc.1 hq1 hp hs _ (fun⟨a,w,h⟩=>hL ⟨a,w,h⟩) fun cx1 a1 hs1 ha1=> ?_
   have:=hQ cx1 a1 hs1 ha1
   cases hxx:q1.1 with
   |nrm=>exact absurd hxx hx
   |ext id=>rw[hxx] at this;exact this
   |ret=>rw[hxx] at this;exact this
 | .cond x c d,st,orc,q,cx,a,hc,h,hp,hs,Q,hL,hQ=>by
  unfold bt at h
  rw[dZ,al] at hc
  split at h
  ·simp at h
  split at h
  ·rename_i t ht
   have hr:=fG (cx:=cx) (a:=a) (@SRep.env b6 _ _ _ _ hs) x
   rw[ht] at hr
   have hv:=hr.bool_inv
   split at h
   ·rename_i t' orc' _
    obtain⟨q1,hq1,rfl⟩:=ab.1 h
    have e:=hp (t=t') (by simp)
    subst e
    refine wpIn_cond hv ?_
    cases t with
    |true=>exact bG hcall c hc.1 hq1 (fun p hp'=>hp p (by simp[hp'])) hs Q hL hQ
    |false=>exact bG hcall d hc.2 hq1 (fun p hp'=>hp p (by simp[hp'])) hs Q hL hQ
   ·refine wpIn_cond hv ?_
    cases t with
    |true=>exact bG hcall c hc.1 h hp hs Q hL hQ
    |false=>exact bG hcall d hc.2 h hp hs Q hL hQ
  ·cases h
 | .block id c,st,orc,q,cx,a,hc,h,hp,hs,Q,hL,hQ=>by
  unfold bt at h
  split at h
  ·simp at h
  obtain⟨q1,hq1,h1⟩:=ab.1 h
  clear h
  refine wpIn_block ?_
  have hcs:q1.2.2.2=q.2.2.2∧q1.2.1=q.2.1:=by
   rw[<-h1]
   cases hx:q1.1 with
   |nrm=>exact⟨rfl,rfl⟩
   |ext i=>
    simp only
    cases Nat.beq i id<;>exact⟨rfl,rfl⟩
   |ret=>exact⟨rfl,rfl⟩
  refine bG hcall c (by simpa [dZ] using hc) hq1 (by rw[hcs.1];exact hp) hs _ (fun⟨a,w,h⟩=>hL ⟨a,w,h⟩) fun cx1 a1 hs1 ha1=> ?_
  have:=hQ cx1 a1 (by rw[<-hcs.2];exact hs1) ha1
  cases hx:q1.1 with
  |nrm=>
   rw[hx] at h1
   simp only at h1
   rw[<-h1,hx] at this
   exact this
  |ext i=>
   rw[hx] at h1
   simp only at h1
   cases hb:Nat.beq i id with
   |true=>
    rw[hb] at h1
    simp only[aK] at h1
    have e:=ai hb
    subst e
    rw[<-h1] at this
    simp only[X.to,Exit.inBlock,if_true]
    exact this
   |false=>
    rw[hb] at h1
    simp only[aW] at h1
    rw[<-h1,hx] at this
    have hne: ¬i=id:=fun e=>by rw[e,cZ] at hb;cases hb
    simp only[X.to,Exit.inBlock,hne,if_false]
    exact this
  |ret=>
   rw[hx] at h1
   simp only at h1
   rw[<-h1,hx] at this
   exact this
 | .exit id,st,orc,q,cx,a,hc,h,hp,hs,Q,hL,hQ=>by
  simp only[bt,ah] at h;subst h
  exact wpIn_exit (hQ cx a hs (Stab.refl cx))
 | .ret,st,orc,q,cx,a,hc,h,hp,hs,Q,hL,hQ=>by
  simp only[bt,ah] at h;subst h
  exact wpIn_ret (hQ cx a hs (Stab.refl cx))
 | .loop _,st,orc,q,cx,a,hc,h,hp,hs,Q,hL,hQ=>by cases hc
 | .rangeFunc ..,st,orc,q,cx,a,hc,h,hp,hs,Q,hL,hQ=>by cases hc
 | .scope _,st,orc,q,cx,a,hc,h,hp,hs,Q,hL,hQ=>by cases hc
 | .label _,st,orc,q,cx,a,hc,h,hp,hs,Q,hL,hQ=>by cases hc
 | .goto _,st,orc,q,cx,a,hc,h,hp,hs,Q,hL,hQ=>by cases hc
 | .refuse _,st,orc,q,cx,a,hc,h,hp,hs,Q,hL,hQ=>by cases hc
end
end
section
open Go.RowKit
def sW(P:Program)(gf:FuncId)(caps:List AV)(N:Nat)(xs:Nat->List AV):Prop:=
 ∀(w:World) (R:Nat->Prop) (vs:Array Value),(∀g,R g->g<w.heap.size)->caps.length=vs.size->(∀(j:Nat) a v,caps[j]? =some a->vs[j]? =some v->RepP w R a v)->
  ∀(n l:Nat) (J:Nat->World->Prop) (Jx:World->Prop),(∀k W W',J k W->Below W.heap.size W W'->J k W')->(∀k W,J k W-> ∀g,R g->W.heap[g]? =w.heap[g]?)->
   (∀k W (us:Array Value),J k W->k<N->(xs k).length=us.size->(∀(j:Nat) a u,(xs k)[j]? =some a->us[j]? =some u->RepP W R a u)->
    YieldAt Fence.wide (n-1) P l us W fun e W'=>(e= .returned (.bool true)∧J (k+1) W')∨(e= .returned (.bool false)∧Jx W'))->
   ∀W,J 0 W->CallsIn Fence.wide n P gf (#[.func (.yield l) #[] #[]]++vs) W fun e W'=>(∃v,e= .returned v)∧(J N W'∨Jx W')
structure BSt (cx cx':Cx):Prop where
 ext:Ext cx cx'
 box: ∀id b,cx.H id=some b->b.c.isBox=true-> ∃b',cx'.H id=some b'∧b'.c.isBox=true∧cx'.φ id=cx.φ id
theorem Stab.bst{cx cx':Cx}(h:Stab cx cx'):BSt cx cx':=⟨h.ext,fun id b hb hx=>by
 obtain⟨b',h1,h2,h3⟩:=h.ids id b hb
 obtain⟨h4,h5⟩:=h2 (h3 hx)
 exact⟨b',h1,h5.box hx,h4⟩⟩
theorem BSt.trans{a b c:Cx}(h:BSt a b)(k:BSt b c):BSt a c:=⟨h.ext.trans k.ext,fun id x hx hb=>by
 obtain⟨y,h1,h2,h3⟩:=h.box id x hx hb
 obtain⟨z,k1,k2,k3⟩:=k.box id y h1 h2
 exact⟨z,k1,k2,k3.trans h3⟩⟩
def keepC:AV->Bool
 | .own .. | .eptr .. | .agg _ | .tup _ | .clo _ (_::_)=>false
 |_=>true
def jY:AV->Bool
 | .agg cs=>cs.all keepC
 | .tup cs=>cs.all keepC
 | .clo _ cs=>cs.all keepC
 |a=>keepC a
theorem Rep.keepC{cx cx':Cx}{a:AV}{v:Value}(h:Rep cx a v)(ha:Rx.keepC a=true)(hc:CRep cx)(hs:BSt cx cx'):Rep cx' a v:=by
 cases h with
 |pure h=>exact .pure (h.ext hc hs.ext)
 |bptr hb hx hg=>
  obtain⟨b',h1,h2,h3⟩:=hs.box _ _ hb hx
  exact .bptr h1 h2 (h3.trans hg)
 |bsl hb hx hg=>
  obtain⟨b',h1,h2,h3⟩:=hs.box _ _ hb hx
  exact .bsl h1 h2 (h3.trans hg)
 |eptr hb hle ho h=>cases ha
 |own hb hle ho h=>cases ha
 |agg hl h1 h=>cases ha
 |tup hl h=>cases ha
 | @clo f cs vs hl h=>
  cases cs with
  |nil=>exact .clo hl fun j a v hj=>by simp at hj
  |cons c cs=>cases ha
theorem Rep.keep{cx cx':Cx}{a:AV}{v:Value}(h:Rep cx a v)(ha:jY a=true)(hc:CRep cx)(hs:BSt cx cx'):Rep cx' a v:=by
 cases h with
 |agg hl h1 h=>exact .agg hl h1 fun j a v hj hv=>(h j a v hj hv).keepC (aC.1 ha a (aJ hj)) hc hs
 |tup hl h=>exact .tup hl fun j a v hj hv=>(h j a v hj hv).keepC (aC.1 ha a (aJ hj)) hc hs
 |clo hl h=>exact .clo hl fun j a v hj hv=>(h j a v hj hv).keepC (aC.1 ha a (aJ hj)) hc hs
 |pure h=>exact .pure (h.ext hc hs.ext)
 |bptr hb hx hg=>exact(Rep.bptr hb hx hg).keepC rfl hc hs
 |bsl hb hx hg=>exact(Rep.bsl hb hx hg).keepC rfl hc hs
 |eptr hb hle ho h=>cases ha
 |own hb hle ho h=>cases ha
def pI(env:Nat->AV):List Nat->List AV->(Nat->AV)
 |p::ps,x::xs=>pI (upd env p x) ps xs
 |_,_=>env
def oY(r:List (Nat×Nat))(Hk Hk':List (Nat×Blk)):Bool:=Hk.all fun q=> !q.2.c.isBox||(match aS r q.1,aS Hk' q.1 with
 |some i,some b=>Nat.beq i q.1&&b.c.isBox
 |_,_=>false)
theorem oq{r:List (Nat×Nat)}{Hk Hk':List (Nat×Blk)}(h:oY r Hk Hk'=true){id:Nat}{b:Blk}(hb:aS Hk id=some b)(hx:b.c.isBox=true):aS r id=some id∧ ∃b',aS Hk' id=some b'∧b'.c.isBox=true:=by
 have:=aC.1 h _ (cI hb)
 simp only[hx,Bool.not_true,Bool.false_or] at this
 split at this
 ·rename_i i b' h1 h2
  rw[al] at this
  rw[ai this.1] at h1
  exact⟨h1,b',h2,this.2⟩
 ·cases this
def sU(P:Program)(nt:Nat)(c:Code)(st:St)(x:X)(st':St):Prop:=
 ∀(l n:Nat) (cx:Cx) (a:Act), @SRep b6 cx st a nt-> ∀Q:Exit->Act->World->Prop, ¬LetsOut Q->(∀cx' a', @SRep b6 cx' st' a' nt->Stab cx cx'->Q x.to a' cx'.w)->c.wpIn (Fence.wide.inRound l) n P Q a cx.w
def Rnd(P:Program)(nt:Nat)(ps:List Nat)(xk:List AV)(assign body:Code)(I:Sm)(Hk:List (Nat×Blk))(x:X)(Hk':List (Nat×Blk)):Prop:=
 ∃st1 st2 r qs,sU P nt assign ⟨pI I.st.env ps xk,aS Hk,I.next⟩ .nrm st1∧sU P nt body st1 x st2∧oY r Hk Hk'=true∧leS r st2 ⟨[],Hk',I.next⟩=some qs∧ ∀p∈qs,p
def kY(P:Program)(md:Bool)(nt:Nat)(ps:List Nat)(xk:List AV)(assign body:Code)(I:Sm)(Hk:List (Nat×Blk))(orc:List Orc)(x:X)(r:List (Nat×Nat))(Hk':List (Nat×Blk)):Prop:=
 match bt P (eF P md) false md (iV P (jd P (eF P md) md 100 false)) nt assign ⟨pI I.st.env ps xk,aS Hk,I.next⟩ orc with
 |some q=>match bt P (eF P md) false md (iV P (jd P (eF P md) md 100 false)) nt body q.2.1 q.2.2.1 with
  |some q2=>bif dZ assign&&dZ body&&eqX q.1 .nrm&&eqX q2.1 x&&oY r Hk Hk' then match leS r q2.2.1 ⟨[],Hk',I.next⟩ with
   |some qs=>mj (q.2.2.2++q2.2.2.2++qs)
   |none=>False
   else False
  |none=>False
 |none=>False
section
variable{P:Program}
theorem Rnd.vc{md:Bool}{nt:Nat}{ps:List Nat}{xk:List AV}{assign body:Code}{I:Sm}{Hk Hk':List (Nat×Blk)}{orc:List Orc}{x:X}{r:List (Nat×Nat)}(h:Vc (kY P md nt ps xk assign body I Hk orc x r Hk')):Rnd P nt ps xk assign body I Hk x Hk':=by
 replace h:=h.out
 unfold kY at h
 split at h
 ·rename_i q hq
  split at h
  ·rename_i q2 hq2
   cases hb:dZ assign&&dZ body&&eqX q.1 .nrm&&eqX q2.1 x&&oY r Hk Hk' with
   |false=>rw[hb] at h;exact h.elim
   |true=>
    rw[hb] at h
    simp only[aK] at h
    simp only[al] at hb
    obtain⟨⟨⟨⟨b1,b2⟩,b3⟩,b4⟩,b5⟩:=hb
    split at h
    ·rename_i qs hqs
     have hall:=fP h
     refine⟨q.2.1,q2.2.1,r,qs,fun l n cx a hs Q hL hQ=> ?_,fun l n cx a hs Q hL hQ=> ?_,b5,hqs,fun p hp=>hall p (by simp[hp])⟩
     ·exact bG (gE 100) assign b1 hq (fun p hp=>hall p (by simp[hp])) hs Q hL (by rw[ol b3];exact hQ)
     ·exact bG (gE 100) body b2 hq2 (fun p hp=>hall p (by simp[hp])) hs Q hL (by rw[ol b4];exact hQ)
    ·cases h
  ·cases h
 ·cases h
theorem nz{cx:Cx}: ∀(ps:List Nat) (xs:List AV) (us:List Value) (env:Nat->AV) (t:Array Value),xs.length=us.length->ps.length=us.length->(∀p∈ps,p<t.size)->(∀i,Rep cx (env i) (t.getD i undef))->(∀(j:Nat) a u,xs[j]? =some a->us[j]? =some u->Rep cx a u)->
  ∀i,Rep cx (pI env ps xs i) (((ps.zip us).foldl (fun t q=>t.setIfInBounds q.1 q.2) t).getD i undef)
 | [],xs,us,env,t,h1,h2,hp,he,hx,i=>by cases xs<;>simpa [pI] using he i
 |p::ps,[],us,env,t,h1,h2,hp,he,hx,i=>by simp at h1 h2;omega
 |p::ps,x::xs,[],env,t,h1,h2,hp,he,hx,i=>by simp at h2
 |p::ps,x::xs,u::us,env,t,h1,h2,hp,he,hx,i=>by
  refine nz ps xs us (upd env p x) (t.setIfInBounds p u) (by simpa using h1) (by simpa using h2) (fun q hq=>by rw[dO];exact hp q (by simp[hq])) (fun k=> ?_) (fun j a v ha hv=>hx (j+1) a v (by simpa using ha) (by simpa using hv)) i
  rw[aO,di]
  by_cases e:k=p
  ·subst e
   rw[aR]
   have:=hp k (by simp)
   simpa [this] using hx 0 x u rfl rfl
  ·rw[aL _ _ _ _ e]
   have e': ¬p=k:=fun h=>e h.symm
   simp only[e',if_false]
   rw[<-aO]
   exact he k
theorem ln: ∀(l:List (Nat×Value)) (t:Array Value),(l.foldl (fun t q=>t.setIfInBounds q.1 q.2) t).size=t.size
 | [],t=>rfl
 |q::l,t=>by rw[List.foldl_cons,ln l,dO]
def bu(fn:FuncId)(a:Act)(ps:Array Tmp)(assign body:Code)(D:Nat)(st:LoopState)(pe:Option Code):Loop:={state:=st,pending:=pe,fn,tmps:=a.tmps,params:=ps,assign,body,defers:=D}
def xx(P:Program)(l:Nat)(jump:Option Code)(w:World)(R:Ending->World->Prop):Prop:= ∃v w',(Instr.endRound l jump).run P w= .ok v w'∧R (.returned v) w'
structure Btw (P:Program) (cx0:Cx) (I:Sm) (a:Act) (nt:Nat) (l D:Nat) (rec:Loop) (Hk:List (Nat×Blk)) (W:World) (cx:Cx):Prop where
 w:cx.w=W
 s: @SRep b6 cx ⟨I.st.env,aS Hk,I.next⟩ a nt
 bst:Ext cx0 cx
 hl:W.heap[l]? =some (.loop rec)
 hR: ¬cx.R l
 hD:W.heap[D]? =some (.deferred (some []))
 hRD: ¬cx.R D
theorem SRep.moved{d:Dfs}{cx cx':Cx}{st:St}{a:Act}{nt:Nat}(hs: @SRep d cx st a nt)(hc:CRep cx')(h:Stab cx cx')(hH:cx'.H=cx.H:=by rfl): @SRep d cx' st a nt:=
 ⟨hH.trans hs.H,hc,fun t=>(hs.env t).stab hs.c h,hs.lt,hs.sz,hs.df⟩
theorem Btw.below{cx0:Cx}{I:Sm}{a:Act}{nt l D:Nat}{rec:Loop}{Hk:List (Nat×Blk)}{W W':World}{cx:Cx}(h:Btw P cx0 I a nt l D rec Hk W cx)(hb:Below W.heap.size W W'):Btw P cx0 I a nt l D rec Hk W' ⟨W',cx.R,cx.φ,cx.H,cx.B⟩:=by
 have hw:=h.w
 subst hw
 obtain⟨k1,k2⟩:=eZ (@SRep.c b6 _ _ _ _ h.s) hb
 have hk: ∀(g:Nat) (o:Obj),cx.w.heap[g]? =some o->W'.heap[g]? =some o:=fun g o hg=>(hb.block g (aD.1 hg).1).trans hg
 exact⟨rfl,h.s.moved k1 k2,h.bst.trans k2.ext,hk _ _ h.hl,h.hR,hk _ _ h.hD,h.hRD⟩
theorem Btw.turn{cx0:Cx}{I:Sm}{a:Act}{nt l D:Nat}{rec:Loop}{Hk:List (Nat×Blk)}{W:World}{cx:Cx}(h:Btw P cx0 I a nt l D rec Hk W cx)(hB: ¬cx.B l)(hne:D≠l)(rec':Loop):Btw P cx0 I a nt l D rec' Hk (W.putObj l (.loop rec')) (cx.poke l (.loop rec')):=by
 have hw:=h.w
 subst hw
 exact⟨rfl, @SRep.poke b6 _ _ _ _ h.s l _ _ h.hl rfl h.hR hB,h.bst.trans (eD _ h.hR hB).ext,World.putObj_heap_same (aD.1 h.hl).1,h.hR,(World.putObj_heap_other hne).trans h.hD,h.hRD⟩
end
end
section
open Go.RowKit
section
variable{P:Program}
theorem Btw.round{nt:Nat}{ps:List Nat}{xk:List AV}{assign body:Code}{I:Sm}{Hk Hk':List (Nat×Blk)}{x:X}(hr:Rnd P nt ps xk assign body I Hk x Hk'){cx0:Cx}{a:Act}{l D fn:Nat}{pa:Array Tmp}{W:World}{cx:Cx}
  (h:Btw P cx0 I a nt l D (bu fn a pa assign body D .ready none) Hk W cx)(hB: ¬cx.B l)(hBD: ¬cx.B D)(hne:D≠l)(hkeep:(I.env.all fun q=>jY q.2)=true)(hps:ps=pa.toList)(hlt: ∀p∈ps,p<nt)
  {us:Array Value}(hl1:xk.length=us.size)(hl2:xk.length=ps.length)(hu: ∀(j:Nat) a u,xk[j]? =some a->us[j]? =some u->Rep cx a u){m:Nat}{jump:Option Code}(hj:jump=match x with | .nrm=>none | .ext id=>some (.exit id)| .ret=>some .ret):
  YieldAt Fence.wide m P l us W fun e W'=>e= .returned (.bool jump.isNone)∧ ∃cx',Btw P cx0 I a nt l D (bu fn a pa assign body D (if jump.isNone then .ready else .done) jump) Hk' W' cx'∧cx'.B=cx.B:=by
 have hw:=h.w
 subst hw
 letI:Dfs:=b6
 obtain⟨st1,st2,r,qs,hP1,hP2,hbx,hle,hqs⟩:=hr
 have hs:=h.s
 have hy:=run_yield (P:=P) (args:=us) h.hl (by show us.size=pa.size;rw[<-hl1,hl2,hps,cc])
 refine⟨fn,_,assign,body,hy,roundIn_of_wpIn trivial ?_⟩
 clear hy
 have ha0:(({tmps:=(pa.zip us).foldl (fun t q=>t.setIfInBounds q.1 q.2) a.tmps,defers:=[]}:Act)).tmps.size=nt:=by
  show((pa.zip us).foldl (fun t q=>t.setIfInBounds q.1 q.2) a.tmps).size=nt
  rw[<-Array.foldl_toList,ln]
  exact hs.sz
 have hs1: @SRep b6 cx ⟨pI I.st.env ps xk,aS Hk,I.next⟩ {tmps:=(pa.zip us).foldl (fun t q=>t.setIfInBounds q.1 q.2) a.tmps,defers:=[]} nt:=by
  refine @SRep.mk b6 _ _ _ _ hs.H (@SRep.c b6 _ _ _ _ hs) (fun t=> ?_) hs.lt ha0 rfl
  show Rep cx _ (((pa.zip us).foldl (fun t q=>t.setIfInBounds q.1 q.2) a.tmps).getD t undef)
  rw[<-Array.foldl_toList,Array.toList_zip, <-hps]
  exact nz ps xk us.toList I.st.env a.tmps (by simpa using hl1) (by rw[<-hl2,hl1,cc]) (fun p hp=>by rw[hs.sz];exact hlt p hp) (fun t=> @SRep.env b6 _ _ _ _ hs t) (fun j a u h1 h2=>hu j a u h1 (by simpa using h2)) t
 have hS: ∀E∈[l,D], ¬cx.R E∧ ∃o,cx.w.heap[E]? =some o∧o.isCells=false:=fun E hE=>by
  rcases bE.1 hE with rfl |hE
  ·exact⟨h.hR,_,h.hl,rfl⟩
  ·rw[aA.1 hE];exact⟨h.hRD,_,h.hD,rfl⟩
 refine hP1 l m (cx.plus [l,D]) _ (@SRep.plus b6 _ _ _ _ hs1 [l,D] fun E hE=>(hS E hE).2) _ (by rintro⟨_,_,h⟩;exact h) fun cxa aa hsa hta=> ?_
 have ka:=gw hta.ext hS
 have kl:=ka l (by simp);have kD:=ka D (by simp)
 have hal:cxa.w.heap[l]? =some (.loop (bu fn a pa assign body D .ready none)):=kl.1.trans h.hl
 have haD:cxa.w.heap[D]? =some (.deferred (some [])):=kD.1.trans h.hD
 have hsa': @SRep b6 (cxa.back cx) st1 aa nt:= @SRep.back b6 _ _ _ _ _ hsa fun g hg=>by rw[hta.ext.B];exact .inl hg
 refine⟨_,run_beginRound hal rfl, ?_⟩
 have hlt1:l<cxa.w.heap.size:=(aD.1 hal).1
 have hsb: @SRep b6 ((cxa.back cx).poke l (.loop (bu fn a pa assign body D .busy none))) st1 aa nt:= @SRep.poke b6 _ _ _ _ hsa' l _ _ hal rfl kl.2 hB
 have hbl:(cxa.w.putObj l (.loop (bu fn a pa assign body D .busy none))).heap[l]? =some (.loop (bu fn a pa assign body D .busy none)):=World.putObj_heap_same hlt1
 have hbD:(cxa.w.putObj l (.loop (bu fn a pa assign body D .busy none))).heap[D]? =some (.deferred (some [])):=(World.putObj_heap_other hne).trans haD
 have hS2: ∀E∈[l,D], ¬((cxa.back cx).poke l (.loop (bu fn a pa assign body D .busy none))).R E∧ ∃o,((cxa.back cx).poke l (.loop (bu fn a pa assign body D .busy none))).w.heap[E]? =some o∧o.isCells=false:=fun E hE=>by
  rcases bE.1 hE with rfl |hE
  ·exact⟨kl.2,_,hbl,rfl⟩
  ·rw[aA.1 hE];exact⟨kD.2,_,hbD,rfl⟩
 have hstb:Stab cx ((cxa.back cx).poke l (.loop (bu fn a pa assign body D .busy none))):=hta.back.trans (eD _ kl.2 hB)
 refine hP2 l m (((cxa.back cx).poke l (.loop (bu fn a pa assign body D .busy none))).plus [l,D]) _ (@SRep.plus b6 _ _ _ _ hsb [l,D] fun E hE=>(hS2 E hE).2) _ (by rintro⟨_,_,h⟩;exact h) fun cxc ac hsc htc=> ?_
 obtain⟨m1,m2,m3⟩:=dP (@SRep.c b6 _ _ _ _ hsc) (@SRep.H b6 _ _ _ _ hsc) hle hqs (@SRep.env b6 _ _ _ _ hsc)
 have hre:=eR (@SRep.c b6 _ _ _ _ hsc) r (aS Hk')
 have hed:Ext (((cxa.back cx).poke l (.loop (bu fn a pa assign body D .busy none))).plus [l,D]) (cxc.ren r (aS Hk')):=htc.ext.trans hre
 have kc:=gw hed hS2
 have ml:=kc l (by simp);have mD:=kc D (by simp)
 have hcl:cxc.w.heap[l]? =some (.loop (bu fn a pa assign body D .busy none)):=ml.1.trans hbl
 have hcD:cxc.w.heap[D]? =some (.deferred (some [])):=mD.1.trans hbD
 have hbst:BSt cx ((cxc.ren r (aS Hk')).back ((cxa.back cx).poke l (.loop (bu fn a pa assign body D .busy none)))):=by
  refine⟨hstb.ext.trans hed.back,fun id b hb hx=> ?_⟩
  obtain⟨b1,h1,h2,h3⟩:=hstb.bst.box id b hb hx
  obtain⟨b2,h4,h5,h6⟩:=htc.bst.box id b1 h1 h2
  have hb':aS Hk id=some b:=by rw[<-hb, @SRep.H b6 _ _ _ _ hs]
  obtain⟨q1,b',q2,q3⟩:=oq hbx hb' hx
  refine⟨b',q2,q3, ?_⟩
  show(aS r id).bind cxc.φ=cx.φ id
  rw[q1]
  exact h6.trans h3
 have hsd: @SRep b6 ((cxc.ren r (aS Hk')).back ((cxa.back cx).poke l (.loop (bu fn a pa assign body D .busy none)))) ⟨I.st.env,aS Hk',I.next⟩ a nt:=by
  have hB2: ∀g,cx.B g->(cxc.ren r (aS Hk')).B g:=fun g hg=>by rw[hed.B];exact .inl hg
  have hc2: @SRep b6 (cxc.ren r (aS Hk')) ⟨fun _=> .junk,aS Hk',I.next⟩ ac nt:= @SRep.mk b6 _ _ _ _ rfl m1 (fun t=> .pure (.junk _)) m3 (@SRep.sz b6 _ _ _ _ hsc) (@SRep.df b6 _ _ _ _ hsc)
  have hc3:= @SRep.back b6 ((cxa.back cx).poke l (.loop (bu fn a pa assign body D .busy none))) _ _ _ _ hc2 hB2
  refine @SRep.mk b6 _ _ _ _ rfl (@SRep.c b6 _ _ _ _ hc3) (fun t=> ?_) m3 (@SRep.sz b6 _ _ _ _ hs) (@SRep.df b6 _ _ _ _ hs)
  refine(@SRep.env b6 _ _ _ _ hs t).keep ?_ (@SRep.c b6 _ _ _ _ hs) hbst
  show jY (gc .junk I.env t)=true
  have: ∀(L:List (Nat×AV)),(L.all fun q=>jY q.2)=true->jY (gc .junk L t)=true:=fun L=>by
   induction L with
   |nil=>intro _;rfl
   |cons q L ih=>
    obtain⟨k,v⟩:=q
    intro hL
    rw[iI,al] at hL
    rw[gc]
    cases Nat.beq t k with
    |true=>exact hL.1
    |false=>exact ih hL.2
  exact this I.env hkeep
 have hbtw:Btw P cx0 I a nt l D (bu fn a pa assign body D .busy none) Hk' cxc.w ((cxc.ren r (aS Hk')).back ((cxa.back cx).poke l (.loop (bu fn a pa assign body D .busy none)))):=
  ⟨rfl,hsd,h.bst.trans hbst.ext,hcl,ml.2,hcD,mD.2⟩
 have hend:=run_endRound (P:=P) jump hcl
 have hfin:xx P l jump cxc.w (fun e W'=>e= .returned (.bool jump.isNone)∧ ∃cx',Btw P cx0 I a nt l D (bu fn a pa assign body D (if jump.isNone then .ready else .done) jump) Hk' W' cx'∧cx'.B=cx.B):=
  ⟨_,_,hend,rfl,_,hbtw.turn hB hne _,rfl⟩
 subst hj
 cases x with
 |nrm=>exact hfin
 |ext id=>exact hfin
 |ret=>exact hfin
theorem Ok.range{nt:Nat}{g:Operand}{pa:Array Tmp}{assign body:Code}{gf:FuncId}{caps:List AV}{N m:Nat}{xs:Nat->List AV}{I:Sm}{F:Nat->List (Nat×Blk)}{x:X}{G:List (Nat×Blk)}
  (hg:bA I.st.env g= .clo gf caps)(hcb:caps.all dg=true)(hkeep:(I.env.all fun q=>jY q.2)=true)(hfo:gC P gf=true)(hit:sW P gf caps N xs)(hpl: ∀k,(xs k).length=pa.size)(hlt: ∀p∈pa.toList,p<nt)(hF0:F 0=I.heap)(hm:m<=N)
  (hr: ∀k,k<m->Rnd P nt pa.toList (xs k) assign body I (F k) .nrm (F (k+1)))
  (hend:(m=N∧x= .nrm∧G=F N)∨(m<N∧x≠ .nrm∧Rnd P nt pa.toList (xs m) assign body I (F m) x G)):Ok P nt (.rangeFunc g pa assign body) I.st x (⟨I.env,G,I.next⟩:Sm).st:=by
 intro d cx a hs Q hQ
 obtain⟨fo,g1,g2,g3⟩:=cJ hfo
 obtain⟨bd,hbd⟩:=aw.1 g2
 have hge:=fG hs.env g
 rw[hg] at hge
 obtain⟨vs,hv,hvl,hvr⟩:=hge.clo_inv
 refine(wpIn_wide (n:=2)).1 (wpIn_rangeFunc ?_)
 intro fn hfn
 obtain⟨l,hl⟩: ∃l,l=cx.w.heap.size+1:=⟨_,rfl⟩
 obtain⟨D,hD⟩: ∃D,D=cx.w.heap.size:=⟨_,rfl⟩
 obtain⟨a0,ha0⟩: ∃a0:Act,a0={tmps:=a.tmps,defers:=[]}:=⟨_,rfl⟩
 have hat:a0.tmps=a.tmps:=by rw[ha0]
 obtain⟨W1,hW1⟩: ∃W1,(cx.w.alloc (.deferred (some []))).alloc (.loop (bu fn a0 pa assign body D .ready none))=W1:=⟨_,rfl⟩
 have hb1:Below cx.w.heap.size cx.w W1:=by rw[<-hW1];exact(((Below.refl _ _).alloc (ax _) _).alloc (by simp) _)
 have hW1l:W1.heap[l]? =some (.loop (bu fn a0 pa assign body D .ready none)):=by
  rw[<-hW1,hl];have:=World.alloc_heap_new (cx.w.alloc (.deferred (some []))) (.loop (bu fn a0 pa assign body D .ready none));rwa [World.size_alloc] at this
 have hW1D:W1.heap[D]? =some (.deferred (some [])):=by
  rw[<-hW1,hD];exact(Below.heap_alloc _ _ _ (by simp)).trans (World.alloc_heap_new cx.w _)
 have hne:D≠l:=by omega
 have hnB: ∀c:Cx,c.B=cx.B-> ¬c.B l∧ ¬c.B D:=fun c e=>by
  rw[e]
  exact⟨fun h=>by have:=hs.c.blt l h;omega,fun h=>by have:=hs.c.blt D h;omega⟩
 have hs0: @SRep b6 cx ⟨I.st.env,aS I.heap,I.next⟩ a0 nt:= @SRep.mk b6 _ _ _ _ hs.H hs.c (by rw[ha0];exact hs.env) hs.lt (by rw[ha0];exact hs.sz) (by rw[ha0];rfl)
 have h0:Btw P cx I a0 nt l D (bu fn a0 pa assign body D .ready none) (F 0) W1 ⟨W1,cx.R,cx.φ,cx.H,cx.B⟩:=by
  obtain⟨k1,k2⟩:=eZ hs.c hb1
  rw[hF0]
  exact⟨rfl,SRep.moved hs0 k1 k2,k2.ext,hW1l,fun h=>by have:=hs.c.rlt l h;omega,hW1D,fun h=>by have:=hs.c.rlt D h;omega⟩
 refine⟨l,[{target:= .collected D,args:= #[]}],W1,{target:= .fn (.func gf) vs,args:= #[.func (.yield l) #[] #[]]},W1,gf, #[.func (.yield l) #[] #[]]++vs,W1, ?_, ?_, ?_, ?_,by simp[Fence.wide], ?_⟩
 ·rw[<-hW1,hl,hD,ha0];exact run_enterLoop_outer _ _ _ _ _
 ·simp only[resolve,hv]
  simp[go_sem]
 ·intro f' hf';trivial
 ·simp[invoke,go_sem,callFunc,g1,hbd,g3]
 have hfin: ∀(st0:LoopState) (pe:Option Code) (H:List (Nat×Blk)) (W2:World) (c:Cx),Btw P cx I a0 nt l D (bu fn a0 pa assign body D st0 pe) H W2 c->c.B=cx.B->H=G->
   Q x.to {a with defers:=[{target:= .collected D,args:= #[]}]++a.defers} (W2.putObj l (.loop {bu fn a0 pa assign body D st0 pe with state:= .exhausted})):=by
  intro st0 pe H W2 c hb hcB hH
  subst hH
  have ht:=hb.turn (hnB c hcB).1 hne {bu fn a0 pa assign body D st0 pe with state:= .exhausted}
  have hw:(c.poke l (.loop {bu fn a0 pa assign body D st0 pe with state:= .exhausted})).w=W2.putObj l (.loop {bu fn a0 pa assign body D st0 pe with state:= .exhausted}):=by
   show c.w.putObj l _=_
   rw[hb.w]
  rw[<-hw]
  have htmp:=ht.s
  refine hQ ⟨D::d.l⟩ (c.poke l (.loop {bu fn a0 pa assign body D st0 pe with state:= .exhausted})) _ (@SRep.mk ⟨D::d.l⟩ _ _ _ _ (@SRep.H b6 _ _ _ _ htmp) (@SRep.c b6 _ _ _ _ htmp) (fun t=> ?_) (@SRep.lt b6 _ _ _ _ htmp) ?_ ?_) ⟨ht.bst,fun e=>(by cases e),[D],rfl,by simp,fun E hE=> ?_⟩
  ·show Rep _ _ (a.tmps.getD t undef)
   rw[<-hat]
   exact @SRep.env b6 _ _ _ _ htmp t
  ·show a.tmps.size=nt
   rw[<-hat]
   exact @SRep.sz b6 _ _ _ _ htmp
  ·show[_]++a.defers=_
   rw[hs.df]
   rfl
  ·rw[aA.1 hE]
   exact⟨by omega,ht.hRD,by rw[hw];exact ht.hD⟩
 refine(hit cx.w cx.R vs hs.c.rlt hvl (fun j b v h1 h2=>(hvr j b v h1 h2).base (aC.1 hcb b (aJ h1))) (2-1) l
  (fun k W=>k<=m∧ ∃c,Btw P cx I a0 nt l D (bu fn a0 pa assign body D .ready none) (F k) W c∧c.B=cx.B)
  (fun W=>m<N∧ ∃c,Btw P cx I a0 nt l D (bu fn a0 pa assign body D .done (match x with | .nrm=>none | .ext id=>some (.exit id)| .ret=>some .ret)) G W c∧c.B=cx.B)
  (fun k W W' ⟨hk,c,hb,hcB⟩ hbl=>⟨hk,_,hb.below hbl,hcB⟩)
  (fun k W ⟨hk,c,hb,hcB⟩ g hg=>by rw[<-hb.w];exact hb.bst.block g (hs.c.rlt g hg) (.inr hg)) ?_ W1 ⟨aY _,_,h0,rfl⟩).mono ?_
 ·rintro k W us ⟨hk,c,hb,hcB⟩ hkN hul hu
  obtain⟨hBl,hBD⟩:=hnB c hcB
  have hus: ∀(j:Nat) a u,(xs k)[j]? =some a->us[j]? =some u->Rep c a u:=fun j b u h1 h2=>by
   have:=hu j b u h1 h2
   rw[<-hb.w] at this
   exact .pure (this.mono (fun g hg=>hb.bst.R g hg) fun _ _=>rfl)
  have hpl':(xs k).length=pa.toList.length:=by rw[cc];exact hpl k
  by_cases hkm:k<m
  ·obtain⟨f1,f2,f3,f4,f5,f6⟩:=hb.round (hr k hkm) hBl hBD hne hkeep rfl hlt hul hpl' hus (m:=2-1-1) (jump:=none) rfl
   refine⟨f1,f2,f3,f4,f5,f6.mono ?_⟩
   rintro e W' ⟨rfl,c',k1,k2⟩
   exact .inl ⟨rfl,hkm,c',k1,k2.trans hcB⟩
  ·obtain rfl:k=m:=by omega
   rcases hend with⟨h1,_⟩|⟨h1,h2,h3⟩
   ·omega
   ·obtain⟨f1,f2,f3,f4,f5,f6⟩:=hb.round h3 hBl hBD hne hkeep rfl hlt hul hpl' hus (m:=2-1-1) rfl
    refine⟨f1,f2,f3,f4,f5,f6.mono ?_⟩
    rintro e W' ⟨rfl,c',k1,k2⟩
    right
    cases x with
    |nrm=>exact absurd rfl h2
    |ext id=>exact⟨rfl,h1,c',k1,k2.trans hcB⟩
    |ret=>exact⟨rfl,h1,c',k1,k2.trans hcB⟩
 ·rintro e W2 ⟨⟨v,rfl⟩,(⟨hN,c,hb,hcB⟩|⟨hlt',c,hb,hcB⟩)⟩
  ·rcases hend with⟨h1,h2,h3⟩|⟨h1,_⟩
   ·have:=hfin _ _ _ _ c hb hcB h3.symm
    rw[h2] at this
    exact⟨none,_,run_endLoop hb.hl (by simp[bu]),this⟩
   ·omega
  ·have:=hfin _ _ _ _ c hb hcB rfl
   rcases hend with⟨h1,_⟩|⟨h1,h2,h3⟩
   ·omega
   cases x with
   |nrm=>exact absurd rfl h2
   |ext id=>exact⟨some (.exit id),_,run_endLoop hb.hl (by simp[bu]),wpIn_exit this⟩
   |ret=>exact⟨some .ret,_,run_endLoop hb.hl (by simp[bu]),wpIn_ret this⟩
end
def rfs:Code->List Code
 | .seq a b=>rfs a++rfs b
 | .cond _ a b=>rfs a++rfs b
 | .block _ c=>rfs c
 | .loop c=>rfs c
 | .rangeFunc g ps a b=> .rangeFunc g ps a b::rfs b
 |_=>[]
def rfC(P:Program)(f:FuncId)(k:Nat):Code:=(rfs (sq P f)).getD k .skip
def Bo:Code->Bool
 | .rangeFunc .. =>true
 |_=>false
def rfG:Code->Operand
 | .rangeFunc g _ _ _=>g
 |_=> .tmp 0
def rfP:Code->Array Tmp
 | .rangeFunc _ ps _ _=>ps
 |_=> #[]
def rfA:Code->Code
 | .rangeFunc _ _ a _=>a
 |_=> .skip
def rfB:Code->Code
 | .rangeFunc _ _ _ b=>b
 |_=> .skip
theorem zW{c:Code}(h:Bo c=true):c= .rangeFunc (rfG c) (rfP c) (rfA c) (rfB c):=by
 cases c<;>first |rfl |cases h
theorem Ok.rangeC{P:Program}{nt:Nat}{c:Code}{gf:FuncId}{caps:List AV}{N m:Nat}{xs:Nat->List AV}{I:Sm}{F:Nat->List (Nat×Blk)}{x:X}{G:List (Nat×Blk)}(hc:Bo c=true)
  (hg:bA I.st.env (rfG c)= .clo gf caps)(hcb:caps.all dg=true)(hkeep:(I.env.all fun q=>jY q.2)=true)(hfo:gC P gf=true)(hit:sW P gf caps N xs)(hpl: ∀k,(xs k).length=(rfP c).size)(hlt:((rfP c).toList.all fun p=>Nat.blt p nt)=true)(hF0:F 0=I.heap)(hm:m<=N)
  (hr: ∀k,k<m->Rnd P nt (rfP c).toList (xs k) (rfA c) (rfB c) I (F k) .nrm (F (k+1)))
  (hend:(m=N∧x= .nrm∧G=F N)∨(m<N∧x≠ .nrm∧Rnd P nt (rfP c).toList (xs m) (rfA c) (rfB c) I (F m) x G)):Ok P nt c I.st x (⟨I.env,G,I.next⟩:Sm).st:=by
 have h:=Ok.range (P:=P) (nt:=nt) (g:=rfG c) (assign:=rfA c) (body:=rfB c) hg hcb hkeep hfo hit hpl (fun p hp=>by have:=aC.1 hlt p hp;rwa [bc] at this) hF0 hm hr hend
 rw[<-zW hc] at h
 exact h
end
end Go.Proofs.Ytlfldlnohmobmaa.Rx
namespace Go.Proofs.Ytlfldlnohmobmaa
section
open Go.RowKit Rx
attribute [local go_sem] Oper.semAt_some
theorem jy{F:Fence}{n s:Nat}{P:Program}{w:World}{ops:Array Oper}{rest:List Oper}{o:Oper}{a:Act}{Q:Exit->Act->World->Prop}(hgd:o.guard=none)(t:TypeId)(x:Operand)(ho:o.op= .load t x)(g off:Nat)(hx:a.eval x= .pointer (some ⟨g,off,none⟩))
  (hs:cU P t=some s)(hg:iW P t=some true)(us:List Value)(hl:us.length=s)(hc: ∀(j:Nat) u,us[j]? =some u->w.cell? ⟨g,off+j,none⟩=some u)(hK:wpListIn F n P ops Q rest (a.put o.dst (.agg us.toArray)) w):wpListIn F n P ops Q (o::rest) a w:=by
 refine wpListIn_plain hgd fun K hK'=> ?_
 have hrun:=fB (P:=P) hs hg us hl hc
 unfold Oper.wpIn
 refine⟨?_, ?_⟩
 ·simp[Oper.about,ho]
 ·rw[Oper.semAt_plain F _ _ (by rw[ho];intro c hc';cases hc')]
  simp[execOp,ho,hx,hrun,Result.andThen]
  exact hK' _ _ hK
set_option maxRecDepth 100000 in
set_option maxHeartbeats 4000000 in
theorem kW(n l gS oS len cap:Nat)(A:Option Addr)(u:Nat->Nat->Value)(b off:Nat)(hlen:len<=1000000)(hA:0<len->A=some ⟨b,off,none⟩)(J:Nat->World->Prop)(Jx:World->Prop)
  (hJ: ∀k W,J k W->W.cell? ⟨gS,oS,none⟩=some (.slice A len cap)∧ ∀i,i<len-> ∀j,j<8->W.cell? ⟨b,off+(i*8+j),none⟩=some (u i j))
  (hY: ∀k W,J k W->k<len->YieldAt Fence.wide (n-1) Try.prog l #[.int .i64 ((len-1-k:Nat):Int),.agg #[u (len-1-k) 0,u (len-1-k) 1,u (len-1-k) 2,u (len-1-k) 3,u (len-1-k) 4,u (len-1-k) 5,u (len-1-k) 6,u (len-1-k) 7]] W fun e W'=>
   (e= .returned (.bool true)∧J (k+1) W')∨(e= .returned (.bool false)∧Jx W'))
  (W:World)(h0:J 0 W):CallsIn Fence.wide n Try.prog 76 #[.func (.yield l) #[] #[],.pointer (some ⟨gS,oS,none⟩)] W fun e W'=>(∃v,e= .returned v)∧(J len W'∨Jx W'):=by
 refine callsIn_of_wp Try.func76 rfl trivial ?_ rfl
 simp only[Try.ntmps76,List.size_toArray,bY,kI,Nat.reduceAdd,Nat.reduceSub,Array.replicate_succ,Array.replicate_zero,List.push_toArray,List.append_toArray,List.nil_append,List.cons_append]
 have hS:=(hJ 0 W h0).1
 have hw1:IntKind.i64.wrap ((len:Int)-1)=(len:Int)-1:=IntWalk.i64_in _ (by omega)
 gi_wp2
 gi_loopw [3] (fun i wr=> ∃k:Nat,k<=len∧i= .int .i64 ((len:Int)-1-k)∧J k wr) (fun i _=>(intOf i+1).toNat)
 case atStart=>exact⟨0,aY _,by simp,h0⟩
 case round=>
  obtain⟨k,hk,rfl,hJs⟩:=hrel
  have hSk:=(hJ k wr hJs).1
  by_cases hlt:k<len
  ·obtain⟨m,hm⟩: ∃m,len-1-k=m:=⟨_,rfl⟩
   have hmi:(len:Int)-1-k=(m:Int):=by omega
   have hml:m<len:=by omega
   have hA':=hA (by omega)
   subst hA'
   have hcs:=(hJ k wr hJs).2 m hml
   obtain⟨fn,tmps,assign,body,hy,hR⟩:=hY k wr hJs hlt
   rw[hm] at hy
   rw[hmi]
   have h01:(0:Int)<=(m:Int):=Int.natCast_nonneg m
   have h02:(m:Int)<(len:Int):=by omega
   have hw2:IntKind.i64.wrap ((m:Int)-1)=(m:Int)-1:=IntWalk.i64_in _ (by omega)
   clear hJ hY hA hmi
   gi_wp2_with (refine jy rfl 47 _ rfl b (off+m*8) (by first |rfl | (simp[Act.eval,dL];done)) (s:=8) (by kernel_rfl) (by kernel_rfl) [u m 0,u m 1,u m 2,u m 3,u m 4,u m 5,u m 6,u m 7] rfl (fun j v hv=> ?_) ?_; ·match j,hv with
    |0,rfl=>rw[bm];exact hcs 0 (by omega)
    |1,rfl=>rw[bm];exact hcs 1 (by omega)
    |2,rfl=>rw[bm];exact hcs 2 (by omega)
    |3,rfl=>rw[bm];exact hcs 3 (by omega)
    |4,rfl=>rw[bm];exact hcs 4 (by omega)
    |5,rfl=>rw[bm];exact hcs 5 (by omega)
    |6,rfl=>rw[bm];exact hcs 6 (by omega)
    |7,rfl=>rw[bm];exact hcs 7 (by omega))
   refine⟨fun h=>absurd h (by simp[Fence.wide]), ?_⟩
   refine hR.mono ?_
   rintro e W3 (⟨rfl,hJ3⟩|⟨rfl,hJx3⟩)
   ·gi_wp2
    go_roundw
    case rel=>exact⟨k+1,by omega,by congr 1;omega,hJ3⟩
    case measure=>simp[intOf]
   ·gi_wp2
    refine bodyPost_ret (results_none rfl _ _ _) rfl ?_
    exact⟨⟨_,rfl⟩,.inr hJx3⟩
  ·obtain rfl:k=len:=by omega
   rw[show(k:Int)-1-k= -1 by omega]
   gi_wp2
   go_end0
   exact⟨⟨_,rfl⟩,.inl hJs⟩
namespace Px
def bkP(l:List En):AV:= .rptr 1 (fun q=>[enR l].getD q .junk) 0
def bkX(l:List En)(k:Nat):List AV:=[.int .i64 ((l.length-1-k:Nat):Int),.agg (enA (l.getD (l.length-1-k) default))]
theorem bkC(l:List En)(hb:l.length<=1000000):sW Try.prog 76 [bkP l] l.length (bkX l):=by
 intro w R vs hR hl hv n lp J Jx hJb hJR hY W hW
 obtain⟨vs⟩:=vs
 match vs,hl,hv with
 | [v],_,hv=>
  have h0:=hv 0 _ v rfl rfl
  cases h0 with
  | @rptr _ _ g o _ hRg uu h1 h2 h3=>
   have h4:=h3 0 (by omega)
   have h5:=h1 0 (by omega)
   obtain⟨sv,hsv⟩: ∃sv,sv=uu 0:=⟨_,rfl⟩
   rw[<-hsv] at h4 h5
   cases h4 with
   | @row _ _ _ A cap u hn hc hA k1 k2=>
    have hcell: ∀(k:Nat) (W:World) (a:Addr) (x:Value),J k W->R a.block->w.cell? a=some x->W.cell? a=some x:=fun k W a x hk ha hx=>(World.cell?_of_block (hJR k W hk a.block ha)).trans hx
    obtain⟨b,off,hbo⟩: ∃b off,0<l.length->A=some ⟨b,off,none⟩∧R b∧ ∀i,i<l.length-> ∀j,j<8->w.cell? ⟨b,off+(i*8+j),none⟩=some (u i j):=by
     by_cases h:0<l.length
     ·obtain⟨b,off,q1,q2,q3⟩:=hA (by omega)
      exact⟨b,off,fun _=>⟨q1,q2,q3⟩⟩
     ·exact⟨0,0,fun h'=>absurd h' h⟩
    refine kW n lp g (o+0) l.length cap A u b off hb (fun h=>(hbo h).1) J Jx (fun k W hk=>⟨hcell k W _ _ hk hRg h5,fun i hi j hj=> ?_⟩) (fun k W hk hkl=>hY k W _ hk hkl rfl fun j a x ha hx=> ?_) W hW
    ·obtain⟨q1,q2,q3⟩:=hbo (by omega)
     exact hcell k W _ _ hk q2 (q3 i hi j hj)
    ·match j,ha,hx with
     |0,ha,hx=>cases ha;cases hx;exact .int _ _
     |1,ha,hx=>
      cases ha;cases hx
      have hm:l.length-1-k<l.length:=by omega
      have hu: ∀j,j<8->RepP W R (enC (l.getD (l.length-1-k) default) j) (u (l.length-1-k) j):=fun j hj=>(k2 _ hm j hj).mono (fun _ h=>h) fun g hg=>hJR k W hk g hg
      have hone: ∀j,j<8->(u (l.length-1-k) j).oneCell'=true:=fun j hj=>k1 _ hm j hj
      refine .agg rfl (fun j v hv=> ?_) fun j a v ha hv=> ?_
      ·match j,hv with
       |0,rfl=>exact hone 0 (by omega)
       |1,rfl=>exact hone 1 (by omega)
       |2,rfl=>exact hone 2 (by omega)
       |3,rfl=>exact hone 3 (by omega)
       |4,rfl=>exact hone 4 (by omega)
       |5,rfl=>exact hone 5 (by omega)
       |6,rfl=>exact hone 6 (by omega)
       |7,rfl=>exact hone 7 (by omega)
      ·match j,ha,hv with
       |0,rfl,rfl=>exact hu 0 (by omega)
       |1,rfl,rfl=>exact hu 1 (by omega)
       |2,rfl,rfl=>exact hu 2 (by omega)
       |3,rfl,rfl=>exact hu 3 (by omega)
       |4,rfl,rfl=>exact hu 4 (by omega)
       |5,rfl,rfl=>exact hu 5 (by omega)
       |6,rfl,rfl=>exact hu 6 (by omega)
       |7,rfl,rfl=>exact hu 7 (by omega)
end Px
end
end Go.Proofs.Ytlfldlnohmobmaa
namespace Go.Proofs.Ytlfldlnohmobmaa.Px
section
open Go.RowKit Go.Proofs.Ytlfldlnohmobmaa.Rx
def gR(p:Pg)(r:Int)(e:En):Bool:=eX (atI p e.pc)&&((atI p e.pc).d==r)
def rI(p:Pg)(s:S8)(r:Int)(l:List En):Sm:=⟨[(5,pgP p),(6,rgP s),(9,.rptr 1 (fun q=>[AV.int .i64 r].getD q .junk) 0),(10,.bptr 0 0),(11,.bptr 1 0),(23,.clo 76 [bkP l])],[(0,⟨0,false,3,.box [.int .i64 0]⟩),(1,⟨0,false,4,.box [.bool false]⟩)],2⟩
def rG(a:Int)(b:Bool):List (Nat×Blk):=[(0,⟨0,false,3,.box [.int .i64 a]⟩),(1,⟨0,false,4,.box [.bool b]⟩)]
def rJ(p:Pg)(s:S8)(r:Int)(l:List En)(a:Int)(b:Bool):Sm:=⟨(rI p s r l).env,rG a b,2⟩
theorem xh(i:In)(h:i.kind=1):Vc (vF_ 77 [.agg (inA i)] [.fz,.bd true] [] (.tup [aI i.d,.bool true]) []):=ar (cj (show(i.kind==(1:Int))=true from by rw[h];decide) (cj (rf i.d) (cj (rf true) trivial)))
theorem xg(i:In)(h:i.kind=2):Vc (vF_ 77 [.agg (inA i)] [.fz,.bd false,.bd true] [] (.tup [aI i.d,.bool true]) []):=ar (cj (show(i.kind==(1:Int))=false from by rw[h];decide) (cj (show(i.kind==(2:Int))=true from by rw[h];decide) (cj (rf i.d) (cj (rf true) trivial))))
theorem xf(i:In)(h:i.kind=4):Vc (vF_ 77 [.agg (inA i)] [.fz,.bd false,.bd false,.bd true] [] (.tup [aI i.d,.bool true]) []):=ar (cj (show(i.kind==(1:Int))=false from by rw[h];decide) (cj (show(i.kind==(2:Int))=false from by rw[h];decide) (cj (show(i.kind==(4:Int))=true from by rw[h];decide) (cj (rf i.d) (cj (rf true) trivial)))))
theorem xi(i:In)(h1:i.kind≠1)(h2:i.kind≠2)(h4:i.kind≠4):Vc (vF_ 77 [.agg (inA i)] [.fz,.bd false,.bd false,.bd false] [] (.tup [aI 0,.bool false]) []):=ar (cj (af.2 h1) (cj (af.2 h2) (cj (af.2 h4) (cj (rf (0:Int)) (cj (rf false) trivial)))))
theorem ux(i:In)(h:eX i=true):pC_ 77 [.agg (inA i)] (.tup [.int .i64 i.d,.bool true]) []:=by
 by_cases h1:i.kind=1
 ·exact PureC.vc (xh i h1)
 ·by_cases h2:i.kind=2
  ·exact PureC.vc (xg i h2)
  ·by_cases h4:i.kind=4
   ·exact PureC.vc (xf i h4)
   ·exfalso;simp[eX,h1,h2,h4] at h
theorem uy(i:In)(h:eX i=false):pC_ 77 [.agg (inA i)] (.tup [.int .i64 0,.bool false]) []:=
 PureC.vc (xi i (fun e=>by rw[xA e] at h;cases h) (fun e=>by rw[xz e] at h;cases h) (fun e=>by rw[xy e] at h;cases h))
theorem yi(p:Pg)(e:En){Z:Prop}(z:Z):(RF ((atI p e.pc).kind) (RF ((atI p e.pc).op) (RF ((atI p e.pc).d) (RF ((atI p e.pc).a.reg) (RF ((atI p e.pc).a.n) (RF ((atI p e.pc).b.reg) (RF ((atI p e.pc).b.n) (RF ((atI p e.pc).nm) (RF ((atI p e.pc).tg) Z))))))))):=⟨rfl,rfl,rfl,rfl,rfl,rfl,rfl,rfl,rfl,z⟩
theorem yh(p:Pg)(e:En){Z:Prop}(z:Z):(RF p.ls.length (RR p.ls.length 2 (fun i j=>au lbC p.ls i j) (RF p.is.length (RR p.is.length 9 (fun i j=>au inC p.is i j) (RF e.pc Z))))):=⟨rfl,fun _ _ _ _=>rfl,rfl,fun _ _ _ _=>rfl,rfl,z⟩
theorem s0(p:Pg){Z:Prop}(z:Z):(RF p.W (RF p.win (RF p.fuel (RF p.r0 (RF p.r1 (RF p.r2 (RF p.r3 (RF p.ms.length (RR p.ms.length 3 (fun i j=>au mmC p.ms i j) Z))))))))):=⟨rfl,rfl,rfl,rfl,rfl,rfl,rfl,rfl,fun _ _ _ _=>rfl,z⟩
theorem wO(p:Pg)(r:Int)(e:En)(h:eX (atI p e.pc)=true):Vc (vF_ 58 [.agg (pgA p),.agg (enA e), aI r] [.fz,.fz,.cl [.agg (pgA p), aI e.pc] (.agg (inA (atI p e.pc))) [],.cl [.agg (inA (atI p e.pc))] (.tup [aI (atI p e.pc).d,.bool true]) []] [] (.bool ((atI p e.pc).d==r)) []):=ar (s0 p (yh p e (cj (atC p e.pc) (yi p e (cj (ux (atI p e.pc) h) (cj (rf ((atI p e.pc).d==r)) trivial))))))
theorem wP(p:Pg)(r:Int)(e:En)(h:eX (atI p e.pc)=false):Vc (vF_ 58 [.agg (pgA p),.agg (enA e), aI r] [.fz,.fz,.cl [.agg (pgA p), aI e.pc] (.agg (inA (atI p e.pc))) [],.cl [.agg (inA (atI p e.pc))] (.tup [aI 0,.bool false]) []] [] (.bool false) []):=ar (s0 p (yh p e (cj (atC p e.pc) (yi p e (cj (uy (atI p e.pc) h) (cj (rf false) trivial))))))
theorem vp(p:Pg)(r:Int)(e:En)(b:Bool)(h:gR p r e=b):pC_ 58 [.agg (pgA p),.agg (enA e),.int .i64 r] (.bool b) []:=by
 subst h
 unfold gR
 cases hd:eX (atI p e.pc) with
 |true=>rw[Bool.true_and];exact PureC.vc (wO p r e hd)
 |false=>rw[Bool.false_and];exact PureC.vc (wP p r e hd)
theorem wm(e:En)(h:e.dn=true):Vc (vF_ 59 [.agg (enA e)] [.fz,.b false] [] (.tup [aI e.val,.bool true]) []):=ar (cj (show(!e.dn)=false from by rw[h];rfl) (cj (rf e.val) (cj (rf true) trivial)))
theorem wn(e:En)(h:e.dn=false):Vc (vF_ 59 [.agg (enA e)] [.fz,.b true] [] (.tup [aI 0,.bool false]) []):=ar (cj (show(!e.dn)=true from by rw[h];rfl) (cj (rf (0:Int)) (cj (rf false) trivial)))
theorem zH(e:En):pC_ 59 [.agg (enA e)] (.tup [.int .i64 (if e.dn then e.val else 0),.bool e.dn]) []:=by
 cases h:e.dn with
 |true=>exact PureC.vc (wm e h)
 |false=>exact PureC.vc (wn e h)
theorem yg(r:Int)(e:En){Z:Prop}(z:Z):(RF e.dn (RF e.kn (RF e.ft (RF r Z)))):=⟨rfl,rfl,rfl,rfl,z⟩
theorem yf(p:Pg)(e:En){Z:Prop}(z:Z):(RF p.ls.length (RR p.ls.length 2 (fun i j=>au lbC p.ls i j) (RF p.is.length (RR p.is.length 9 (fun i j=>au inC p.is i j) (RF e.pc (RF e.val (RF e.adr (RF e.frm (RF e.nxt Z))))))))):=⟨rfl,fun _ _ _ _=>rfl,rfl,fun _ _ _ _=>rfl,rfl,rfl,rfl,rfl,rfl,z⟩
theorem Ab(p:Pg)(s:S8)(r:Int)(l:List En)(j:Int)(e:En)(h:pC_ 58 [.agg (pgA p),.agg (enA e), aI r] (.bool false) []):Vc (kY Try.prog false (cF Try.prog 47) (rfP (rfC Try.prog 47 0)).toList [aI j,.agg (enA e)] (rfA (rfC Try.prog 47 0)) (rfB (rfC Try.prog 47 0)) (rI p s r l) (rG 0 false) [.cl [.agg (pgA p),.agg (enA e), aI r] (.bool false) []] .nrm [(0,0),(1,1)] (rG 0 false)):=ar (s0 p (yf p e (yg r e (cj h (cj (rf (0:Int)) (cj (rf false) trivial))))))
theorem wH(p:Pg)(s:S8)(r:Int)(l:List En)(j:Int)(e:En)(h:pC_ 58 [.agg (pgA p),.agg (enA e), aI r] (.bool true) [])(h2:pC_ 59 [.agg (enA e)] (.tup [aI (if e.dn then e.val else 0),.bool e.dn]) []):Vc (kY Try.prog false (cF Try.prog 47) (rfP (rfC Try.prog 47 0)).toList [aI j,.agg (enA e)] (rfA (rfC Try.prog 47 0)) (rfB (rfC Try.prog 47 0)) (rI p s r l) (rG 0 false) [.cl [.agg (pgA p),.agg (enA e), aI r] (.bool true) [],.cl [.agg (enA e)] (.tup [aI (if e.dn then e.val else 0),.bool e.dn]) []] .ret [(0,0),(1,1)] (rG (if e.dn then e.val else 0) e.dn)):=ar (s0 p (yf p e (yg r e (cj h (cj (rf e.pc) (cj (rf e.val) (cj (rf e.adr) (cj (rf e.frm) (cj (rf e.nxt) (cj (rf e.dn) (cj (rf e.kn) (cj (rf e.ft) (cj h2 (cj (rf (if e.dn=true then e.val else(0:Int))) (cj (rf e.dn) trivial)))))))))))))))
theorem mS{p:Pg}{r:Int}{e:En}:gR p r e=true↔(eX (atI p e.pc)=true∧(atI p e.pc).d=r):=by
 unfold gR
 rw[al,aG]
theorem jJ(p:Pg)(l:List En)(r:Int): ∀c,(gu p l r c=none∧ ∀j,j<c->gR p r (l.getD j default)=false)∨
  ∃q,q<c∧gR p r (l.getD q default)=true∧(∀j,q<j->j<c->gR p r (l.getD j default)=false)∧gu p l r c=some (if(l.getD q default).dn then((l.getD q default).val,true) else(0,false))
 |0=> .inl ⟨rfl,fun j hj=>by omega⟩
 |c+1=>by
  unfold gu
  by_cases h:gR p r (l.getD c default)=true
  ·rw[ao (show eX (enI p l c)=true∧(enI p l c).d=r from mS.1 h)]
   exact .inr ⟨c,by omega,h,fun j h1 h2=>by omega,rfl⟩
  ·rw[aj (show ¬(eX (enI p l c)=true∧(enI p l c).d=r) from fun e=>h (mS.2 e))]
   have hf:gR p r (l.getD c default)=false:=by simpa using h
   rcases jJ p l r c with⟨h1,h2⟩|⟨q,h1,h2,h3,h4⟩
   ·refine .inl ⟨h1,fun j hj=> ?_⟩
    by_cases e:j=c
    ·rw[e];exact hf
    ·exact h2 j (by omega)
   ·refine .inr ⟨q,by omega,h2,fun j hj1 hj2=> ?_,h4⟩
    by_cases e:j=c
    ·rw[e];exact hf
    ·exact h3 j hj1 (by omega)
theorem jI(p:Pg)(s:S8)(r:Int)(l:List En)(k:Nat)(h:gR p r (l.getD (l.length-1-k) default)=false):Rnd Try.prog (cF Try.prog 47) (rfP (rfC Try.prog 47 0)).toList (bkX l k) (rfA (rfC Try.prog 47 0)) (rfB (rfC Try.prog 47 0)) (rI p s r l) (rG 0 false) .nrm (rG 0 false):=
 Rnd.vc (Ab p s r l _ _ (vp p r _ false h))
theorem mQ(p:Pg)(s:S8)(r:Int)(l:List En)(k:Nat)(h:gR p r (l.getD (l.length-1-k) default)=true):Rnd Try.prog (cF Try.prog 47) (rfP (rfC Try.prog 47 0)).toList (bkX l k) (rfA (rfC Try.prog 47 0)) (rfB (rfC Try.prog 47 0)) (rI p s r l) (rG 0 false) .ret
  (rG (if(l.getD (l.length-1-k) default).dn then(l.getD (l.length-1-k) default).val else 0) (l.getD (l.length-1-k) default).dn):=
 Rnd.vc (wH p s r l _ _ (vp p r _ true h) (zH _))
theorem qV(p:Pg)(s:S8)(r:Int)(l:List En)(hb:l.length<=1000000)(h: ∀j,j<l.length->gR p r (l.getD j default)=false):Ok Try.prog (cF Try.prog 47) (rfC Try.prog 47 0) (rI p s r l).st .nrm (rJ p s r l 0 false).st:=
 Ok.rangeC (by kernel_rfl) rfl rfl rfl (by kernel_rfl) (bkC l hb) (fun _=>by kernel_rfl) (by kernel_rfl) (F:=fun _=>rG 0 false) rfl (ax _) (fun k hk=>jI p s r l k (h _ (by omega))) (.inl ⟨rfl,rfl,rfl⟩)
theorem mR(p:Pg)(s:S8)(r:Int)(l:List En)(hb:l.length<=1000000)(q:Nat)(hq:q<l.length)(h:gR p r (l.getD q default)=true)(hn: ∀j,q<j->j<l.length->gR p r (l.getD j default)=false)(v:Int)(b:Bool)(hv:v=if(l.getD q default).dn then(l.getD q default).val else 0)(hd:b=(l.getD q default).dn):Ok Try.prog (cF Try.prog 47) (rfC Try.prog 47 0) (rI p s r l).st .ret (rJ p s r l v b).st:=by
 subst hv;subst hd
 have e:l.length-1-(l.length-1-q)=q:=by omega
 have hy:=mQ p s r l (l.length-1-q) (by rw[e];exact h)
 rw[e] at hy
 exact Ok.rangeC (m:=l.length-1-q) (by kernel_rfl) rfl rfl rfl (by kernel_rfl) (bkC l hb) (fun _=>by kernel_rfl) (by kernel_rfl) (F:=fun _=>rG 0 false) rfl (by omega) (fun k hk=>jI p s r l k (hn _ (by omega) (by omega))) (.inr ⟨by omega,(by simp),hy⟩)
theorem pY(p:Pg)(s:S8){Z:Prop}(z:Z):(RF p.ms.length (RR p.ms.length 3 (fun i j=>au mmC p.ms i j) (RF p.ls.length (RR p.ls.length 2 (fun i j=>au lbC p.ls i j) (RF p.is.length (RR p.is.length 9 (fun i j=>au inC p.is i j) (RF s.r0 (RF s.r1 (RF s.r2 Z))))))))):=⟨rfl,fun _ _ _ _=>rfl,rfl,fun _ _ _ _=>rfl,rfl,fun _ _ _ _=>rfl,rfl,rfl,rfl,z⟩
theorem pX(p:Pg){Z:Prop}(z:Z):(RF (0:Int) (RF false (RF p.W (RF p.win (RF p.fuel (RF p.r0 (RF p.r1 (RF p.r2 (RF p.r3 Z))))))))):=⟨rfl,rfl,rfl,rfl,rfl,rfl,rfl,rfl,rfl,z⟩
theorem pW(l:List En)(i:Int){Z:Prop}(z:Z):(RF l.length (RR l.length 8 (fun i j=>au enC l i j) (RF i Z))):=⟨rfl,fun _ _ _ _=>rfl,rfl,z⟩
abbrev qX(l:List En)(lt:List En)(i:Int):Prop:=PureC Try.prog 36 [enR l,.int .i64 i] (enR lt) []
theorem rN(p:Pg)(s:S8)(l lt:List En)(i r:Int)(v:Int)(b:Bool)(hc:qX l lt i)(h0:0<=r)(h3:r<4)(h:Ok Try.prog (cF Try.prog 47) (rfC Try.prog 47 0) (rI p s r lt).st .ret (rJ p s r lt v b).st):Vc (vF_ 47 [.agg (pgA p),.agg (rgA s),enR l, aI i, aI r] [.fv,.fv,.fv,.bd false,.bd false,.cl [enR l, aI i] (enR lt) [],.fv,.lp [(0,0),(1,1)] (rI p s r lt) .ret (rJ p s r lt v b)] [] (.tup [aI v,.bool b]) []):=ar (cj (df (r<0)) (cj (df (r>=4)) (pW l i (cj hc (pX p (pY p s (cj (rf s.r3) (cj (rf r) (cj (rf lt.length) (cj (rr lt.length 8 fun i j=>au enC lt i j) (cj h (cj (rf v) (cj (rf b) trivial)))))))))))))
theorem uo(p:Pg)(s:S8)(l lt:List En)(i:Int)(hc:qX l lt i)(h:Ok Try.prog (cF Try.prog 47) (rfC Try.prog 47 0) (rI p s 0 lt).st .nrm (rJ p s 0 lt 0 false).st):Vc (vF_ 47 [.agg (pgA p),.agg (rgA s),enR l, aI i, aI 0] [.fv,.fv,.fv,.bd false,.bd false,.cl [enR l, aI i] (enR lt) [],.fv,.lp [(0,0),(1,1)] (rI p s 0 lt) .nrm (rJ p s 0 lt 0 false)] [] (.tup [aI s.r0,.bool true]) []):=ar (cj (df ((0:Int)<0)) (cj (df ((0:Int)>=4)) (pW l i (cj hc (pX p (pY p s (cj (rf s.r3) (cj (rf (0:Int)) (cj (rf lt.length) (cj (rr lt.length 8 fun i j=>au enC lt i j) (cj h (cj (rf s.r0) (cj (rf true) trivial)))))))))))))
theorem un(p:Pg)(s:S8)(l lt:List En)(i:Int)(hc:qX l lt i)(h:Ok Try.prog (cF Try.prog 47) (rfC Try.prog 47 0) (rI p s 1 lt).st .nrm (rJ p s 1 lt 0 false).st):Vc (vF_ 47 [.agg (pgA p),.agg (rgA s),enR l, aI i, aI 1] [.fv,.fv,.fv,.bd false,.bd false,.cl [enR l, aI i] (enR lt) [],.fv,.lp [(0,0),(1,1)] (rI p s 1 lt) .nrm (rJ p s 1 lt 0 false)] [] (.tup [aI s.r1,.bool true]) []):=ar (cj (df ((1:Int)<0)) (cj (df ((1:Int)>=4)) (pW l i (cj hc (pX p (pY p s (cj (rf s.r3) (cj (rf (1:Int)) (cj (rf lt.length) (cj (rr lt.length 8 fun i j=>au enC lt i j) (cj h (cj (rf s.r1) (cj (rf true) trivial)))))))))))))
theorem um(p:Pg)(s:S8)(l lt:List En)(i:Int)(hc:qX l lt i)(h:Ok Try.prog (cF Try.prog 47) (rfC Try.prog 47 0) (rI p s 2 lt).st .nrm (rJ p s 2 lt 0 false).st):Vc (vF_ 47 [.agg (pgA p),.agg (rgA s),enR l, aI i, aI 2] [.fv,.fv,.fv,.bd false,.bd false,.cl [enR l, aI i] (enR lt) [],.fv,.lp [(0,0),(1,1)] (rI p s 2 lt) .nrm (rJ p s 2 lt 0 false)] [] (.tup [aI s.r2,.bool true]) []):=ar (cj (df ((2:Int)<0)) (cj (df ((2:Int)>=4)) (pW l i (cj hc (pX p (pY p s (cj (rf s.r3) (cj (rf (2:Int)) (cj (rf lt.length) (cj (rr lt.length 8 fun i j=>au enC lt i j) (cj h (cj (rf s.r2) (cj (rf true) trivial)))))))))))))
theorem ul(p:Pg)(s:S8)(l lt:List En)(i:Int)(hc:qX l lt i)(h:Ok Try.prog (cF Try.prog 47) (rfC Try.prog 47 0) (rI p s 3 lt).st .nrm (rJ p s 3 lt 0 false).st):Vc (vF_ 47 [.agg (pgA p),.agg (rgA s),enR l, aI i, aI 3] [.fv,.fv,.fv,.bd false,.bd false,.cl [enR l, aI i] (enR lt) [],.fv,.lp [(0,0),(1,1)] (rI p s 3 lt) .nrm (rJ p s 3 lt 0 false)] [] (.tup [aI s.r3,.bool true]) []):=ar (cj (df ((3:Int)<0)) (cj (df ((3:Int)>=4)) (pW l i (cj hc (pX p (pY p s (cj (rf s.r3) (cj (rf (3:Int)) (cj (rf lt.length) (cj (rr lt.length 8 fun i j=>au enC lt i j) (cj h (cj (rf s.r3) (cj (rf true) trivial)))))))))))))
theorem uq(p:Pg)(s:S8)(l:List En)(i r:Int)(h:r<0):Vc (vF_ 47 [.agg (pgA p),.agg (rgA s),enR l, aI i, aI r] [.fv,.fv,.fv,.bd true] [] (.tup [aI 0,.bool false]) []):=ar (cj (dt (r<0)) (cj (rf (0:Int)) (cj (rf false) trivial)))
theorem ur(p:Pg)(s:S8)(l:List En)(i r:Int)(h:3<r):Vc (vF_ 47 [.agg (pgA p),.agg (rgA s),enR l, aI i, aI r] [.fv,.fv,.fv,.bd false,.bd true] [] (.tup [aI 0,.bool false]) []):=ar (cj (df (r<0)) (cj (dt (r>=4)) (cj (rf (0:Int)) (cj (rf false) trivial))))
theorem mZ(p:Pg)(s:S8)(l:List En)(i r:Int)(hb:l.length<1000000):pC_ 47 [.agg (pgA p),.agg (rgA s),enR l,.int .i64 i,.int .i64 r] (.tup [.int .i64 (b9 p s l i r).1,.bool (b9 p s l i r).2]) []:=by
 have hle:=fN i l.length
 have hc:=om l i (cl0 i l.length) (by unfold cl0;omega) hb
 have hlen:(l.take (cl0 i l.length)).length=cl0 i l.length:=by rw[aP];omega
 unfold b9
 by_cases hr:0<=r∧r<4
 ·rw[ao hr]
  rcases jJ p l r (cl0 i l.length) with⟨h1,h2⟩|⟨q,h1,h2,h3,h4⟩
  ·rw[h1]
   have hl:=fun r' (e:r'=r)=>qV p s r' (l.take (cl0 i l.length)) (by omega) fun j hj=>by rw[bP (by omega),e];exact h2 j (by omega)
   obtain⟨h0,h1⟩:=hr
   rcases ki h0 h1 with rfl |rfl |rfl |rfl
   ·exact PureC.vc (uo p s l _ i hc (hl _ rfl))
   ·exact PureC.vc (un p s l _ i hc (hl _ rfl))
   ·exact PureC.vc (um p s l _ i hc (hl _ rfl))
   ·exact PureC.vc (ul p s l _ i hc (hl _ rfl))
  ·rw[h4]
   cases hd:(l.getD q default).dn with
   |true=>exact PureC.vc (rN p s l _ i r (l.getD q default).val true hc hr.1 hr.2 (mR p s r _ (by omega) q (by omega) (by rw[bP (by omega)];exact h2) (fun j a b=>by rw[bP (by omega)];exact h3 j a (by omega)) _ _ (by rw[bP (by omega),hd];rfl) (by rw[bP (by omega),hd])))
   |false=>exact PureC.vc (rN p s l _ i r 0 false hc hr.1 hr.2 (mR p s r _ (by omega) q (by omega) (by rw[bP (by omega)];exact h2) (fun j a b=>by rw[bP (by omega)];exact h3 j a (by omega)) _ _ (by rw[bP (by omega),hd];rfl) (by rw[bP (by omega),hd])))
 ·rw[aj hr]
  by_cases h0:r<0
  ·exact PureC.vc (uq p s l i r h0)
  ·exact PureC.vc (ur p s l i r (by omega))
theorem ye(p:Pg){Z:Prop}(z:Z):(RF p.W (RF p.win (RF p.fuel (RF p.r0 (RF p.r1 (RF p.r2 (RF p.r3 (RF p.ms.length (RR p.ms.length 3 (fun i j=>au mmC p.ms i j) Z))))))))):=⟨rfl,rfl,rfl,rfl,rfl,rfl,rfl,rfl,fun _ _ _ _=>rfl,z⟩
theorem w9(p:Pg)(s:S8)(l:List En)(i n:Int)(h:pC_ 47 [.agg (pgA p),.agg (rgA s),enR l, aI i, aI n] (.tup [aI (b9 p s l i n).1,.bool (b9 p s l i n).2]) []):Vc (vF_ 51 [.agg (pgA p),.agg (rgA s),enR l, aI i,.agg [.bool true, aI n]] [.fz,.fz,.fz,.cl [.agg (pgA p),.agg (rgA s),enR l, aI i, aI n] (.tup [aI (b9 p s l i n).1,.bool (b9 p s l i n).2]) []] [] (.tup [aI (b9 p s l i n).1,.bool (b9 p s l i n).2]) []):=ar (ye p (cj (rf p.ls.length) (cj (rr p.ls.length 2 fun i j=>au lbC p.ls i j) (cj (rf p.is.length) (cj (rr p.is.length 9 fun i j=>au inC p.is i j) (cj (rf s.r0) (cj (rf s.r1) (cj (rf s.r2) (cj (rf s.r3) (cj (rf l.length) (cj (rr l.length 8 fun i j=>au enC l i j) (cj (rf i) (cj (rf n) (cj h (cj (rf (Prod.fst (b9 p s l i n))) (cj (rf (Prod.snd (b9 p s l i n))) trivial))))))))))))))))
theorem xa(p:Pg)(s:S8)(l:List En)(i n:Int):Vc (vF_ 51 [.agg (pgA p),.agg (rgA s),enR l, aI i,.agg [.bool false, aI n]] [.fz,.fz,.fz,.cl [aI p.W, aI n] (aI (Wd.maskV p.W n)) []] [] (.tup [aI (Wd.maskV p.W n),.bool true]) []):=ar (cj (rf p.W) (cj (rf n) (cj (bz p.W n) (cj (rf (Wd.maskV p.W n)) (cj (rf true) trivial)))))
theorem mY(p:Pg)(s:S8)(l:List En)(i:Int)(v:Vl)(hb:l.length<1000000):pC_ 51 [.agg (pgA p),.agg (rgA s),enR l,.int .i64 i,.agg (vlA v)] (.tup [.int .i64 (cd p s l i v).1,.bool (cd p s l i v).2]) []:=by
 obtain⟨b,n⟩:=v
 cases b with
 |true=>exact PureC.vc (w9 p s l i n (mZ p s l i n hb))
 |false=>exact PureC.vc (xa p s l i n)
theorem uN(p:Pg)(e:En):Vc (vF_ 55 [.agg (enA e),pgP p] [.fv,.cl [.agg (pgA p), aI e.pc] (.agg (inA (atI p e.pc))) []] [] (.bool ((atI p e.pc).kind==10)) []):=ar (ye p (cj (rf p.ls.length) (cj (rr p.ls.length 2 fun i j=>au lbC p.ls i j) (cj (rf p.is.length) (cj (rr p.is.length 9 fun i j=>au inC p.is i j) (cj (rf e.pc) (cj (atC p e.pc) (cj (rf ((atI p e.pc).kind==(10:Int))) trivial))))))))
def ixS(p:Pg)(l:List En)(k:Nat):Sm:=⟨[(0,enR l),(1,(.clo 55 [pgP p])),(7,.int .i64 l.length),(8,.int .i64 k),(4,.int .i64 0)],[],0⟩
def ixJ(k:Int):Sm:=⟨[(4,.int .i64 k)],[],0⟩
def fnc(p:Pg)(e:En):Bool:=(atI p e.pc).kind==10
theorem yd(p:Pg)(l:List En){Z:Prop}(z:Z):(RF l.length (RR l.length 8 (fun i j=>au enC l i j) (RF p.W (RF p.win (RF p.fuel (RF p.r0 (RF p.r1 (RF p.r2 (RF p.r3 Z))))))))):=⟨rfl,fun _ _ _ _=>rfl,rfl,rfl,rfl,rfl,rfl,rfl,rfl,z⟩
theorem yc(p:Pg){Z:Prop}(z:Z):(RR p.ls.length 2 (fun i j=>au lbC p.ls i j) (RF p.is.length (RR p.is.length 9 (fun i j=>au inC p.is i j) Z))):=⟨fun _ _ _ _=>rfl,rfl,fun _ _ _ _=>rfl,z⟩
theorem yb(p:Pg){Z:Prop}(z:Z):(RF p.win (RF p.fuel (RF p.r0 (RF p.r1 (RF p.r2 (RF p.r3 (RF p.ms.length (RR p.ms.length 3 (fun i j=>au mmC p.ms i j) (RF p.ls.length Z))))))))):=⟨rfl,rfl,rfl,rfl,rfl,rfl,rfl,fun _ _ _ _=>rfl,rfl,z⟩
theorem ya(p:Pg)(l:List En)(k:Nat){Z:Prop}(z:Z):(RF ((l.getD k default).pc) (RF ((l.getD k default).val) (RF ((l.getD k default).adr) (RF ((l.getD k default).frm) (RF ((l.getD k default).nxt) (RF ((l.getD k default).dn) (RF ((l.getD k default).kn) (RF ((l.getD k default).ft) (RF p.W Z))))))))):=⟨rfl,rfl,rfl,rfl,rfl,rfl,rfl,rfl,rfl,z⟩
theorem vD(p:Pg)(l:List En)(k:Nat)(hk:k<l.length)(hb:l.length<1000000)(h:pC_ 55 [.agg (enA (l.getD k default)),pgP p] (.bool false) []):Vc (vC_ 64 0 (ixS p l k) [.bd true,.cl [.agg (enA (l.getD k default)),pgP p] (.bool false) []] .nrm [] (ixS p l (k+1))):=ar (cj (dt ((k:Int)<l.length)) (cj (bi k l.length) (ya p l k (yb p (yc p (cj h (cj (i6 (k+1)) (yd p l (cj (rf p.ms.length) (cj (rr p.ms.length 3 fun i j=>au mmC p.ms i j) (cj (rf p.ls.length) (cj (rr p.ls.length 2 fun i j=>au lbC p.ls i j) (cj (rf p.is.length) (cj (rr p.is.length 9 fun i j=>au inC p.is i j) (cj (rf (l.length:Int)) (cj (rf ((k:Int)+1)) (cj (rf (0:Int)) trivial)))))))))))))))))
theorem xp(p:Pg)(l:List En)(k:Nat)(hk:k<l.length)(hb:l.length<1000000)(h:pC_ 55 [.agg (enA (l.getD k default)),pgP p] (.bool true) []):Vc (vC_ 64 0 (ixS p l k) [.bd true,.cl [.agg (enA (l.getD k default)),pgP p] (.bool true) []] .ret [] (ixJ k)):=ar (cj (dt ((k:Int)<l.length)) (cj (bi k l.length) (ya p l k (yb p (yc p (cj h (cj (rf (k:Int)) trivial)))))))
theorem xq(p:Pg)(l:List En):Vc (vC_ 64 0 (ixS p l l.length) [.bd false] (.ext 0) [] (ixS p l l.length)):=ar (cj (df ((l.length:Int)<l.length)) (yd p l (cj (rf p.ms.length) (cj (rr p.ms.length 3 fun i j=>au mmC p.ms i j) (cj (rf p.ls.length) (cj (rr p.ls.length 2 fun i j=>au lbC p.ls i j) (cj (rf p.is.length) (cj (rr p.is.length 9 fun i j=>au inC p.is i j) (cj (rf (l.length:Int)) (cj (rf (l.length:Int)) (cj (rf (0:Int)) trivial)))))))))))
theorem x9(p:Pg)(l:List En){Z:Prop}(z:Z):(RF p.ms.length (RR p.ms.length 3 (fun i j=>au mmC p.ms i j) (RF p.ls.length (RR p.ls.length 2 (fun i j=>au lbC p.ls i j) (RF p.is.length (RR p.is.length 9 (fun i j=>au inC p.is i j) (RF (l.length:Int) (RF (0:Int) (RF (0:Int) Z))))))))):=⟨rfl,fun _ _ _ _=>rfl,rfl,fun _ _ _ _=>rfl,rfl,fun _ _ _ _=>rfl,rfl,rfl,rfl,z⟩
theorem sZ(p:Pg)(l:List En){Z:Prop}(z:Z):(RF l.length (RR l.length 8 (fun i j=>au enC l i j) (RF p.W (RF p.win (RF p.fuel (RF p.r0 (RF p.r1 (RF p.r2 (RF p.r3 Z))))))))):=⟨rfl,fun _ _ _ _=>rfl,rfl,rfl,rfl,rfl,rfl,rfl,rfl,z⟩
theorem Bl(p:Pg)(l:List En)(h:oL_ 64 0 (ixS p l 0).st (.ext 0) (ixS p l l.length).st):Vc (vF_ 64 [enR l,(.clo 55 [pgP p])] [.lp [] (ixS p l 0) (.ext 0) (ixS p l l.length)] [] (aI (-1)) []):=ar (sZ p l (x9 p l (cj h (cj (rf (-1:Int)) trivial))))
theorem Bk(p:Pg)(l:List En)(k:Int)(h:oL_ 64 0 (ixS p l 0).st .ret (ixJ k).st):Vc (vF_ 64 [enR l,(.clo 55 [pgP p])] [.lp [] (ixS p l 0) .ret (ixJ k)] [] (aI k) []):=ar (sZ p l (x9 p l (cj h (cj (rf k) trivial))))
theorem x8(p:Pg){Z:Prop}(z:Z):(RF p.ms.length (RR p.ms.length 3 (fun i j=>au mmC p.ms i j) (RF p.ls.length (RR p.ls.length 2 (fun i j=>au lbC p.ls i j) (RF p.is.length (RR p.is.length 9 (fun i j=>au inC p.is i j) Z)))))):=⟨rfl,fun _ _ _ _=>rfl,rfl,fun _ _ _ _=>rfl,rfl,fun _ _ _ _=>rfl,z⟩
theorem BO(p:Pg)(l:List En)(h:pC_ 64 [enR l,(.clo 55 [pgP p])] (aI (-1)) []):Vc (vF_ 54 [enR l,(.clo 55 [pgP p])] [.cl [enR l,(.clo 55 [pgP p])] (aI (-1)) []] [] (.bool false) []):=ar (sZ p l (x8 p (cj h (cj (df ((-1:Int)>=0)) trivial))))
theorem BN(p:Pg)(l:List En)(k:Int)(h0:0<=k)(h:pC_ 64 [enR l,(.clo 55 [pgP p])] (aI k) []):Vc (vF_ 54 [enR l,(.clo 55 [pgP p])] [.cl [enR l,(.clo 55 [pgP p])] (aI k) [],.bd true] [] (.bool true) []):=ar (sZ p l (x8 p (cj h (cj (dt (k>=0)) (cj (rf true) trivial)))))
theorem oP(p:Pg)(l lt:List En)(i:Int)(b:Bool)(hc:pC_ 36 [enR l, aI i] (enR lt) [])(h:pC_ 54 [enR lt,(.clo 55 [pgP p])] (.bool b) []):Vc (vF_ 41 [.agg (pgA p),enR l, aI i] [.fz,.cl [enR l, aI i] (enR lt) [],.cl [enR lt,(.clo 55 [pgP p])] (.bool b) []] [] (.bool b) []):=ar (cj (rf l.length) (cj (rr l.length 8 fun i j=>au enC l i j) (cj (rf i) (cj hc (cj (rf lt.length) (cj (rr lt.length 8 fun i j=>au enC lt i j) (cj (rf p.W) (cj (rf p.win) (cj (rf p.fuel) (cj (rf p.r0) (cj (rf p.r1) (cj (rf p.r2) (cj (rf p.r3) (cj (rf p.ms.length) (cj (rr p.ms.length 3 fun i j=>au mmC p.ms i j) (cj (rf p.ls.length) (cj (rr p.ls.length 2 fun i j=>au lbC p.ls i j) (cj (rf p.is.length) (cj (rr p.is.length 9 fun i j=>au inC p.is i j) (cj h (cj (rf b) trivial)))))))))))))))))))))
theorem fn1(p:Pg)(e:En)(b:Bool)(h:fnc p e=b):pC_ 55 [.agg (enA e),pgP p] (.bool b) []:=by
 have:=PureC.vc (uN p e)
 rw[show((atI p e.pc).kind==10)=b from h] at this
 exact this
theorem oT(p:Pg)(l:List En)(hb:l.length<1000000)(h: ∀j,j<l.length->fnc p (l.getD j default)=false): ∀j k,k+j=l.length->OkL Try.prog (cF Try.prog 64) (lpC Try.prog 64 0) (ixS p l k).st (.ext 0) (ixS p l l.length).st
 |0,k,hk=>by
  obtain rfl:k=l.length:=by omega
  exact OkL.exit (Ok.vc (xq p l)) (by simp)
 |j+1,k,hk=>OkL.step (Ok.vc (vD p l k (by omega) hb (fn1 p _ false (h k (by omega))))) (oT p l hb h j (k+1) (by omega))
theorem oR(p:Pg)(l:List En)(hb:l.length<1000000)(q:Nat)(hq:q<l.length)(h:fnc p (l.getD q default)=true)(hn: ∀j,j<q->fnc p (l.getD j default)=false): ∀j k,k+j=q->OkL Try.prog (cF Try.prog 64) (lpC Try.prog 64 0) (ixS p l k).st .ret (ixJ q).st
 |0,k,hk=>by
  obtain rfl:k=q:=by omega
  exact OkL.exit (Ok.vc (xp p l k hq hb (fn1 p _ true h))) (by simp)
 |j+1,k,hk=>OkL.step (Ok.vc (vD p l k (by omega) hb (fn1 p _ false (hn k (by omega))))) (oR p l hb q hq h hn j (k+1) (by omega))
theorem coC(p:Pg)(l:List En)(hb:l.length<1000000):((∀j,j<l.length->fnc p (l.getD j default)=false)∧pC_ 54 [enR l,(.clo 55 [pgP p])] (.bool false) [])∨((∃q,q<l.length∧fnc p (l.getD q default)=true)∧pC_ 54 [enR l,(.clo 55 [pgP p])] (.bool true) []):=by
 by_cases h: ∃q,q<l.length∧fnc p (l.getD q default)=true
 ·have hmin: ∃q,q<l.length∧fnc p (l.getD q default)=true∧ ∀j,j<q->fnc p (l.getD j default)=false:=by
   obtain⟨q,h1,h2⟩:=h
   induction q using Nat.strongRecOn with
   |ind q ih=>
    by_cases h3: ∃j,j<q∧fnc p (l.getD j default)=true
    ·obtain⟨j,h4,h5⟩:=h3
     exact ih j h4 (by omega) h5
    ·refine⟨q,h1,h2,fun j hj=> ?_⟩
     cases hf:fnc p (l.getD j default) with
     |false=>rfl
     |true=>exact absurd ⟨j,hj,hf⟩ h3
  obtain⟨q,h1,h2,h3⟩:=hmin
  exact .inr ⟨⟨q,h1,h2⟩,PureC.vc (BN p l q (by omega) (PureC.vc (Bk p l q (oR p l hb q h1 h2 h3 q 0 (by omega)).ok)))⟩
 ·have hf: ∀j,j<l.length->fnc p (l.getD j default)=false:=fun j hj=>by
   cases hf:fnc p (l.getD j default) with
   |false=>rfl
   |true=>exact absurd ⟨j,hj,hf⟩ h
  exact .inl ⟨hf,PureC.vc (BO p l (PureC.vc (Bl p l (oT p l hb hf l.length 0 (by omega)).ok)))⟩
theorem kB(p:Pg)(l:List En): ∀j k,kV p l k j=true↔ ∃q,k<=q∧q<k+j∧fnc p (l.getD q default)=true
 |0,k=>⟨fun h=>(by cases h),fun⟨q,h1,h2,_⟩=>(by omega)⟩
 |j+1,k=>by
  have ih:=kB p l j (k+1)
  unfold kV
  rw[fQ]
  constructor
  ·rintro(h |h)
   ·exact⟨k,ax _,by omega,h⟩
   ·obtain⟨q,h1,h2,h3⟩:=ih.1 h
    exact⟨q,by omega,by omega,h3⟩
  ·rintro⟨q,h1,h2,h3⟩
   by_cases e:q=k
   ·subst e;exact .inl h3
   ·exact .inr (ih.2 ⟨q,by omega,by omega,h3⟩)
theorem Bi(p:Pg)(l:List En)(i:Int)(hb:l.length<1000000):pC_ 41 [.agg (pgA p),enR l,.int .i64 i] (.bool (nJ p l i)) []:=by
 have hle:=fN i l.length
 have hc:=om l i (cl0 i l.length) (by unfold cl0;omega) hb
 have hlen:(l.take (cl0 i l.length)).length=cl0 i l.length:=by rw[aP];omega
 unfold nJ
 rcases coC p (l.take (cl0 i l.length)) (by omega) with⟨h1,h2⟩|⟨⟨q,h1,h3⟩,h2⟩
 ·have e:kV p l 0 (cl0 i l.length)=false:=by
   cases hb:kV p l 0 (cl0 i l.length) with
   |false=>rfl
   |true=>
    obtain⟨q,_,k1,k2⟩:=(kB p l _ 0).1 hb
    have:=h1 q (by omega)
    rw[bP (by omega),k2] at this
    cases this
  rw[e]
  exact PureC.vc (oP p l _ i false hc h2)
 ·have e:kV p l 0 (cl0 i l.length)=true:=(kB p l _ 0).2 ⟨q,by omega,by omega,by rw[bP (by omega)] at h3;exact h3⟩
  rw[e]
  exact PureC.vc (oP p l _ i true hc h2)
def fi(p:Pg)(k a:Int)(e:En):Bool:=bif e.kn&&(e.adr==a) then(atI p e.pc).kind==k else false
def ceV(m:List Int)(a:Int):Int:=if 0<=a∧a<m.length then m.getD a.toNat 0 else 0
def oG(v j:Int)(b:Bool):List (Nat×Blk):=[(0,⟨0,false,3,.box [.int .i64 v]⟩),(1,⟨0,false,3,.box [.int .i64 j]⟩),(2,⟨0,false,4,.box [.bool b]⟩)]
def oI(p:Pg)(m:List Int)(a:Int)(l:List En):Sm:=⟨[(5,pgP p),(1,lR m),(9,.rptr 1 (fun q=>[AV.int .i64 a].getD q .junk) 0),(10,.bptr 0 0),(11,.bptr 1 0),(12,.bptr 2 0),(18,.clo 76 [bkP l])],oG 0 0 false,3⟩
def oJ(p:Pg)(m:List Int)(a:Int)(l:List En)(v j:Int)(b:Bool):Sm:=⟨(oI p m a l).env,oG v j b,3⟩
theorem C3(p:Pg)(k a:Int)(e:En)(hn:e.kn=false):Vc (vF_ 39 [.agg (pgA p),.agg (enA e), aI k, aI a] [.fz,.fz,.lv (.bool false)] [] (.bool false) []):=ar (cj (congrArg (fun b=>some (AV.bool b)) hn) (cj (rf false) trivial))
theorem C5(p:Pg)(k a:Int)(e:En)(hn:e.kn=true)(ha: ¬e.adr=a):Vc (vF_ 39 [.agg (pgA p),.agg (enA e), aI k, aI a] [.fz,.fz,.lv (.bool true),.bd false] [] (.bool false) []):=ar (cj (congrArg (fun b=>some (AV.bool b)) hn) (cj (af.2 ha) (cj (rf false) trivial)))
theorem vS(p:Pg){Z:Prop}(z:Z):(RF p.W (RF p.win (RF p.fuel (RF p.r0 (RF p.r1 (RF p.r2 (RF p.r3 (RF p.ms.length (RR p.ms.length 3 (fun i j=>au mmC p.ms i j) Z))))))))):=⟨rfl,rfl,rfl,rfl,rfl,rfl,rfl,rfl,fun _ _ _ _=>rfl,z⟩
theorem C4(p:Pg)(k a:Int)(e:En)(hn:e.kn=true)(ha:e.adr=a):Vc (vF_ 39 [.agg (pgA p),.agg (enA e), aI k, aI a] [.fz,.fz,.lv (.bool true),.bd true,.cl [.agg (pgA p), aI e.pc] (.agg (inA (atI p e.pc))) []] [] (.bool ((atI p e.pc).kind==k)) []):=ar (cj (congrArg (fun b=>some (AV.bool b)) hn) (cj (aG.2 ha) (vS p (cj (rf p.ls.length) (cj (rr p.ls.length 2 fun i j=>au lbC p.ls i j) (cj (rf p.is.length) (cj (rr p.is.length 9 fun i j=>au inC p.is i j) (cj (rf e.pc) (cj (atC p e.pc) (cj (rf ((atI p e.pc).kind==k)) trivial))))))))))
theorem r8(p:Pg)(k a:Int)(e:En)(b:Bool)(h:fi p k a e=b):pC_ 39 [.agg (pgA p),.agg (enA e),.int .i64 k,.int .i64 a] (.bool b) []:=by
 subst h
 unfold fi
 cases hn:e.kn with
 |false=>rw[Bool.false_and];exact PureC.vc (C3 p k a e hn)
 |true=>
  rw[Bool.true_and]
  by_cases ha:e.adr=a
  ·rw[aG.2 ha];exact PureC.vc (C4 p k a e hn ha)
  ·rw[af.2 ha];exact PureC.vc (C5 p k a e hn ha)
theorem cR{p:Pg}{k a:Int}{e:En}:fi p k a e=true↔(atI p e.pc).kind=k∧e.kn=true∧e.adr=a:=by
 unfold fi
 cases hn:e.kn with
 |false=>simp
 |true=>
  by_cases ha:e.adr=a
  ·rw[aG.2 ha];simp[ha]
  ·rw[af.2 ha];simp[ha]
theorem zJ(e:En)(j:Int)(h:e.dn=true):Vc (vF_ 60 [.agg (enA e), aI j] [.fz,.b false] [] (.tup [aI e.val, aI j,.bool true]) []):=ar (cj (show(!e.dn)=false from by rw[h];rfl) (cj (rf e.val) (cj (rf j) (cj (rf true) trivial))))
theorem yH{Z:Prop}(z:Z):(RF (0:Int) (RF (0:Int) (RF false Z))):=⟨rfl,rfl,rfl,z⟩
theorem zK(e:En)(j:Int)(h:e.dn=false):Vc (vF_ 60 [.agg (enA e), aI j] [.fz,.b true] [] (.tup [aI 0, aI 0,.bool false]) []):=ar (cj (show(!e.dn)=true from by rw[h];rfl) (yH trivial))
theorem xH(m:List Int)(a:Int)(h:a<0):Vc (vF_ 61 [lR m, aI a] [.bd true] [] (aI 0) []):=ar (cj (dt (a<0)) (cj (rf (0:Int)) trivial))
theorem xG(m:List Int)(a:Int)(h0:0<=a)(h: ¬a<m.length):Vc (vF_ 61 [lR m, aI a] [.bd false,.bd true] [] (aI 0) []):=ar (cj (df (a<0)) (cj (dt (a>=(m.length:Int))) (cj (rf (0:Int)) trivial)))
theorem BR(m:List Int)(a:Int)(h0:0<=a)(h:a<m.length):Vc (vF_ 61 [lR m, aI a] [.bd false,.bd false] [] (aI (m.getD a.toNat 0)) []):=ar (cj (df (a<0)) (cj (df (a>=(m.length:Int))) (cj (bi a m.length) (cj (rf (m.getD (Int.toNat a) (0:Int))) trivial))))
theorem CE(e:En)(j:Int):pC_ 60 [.agg (enA e),.int .i64 j] (.tup [.int .i64 (if e.dn then e.val else 0),.int .i64 (if e.dn then j else 0),.bool e.dn]) []:=by
 cases h:e.dn with
 |true=>exact PureC.vc (zJ e j h)
 |false=>exact PureC.vc (zK e j h)
theorem ceC(m:List Int)(a:Int):pC_ 61 [lR m,.int .i64 a] (.int .i64 (ceV m a)) []:=by
 unfold ceV
 by_cases h0:0<=a
 ·by_cases h:a<m.length
  ·rw[ao ⟨h0,h⟩];exact PureC.vc (BR m a h0 h)
  ·rw[aj fun e=>h e.2];exact PureC.vc (xG m a h0 h)
 ·rw[aj fun e=>h0 e.1];exact PureC.vc (xH m a (by omega))
theorem yG(a:Int)(e:En){Z:Prop}(z:Z):(RF e.dn (RF e.kn (RF e.ft (RF (3:Int) (RF a Z))))):=⟨rfl,rfl,rfl,rfl,rfl,z⟩
theorem yF(p:Pg)(e:En){Z:Prop}(z:Z):(RF p.ls.length (RR p.ls.length 2 (fun i j=>au lbC p.ls i j) (RF p.is.length (RR p.is.length 9 (fun i j=>au inC p.is i j) (RF e.pc (RF e.val (RF e.adr (RF e.frm (RF e.nxt Z))))))))):=⟨rfl,fun _ _ _ _=>rfl,rfl,fun _ _ _ _=>rfl,rfl,rfl,rfl,rfl,rfl,z⟩
theorem wS(p:Pg)(m:List Int)(a:Int)(l:List En)(j:Int)(e:En)(h:pC_ 39 [.agg (pgA p),.agg (enA e), aI 3, aI a] (.bool false) []):Vc (kY Try.prog false (cF Try.prog 48) (rfP (rfC Try.prog 48 0)).toList [aI j,.agg (enA e)] (rfA (rfC Try.prog 48 0)) (rfB (rfC Try.prog 48 0)) (oI p m a l) (oG 0 0 false) [.cl [.agg (pgA p),.agg (enA e), aI 3, aI a] (.bool false) []] .nrm [(0,0),(1,1),(2,2)] (oG 0 0 false)):=ar (vS p (yF p e (yG a e (cj h (yH trivial)))))
theorem ub(p:Pg)(m:List Int)(a:Int)(l:List En)(j:Int)(e:En)(h:pC_ 39 [.agg (pgA p),.agg (enA e), aI 3, aI a] (.bool true) [])(h2:pC_ 60 [.agg (enA e), aI j] (.tup [aI (if e.dn then e.val else 0), aI (if e.dn then j else 0),.bool e.dn]) []):Vc (kY Try.prog false (cF Try.prog 48) (rfP (rfC Try.prog 48 0)).toList [aI j,.agg (enA e)] (rfA (rfC Try.prog 48 0)) (rfB (rfC Try.prog 48 0)) (oI p m a l) (oG 0 0 false) [.cl [.agg (pgA p),.agg (enA e), aI 3, aI a] (.bool true) [],.cl [.agg (enA e), aI j] (.tup [aI (if e.dn then e.val else 0), aI (if e.dn then j else 0),.bool e.dn]) []] .ret [(0,0),(1,1),(2,2)] (oG (if e.dn then e.val else 0) (if e.dn then j else 0) e.dn)):=ar (vS p (yF p e (yG a e (cj h (cj (rf e.pc) (cj (rf e.val) (cj (rf e.adr) (cj (rf e.frm) (cj (rf e.nxt) (cj (rf e.dn) (cj (rf e.kn) (cj (rf e.ft) (cj (rf j) (cj h2 (cj (rf (if e.dn=true then e.val else(0:Int))) (cj (rf (if e.dn=true then j else(0:Int))) (cj (rf e.dn) trivial)))))))))))))))))
theorem lk(p:Pg)(l:List En)(a:Int): ∀c,(ldF p l a c=none∧ ∀j,j<c->fi p 3 a (l.getD j default)=false)∨
  ∃q,q<c∧fi p 3 a (l.getD q default)=true∧(∀j,q<j->j<c->fi p 3 a (l.getD j default)=false)∧ldF p l a c=some (if(l.getD q default).dn then((l.getD q default).val,(q:Int),true) else(0,0,false))
 |0=> .inl ⟨rfl,fun j hj=>by omega⟩
 |c+1=>by
  unfold ldF
  by_cases h:fi p 3 a (l.getD c default)=true
  ·rw[ao (show(enI p l c).kind=3∧_ from cR.1 h)]
   exact .inr ⟨c,by omega,h,fun j h1 h2=>by omega,rfl⟩
  ·rw[aj (show ¬((enI p l c).kind=3∧_) from fun e=>h (cR.2 e))]
   have hf:fi p 3 a (l.getD c default)=false:=by simpa using h
   rcases lk p l a c with⟨h1,h2⟩|⟨q,h1,h2,h3,h4⟩
   ·refine .inl ⟨h1,fun j hj=> ?_⟩
    by_cases e:j=c
    ·rw[e];exact hf
    ·exact h2 j (by omega)
   ·refine .inr ⟨q,by omega,h2,fun j hj1 hj2=> ?_,h4⟩
    by_cases e:j=c
    ·rw[e];exact hf
    ·exact h3 j hj1 (by omega)
theorem lj(p:Pg)(m:List Int)(a:Int)(l:List En)(k:Nat)(h:fi p 3 a (l.getD (l.length-1-k) default)=false):Rnd Try.prog (cF Try.prog 48) (rfP (rfC Try.prog 48 0)).toList (bkX l k) (rfA (rfC Try.prog 48 0)) (rfB (rfC Try.prog 48 0)) (oI p m a l) (oG 0 0 false) .nrm (oG 0 0 false):=
 Rnd.vc (wS p m a l _ _ (r8 p 3 a _ false h))
theorem ob(p:Pg)(m:List Int)(a:Int)(l:List En)(k:Nat)(h:fi p 3 a (l.getD (l.length-1-k) default)=true):Rnd Try.prog (cF Try.prog 48) (rfP (rfC Try.prog 48 0)).toList (bkX l k) (rfA (rfC Try.prog 48 0)) (rfB (rfC Try.prog 48 0)) (oI p m a l) (oG 0 0 false) .ret
  (oG (if(l.getD (l.length-1-k) default).dn then(l.getD (l.length-1-k) default).val else 0) (if(l.getD (l.length-1-k) default).dn then((l.length-1-k:Nat):Int) else 0) (l.getD (l.length-1-k) default).dn):=
 Rnd.vc (ub p m a l _ _ (r8 p 3 a _ true h) (CE _ _))
theorem rP(p:Pg)(m:List Int)(a:Int)(l:List En)(hb:l.length<=1000000)(h: ∀j,j<l.length->fi p 3 a (l.getD j default)=false):Ok Try.prog (cF Try.prog 48) (rfC Try.prog 48 0) (oI p m a l).st .nrm (oJ p m a l 0 0 false).st:=
 Ok.rangeC (by kernel_rfl) rfl rfl rfl (by kernel_rfl) (bkC l hb) (fun _=>by kernel_rfl) (by kernel_rfl) (F:=fun _=>oG 0 0 false) rfl (ax _) (fun k hk=>lj p m a l k (h _ (by omega))) (.inl ⟨rfl,rfl,rfl⟩)
theorem rQ(p:Pg)(m:List Int)(a:Int)(l:List En)(hb:l.length<=1000000)(q:Nat)(hq:q<l.length)(h:fi p 3 a (l.getD q default)=true)(hn: ∀j,q<j->j<l.length->fi p 3 a (l.getD j default)=false)(v j:Int)(b:Bool)(hv:v=if(l.getD q default).dn then(l.getD q default).val else 0)(hj:j=if(l.getD q default).dn then(q:Int) else 0)(hd:b=(l.getD q default).dn):Ok Try.prog (cF Try.prog 48) (rfC Try.prog 48 0) (oI p m a l).st .ret (oJ p m a l v j b).st:=by
 subst hv;subst hd;subst hj
 have e:l.length-1-(l.length-1-q)=q:=by omega
 have hy:=ob p m a l (l.length-1-q) (by rw[e];exact h)
 rw[e] at hy
 exact Ok.rangeC (m:=l.length-1-q) (by kernel_rfl) rfl rfl rfl (by kernel_rfl) (bkC l hb) (fun _=>by kernel_rfl) (by kernel_rfl) (F:=fun _=>oG 0 0 false) rfl (by omega) (fun k hk=>lj p m a l k (hn _ (by omega) (by omega))) (.inr ⟨by omega,(by simp),hy⟩)
theorem yE(lt:List En)(a:Int){Z:Prop}(z:Z):(RF a (RF lt.length (RR lt.length 8 (fun i j=>au enC lt i j) Z))):=⟨rfl,rfl,fun _ _ _ _=>rfl,z⟩
theorem yD(p:Pg)(m:List Int){Z:Prop}(z:Z):(RF p.r3 (RF p.ms.length (RR p.ms.length 3 (fun i j=>au mmC p.ms i j) (RF p.ls.length (RR p.ls.length 2 (fun i j=>au lbC p.ls i j) (RF p.is.length (RR p.is.length 9 (fun i j=>au inC p.is i j) (RF m.length (RR m.length 1 (fun i j=>aI (m.getD i 0)) Z))))))))):=⟨rfl,rfl,fun _ _ _ _=>rfl,rfl,fun _ _ _ _=>rfl,rfl,fun _ _ _ _=>rfl,rfl,fun _ _ _ _=>rfl,z⟩
theorem yC(p:Pg){Z:Prop}(z:Z):(RF (0:Int) (RF (0:Int) (RF false (RF p.W (RF p.win (RF p.fuel (RF p.r0 (RF p.r1 (RF p.r2 Z))))))))):=⟨rfl,rfl,rfl,rfl,rfl,rfl,rfl,rfl,rfl,z⟩
theorem yB(l:List En)(i:Int){Z:Prop}(z:Z):(RF l.length (RR l.length 8 (fun i j=>au enC l i j) (RF i Z))):=⟨rfl,fun _ _ _ _=>rfl,rfl,z⟩
theorem vB(p:Pg)(m:List Int)(l lt:List En)(i a:Int)(v j:Int)(b:Bool)(hc:pC_ 36 [enR l, aI i] (enR lt) [])(h:Ok Try.prog (cF Try.prog 48) (rfC Try.prog 48 0) (oI p m a lt).st .ret (oJ p m a lt v j b).st):Vc (vF_ 48 [.agg (pgA p),lR m,enR l, aI i, aI a] [.fv,.fv,.cl [enR l, aI i] (enR lt) [],.fv,.lp [(0,0),(1,1),(2,2)] (oI p m a lt) .ret (oJ p m a lt v j b)] [] (.tup [aI v, aI j,.bool b]) []):=ar (yB l i (cj hc (yC p (yD p m (yE lt a (cj h (cj (rf v) (cj (rf j) (cj (rf b) trivial)))))))))
theorem A6(p:Pg)(m:List Int)(l lt:List En)(i a:Int)(hc:pC_ 36 [enR l, aI i] (enR lt) [])(h:Ok Try.prog (cF Try.prog 48) (rfC Try.prog 48 0) (oI p m a lt).st .nrm (oJ p m a lt 0 0 false).st):Vc (vF_ 48 [.agg (pgA p),lR m,enR l, aI i, aI a] [.fv,.fv,.cl [enR l, aI i] (enR lt) [],.fv,.lp [(0,0),(1,1),(2,2)] (oI p m a lt) .nrm (oJ p m a lt 0 0 false),.cl [lR m, aI a] (aI (ceV m a)) []] [] (.tup [aI (ceV m a), aI (-1),.bool true]) []):=ar (yB l i (cj hc (yC p (yD p m (yE lt a (cj h (cj (rf m.length) (cj (rr m.length 1 fun i j=>aI (m.getD i 0)) (cj (rf a) (cj (ceC m a) (cj (rf (ceV m a)) (cj (rf (-1:Int)) (cj (rf true) trivial)))))))))))))
theorem xI(m:List Int)(a:Int):(if 0<=a∧a<m.length then(m.getD a.toNat 0,(-1:Int),true) else(0, -1,true))=(ceV m a, -1,true):=by
 unfold ceV
 by_cases h:0<=a∧a<m.length
 ·rw[ao h,ao h]
 ·rw[aj h,aj h]
theorem A7(p:Pg)(m:List Int)(l:List En)(i a:Int)(hb:l.length<1000000):pC_ 48 [.agg (pgA p),lR m,enR l,.int .i64 i,.int .i64 a] (.tup [.int .i64 (ldV p m l i a).1,.int .i64 (ldV p m l i a).2.1,.bool (ldV p m l i a).2.2]) []:=by
 have hle:=fN i l.length
 have hc:=om l i (cl0 i l.length) (by unfold cl0;omega) hb
 have hlen:(l.take (cl0 i l.length)).length=cl0 i l.length:=by rw[aP];omega
 unfold ldV
 rcases lk p l a (cl0 i l.length) with⟨h1,h2⟩|⟨q,h1,h2,h3,h4⟩
 ·rw[h1]
  dsimp only
  rw[xI]
  exact PureC.vc (A6 p m l _ i a hc (rP p m a _ (by omega) fun j hj=>by rw[bP (by omega)];exact h2 j (by omega)))
 ·rw[h4]
  dsimp only
  have hl:=fun v j b hv hj hd=>rQ p m a (l.take (cl0 i l.length)) (by omega) q (by omega) (by rw[bP (by omega)];exact h2) (fun j a b=>by rw[bP (by omega)];exact h3 j a (by omega)) v j b hv hj hd
  rw[bP (by omega)] at hl
  cases hd:(l.getD q default).dn with
  |true=>exact PureC.vc (vB p m l _ i a (l.getD q default).val q true hc (hl _ _ _ (by rw[hd];rfl) (by rw[hd];rfl) hd.symm))
  |false=>exact PureC.vc (vB p m l _ i a 0 0 false hc (hl _ _ _ (by rw[hd];rfl) (by rw[hd];rfl) hd.symm))
def uG(p:Pg)(l:List En)(i a:Int)(k:Nat):Prop:=i<(k:Int)∧hzB p l i a k
instance(p:Pg)(l:List En)(i a:Int)(k:Nat):Decidable (uG p l i a k):=inferInstanceAs (Decidable (_∧_))
def hzL(p:Pg)(l:List En)(i a:Int):Nat->Nat->Option Nat
 |_,0=>none
 |k,j+1=>if uG p l i a k then some k else hzL p l i a (k+1) j
def lzS(p:Pg)(l:List En)(i a:Int)(k:Nat):Sm:=⟨[(4,pgP p),(12,enR l),(2,.int .i64 i),(3,.int .i64 a),(13,.int .i64 l.length),(14,.int .i64 k)],[],0⟩
theorem o3(p:Pg)(l:List En)(i:Int)(a:Int){Z:Prop}(z:Z):(RF p.ls.length (RR p.ls.length 2 (fun i j=>au lbC p.ls i j) (RF p.is.length (RR p.is.length 9 (fun i j=>au inC p.is i j) (RF l.length (RR l.length 8 (fun i j=>au enC l i j) (RF i (RF a (RF (l.length:Int) Z))))))))):=⟨rfl,fun _ _ _ _=>rfl,rfl,fun _ _ _ _=>rfl,rfl,fun _ _ _ _=>rfl,rfl,rfl,rfl,z⟩
theorem mr(p:Pg){Z:Prop}(z:Z):(RF p.W (RF p.win (RF p.fuel (RF p.r0 (RF p.r1 (RF p.r2 (RF p.r3 (RF p.ms.length (RR p.ms.length 3 (fun i j=>au mmC p.ms i j) Z))))))))):=⟨rfl,rfl,rfl,rfl,rfl,rfl,rfl,rfl,fun _ _ _ _=>rfl,z⟩
theorem AX(p:Pg)(l:List En)(i a:Int)(k:Nat)(hk:k<l.length)(hb:l.length<1000000)(hi: ¬i<(k:Int)):Vc (vC_ 21 0 (lzS p l i a k) [.bd true,.bd false] .nrm [] (lzS p l i a (k+1))):=ar (cj (dt ((k:Int)<l.length)) (cj (bi k l.length) (cj (df ((k:Int)>i)) (cj (i6 (k+1)) (mr p (o3 p l i a (cj (rf ((k:Int)+1)) trivial)))))))
theorem AZ(p:Pg)(l:List En)(i a:Int)(k:Nat)(hk:k<l.length)(hb:l.length<1000000)(hi:i<(k:Int))(hf: ¬(l.getD k default).frm<i):Vc (vC_ 21 0 (lzS p l i a k) [.bd true,.bd true,.bd false] .nrm [] (lzS p l i a (k+1))):=ar (cj (dt ((k:Int)<l.length)) (cj (bi k l.length) (cj (dt ((k:Int)>i)) (cj (dQ hf) (cj (i6 (k+1)) (mr p (o3 p l i a (cj (rf ((k:Int)+1)) trivial))))))))
theorem yA(l:List En)(a:Int)(k:Nat){Z:Prop}(z:Z):(RF ((l.getD k default).dn) (RF ((l.getD k default).kn) (RF ((l.getD k default).ft) (RF (2:Int) (RF a Z))))):=⟨rfl,rfl,rfl,rfl,rfl,z⟩
theorem yz(p:Pg)(l:List En)(k:Nat){Z:Prop}(z:Z):(RF p.ls.length (RR p.ls.length 2 (fun i j=>au lbC p.ls i j) (RF p.is.length (RR p.is.length 9 (fun i j=>au inC p.is i j) (RF ((l.getD k default).pc) (RF ((l.getD k default).val) (RF ((l.getD k default).adr) (RF ((l.getD k default).frm) (RF ((l.getD k default).nxt) Z))))))))):=⟨rfl,fun _ _ _ _=>rfl,rfl,fun _ _ _ _=>rfl,rfl,rfl,rfl,rfl,rfl,z⟩
theorem AY(p:Pg)(l:List En)(i a:Int)(k:Nat)(hk:k<l.length)(hb:l.length<1000000)(hi:i<(k:Int))(hf:(l.getD k default).frm<i)(h:pC_ 39 [.agg (pgA p),.agg (enA (l.getD k default)), aI 2, aI a] (.bool false) []):Vc (vC_ 21 0 (lzS p l i a k) [.bd true,.bd true,.bd true,.cl [.agg (pgA p),.agg (enA (l.getD k default)), aI 2, aI a] (.bool false) []] .nrm [] (lzS p l i a (k+1))):=ar (cj (dt ((k:Int)<l.length)) (cj (bi k l.length) (cj (dt ((k:Int)>i)) (cj (cO hf) (mr p (yz p l k (yA l a k (cj h (cj (i6 (k+1)) (mr p (o3 p l i a (cj (rf ((k:Int)+1)) trivial))))))))))))
theorem CM(p:Pg)(l:List En)(i a:Int)(k:Nat)(hk:k<l.length)(hb:l.length<1000000)(hi:i<(k:Int))(hf:(l.getD k default).frm<i)(h:pC_ 39 [.agg (pgA p),.agg (enA (l.getD k default)), aI 2, aI a] (.bool true) []):Vc (vC_ 21 0 (lzS p l i a k) [.bd true,.bd true,.bd true,.cl [.agg (pgA p),.agg (enA (l.getD k default)), aI 2, aI a] (.bool true) []] .ret [] (vbS 8 9 ((k:Int),true))):=ar (cj (dt ((k:Int)<l.length)) (cj (bi k l.length) (cj (dt ((k:Int)>i)) (cj (cO hf) (mr p (yz p l k (yA l a k (cj h (cj (rf (k:Int)) (cj (rf true) trivial))))))))))
theorem w8(p:Pg)(l:List En)(i a:Int):Vc (vC_ 21 0 (lzS p l i a l.length) [.bd false] (.ext 0) [] (lzS p l i a l.length)):=ar (cj (df ((l.length:Int)<l.length)) (mr p (o3 p l i a (cj (rf (l.length:Int)) trivial))))
theorem oK(p:Pg)(l:List En)(i a:Int)(hb:l.length<1000000)(q:Nat): ∀j k,k+j=l.length->hzL p l i a k j=some q->OkL Try.prog (cF Try.prog 21) (lpC Try.prog 21 0) (lzS p l i a k).st .ret (vbS 8 9 ((q:Int),true)).st
 |0,k,_,h=>by cases h
 |j+1,k,hk,h=>by
  unfold hzL at h
  by_cases hz:uG p l i a k
  ·rw[ao hz] at h
   obtain⟨hi,hk3,hn,ha,hf⟩:=hz
   have hg:fi p 2 a (l.getD k default)=true:=cR.2 ⟨hk3,hn,ha⟩
   rw[ah] at h
   subst h
   exact OkL.exit (Ok.vc (CM p l i a k (by omega) hb hi hf (r8 p 2 a _ true hg))) (by simp)
  ·rw[aj hz] at h
   refine OkL.step ?_ (oK p l i a hb q j (k+1) (by omega) h)
   by_cases hi:i<(k:Int)
   ·by_cases hf:(l.getD k default).frm<i
    ·cases hg:fi p 2 a (l.getD k default) with
     |false=>exact Ok.vc (AY p l i a k (by omega) hb hi hf (r8 p 2 a _ false hg))
     |true=>exact absurd ⟨hi,(cR.1 hg).1,(cR.1 hg).2.1,(cR.1 hg).2.2,hf⟩ hz
    ·exact Ok.vc (AZ p l i a k (by omega) hb hi hf)
   ·exact Ok.vc (AX p l i a k (by omega) hb hi)
theorem oH(p:Pg)(l:List En)(i a:Int)(hb:l.length<1000000): ∀j k,k+j=l.length->hzL p l i a k j=none->OkL Try.prog (cF Try.prog 21) (lpC Try.prog 21 0) (lzS p l i a k).st (.ext 0) (lzS p l i a l.length).st
 |0,k,hk,_=>by
  obtain rfl:k=l.length:=by omega
  exact OkL.exit (Ok.vc (w8 p l i a)) (by simp)
 |j+1,k,hk,h=>by
  unfold hzL at h
  by_cases hz:uG p l i a k
  ·rw[ao hz] at h
   obtain⟨hi,hk3,hn,ha,hf⟩:=hz
   have hg:fi p 2 a (l.getD k default)=true:=cR.2 ⟨hk3,hn,ha⟩
   cases h
  ·rw[aj hz] at h
   refine OkL.step ?_ (oH p l i a hb j (k+1) (by omega) h)
   by_cases hi:i<(k:Int)
   ·by_cases hf:(l.getD k default).frm<i
    ·cases hg:fi p 2 a (l.getD k default) with
     |false=>exact Ok.vc (AY p l i a k (by omega) hb hi hf (r8 p 2 a _ false hg))
     |true=>exact absurd ⟨hi,(cR.1 hg).1,(cR.1 hg).2.1,(cR.1 hg).2.2,hf⟩ hz
    ·exact Ok.vc (AZ p l i a k (by omega) hb hi hf)
   ·exact Ok.vc (AX p l i a k (by omega) hb hi)
theorem oW(p:Pg)(l:List En)(i a:Int)(n:Nat): ∀j k,k+j=n->hzL p l i a k j=if k<hz0 i n then hzG p l i a (hz0 i n) (n-hz0 i n) else hzG p l i a k j
 |0,k,hk=>by
  by_cases h:k<hz0 i n
  ·rw[ao h,show n-hz0 i n=0 by omega];rfl
  ·rw[aj h];rfl
 |j+1,k,hk=>by
  have ih:=oW p l i a n j (k+1) (by omega)
  unfold hzL
  by_cases h:k<hz0 i n
  ·rw[ao h]
   have hi: ¬i<(k:Int):=by unfold hz0 at h;omega
   rw[aj fun e=>hi e.1,ih]
   by_cases h2:k+1<hz0 i n
   ·rw[ao h2]
   ·rw[aj h2,show hz0 i n=k+1 by omega,show n-(k+1)=j by omega]
  ·rw[aj h]
   have hi:i<(k:Int):=by unfold hz0 at h;omega
   rw[aj (by omega)] at ih
   rw[ih,show hzG p l i a k (j+1)=if hzB p l i a k then some k else hzG p l i a (k+1) j from rfl]
   by_cases hz:hzB p l i a k
   ·rw[ao hz,ao ⟨hi,hz⟩]
   ·rw[aj hz,aj fun e=>hz e.2]
theorem xr(p:Pg)(l:List En)(i a:Int):hzL p l i a 0 l.length=hzG p l i a (hz0 i l.length) (l.length-hz0 i l.length):=by
 rw[oW p l i a l.length l.length 0 (by omega)]
 by_cases h:0<hz0 i l.length
 ·rw[ao h]
 ·rw[aj h,show hz0 i l.length=0 by omega];rfl
theorem xd(p:Pg)(l:List En)(i a:Int)(q:Nat)(h:oL_ 21 0 (lzS p l i a 0).st .ret (vbS 8 9 ((q:Int),true)).st):Vc (vF_ 21 [.agg (pgA p),enR l, aI i, aI a] [.fv,.lp [] (lzS p l i a 0) .ret (vbS 8 9 ((q:Int),true))] [] (.tup [aI q,.bool true]) []):=ar (mr p (o3 p l i a (cj (rf (0:Int)) (cj h (cj (rf (q:Int)) (cj (rf true) trivial))))))
theorem xe(p:Pg)(l:List En)(i a:Int)(h:oL_ 21 0 (lzS p l i a 0).st (.ext 0) (lzS p l i a l.length).st):Vc (vF_ 21 [.agg (pgA p),enR l, aI i, aI a] [.fv,.lp [] (lzS p l i a 0) (.ext 0) (lzS p l i a l.length)] [] (.tup [aI 0,.bool false]) []):=ar (mr p (o3 p l i a (cj (rf (0:Int)) (cj h (cj (rf (0:Int)) (cj (rf false) trivial))))))
theorem CU(p:Pg)(l:List En)(i a:Int)(hb:l.length<1000000):pC_ 21 [.agg (pgA p),enR l,.int .i64 i,.int .i64 a] (.tup [.int .i64 (hzV p l i a).1,.bool (hzV p l i a).2]) []:=by
 unfold hzV
 rw[<-xr]
 cases h:hzL p l i a 0 l.length with
 |some q=>exact PureC.vc (xd p l i a q (oK p l i a hb q _ _ (by omega) h).ok)
 |none=>exact PureC.vc (xe p l i a (oH p l i a hb _ _ (by omega) h).ok)
end
end Go.Proofs.Ytlfldlnohmobmaa.Px
namespace Go.Proofs.Ytlfldlnohmobmaa
section
open Go.RowKit
abbrev Part:=Option Addr×Nat×List Int
def Part.v(p:Part):Value:= .slice p.1 p.2.2.length p.2.1
def mj:List Part->List Int
 | []=>[]
 |p::l=>p.2.2++mj l
set_option maxHeartbeats 2000000 in
theorem pN(A:Option Addr)(n c:Nat)(xs:List Int)(w:World)(hn:n=xs.length)(hr:Rd w w.heap.size A (xs.map (Value.int .i64)))(hs:n<=1000000):
  Calls Try.prog 35 #[.slice A n c] w (RetOwn w.heap.size 3 (xs.map (Value.int .i64)) w):=by
 subst hn
 obtain⟨i0,hi0,hz0,hs0,hb0⟩:=info_parts Bp
 cases A with
 |none=>
  have hx:xs=[]:=by have:=hr.none_nil;simpa using this
  subst hx
  have he: ∀w:World,(binOp .eql 34 (.slice none 0 c) (.slice none 0 0)).run Try.prog w= .ok (.bool true) w:=fun _=>rfl
  go_enter Try.func35,Try.ntmps35
  go_wp2_with fail
  go_ret
  exact⟨_,rfl,World.ownsRow_nil _ _ _ _,up0 _⟩
 |some ad=>
  have hlit:=rm w 3 _ rfl
  have he: ∀w:World,(binOp .eql 34 (.slice (some ad) xs.length c) (.slice none 0 0)).run Try.prog w= .ok (.bool false) w:=fun _=>rfl
  go_enter Try.func35,Try.ntmps35
  go_wp2_with (at_builtin;refine tt _ rfl (.tmp 5) (.tmp 6) _ rfl w.heap.size 3 i0 _ 8 Try.underlying34 hi0 hz0 hs0 hb0 rfl _ 0 [] rfl hlit (w.alloc (.cells #[] 3)).heap.size (some ad) xs.length c (xs.map (Value.int .i64)) rfl (by simp) (hr.allocT _) (rW _ _) (by omega) (by omega) (by simp) ?_;intro v1 w1 hown1 hb1)
  go_ret
  refine⟨_,rfl, ?_,(upA (up0 w) _).trans hb1⟩
  have:=rk hown1
  rwa [cB]
end
end Go.Proofs.Ytlfldlnohmobmaa
namespace Go.Proofs.Ytlfldlnohmobmaa.Px
section
open Go.RowKit Go.Proofs.Ytlfldlnohmobmaa.Rx
theorem gD{a:AV}{l:List Int}(h:PartOk a l)(hl:l.length<=1000000):pC_ 35 [a] (.own 0 0 1 0 l.length) [gd l]:=
 PureC.ofOwn (k:= .i64) (l:=l) rfl (fun _ _=>rfl) fun w R vs hR hn ha=>by
  obtain⟨v,rfl,hv⟩:=uc rfl hn ha
  obtain⟨A,c,rfl,hr⟩:=h.rep hv hR
  exact pN A _ c l w rfl hr hl
theorem kw(l:List Int)(hl:l.length<=1000000):pC_ 35 [lR l] (lR l) []:=(gD (.row l) hl).frozen
def ac(ms:List Mm)(s:Nat)(k:Nat):Sm:=⟨[(8,.int .i64 ms.length),(7,i9 ms),(9,.int .i64 k),(3,.int .i64 s)],[],0⟩
theorem uT(ms:List Mm)(s k:Nat)(hk:k<ms.length)(h64:ms.length<4611686018427387904)(hs:s+(ms.getD k default).n<=16):Vc (vC_ 38 0 (ac ms s k) [.b true] .nrm [] (ac ms (s+(ms.getD k default).n) (k+1))):=ar (cj (dt ((k:Int)<ms.length)) (cj (bi k ms.length) (cj (i6 (16-s)) (cj (i6 ((s:Int)+if(16:Int)-(s:Int)<if(↑((ms.getD k default).n):Int)<0 then(0:Int) else(↑((ms.getD k default).n):Int) then(16:Int)-(s:Int) else if(↑((ms.getD k default).n):Int)<0 then(0:Int) else(↑((ms.getD k default).n):Int))) (cj (i6 (k+1)) (cj (rf (ms.length:Int)) (cj (rf ms.length) (cj (rr ms.length 3 fun i j=>au mmC ms i j) (cj (rf ((k:Int)+1)) (cj (pv (((s:Int)+if(16:Int)-(s:Int)<if(↑((ms.getD k default).n):Int)<0 then(0:Int) else(↑((ms.getD k default).n):Int) then(16:Int)-(s:Int) else if(↑((ms.getD k default).n):Int)<0 then(0:Int) else(↑((ms.getD k default).n):Int))=(↑(s+(ms.getD k default).n):Int))) trivial))))))))))
theorem xU(ms:List Mm)(s:Nat):Vc (vC_ 38 0 (ac ms s ms.length) [.b false] (.ext 0) [] (ac ms s ms.length)):=ar (cj (df ((ms.length:Int)<ms.length)) (cj (rf (ms.length:Int)) (cj (rf ms.length) (cj (rr ms.length 3 fun i j=>au mmC ms i j) (cj (rf (ms.length:Int)) (cj (rf (s:Int)) trivial))))))
theorem uU(ms:List Mm)(h64:ms.length<4611686018427387904)(hs:aQ ms<=16):oL_ 38 0 (ac ms 0 0).st (.ext 0) (ac ms (aQ ms) ms.length).st:=by
 have:=Ok.loop (P:=Try.prog) (nt:=cF Try.prog 38) (c:=lpC Try.prog 38 0) (F:=fun k=>ac ms (aQ (ms.take k)) k) (m:=ms.length) (x:= .ext 0) (J:=ac ms (aQ ms) ms.length) (fun k hk=>by
  have h1:=o8 hk
  have h2:=lG ms (k+1)
  show Ok _ _ _ _ _ (ac ms (aQ (ms.take (k+1))) (k+1)).st
  rw[h1]
  exact Ok.vc (uT ms _ k hk h64 (by omega))) (by
  show Ok _ _ _ (ac ms (aQ (ms.take ms.length)) ms.length).st _ _
  rw[List.take_length]
  exact Ok.vc (xU ms _)) (by simp)
 simpa [aQ] using this
theorem xT(W r0 r1 r2 r3:Int)(ms:List Mm)(h64:ms.length<4611686018427387904)(hs:aQ ms<=16):Vc (vF_ 38 [.agg (gi W r0 r1 r2 r3 (i9 ms))] [.lp [] (ac ms 0 0) (.ext 0) (ac ms (aQ ms) ms.length)] [] (aI (aQ ms)) []):=ar (cj (rf (ms.length:Int)) (cj (rf ms.length) (cj (rr ms.length 3 fun i j=>au mmC ms i j) (cj (rf (0:Int)) (cj (rf (0:Int)) (cj (uU ms h64 hs) (cj (rf (↑(aQ ms):Int)) trivial)))))))
theorem fZ(W r0 r1 r2 r3:Int)(ms:List Mm)(h64:ms.length<4611686018427387904)(hs:aQ ms<=16):pC_ 38 [.agg (gi W r0 r1 r2 r3 (i9 ms))] (.int .i64 (aQ ms)) []:=PureC.vc (xT W r0 r1 r2 r3 ms h64 hs)
theorem Bm{l:List Int}{n i:Nat}(h:i<n):AV.int .i64 (l.getD i 0)=AV.int .i64 ((l.take n).getD i 0):=by
 rw[aq,aq,aU,ao h]
theorem lB(p:Pg)(e:En){Z:Prop}(z:Z):(RF p.ls.length (RR p.ls.length 2 (fun i j=>au lbC p.ls i j) (RF p.is.length (RR p.is.length 9 (fun i j=>au inC p.is i j) (RF e.pc Z))))):=⟨rfl,fun _ _ _ _=>rfl,rfl,fun _ _ _ _=>rfl,rfl,z⟩
theorem gq(p:Pg){Z:Prop}(z:Z):(RF p.W (RF p.win (RF p.fuel (RF p.r0 (RF p.r1 (RF p.r2 (RF p.r3 (RF p.ms.length (RR p.ms.length 3 (fun i j=>au mmC p.ms i j) Z))))))))):=⟨rfl,rfl,rfl,rfl,rfl,rfl,rfl,rfl,fun _ _ _ _=>rfl,z⟩
theorem sY(p:Pg){Z:Prop}(z:Z):(RF p.W (RF p.r0 (RF p.r1 (RF p.r2 (RF p.r3 (RF p.ms.length (RR p.ms.length 3 (fun i j=>au mmC p.ms i j) Z))))))):=⟨rfl,rfl,rfl,rfl,rfl,rfl,fun _ _ _ _=>rfl,z⟩
abbrev t4(p:Pg):Prop:=PureC Try.prog 38 [.agg (gi p.W p.r0 p.r1 p.r2 p.r3 (i9 p.ms))] (.int .i64 (aQ p.ms)) []
abbrev tY(st:List Int):Prop:=PureC Try.prog 35 [lR st] (.own 0 0 1 0 st.length) [gd st]
abbrev tZ:Prop:=PureC Try.prog 35 [.nils] (lR []) []
abbrev ui(p:Pg)(e:En)(op:Int)(d:Int)(tg:Int)(a:Vl)(b:Vl)(nm:ByteArray):Orc:= .cl [.agg (pgA p), aI e.pc] (.agg (inA (⟨8,op,d,a,b,nm,tg⟩:In))) []
abbrev ug(p:Pg):Orc:= .cl [.agg (gi p.W p.r0 p.r1 p.r2 p.r3 (i9 p.ms))] (aI (aQ p.ms)) []
abbrev uh(st:List Int):Orc:= .cl [lR st] (.own 0 0 1 0 st.length) [gd st]
theorem sM(p:Pg)(e:En)(st:List Int)(op d tg:Int)(a b:Vl)(nm:ByteArray)(hA:pC_ 45 [.agg (pgA p), aI e.pc] (.agg (inA (⟨8,op,d,a,b,nm,tg⟩:In))) [])(hc:t4 p)(hn:tZ)(hs:tY st)(hk:4<=st.length)(hk2:st.length<1000):Vc (vF_ 49 [.agg (pgA p),lR st,.agg (enA e)] [.fz,.fz,ui p e op d tg a b nm,.bd true,.fz,.inl,.fz,.cl [.nils] (lR []) [],uh st,ug p,.it 2,.inl,ui p e op d tg a b nm,.fz,.bd true] [] (.tup [lR st,.bool false]) []):=ar (gq p (lB p e (cj hA (cj (e1 8 8) (cj hn (cj (rf st.length) (cj (rr st.length 1 fun i j=>aI (st.getD i 0)) (cj hs (sY p (cj hc (gq p (lB p e (cj hA (cj (dt ((st.length:Int)>=4)) (cj (i6 (0+1)) (cj (rf st.length) (cj (rr st.length 1 fun i j=>aI (st.getD i 0)) (cj (e0 2 0) trivial))))))))))))))))))
theorem sL(p:Pg)(e:En)(st:List Int)(op d tg:Int)(a b:Vl)(nm:ByteArray)(hA:pC_ 45 [.agg (pgA p), aI e.pc] (.agg (inA (⟨8,op,d,a,b,nm,tg⟩:In))) [])(hc:t4 p)(hn:tZ)(hs:tY st)(hk: ¬4<=st.length)(hp: -1<=e.pc∧e.pc<=1000000):Vc (vF_ 49 [.agg (pgA p),lR st,.agg (enA e)] [.fz,.fz,ui p e op d tg a b nm,.bd true,.fz,.inl,.fz,.cl [.nils] (lR []) [],uh st,ug p,.it 2,.inl,ui p e op d tg a b nm,.fz,.bd false] [] (.tup [lR (st++[e.pc+1]),.bool true]) []):=ar (gq p (lB p e (cj hA (cj (e1 8 8) (cj hn (cj (rf st.length) (cj (rr st.length 1 fun i j=>aI (st.getD i 0)) (cj hs (sY p (cj hc (gq p (lB p e (cj hA (cj (df ((st.length:Int)>=4)) (cj (i6 (e.pc+1)) (cj (ap st.length 1 8) (cj (i6 (0+1)) (cj (pv (st.length+1=(st++[e.pc+1]).length)) (cj (show ∀(i:Nat),i<st.length+1-> ∀(j:Nat),j<1->(bif Nat.blt (i+0) st.length then aI (st.getD (i+0) 0) else List.getD [aI (e.pc+1)] ((i+0-st.length+0)*1+j) AV.junk)=aI (List.getD (st++[e.pc+1]) i (0:Int)) from(fun i hi j hj=>by obtain rfl:j=0:=(by omega);exact gO (g:=fun a b=>[AV.int .i64 (e.pc+1)].getD (a*1+b) .junk) rfl i hi _ fun _=>rfl)) (cj (e1 0 0) trivial))))))))))))))))))))
abbrev uf(p:Pg)(e:En)(op:Int)(d:Int)(tg:Int)(a:Vl)(b:Vl)(nm:ByteArray):Orc:= .cl [.agg (pgA p), aI e.pc] (.agg (inA (⟨9,op,d,a,b,nm,tg⟩:In))) []
theorem uQ(p:Pg)(e:En)(st:List Int)(op d tg:Int)(a b:Vl)(nm:ByteArray)(hA:pC_ 45 [.agg (pgA p), aI e.pc] (.agg (inA (⟨9,op,d,a,b,nm,tg⟩:In))) [])(hc:t4 p)(hn:tZ)(hs:tY st)(hk:st.length=0):Vc (vF_ 49 [.agg (pgA p),lR st,.agg (enA e)] [.fz,.fz,uf p e op d tg a b nm,.bd false,.bd true,.fz,.inl,.fz,.cl [.nils] (lR []) [],uh st,ug p,.it 2,.inl,uf p e op d tg a b nm,.inl,.bd true] [] (.tup [lR st,.bool false]) []):=ar (gq p (lB p e (cj hA (cj (e0 9 8) (cj (e1 9 9) (cj hn (cj (rf st.length) (cj (rr st.length 1 fun i j=>aI (st.getD i 0)) (cj hs (sY p (cj hc (gq p (lB p e (cj hA (cj (i6 (st.length-1)) (cj (dt ((st.length:Int)-1<0)) (cj (i6 (0+1)) (cj (rf st.length) (cj (rr st.length 1 fun i j=>aI (st.getD i 0)) (cj (e0 2 0) trivial))))))))))))))))))))
theorem uP(p:Pg)(e:En)(st:List Int)(op d tg:Int)(a b:Vl)(nm:ByteArray)(hA:pC_ 45 [.agg (pgA p), aI e.pc] (.agg (inA (⟨9,op,d,a,b,nm,tg⟩:In))) [])(hc:t4 p)(hn:tZ)(hs:tY st)(hk: ¬st.length=0)(hk2:st.length<1000):Vc (vF_ 49 [.agg (pgA p),lR st,.agg (enA e)] [.fz,.fz,uf p e op d tg a b nm,.bd false,.bd true,.fz,.inl,.fz,.cl [.nils] (lR []) [],uh st,ug p,.it 2,.inl,uf p e op d tg a b nm,.inl,.bd false] [] (.tup [lR (st.take (st.length-1)),.bool true]) []):=ar (gq p (lB p e (cj hA (cj (e0 9 8) (cj (e1 9 9) (cj hn (cj (rf st.length) (cj (rr st.length 1 fun i j=>aI (st.getD i 0)) (cj hs (sY p (cj hc (gq p (lB p e (cj hA (cj (i6 (st.length-1)) (cj (df ((st.length:Int)-1<0)) (cj (bi (st.length-1) st.length) (cj (pv (Int.toNat ((st.length:Int)-1)+0<st.length)) (cj (pv ((0:Int)<=st.length-1∧(st.length:Int)-1<=st.length)) (cj (pv ((16:Nat)<=140737488355328∧(1:Nat)<=140737488355328)) (cj (i6 (0+1)) (cj (pv (Int.toNat ((st.length:Int)-1)=(List.take (st.length-1) st).length)) (cj (show ∀(i:Nat),i<Int.toNat ((st.length:Int)-1)-> ∀(j:Nat),j<1->aI (st.getD (i+0) 0)=aI (List.getD (List.take (st.length-1) st) i 0) from(fun i hi j hj=>Bm (show i<st.length-1 by omega))) (cj (e1 0 0) trivial))))))))))))))))))))))))
theorem Dm(p:Pg)(e:En)(st:List Int)(x:In)(h8: ¬x.kind=8)(h9: ¬x.kind=9)(hA:pC_ 45 [.agg (pgA p), aI e.pc] (.agg (inA x)) []):Vc (vF_ 49 [.agg (pgA p),lR st,.agg (enA e)] [.fz,.fz,.cl [.agg (pgA p), aI e.pc] (.agg (inA x)) [],.bd false,.bd false] [] (.tup [lR st,.bool true]) []):=ar (gq p (lB p e (cj hA (cj (af.2 h8) (cj (af.2 h9) (cj (rf st.length) (cj (rr st.length 1 fun i j=>aI (st.getD i 0)) (cj (rf true) trivial))))))))
def lrS(p:Pg)(l:List En)(L:List Int)(k:Nat):Sm:=⟨[(4,pgP p),(8,.nils),(9,.bool false),(10,lR L),(19,enR l),(20,.int .i64 l.length),(21,.int .i64 k)],[],0⟩
def bhV(p:Pg)(e:En)(st:List Int):Option (List Int):=
 if(atI p e.pc).kind=8 then(if 4<=st.length then none else some (st++[e.pc+1]))
 else if(atI p e.pc).kind=9 then(if st.length=0 then none else some (st.take (st.length-1))) else some st
theorem vC(p:Pg)(e:En)(st:List Int)(hP:OkP p)(hst:st.length<900)(hp: -1<=e.pc∧e.pc<=1000000)(L:List Int)(h:bhV p e st=some L):pC_ 49 [.agg (pgA p),lR st,.agg (enA e)] (.tup [lR L,.bool true]) []:=by
 unfold bhV at h
 have hA:=atC p e.pc
 have hC:=fZ p.W p.r0 p.r1 p.r2 p.r3 p.ms (by have:=hP.ms;omega) hP.sum
 have hN:pC_ 35 [.nils] (lR []) []:=(gD .nil (by show(0:Nat)<=1000000;decide)).frozen
 have hS:=gD (.row st) (by omega)
 generalize atI p e.pc=x at hA h
 obtain⟨k,op,d,a,b,nm,tg⟩:=x
 simp only at h
 by_cases h8:k=8
 ·subst h8
  rw[ao rfl] at h
  by_cases h4:4<=st.length
  ·rw[ao h4] at h;cases h
  ·rw[aj h4] at h
   obtain rfl:=Option.some.inj h
   exact PureC.vc (sL p e st op d tg a b nm hA hC hN hS h4 hp)
 ·rw[aj h8] at h
  by_cases h9:k=9
  ·subst h9
   rw[ao rfl] at h
   by_cases h0:st.length=0
   ·rw[ao h0] at h;cases h
   ·rw[aj h0] at h
    obtain rfl:=Option.some.inj h
    exact PureC.vc (uP p e st op d tg a b nm hA hC hN hS h0 (by omega))
  ·rw[aj h9] at h
   obtain rfl:=Option.some.inj h
   exact PureC.vc (Dm p e st _ h8 h9 hA)
theorem uB(p:Pg)(e:En)(st:List Int)(hP:OkP p)(hst:st.length<900)(hp: -1<=e.pc∧e.pc<=1000000)(h:bhV p e st=none):pC_ 49 [.agg (pgA p),lR st,.agg (enA e)] (.tup [lR st,.bool false]) []:=by
 unfold bhV at h
 have hA:=atC p e.pc
 have hC:=fZ p.W p.r0 p.r1 p.r2 p.r3 p.ms (by have:=hP.ms;omega) hP.sum
 have hN:pC_ 35 [.nils] (lR []) []:=(gD .nil (by show(0:Nat)<=1000000;decide)).frozen
 have hS:=gD (.row st) (by omega)
 generalize atI p e.pc=x at hA h
 obtain⟨k,op,d,a,b,nm,tg⟩:=x
 simp only at h
 by_cases h8:k=8
 ·subst h8
  rw[ao rfl] at h
  by_cases h4:4<=st.length
  ·exact PureC.vc (sM p e st op d tg a b nm hA hC hN hS h4 (by omega))
  ·rw[aj h4] at h;cases h
 ·rw[aj h8] at h
  by_cases h9:k=9
  ·subst h9
   rw[ao rfl] at h
   by_cases h0:st.length=0
   ·exact PureC.vc (uQ p e st op d tg a b nm hA hC hN hS h0)
   ·rw[aj h0] at h;cases h
  ·rw[aj h9] at h;cases h
theorem x0(l:List En)(k:Nat){Z:Prop}(z:Z):(RF ((l.getD k default).frm) (RF ((l.getD k default).nxt) (RF ((l.getD k default).dn) (RF ((l.getD k default).kn) (RF ((l.getD k default).ft) Z))))):=⟨rfl,rfl,rfl,rfl,rfl,z⟩
theorem xZ(p:Pg)(l:List En)(L:List Int)(k:Nat){Z:Prop}(z:Z):(RF p.ls.length (RR p.ls.length 2 (fun i j=>au lbC p.ls i j) (RF p.is.length (RR p.is.length 9 (fun i j=>au inC p.is i j) (RF L.length (RR L.length 1 (fun i j=>aI (L.getD i 0)) (RF ((l.getD k default).pc) (RF ((l.getD k default).val) (RF ((l.getD k default).adr) Z))))))))):=⟨rfl,fun _ _ _ _=>rfl,rfl,fun _ _ _ _=>rfl,rfl,fun _ _ _ _=>rfl,rfl,rfl,rfl,z⟩
theorem A3(p:Pg)(l:List En)(L:List Int)(k:Nat)(hk:k<l.length)(hb:l.length<1000000)(M:List Int)(h:pC_ 49 [.agg (pgA p),lR L,.agg (enA (l.getD k default))] (.tup [lR M,.bool true]) []):Vc (vC_ 32 0 (lrS p l L k) [.bd true,.cl [.agg (pgA p),lR L,.agg (enA (l.getD k default))] (.tup [lR M,.bool true]) []] .nrm [] (lrS p l M (k+1))):=ar (cj (dt ((k:Int)<l.length)) (cj (bi k l.length) (gq p (xZ p l L k (x0 l k (cj h (cj (i6 (k+1)) (gq p (cj (rf p.ls.length) (cj (rr p.ls.length 2 fun i j=>au lbC p.ls i j) (cj (rf p.is.length) (cj (rr p.is.length 9 fun i j=>au inC p.is i j) (cj (rf false) (cj (rf M.length) (cj (rr M.length 1 fun i j=>aI (M.getD i 0)) (cj (rf l.length) (cj (rr l.length 8 fun i j=>au enC l i j) (cj (rf (l.length:Int)) (cj (rf ((k:Int)+1)) trivial)))))))))))))))))))
theorem CR(p:Pg)(l:List En)(L:List Int)(k:Nat)(hk:k<l.length)(hb:l.length<1000000)(h:pC_ 49 [.agg (pgA p),lR L,.agg (enA (l.getD k default))] (.tup [lR L,.bool false]) []):Vc (vC_ 32 0 (lrS p l L k) [.bd true,.cl [.agg (pgA p),lR L,.agg (enA (l.getD k default))] (.tup [lR L,.bool false]) []] .ret [] nS):=ar (cj (dt ((k:Int)<l.length)) (cj (bi k l.length) (gq p (xZ p l L k (x0 l k (cj h (cj (rf false) trivial)))))))
theorem CS(p:Pg)(l:List En)(L:List Int)(k:Nat)(hk: ¬k<l.length):Vc (vC_ 32 0 (lrS p l L k) [.bd false] (.ext 0) [] (lrS p l L k)):=ar (cj (df ((k:Int)<l.length)) (gq p (cj (rf p.ls.length) (cj (rr p.ls.length 2 fun i j=>au lbC p.ls i j) (cj (rf p.is.length) (cj (rr p.is.length 9 fun i j=>au inC p.is i j) (cj (rf false) (cj (rf L.length) (cj (rr L.length 1 fun i j=>aI (L.getD i 0)) (cj (rf l.length) (cj (rr l.length 8 fun i j=>au enC l i j) (cj (rf (l.length:Int)) (cj (rf (k:Int)) trivial)))))))))))))
theorem lN(p:Pg)(l:List En)(k j:Nat)(st:List Int):reG p l k (j+1) st=match bhV p (l.getD k default) st with |none=>none |some M=>reG p l (k+1) j M:=by
 show(if(atI p (l.getD k default).pc).kind=8 then(if 4<=st.length then none else reG p l (k+1) j (st++[(l.getD k default).pc+1])) else if(atI p (l.getD k default).pc).kind=9 then(if st.length=0 then none else reG p l (k+1) j (st.take (st.length-1))) else reG p l (k+1) j st)=_
 unfold bhV
 by_cases h8:(atI p (l.getD k default).pc).kind=8
 ·rw[ao h8,ao h8]
  by_cases h4:4<=st.length
  ·rw[ao h4,ao h4]
  ·rw[aj h4,aj h4]
 ·rw[aj h8,aj h8]
  by_cases h9:(atI p (l.getD k default).pc).kind=9
  ·rw[ao h9,ao h9]
   by_cases h0:st.length=0
   ·rw[ao h0,ao h0]
   ·rw[aj h0,aj h0]
  ·rw[aj h9,aj h9]
theorem vq{l:List En}(h: ∀e∈l, -1<=e.pc∧e.pc<=1000000){k:Nat}(hk:k<l.length): -1<=(l.getD k default).pc∧(l.getD k default).pc<=1000000:=h _ (by simp[List.getD,hk])
theorem oZ{p:Pg}{e:En}{st M:List Int}(h:bhV p e st=some M):M.length<=st.length+1∧(st.length<=4->M.length<=4):=by
 unfold bhV at h
 split at h
 ·split at h
  ·cases h
  ·obtain rfl:=Option.some.inj h
   rw[aV];show st.length+1<=_∧(_->st.length+1<=4);omega
 ·split at h
  ·split at h
   ·cases h
   ·obtain rfl:=Option.some.inj h
    rw[aP];omega
  ·obtain rfl:=Option.some.inj h
   omega
theorem oL(p:Pg)(l:List En)(M:List Int)(hP:OkP p)(hb:l.length<1000000)(hpc: ∀e∈l, -1<=e.pc∧e.pc<=1000000): ∀j k L,k+j=l.length->L.length+j<900->reG p l k j L=some M->OkL Try.prog (cF Try.prog 32) (lpC Try.prog 32 0) (lrS p l L k).st (.ext 0) (lrS p l M l.length).st
 |0,k,L,hk,hL,h=>by
  obtain rfl:L=M:=Option.some.inj h
  obtain rfl:k=l.length:=by omega
  exact OkL.exit (Ok.vc (CS p l _ _ (by omega))) (by simp)
 |j+1,k,L,hk,hL,h=>by
  rw[lN] at h
  have hp:=vq hpc (k:=k) (by omega)
  cases hB:bhV p (l.getD k default) L with
  |none=>rw[hB] at h;cases h
  |some N=>
   rw[hB] at h
   have:=(oZ hB).1
   exact OkL.step (Ok.vc (A3 p l L k (by omega) hb N (vC p _ L hP (by omega) hp N hB))) (oL p l M hP hb hpc j (k+1) N (by omega) (by omega) h)
theorem oM(p:Pg)(l:List En)(hP:OkP p)(hb:l.length<1000000)(hpc: ∀e∈l, -1<=e.pc∧e.pc<=1000000): ∀j k L,k+j=l.length->L.length+j<900->reG p l k j L=none->OkL Try.prog (cF Try.prog 32) (lpC Try.prog 32 0) (lrS p l L k).st .ret (nS).st
 |0,k,L,hk,hL,h=>by cases h
 |j+1,k,L,hk,hL,h=>by
  rw[lN] at h
  have hp:=vq hpc (k:=k) (by omega)
  cases hB:bhV p (l.getD k default) L with
  |none=>exact OkL.exit (Ok.vc (CR p l L k (by omega) hb (uB p _ L hP (by omega) hp hB))) (by simp)
  |some N=>
   rw[hB] at h
   have:=(oZ hB).1
   exact OkL.step (Ok.vc (A3 p l L k (by omega) hb N (vC p _ L hP (by omega) hp N hB))) (oM p l hP hb hpc j (k+1) N (by omega) (by omega) h)
theorem jK(p:Pg)(l:List En)(n:Nat): ∀j k st,k+j<=n->reG p (l.take n) k j st=reG p l k j st
 |0,_,_,_=>rfl
 |j+1,k,st,h=>by
  rw[lN,lN,bP (by omega)]
  cases bhV p (l.getD k default) st with
  |none=>rfl
  |some M=>exact jK p l n j (k+1) M (by omega)
theorem xY(p:Pg)(st:List Int)(l2:List En){Z:Prop}(z:Z):(RF p.ls.length (RR p.ls.length 2 (fun i j=>au lbC p.ls i j) (RF p.is.length (RR p.is.length 9 (fun i j=>au inC p.is i j) (RF false (RF st.length (RR st.length 1 (fun i j=>aI (st.getD i 0)) (RF l2.length (RR l2.length 8 (fun i j=>au enC l2 i j) Z))))))))):=⟨rfl,fun _ _ _ _=>rfl,rfl,fun _ _ _ _=>rfl,rfl,rfl,fun _ _ _ _=>rfl,rfl,fun _ _ _ _=>rfl,z⟩
theorem xX(l:List En)(i:Int){Z:Prop}(z:Z):(RF l.length (RR l.length 8 (fun i j=>au enC l i j) (RF i Z))):=⟨rfl,fun _ _ _ _=>rfl,rfl,z⟩
theorem ut(p:Pg)(st:List Int)(l l2:List En)(i:Int)(L:List Int)(hl2:l2.length<1000000)(h1:pC_ 35 [lR st] (lR st) [])(h2:pC_ 36 [enR l, aI i] (enR l2) [])(h:oL_ 32 0 (lrS p l2 st 0).st (.ext 0) (lrS p l2 L l2.length).st):Vc (vF_ 32 [.agg (pgA p),lR st,enR l, aI i] [.fz,.cl [lR st] (lR st) [],.cl [enR l, aI i] (enR l2) [],.lp [] (lrS p l2 st 0) (.ext 0) (lrS p l2 L l2.length)] [] (.tup [lR L,.bool true]) []):=ar (cj (rf st.length) (cj (rr st.length 1 fun i j=>aI (st.getD i 0)) (cj h1 (xX l i (cj h2 (gq p (xY p st l2 (cj (rf (l2.length:Int)) (cj (rf (0:Int)) (cj h (cj (rf L.length) (cj (rr L.length 1 fun i j=>aI (L.getD i 0)) (cj (rf true) trivial)))))))))))))
theorem uv(p:Pg)(st:List Int)(l l2:List En)(i:Int)(hl2:l2.length<1000000)(h1:pC_ 35 [lR st] (lR st) [])(h2:pC_ 36 [enR l, aI i] (enR l2) [])(h:oL_ 32 0 (lrS p l2 st 0).st .ret (nS).st):Vc (vF_ 32 [.agg (pgA p),lR st,enR l, aI i] [.fz,.cl [lR st] (lR st) [],.cl [enR l, aI i] (enR l2) [],.lp [] (lrS p l2 st 0) .ret nS] [] (.tup [.nils,.bool false]) []):=ar (cj (rf st.length) (cj (rr st.length 1 fun i j=>aI (st.getD i 0)) (cj h1 (xX l i (cj h2 (gq p (xY p st l2 (cj (rf (l2.length:Int)) (cj (rf (0:Int)) (cj h (cj (rf false) trivial)))))))))))
theorem xb(p:Pg)(st:List Int)(l:List En)(i:Int)(L:List Int)(hP:OkP p)(hb:l.length<500)(hst:st.length<=300)(hpc: ∀e∈l, -1<=e.pc∧e.pc<=1000000)(h:reV p st l i=some L):pC_ 32 [.agg (pgA p),lR st,enR l,.int .i64 i] (.tup [lR L,.bool true]) []:=by
 have hle:=fN i l.length
 have ht:(l.take (cl0 i l.length)).length=cl0 i l.length:=by rw[aP];omega
 have hz:=oL p (l.take (cl0 i l.length)) L hP (by omega) (fun e he=>hpc e (bI he)) (cl0 i l.length) 0 st (by omega) (by omega) (by rw[jK p l _ _ _ _ (by omega)];exact h)
 exact PureC.vc (ut p st l _ i L (by omega) (kw st (by omega)) (om l i (cl0 i l.length) (by unfold cl0;omega) (by omega)) hz.ok)
theorem rO(p:Pg)(st:List Int)(l:List En)(i:Int)(hP:OkP p)(hb:l.length<500)(hst:st.length<=300)(hpc: ∀e∈l, -1<=e.pc∧e.pc<=1000000)(h:reV p st l i=none):pC_ 32 [.agg (pgA p),lR st,enR l,.int .i64 i] (.tup [.nils,.bool false]) []:=by
 have hle:=fN i l.length
 have ht:(l.take (cl0 i l.length)).length=cl0 i l.length:=by rw[aP];omega
 have hz:=oM p (l.take (cl0 i l.length)) hP (by omega) (fun e he=>hpc e (bI he)) (cl0 i l.length) 0 st (by omega) (by omega) (by rw[jK p l _ _ _ _ (by omega)];exact h)
 exact PureC.vc (uv p st l _ i (by omega) (kw st (by omega)) (om l i (cl0 i l.length) (by unfold cl0;omega) (by omega)) hz.ok)
theorem sb(c:Cf)(h:(c.e !=0)=true):Vc (vF_ 40 [.agg (cfA c)] [.fv,.bd true] [] (.bool true) []):=ar (cj h (cj (rf true) trivial))
theorem pH(c:Cf)(h:(c.e !=0)=false):Vc (vF_ 40 [.agg (cfA c)] [.fv,.bd false] [] (.bool false) []):=ar (cj h (cj (rf false) trivial))
theorem uC(s:S8)(h1:pC_ 35 [lR s.m] (lR s.m) [])(h2:pC_ 35 [lR s.st] (lR s.st) []):Vc (vF_ 33 [.agg (s8R s)] [.cl [lR s.m] (lR s.m) [],.cl [lR s.st] (lR s.st) []] [] (.agg (cfA ⟨s,[],[],0⟩)) []):=ar (cj (rf s.m.length) (cj (rr s.m.length 1 fun i j=>aI (s.m.getD i 0)) (cj h1 (cj (rf s.st.length) (cj (rr s.st.length 1 fun i j=>aI (s.st.getD i 0)) (cj h2 (cj (rf s.r0) (cj (rf s.r1) (cj (rf s.r2) (cj (rf s.r3) (cj (rf s.m.length) (cj (rr s.m.length 1 fun i j=>aI (s.m.getD i 0)) (cj (rf s.st.length) (cj (rr s.st.length 1 fun i j=>aI (s.st.getD i 0)) (cj (rf s.pc) (cj (rf (0:Nat)) (cj (rf (0:Nat)) (cj (rf (0:Int)) trivial))))))))))))))))))
theorem Bj(s:S8)(hm:s.m.length<=1000000)(hs:s.st.length<=1000000):pC_ 33 [.agg (s8R s)] (.agg (cfA ⟨s,[],[],0⟩)) []:=PureC.vc (uC s (kw _ hm) (kw _ hs))
end
end Go.Proofs.Ytlfldlnohmobmaa.Px
